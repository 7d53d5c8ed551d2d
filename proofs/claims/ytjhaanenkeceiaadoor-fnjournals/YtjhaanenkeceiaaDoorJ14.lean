/- Joined: Records ImplOpen SpecOpen2 WalkFnExactOpen SpecFlushT. -/
import Derived.Test.YtjhaanenkeceiaaDoorJ12
import Derived.Test.YtjhaanenkeceiaaDoorJ13
import Derived.Test.YtjhaanenkeceiaaDoorJ10
import Derived.Test.YtjhaanenkeceiaaDoorJ02
import Derived.Test.YtjhaanenkeceiaaDoorJ03
import Derived.Test.YtjhaanenkeceiaaDoorJ01
import Derived.Test.YtjhaanenkeceiaaDoorJ06

section
/- The program's iterator over a journal's records, whatever the loop over it does that keeps to its word. Conditions: the sectors are whole, at most 2000, and stay as they are. -/
namespace Go.Proofs.YtjhaanenkeceiaaDoor
open Go.RowKit
set_option linter.unusedVariables false
set_option linter.unusedSimpArgs false
attribute [local go_sem ↓] Go.wp_at_zero Go.wp_at_succ

/-- So it stands between two rounds. -/
def RecI (b c D L : Nat) (x y : Value) (r : Loop) (wb : World) (H : Nat) (S : List (List Int)) (P q : Nat) (acc : List (List Int)) (W : World) : Prop :=
  VarJ 30 W b x y (P : Int) (q : Int) ∧ (∃ v vs, W.heap[c]? = some (.cells #[v] 23 (0, 0)) ∧ OwX W (L + 1) W.heap.size v acc vs) ∧ W.heap[L]? = some (.loop r) ∧ W.heap[D]? = some (.deferred (some [])) ∧ Below H wb W ∧ OpenAt S P q acc
/-- What a round leaves. -/
def YieldR (c L : Nat) (r : Loop) (zs : List Int) (acc : List (List Int)) (W : World) (e : Ending) (W' : World) : Prop :=
  e = .returned (.bool true) ∧ (∃ v' vs', W'.heap[c]? = some (.cells #[v'] 23 (0, 0)) ∧ OwX W' (L + 1) W'.heap.size v' (acc ++ [zs]) vs') ∧ W'.heap[L]? = some (.loop r) ∧ (∀ k, k < L → k ≠ c → W'.heap[k]? = W.heap[k]?) ∧ (W'.os = W.os ∧ W'.tape = W.tape ∧ W'.output = W.output ∧ W.heap.size ≤ W'.heap.size)
/-- What a round's body keeps to. -/
def YieldOk (c L : Nat) (r : Loop) : Prop :=
  ∀ (u : Value) (zs : List Int) (W : World) (acc : List (List Int)) (v : Value) (vs : List Value) (h0 : Nat), W.heap[c]? = some (.cells #[v] 23 (0, 0)) → OwX W (L + 1) h0 v acc vs → OwB W h0 W.heap.size u zs → L + 1 ≤ h0 → h0 ≤ W.heap.size → W.heap[L]? = some (.loop r) → acc.length ≤ 2000 →
    YieldAt Fence.wide 8 Tryd.prog L #[u] W (YieldR c L r zs acc W)
def leftM (b n : Nat) (w : World) : Nat := n - (intOf ((w.cell? ⟨b, 2, none⟩).getD undef)).toNat
theorem leftM_eq {b n : Nat} {x y : Value} {P q : Nat} {w : World} (h : VarJ 30 w b x y (P : Int) (q : Int)) : leftM b n w = n - P := by unfold leftM; rw [h.c2]; simp [intOf]

set_option maxRecDepth 100000 in
set_option maxHeartbeats 2000000 in
theorem records_any (b c D L : Nat) (x y : Value) (r : Loop) (wb : World) (H : Nat) (S : List (List Int)) (lS hS : Nat) (a : Addr) (w : World) (h0 : RecI b c D L x y r wb H S 0 0 [] w) (hY : YieldOk c L r) (rS : RdBB wb lS hS x S) (hhS : hS ≤ H) (hHb : H ≤ wb.heap.size) (hg : Glob wb a) (hgH : 2 < H)
    (hord : H ≤ b ∧ b < L ∧ H ≤ c ∧ c < L ∧ b ≠ c ∧ H ≤ D ∧ D < L ∧ D ≠ b ∧ D ≠ c) (hn : S.length ≤ 2000) (hw32 : ∀ i, i < S.length → (S[i]?.getD []).length = 32) (hbz : ∀ i : Nat, isBytes (S[i]?.getD [])) :
    Calls Tryd.prog 76 #[.pointer (some ⟨b, 0, none⟩), .func (.yield L) #[] #[]] w fun e W' => (∃ v, e = .returned v) ∧ W'.heap[L]? = some (.loop r) ∧ ∃ P q acc, RecI b c D L x y r wb H S P q acc W' ∧ readD S P q = none := by
  have HY : Hid _ := hY
  have HR0 : Hid _ := rS
  have HGL : Hid _ := hg
  have HW : Hid _ := hw32
  have HBZ : Hid _ := hbz
  have HST : Hid (RecI b c D L x y r wb H S 0 0 [] w) := h0
  clear hY rS hg hw32 hbz h0
  refine (callsIn_wide (n := 9)).1 ?_
  refine callsIn_of_wp Tryd.func76 rfl trivial ?_ rfl
  simp only [Tryd.ntmps76, List.size_toArray, List.length_cons, List.length_nil, Nat.reduceAdd, Nat.reduceSub, Array.replicate_succ, Array.replicate_zero, List.push_toArray, List.append_toArray, List.nil_append, List.cons_append]
  gi_wp2
  gi_loopw [4] (fun _ wr => ∃ P q acc, RecI b c D L x y r wb H S P q acc wr) (fun _ wr => leftM b S.length wr)
  case atStart => exact ⟨0, 0, [], HST.out⟩
  case round =>
    clear HST
    obtain ⟨P, q, acc, hV, ⟨v, vs, hc, hX⟩, hL, hD, hB, hO⟩ := hrel
    have hP : P ≤ S.length := hO.1
    have hqP : q ≤ P := hO.2.1
    have hac : acc.length ≤ P := hO.2.2.1
    have hLlt := lt_of_block hL
    have hsB := hB.size
    have rS1 : RdBB wr lS hS x S := RdBB.same HR0.out ⟨hsB, fun k _ h2 => hB.block k (by omega)⟩
    have hg1 : Glob wr a := (hB.cell (p := ⟨2, 0, none⟩) hgH).trans HGL.out
    have HCL : Hid _ := claimed_any b x y S P (q : Int) lS hS a wr hV rS1 (by omega) hg1 hn hP HW.out
    have HV : Hid _ := hV
    have HC : Hid _ := hc
    have HX : Hid _ := hX
    have HL : Hid _ := hL
    have HD : Hid _ := hD
    have HB : Hid _ := hB
    have HO : Hid _ := hO
    clear hV hc hX hL hD hB hO rS1 hg1
    gi_wp2_with fail
    refine ⟨trivial, CallsIn.mono (callsIn_wide.2 HCL.out) ?_⟩
    rintro e w1 ⟨u, rfl, oU, b1⟩
    clear HCL
    have s1 := b1.size
    obtain ⟨ua, un, uc, rfl⟩ := oU.rd.sliced
    have v1 := VarJ.step HV.out b1
    have c13 := v1.c3
    have HFR : Hid _ := implFrame_all (q : Int) _ (claimD S P) _ _ w1 oU.rd (Nat.le_refl _)
    have HOU : Hid _ := oU
    have HB1 : Hid _ := b1
    clear oU b1 v1
    gi_wp2_with fail
    refine ⟨trivial, CallsIn.mono (callsIn_wide.2 HFR.out) ?_⟩
    rintro e w2 ⟨fx, fvs, rfl, oF, b2⟩
    clear HFR c13
    have s2 := b2.size
    have B2 : Below wr.heap.size wr w2 := HB1.out.trans (b2.mono s1)
    obtain ⟨fa, fn, fc, rfl⟩ := row_sliced oF.2.1
    have hfn : fn = (frameD (q : Int) (claimD S P)).length := by obtain ⟨a', n', c', us, he, hl, _⟩ := oF.bb.rd; simp only [Value.slice.injEq] at he; omega
    have hf9 : (frameD (q : Int) (claimD S P)).length ≤ 20 := by
      unfold frameD
      split
      · rename_i hz9; unfold frameN; rw [List.length_map, List.length_range]; have := manyN_le _ hz9.2.2; omega
      · simp
    have v2 := VarJ.step HV.out B2
    have rS2 : RdBB w2 lS hS x S := RdBB.same (RdBB.same HR0.out ⟨hsB, fun k _ h2 => HB.out.block k (by omega)⟩) (SameIn.ofBelow B2 (by omega))
    have hg2 : Glob w2 a := (B2.cell (p := ⟨2, 0, none⟩) (by show 2 < wr.heap.size; omega)).trans ((HB.out.cell (p := ⟨2, 0, none⟩) hgH).trans HGL.out)
    have HSP : Hid _ := spoiler_any b x y S P (q : Int) lS hS a w2 v2 rS2 (by omega) hg2 hn hP _ (frameD (q : Int) (claimD S P)) w1.heap.size w2.heap.size oF.bb.rd (Nat.le_refl _) hf9
    have hq6 : q < 60000 := by omega
    have HRS : Hid _ := read_same HW.out HBZ.out P q hq6
    have HFN : Hid _ := hfn
    have HB2 : Hid _ := B2
    have HB12 : Hid _ := b2
    have HV2 : Hid _ := v2
    -- how it stands wherever the walk leaves it
    have HEND : Hid (∀ W, Below wr.heap.size wr W → RecI b c D L x y r wb H S P q acc W) := fun W hW => by
      refine ⟨VarJ.step HV.out hW, ⟨v, vs, (hW.block c (by omega)).trans HC.out, (OwX.same HX.out (SameIn.ofBelow hW (Nat.le_refl _))).wide (Nat.le_refl _) hW.size⟩, (hW.block L hLlt).trans HL.out, (hW.block D (by omega)).trans HD.out, HB.out.trans (hW.mono (by omega)), HO.out⟩
    have HENDL : Hid (∀ W, Below wr.heap.size wr W → W.heap[L]? = some (.loop r)) := fun W hW => (hW.block L hLlt).trans HL.out
    clear oF b2 B2 v2 rS2 hg2
    by_cases hz : fn = 0
    · subst hz
      have HNO : Hid (readD S P q = none) := by
        show _ = _
        have h1 : frameD (q : Int) (claimD S P) = [] := List.eq_nil_of_length_eq_zero hfn.symm
        rw [HRS.out, h1, if_neg (fun h => h.1 rfl)]
      clear hfn HSP HRS HFN
      gi_wp2
      refine ⟨trivial, ?_⟩
      gi_wp2
      refine bodyPost_ret (results_none rfl _ _ _) rfl ?_
      exact ⟨⟨_, rfl⟩, HENDL.out _ HB2.out, _, _, _, HEND.out _ HB2.out, HNO.out⟩
    · clear hfn
      have e0 : ((fn : Int) == 0) = false := by simp; omega
      gi_wp2_with fail
      refine ⟨trivial, CallsIn.mono (callsIn_wide.2 HSP.out) ?_⟩
      rintro e w3 ⟨z, rfl, hz3, b3⟩
      clear HSP
      have B3 : Below wr.heap.size wr w3 := HB2.out.trans (b3.mono HB2.out.size)
      have HK13 : Hid (∀ k, k < w1.heap.size → w3.heap[k]? = w1.heap[k]?) := fun k hk => (b3.block k (by omega)).trans (HB12.out.block k hk)
      have s3 := b3.size
      by_cases hm : matchB S P (frameD (q : Int) (claimD S P)) = true
      case neg =>
        have hzz : (z == -1) = false := by
          simp only [beq_eq_false_iff_ne, ne_eq]
          exact fun h => hm (hz3.1 h)
        have hzz2 : (z != -1) = true := by simp only [bne, hzz]; rfl
        have hzz3 : ¬ z = -1 := fun h => hm (hz3.1 h)
        have HNO : Hid (readD S P q = none) := by show _ = _; rw [HRS.out, if_neg (fun h => hm h.2)]
        have HB3 : Hid _ := B3
        clear B3 b3 hz3 hm HRS
        gi_wp2
        refine bodyPost_ret (results_none rfl _ _ _) rfl ?_
        exact ⟨⟨_, rfl⟩, HENDL.out _ HB3.out, _, _, _, HEND.out _ HB3.out, HNO.out⟩
      have hz1 : z = -1 := hz3.2 hm
      subst hz1
      have hrd : readD S P q = some (claimD S P) := by
        rw [HRS.out, if_pos ⟨fun h => hz (by rw [HFN.out, h]; rfl), hm⟩]
      have hnx := OpenAt.next HW.out HO.out hrd
      have hfm : fn = manyN (claimD S P).length := by
        rw [HFN.out]
        have : frameD (q : Int) (claimD S P) ≠ [] := fun h => hz (by rw [HFN.out, h]; rfl)
        unfold frameD at this ⊢
        split
        · unfold frameN; rw [List.length_map, List.length_range]
        · rename_i hno; rw [if_neg hno] at this; exact absurd rfl this
      rw [← hfm] at hnx
      have v3 := VarJ.step HV.out B3
      have c2 := v3.c2
      have c3 := v3.c3
      have f2 := v3.f 2
      have f3 := v3.f 3
      have hPn : P + fn ≤ S.length := hnx.1
      have hw1 := wrap_id ((P : Int) + (fn : Int)) (by omega) (by omega)
      have V4 := (v3.set2 ((P : Int) + (fn : Int))).set3 ((q : Int) + 1)
      have HB3 : Hid _ := B3
      have HNX : Hid _ := hnx
      have HV4 : Hid _ := V4
      clear B3 b3 hz3 hm HRS hrd hnx hfm v3 V4
      have hfar : ∀ k, k ≠ b → ((w3.setCell ⟨b, 2, none⟩ (.int .i64 ((P : Int) + (fn : Int)))).setCell ⟨b, 3, none⟩ (.int .i64 ((q : Int) + 1))).heap[k]? = w3.heap[k]? := fun k hk => by rw [heap_setCell_other _ _ _ _ hk, heap_setCell_other _ _ _ _ hk]
      have hsz4 : ((w3.setCell ⟨b, 2, none⟩ (.int .i64 ((P : Int) + (fn : Int)))).setCell ⟨b, 3, none⟩ (.int .i64 ((q : Int) + 1))).heap.size = w3.heap.size := by simp
      have hos4 : ((w3.setCell ⟨b, 2, none⟩ (.int .i64 ((P : Int) + (fn : Int)))).setCell ⟨b, 3, none⟩ (.int .i64 ((q : Int) + 1))).os = w3.os := rfl
      have htp4 : ((w3.setCell ⟨b, 2, none⟩ (.int .i64 ((P : Int) + (fn : Int)))).setCell ⟨b, 3, none⟩ (.int .i64 ((q : Int) + 1))).tape = w3.tape := rfl
      have hou4 : ((w3.setCell ⟨b, 2, none⟩ (.int .i64 ((P : Int) + (fn : Int)))).setCell ⟨b, 3, none⟩ (.int .i64 ((q : Int) + 1))).output = w3.output := rfl
      generalize hw4 : (w3.setCell ⟨b, 2, none⟩ (.int .i64 ((P : Int) + (fn : Int)))).setCell ⟨b, 3, none⟩ (.int .i64 ((q : Int) + 1)) = w4 at hfar hsz4 hos4 htp4 hou4 HV4
      have HW4 : Hid _ := hw4
      have hbL : b < L := hord.2.1
      have keep : ∀ k, k < wr.heap.size → k ≠ b → w4.heap[k]? = wr.heap[k]? := fun k hk hb => (hfar k hb).trans (HB3.out.block k hk)
      have sw4 : SameIn (L + 1) wr.heap.size wr w4 := ⟨by rw [hsz4]; omega, fun k h1 h2 => keep k h2 (by omega)⟩
      have sw5 : SameIn wr.heap.size w1.heap.size w1 w4 := ⟨by rw [hsz4]; omega, fun k h1 h2 => (hfar k (by omega)).trans (HK13.out k h2)⟩
      have hyl := HY.out (.slice ua un uc) (claimD S P) w4 acc v vs wr.heap.size ((keep c (by omega) (fun e => hord.2.2.2.2.1 e.symm)).trans HC.out) (OwX.same HX.out sw4) ((OwB.same HOU.out sw5).wide (Nat.le_refl _) (by rw [hsz4]; omega)) hLlt (by rw [hsz4]; omega) ((keep L hLlt (by omega)).trans HL.out) (by omega)
      obtain ⟨yf, yt, ya, yb, hyr, HRD⟩ := hyl
      have HRND : Hid _ := HRD
      have HKP : Hid _ := keep
      clear hw4 keep sw4 sw5 HRD
      gi_wp2_with (rw [HW4.out])
      refine RoundIn.mono HRND.out ?_
      rintro e W5 ⟨rfl, ⟨v5, vs5, hc5, hX5⟩, hL5, far5, hos5, htp5, hou5, hs5⟩
      have HR5 : Hid (RecI b c D L x y r wb H S (P + fn) (q + 1) (acc ++ [claimD S P]) W5) := by
        have hV5 : VarJ 30 W5 b x y ((P + fn : Nat) : Int) ((q + 1 : Nat) : Int) := by
          rw [Int.natCast_add P fn, Int.natCast_add q 1]
          exact (far5 b (by omega) hord.2.2.2.2.1).trans HV4.out
        refine ⟨hV5, ⟨v5, vs5, hc5, hX5⟩, hL5, ?_, ?_, HNX.out⟩
        · exact (far5 D hord.2.2.2.2.2.2.1 hord.2.2.2.2.2.2.2.2).trans ((HKP.out D (by omega) hord.2.2.2.2.2.2.2.1).trans HD.out)
        · refine ⟨hos5.trans (hos4.trans (HB3.out.os.trans HB.out.os)), htp5.trans (htp4.trans (HB3.out.tape.trans HB.out.tape)), hou5.trans (hou4.trans (HB3.out.output.trans HB.out.output)), by omega, fun k hk => ?_⟩
          exact (far5 k (by omega) (by omega)).trans ((HKP.out k (by omega) (by omega)).trans (HB.out.block k hk))
      have hms : leftM b S.length W5 < leftM b S.length wr := by rw [leftM_eq HR5.out.1, leftM_eq HV.out]; omega
      have HMS : Hid _ := hms
      clear hc5 hX5 hL5 far5 hos5 htp5 hou5 hms
      gi_wp2
      exact ⟨⟨_, _, _, HR5.out⟩, HMS.out⟩
end Go.Proofs.YtjhaanenkeceiaaDoor
end

section
/- The program's Open as a plain function; it leans on the package's error errNoSector. No condition of ours. -/
namespace Go.Proofs.YtjhaanenkeceiaaDoor
open Go.RowKit Go.Shelf
set_option linter.unusedVariables false
set_option linter.unusedSimpArgs false
attribute [local go_sem] Oper.semAt_some
attribute [local go_sem ↓] Go.wp_at_zero Go.wp_at_succ

def openOk (d : Dk) : Bool := okD d && d.2.isEmpty
def openJ (d : Dk) : Jn := if openOk d then (d, ((openS d.1).1 : Int), ((openS d.1).2.1 : Int)) else (([], []), 0, 0)
def openR (d : Dk) : List (List Int) := if openOk d then (openS d.1).2.2 else []

theorem OwX.snoc {W wa w1 : World} {l h0 h1 n : Nat} {v v' u : Value} {zss : List (List Int)} {zs : List Int} {vs : List Value} (o : OwX W l h0 v zss vs) (hu : OwB W h0 h1 u zs) (hlh : l ≤ h0) (h01 : h0 ≤ h1) (hsame : SameIn l h1 W wa)
    (hs : h1 ≤ wa.heap.size) (hn : n = zss.length + 1) (ho : w1.ownsRow l 22 1 v' n (vs ++ [u])) (hg : wa.grownBy w1 v.ownBlock) : OwX w1 l w1.heap.size v' (zss ++ [zs]) (vs ++ [u]) := by
  obtain ⟨hl, hrow, hbf, he, hd⟩ := o
  have hs1 := hg.size
  have far : ∀ q, l ≤ q → q < h1 → v.ownBlock ≠ some q → w1.heap[q]? = W.heap[q]? := fun q h1' h2 hne => (hg.block q (by omega) (fun e => hne e.symm)).trans (hsame.2 q h1' h2)
  have hlen : (vs ++ [u]).length = n := by rw [List.length_append, hl, hn]; rfl
  refine ⟨by rw [hlen, hn]; simp, by rw [hlen]; exact ho, fun k hk => (ho.lt k hk).2, fun i hi => ?_, fun i j k hij hj hk => ?_⟩
  · rw [getD_snoc, getD_snoc]
    by_cases h2 : i < vs.length
    · rw [if_pos h2, if_pos (by omega)]
      have hei := he i h2
      have k2 : Owns w1 l (vs[i]?.getD undef) (zss[i]?.getD []) := hei.2.1.kept2 (fun q hq => far q (hei.2.1.lt q hq).1 (by have := hei.2.2 q hq; omega) (row_row hei.2.1 hrow (by decide) q hq))
      exact ⟨hei.1, k2, fun q hq => (k2.lt q hq).2⟩
    · have e : i = vs.length := by rw [List.length_append] at hi; simp at hi; omega
      rw [if_neg h2, if_pos e, if_neg (by omega), if_pos (by omega)]
      have k2 : Owns w1 h0 u zs := hu.2.1.kept2 (fun q hq => far q (by have := (hu.2.1.lt q hq).1; omega) (hu.2.2 q hq) (row_row hu.2.1 hrow (by decide) q hq))
      exact ⟨hu.1, k2.base hlh, fun q hq => (k2.lt q hq).2⟩
  · rw [getD_snoc] at hk ⊢
    have hj' : j < vs.length + 1 := by simpa using hj
    rw [if_pos (by omega)] at hk
    by_cases h2 : j < vs.length
    · rw [if_pos h2]; exact hd i j k hij h2 hk
    · rw [if_neg h2, if_pos (by omega)]
      intro e
      have a1 := (he i (by omega)).2.2 k hk
      have a2 := (hu.2.1.lt k e).1
      omega

set_option maxRecDepth 100000 in
set_option maxHeartbeats 2000000 in
theorem implOpen_no (v : Value) (d : Dk) (l h : Nat) (w : World) (r : RdD w l h v d) (hh : h ≤ w.heap.size) (a : Addr) (hg : Glob w a) (hok : openOk d = false) :
    Calls Tryd.prog 13 #[v] w fun e w' => e = .returned (.tuple #[.agg #[.slice none 0 0, .slice none 0 0, .int .i64 0, .int .i64 0], .slice none 0 0, .bool false]) ∧ Below w.heap.size w w' := by
  obtain ⟨xa, xn, xc, ya, yn, yc, rfl⟩ := r.open
  have hyn : yn = d.2.length ∧ yn ≤ 9223372036854775807 := by
    obtain ⟨x', y', he, _, rb⟩ := r
    simp only [Value.agg.injEq, Array.mk.injEq, List.cons.injEq, and_true] at he
    obtain ⟨rfl, rfl⟩ := he
    exact rb.len
  have hlt := hg.lt
  have b0 := Below.new (w := w) (.cells #[.slice xa xn xc, .slice ya yn yc] 26)
  have v0 := VarD.new w (.slice xa xn xc) (.slice ya yn yc)
  generalize hw0 : w.alloc (.cells #[.slice xa xn xc, .slice ya yn yc] 26) = w0 at b0 v0
  have s0 : w0.heap.size = w.heap.size + 1 := by rw [← hw0]; simp
  have b1 := Below.new (w := w0) (.cells #[.slice none 0 0, .slice none 0 0, .int .i64 0, .int .i64 0] 30)
  have vR := VarJ.new (T := 30) w0 (.slice none 0 0) (.slice none 0 0) 0 0
  rw [s0] at vR
  have v1 := v0.step b1
  generalize hw1 : w0.alloc (.cells #[.slice none 0 0, .slice none 0 0, .int .i64 0, .int .i64 0] 30) = w1 at b1 vR v1
  have B1 : Below w.heap.size w w1 := b0.trans (b1.mono (by omega))
  have sR := vR.lt
  have HOK : Hid _ := implOk_any _ d l h a w1 (r.step hh B1) (by have := B1.size; omega) (hg.step B1 hlt)
  have HW : Hid ((w.alloc (.cells #[.slice xa xn xc, .slice ya yn yc] 26)).alloc (.cells #[.slice none 0 0, .slice none 0 0, .int .i64 0, .int .i64 0] 30) = w1) := by show _ = _; rw [hw0, hw1]
  have HV1 : Hid (VarD w1 w.heap.size _ _) := v1
  have HVR : Hid (VarJ _ w1 (w.heap.size + 1) _ _ _ _) := vR
  have HB1 : Hid (Below w.heap.size w w1) := B1
  have c0 := v1.c0
  have c1 := v1.c1
  have hym := hyn.2
  have HCS : Hid (okD d = false ∨ (okD d = true ∧ 0 < yn)) := by
    show _ ∨ _
    cases hk : okD d with
    | false => exact .inl rfl
    | true =>
      refine .inr ⟨rfl, ?_⟩
      unfold openOk at hok
      rw [hk, Bool.true_and] at hok
      rw [hyn.1]
      cases hd : d.2 with
      | nil => rw [hd] at hok; simp at hok
      | cons _ _ => simp
  clear hw0 hw1 r hg b0 v0 b1 vR v1 B1 s0 hyn hok
  rcases HCS.out with hk | ⟨hk, hy0⟩
  · rw [hk] at HOK
    clear hk HCS
    go_enter Tryd.func13, Tryd.ntmps13
    go_wp2_with fail
    rw [HW.out]
    refine Calls.mono HOK.out ?_
    rintro e w2 ⟨rfl, b2⟩
    have vR2 := VarJ.step HVR.out b2
    have e0 := vR2.c0
    have e1 := vR2.c1
    have e2 := vR2.c2
    have e3 := vR2.c3
    have f0 := vR2.f 0
    have f1 := vR2.f 1
    have f2 := vR2.f 2
    have f3 := vR2.f 3
    have HB2 : Hid (Below w.heap.size w w2) := HB1.out.trans (b2.mono HB1.out.size)
    clear b2 vR2 HOK HV1 HVR HB1 c0 c1
    go_wp2
    refine bodyPost_ret (v := .tuple #[.agg #[.slice none 0 0, .slice none 0 0, .int .i64 0, .int .i64 0], .slice none 0 0, .bool false]) (by simp [results, Tryd.results13, go_sem, e0, e1, e2, e3]) rfl ⟨rfl, ?_⟩
    exact (((HB2.out.setCell (Nat.le_succ _) _).setCell (Nat.le_succ _) _).setCell (Nat.le_succ _) _).setCell (Nat.le_succ _) _
  · rw [hk] at HOK
    have hd0 : decide (0 < (yn : Int)) = true := by simp; omega
    clear hk HCS
    go_enter Tryd.func13, Tryd.ntmps13
    go_wp2_with fail
    rw [HW.out]
    refine Calls.mono HOK.out ?_
    rintro e w2 ⟨rfl, b2⟩
    have vR2 := VarJ.step HVR.out b2
    have v2 := VarD.step HV1.out b2
    have k1 := v2.c1
    have e0 := vR2.c0
    have e1 := vR2.c1
    have e2 := vR2.c2
    have e3 := vR2.c3
    have f0 := vR2.f 0
    have f1 := vR2.f 1
    have f2 := vR2.f 2
    have f3 := vR2.f 3
    have HB2 : Hid (Below w.heap.size w w2) := HB1.out.trans (b2.mono HB1.out.size)
    clear b2 vR2 v2 HOK HV1 HVR HB1 c0 c1
    go_wp2
    refine bodyPost_ret (v := .tuple #[.agg #[.slice none 0 0, .slice none 0 0, .int .i64 0, .int .i64 0], .slice none 0 0, .bool false]) (by simp [results, Tryd.results13, go_sem, e0, e1, e2, e3]) rfl ⟨rfl, ?_⟩
    exact (((HB2.out.setCell (Nat.le_succ _) _).setCell (Nat.le_succ _) _).setCell (Nat.le_succ _) _).setCell (Nat.le_succ _) _
end Go.Proofs.YtjhaanenkeceiaaDoor
end

section
/- Opening, the specification's way, whatever disk. Condition: it is small (a caller can hand in no other). -/
namespace Go.Proofs.YtjhaanenkeceiaaDoor
open Go.RowKit
set_option linter.unusedVariables false
set_option linter.unusedSimpArgs false
attribute [local go_sem ↓] Go.wp_at_zero Go.wp_at_succ

theorem four_same9 {w : World} {l h b : Nat} {a c e f : Value} (hb : b < l) : SameIn l h w ((((w.setCell ⟨b, 0, none⟩ a).setCell ⟨b, 1, none⟩ c).setCell ⟨b, 2, none⟩ e).setCell ⟨b, 3, none⟩ f) :=
  ⟨by simp, fun k h1 _ => by rw [heap_setCell_other _ _ _ _ (by show k ≠ b; omega), heap_setCell_other _ _ _ _ (by show k ≠ b; omega), heap_setCell_other _ _ _ _ (by show k ≠ b; omega), heap_setCell_other _ _ _ _ (by show k ≠ b; omega)]⟩
set_option maxRecDepth 100000 in
set_option maxHeartbeats 2000000 in
theorem specOpen_no (v : Value) (d : Dk) (l h : Nat) (w : World) (r : RdD w l h v d) (hh : h ≤ w.heap.size) (hok : openOk d = false) :
    Calls Tryd.prog 12 #[v] w fun e w' => e = .returned (.tuple #[.agg #[.slice none 0 0, .slice none 0 0, .int .i64 0, .int .i64 0], .slice none 0 0, .bool false]) ∧ Below w.heap.size w w' := by
  obtain ⟨xa, xn, xc, ya, yn, yc, rfl⟩ := r.open
  have hyn : yn = d.2.length ∧ yn ≤ 9223372036854775807 := by
    obtain ⟨x', y', he, _, rb⟩ := r
    simp only [Value.agg.injEq, Array.mk.injEq, List.cons.injEq, and_true] at he
    obtain ⟨rfl, rfl⟩ := he
    exact rb.len
  have b0 := Below.new (w := w) (.cells #[.slice xa xn xc, .slice ya yn yc] 26)
  have v0 := VarD.new w (.slice xa xn xc) (.slice ya yn yc)
  generalize hw0 : w.alloc (.cells #[.slice xa xn xc, .slice ya yn yc] 26) = w0 at b0 v0
  have s0 : w0.heap.size = w.heap.size + 1 := by rw [← hw0]; simp
  have b1 := Below.new (w := w0) (.cells #[.slice none 0 0, .slice none 0 0, .int .i64 0, .int .i64 0] 30)
  have vR := VarJ.new (T := 30) w0 (.slice none 0 0) (.slice none 0 0) 0 0
  rw [s0] at vR
  have v1 := v0.step b1
  generalize hw1 : w0.alloc (.cells #[.slice none 0 0, .slice none 0 0, .int .i64 0, .int .i64 0] 30) = w1 at b1 vR v1
  have B1 : Below w.heap.size w w1 := b0.trans (b1.mono (by omega))
  have sR := vR.lt
  have HOK : Hid _ := specOk_any _ d l h w1 (r.step hh B1) (by have := B1.size; omega)
  have HW : Hid ((w.alloc (.cells #[.slice xa xn xc, .slice ya yn yc] 26)).alloc (.cells #[.slice none 0 0, .slice none 0 0, .int .i64 0, .int .i64 0] 30) = w1) := by show _ = _; rw [hw0, hw1]
  have HV1 : Hid (VarD w1 w.heap.size _ _) := v1
  have HVR : Hid (VarJ _ w1 (w.heap.size + 1) _ _ _ _) := vR
  have HB1 : Hid (Below w.heap.size w w1) := B1
  have c0 := v1.c0
  have c1 := v1.c1
  have hym := hyn.2
  have HCS : Hid (okD d = false ∨ (okD d = true ∧ 0 < yn)) := by
    show _ ∨ _
    cases hk : okD d with
    | false => exact .inl rfl
    | true =>
      refine .inr ⟨rfl, ?_⟩
      unfold openOk at hok
      rw [hk, Bool.true_and] at hok
      rw [hyn.1]
      cases hd : d.2 with
      | nil => rw [hd] at hok; simp at hok
      | cons _ _ => simp
  clear hw0 hw1 r b0 v0 b1 vR v1 B1 s0 hyn hok
  rcases HCS.out with hk | ⟨hk, hy0⟩
  · rw [hk] at HOK
    clear hk HCS
    go_enter Tryd.func12, Tryd.ntmps12
    go_wp2_with fail
    rw [HW.out]
    refine Calls.mono HOK.out ?_
    rintro e w2 ⟨rfl, b2⟩
    have vR2 := VarJ.step HVR.out b2
    have e0 := vR2.c0
    have e1 := vR2.c1
    have e2 := vR2.c2
    have e3 := vR2.c3
    have f0 := vR2.f 0
    have f1 := vR2.f 1
    have f2 := vR2.f 2
    have f3 := vR2.f 3
    have HB2 : Hid (Below w.heap.size w w2) := HB1.out.trans (b2.mono HB1.out.size)
    clear b2 vR2 HOK HV1 HVR HB1 c0 c1
    go_wp2
    refine bodyPost_ret (v := .tuple #[.agg #[.slice none 0 0, .slice none 0 0, .int .i64 0, .int .i64 0], .slice none 0 0, .bool false]) (by simp [results, Tryd.results12, go_sem, e0, e1, e2, e3]) rfl ⟨rfl, ?_⟩
    exact (((HB2.out.setCell (Nat.le_succ _) _).setCell (Nat.le_succ _) _).setCell (Nat.le_succ _) _).setCell (Nat.le_succ _) _
  · rw [hk] at HOK
    have hd0 : decide (0 < (yn : Int)) = true := by simp; omega
    clear hk HCS
    go_enter Tryd.func12, Tryd.ntmps12
    go_wp2_with fail
    rw [HW.out]
    refine Calls.mono HOK.out ?_
    rintro e w2 ⟨rfl, b2⟩
    have vR2 := VarJ.step HVR.out b2
    have v2 := VarD.step HV1.out b2
    have k1 := v2.c1
    have e0 := vR2.c0
    have e1 := vR2.c1
    have e2 := vR2.c2
    have e3 := vR2.c3
    have f0 := vR2.f 0
    have f1 := vR2.f 1
    have f2 := vR2.f 2
    have f3 := vR2.f 3
    have HB2 : Hid (Below w.heap.size w w2) := HB1.out.trans (b2.mono HB1.out.size)
    clear b2 vR2 v2 HOK HV1 HVR HB1 c0 c1
    go_wp2
    refine bodyPost_ret (v := .tuple #[.agg #[.slice none 0 0, .slice none 0 0, .int .i64 0, .int .i64 0], .slice none 0 0, .bool false]) (by simp [results, Tryd.results12, go_sem, e0, e1, e2, e3]) rfl ⟨rfl, ?_⟩
    exact (((HB2.out.setCell (Nat.le_succ _) _).setCell (Nat.le_succ _) _).setCell (Nat.le_succ _) _).setCell (Nat.le_succ _) _

set_option maxRecDepth 100000 in
set_option maxHeartbeats 2000000 in
theorem specOpen_yes (v : Value) (d : Dk) (l h : Nat) (w : World) (r : RdD w l h v d) (hh : h ≤ w.heap.size) (hok : okD d = true) (hno : d.2 = []) (hsm : Small d) :
    Calls Tryd.prog 12 #[v] w fun e w' => ∃ X V, e = .returned (.tuple #[X, V, .bool true]) ∧ RdJ w' w.heap.size w'.heap.size X (d, ((openS d.1).1 : Int), ((openS d.1).2.1 : Int)) ∧ RdBB w' w.heap.size w'.heap.size V (openS d.1).2.2 ∧ Below w.heap.size w w' := by
  obtain ⟨xa, xn, xc, ya, yn, yc, rfl⟩ := r.open
  have hyn : yn = 0 := by
    obtain ⟨x', y', he, _, rb⟩ := r
    simp only [Value.agg.injEq, Array.mk.injEq, List.cons.injEq, and_true] at he
    obtain ⟨rfl, rfl⟩ := he
    have := rb.len.1
    rw [hno] at this; exact this
  subst hyn
  have b0 := Below.new (w := w) (.cells #[.slice xa xn xc, .slice ya 0 yc] 26)
  have v0 := VarD.new w (.slice xa xn xc) (.slice ya 0 yc)
  generalize hw0 : w.alloc (.cells #[.slice xa xn xc, .slice ya 0 yc] 26) = w0 at b0 v0
  have s0 : w0.heap.size = w.heap.size + 1 := by rw [← hw0]; simp
  have b1 := Below.new (w := w0) (.cells #[.slice none 0 0, .slice none 0 0, .int .i64 0, .int .i64 0] 30)
  have vR := VarJ.new (T := 30) w0 (.slice none 0 0) (.slice none 0 0) 0 0
  rw [s0] at vR
  have v1 := v0.step b1
  generalize hw1 : w0.alloc (.cells #[.slice none 0 0, .slice none 0 0, .int .i64 0, .int .i64 0] 30) = w1 at b1 vR v1
  have B1 : Below w.heap.size w w1 := b0.trans (b1.mono (by omega))
  have sR := vR.lt
  have s1 := B1.size
  have r1 := r.step hh B1
  have h9 := specOk_any _ d l h w1 r1 (by omega)
  rw [hok] at h9
  have HOK : Hid _ := h9
  have HW : Hid ((w.alloc (.cells #[.slice xa xn xc, .slice ya 0 yc] 26)).alloc (.cells #[.slice none 0 0, .slice none 0 0, .int .i64 0, .int .i64 0] 30) = w1) := by show _ = _; rw [hw0, hw1]
  have HV1 : Hid (VarD w1 w.heap.size _ _) := v1
  have HVR : Hid (VarJ _ w1 (w.heap.size + 1) _ _ _ _) := vR
  have HB1 : Hid (Below w.heap.size w w1) := B1
  have HR1 : Hid (RdD w1 l h _ _) := r1
  have HSM : Hid _ := hsm
  have hpar := hok
  unfold okD at hpar
  simp only [Bool.and_eq_true, decide_eq_true_eq, List.all_eq_true] at hpar
  have hS2 : d.1.length ≤ 2000 := hpar.1.1.1
  have HW32 : Hid (∀ i, i < d.1.length → (d.1[i]?.getD []).length = 32) := fun i hi => by
    have := hpar.1.2 _ (List.getElem_mem hi)
    simp [secOk] at this
    rw [List.getElem?_eq_getElem hi]
    simpa using this
  have HBZ : Hid (∀ i : Nat, isBytes (d.1[i]?.getD [])) := fun i => by
    obtain ⟨x', y', he, ra, _⟩ := r
    obtain ⟨a', n', c', us, _, hl, _, _, hee⟩ := ra
    by_cases hi : i < n'
    · exact (hee i hi).1
    · rw [List.getElem?_eq_none (by omega)]; exact isBytes_nil
  have c0 := v1.c0
  have c1 := v1.c1
  clear hw0 hw1 r b0 v0 b1 vR v1 B1 s0 r1 h9 hok hpar hsm
  go_enter Tryd.func12, Tryd.ntmps12
  go_wp2_with fail
  rw [HW.out]
  refine Calls.mono HOK.out ?_
  rintro e w2 ⟨rfl, b2⟩
  have v2 := VarD.step HV1.out b2
  have k0 := v2.c0
  have k1 := v2.c1
  have r2 := RdD.step HR1.out (by omega) b2
  have s2 := b2.size
  have HCP : Hid _ := specCopy_any _ d l h w2 r2 (by omega) HSM.out
  have HVR2 : Hid (VarJ _ w2 (w.heap.size + 1) _ _ _ _) := VarJ.step HVR.out b2
  have HB2 : Hid (Below w.heap.size w w2) := HB1.out.trans (b2.mono HB1.out.size)
  clear b2 v2 r2 HOK HV1 HVR HB1 HR1 c0 c1
  go_wp2_with fail
  refine Calls.mono HCP.out ?_
  rintro e w3 ⟨x3, y3, H, rfl, kx, gy, hH, b3⟩
  have s3 := b3.size
  have r3 : RdD w3 w2.heap.size w3.heap.size (.agg #[x3, y3]) d := ⟨x3, y3, rfl, kx.rd.wide (Nat.le_refl _) hH.2, gy.rd.wide hH.1 (Nat.le_refl _)⟩
  have HOP : Hid _ := open3_any _ d _ _ w3 r3 (Nat.le_refl _) hS2 HW32.out HBZ.out
  obtain ⟨pa, pn, pc, qa, qn, qc, he⟩ := r3.open
  simp only [Value.agg.injEq, Array.mk.injEq, List.cons.injEq, and_true] at he
  obtain ⟨rfl, rfl⟩ := he
  have HVR3 : Hid (VarJ _ w3 (w.heap.size + 1) _ _ _ _) := VarJ.step HVR2.out b3
  have HB3 : Hid (Below w.heap.size w w3) := HB2.out.trans (b3.mono HB2.out.size)
  clear kx gy b3 r3 HCP HVR2 HB2 k0 k1
  go_wp2_with fail
  refine Calls.mono HOP.out ?_
  rintro e w4 ⟨X, V, rfl, rJ, rV, b4⟩
  obtain ⟨ga, gn, gc, ha, hn, hc, rfl, rD⟩ := rJ.open
  obtain ⟨ea, en, ec, hve⟩ : ∃ a n c, V = .slice a n c := by
    obtain ⟨a', n', c', _, hve, _⟩ := rV
    exact ⟨_, _, _, hve⟩
  subst hve
  have HRV : Hid (RdBB w4 w3.heap.size w4.heap.size (.slice ea en ec) (openS d.1).2.2) := rV
  clear rV
  have s4 := b4.size
  have b5 := Below.new (w := w4) (.cells #[.slice ga gn gc, .slice ha hn hc, .int .i64 ((openS d.1).1 : Int), .int .i64 ((openS d.1).2.1 : Int)] 30)
  have vJ := VarJ.new (T := 30) w4 (.slice ga gn gc) (.slice ha hn hc) ((openS d.1).1 : Int) ((openS d.1).2.1 : Int)
  have vR5 := (VarJ.step HVR3.out b4).step b5
  have HRD5 : Hid (RdD _ w2.heap.size w3.heap.size (.agg #[.slice ga gn gc, .slice ha hn hc]) d) := rD.step s4 b5
  have HRV5 : Hid _ := RdBB.same HRV.out (SameIn.ofBelow b5 (Nat.le_refl _))
  have B5 : Below w.heap.size w _ := (HB3.out.trans (b4.mono HB3.out.size)).trans (b5.mono (by have := HB3.out.size; omega))
  generalize hw5 : w4.alloc (.cells #[.slice ga gn gc, .slice ha hn hc, .int .i64 ((openS d.1).1 : Int), .int .i64 ((openS d.1).2.1 : Int)] 30) = w5 at b5 vJ vR5 HRD5 HRV5 B5
  have HW5 : Hid _ := hw5
  have s5 := b5.size
  have k0 := vJ.c0
  have k1 := vJ.c1
  have k2 := vJ.c2
  have k3 := vJ.c3
  have e0 := vR5.c0
  have e1 := vR5.c1
  have e2 := vR5.c2
  have e3 := vR5.c3
  have f0 := vR5.f 0
  have f1 := vR5.f 1
  have f2 := vR5.f 2
  have f3 := vR5.f 3
  have HB5 : Hid _ := B5
  clear hw5 b4 b5 vJ vR5 B5 HVR3 HB3 HRV rJ rD HOP
  go_wp2_with (rw [HW5.out])
  refine bodyPost_ret (v := .tuple #[.agg #[.slice ga gn gc, .slice ha hn hc, .int .i64 ((openS d.1).1 : Int), .int .i64 ((openS d.1).2.1 : Int)], .slice ea en ec, .bool true]) (by simp [results, Tryd.results12, go_sem, e0, e1, e2, e3]) rfl ⟨_, _, rfl, ?_, ?_, ?_⟩
  · refine ⟨_, _, rfl, RdD.wide (RdD.same HRD5.out (four_same9 (by omega))) (by omega) (by simp; omega)⟩
  · exact (RdBB.same HRV5.out (four_same9 (by omega))).wide (by omega) (by simp; omega)
  · exact (((HB5.out.setCell (Nat.le_succ _) _).setCell (Nat.le_succ _) _).setCell (Nat.le_succ _) _).setCell (Nat.le_succ _) _
end Go.Proofs.YtjhaanenkeceiaaDoor
end

section
/- The walk of the law FnExactOpen, told what the program answers. -/
namespace Go.Proofs.YtjhaanenkeceiaaDoor.fnExactOpen
open Go.RowKit
set_option linter.unusedVariables false

theorem lenBB_most (m : Nat) (s : List (List Int)) (h : ∀ i : Nat, (s[i]?.getD []).length ≤ m) : lenBB s ≤ m * s.length := by
  induction s with
  | nil => simp [lenBB]
  | cons z r ih =>
    have h0 := h 0
    have h1 := ih (fun i => by have := h (i + 1); simpa using this)
    simp only [List.getElem?_cons_zero, Option.getD_some] at h0
    rw [lenBB, List.length_cons, Nat.mul_add]; omega
theorem runN_inv {S : List (List Int)} (hw : ∀ i, i < S.length → (S[i]?.getD []).length = 32) : ∀ (k P q : Nat) (acc : List (List Int)), P ≤ S.length → acc.length ≤ P → (∀ i : Nat, (acc[i]?.getD []).length ≤ 200) → (runN S k (P, q, acc)).2.2.length ≤ S.length ∧ ∀ i : Nat, ((runN S k (P, q, acc)).2.2[i]?.getD []).length ≤ 200 := by
  intro k
  induction k with
  | zero => intro P q acc h1 h2 h3; exact ⟨Nat.le_trans h2 h1, h3⟩
  | succ k ih =>
    intro P q acc h1 h2 h3
    rw [runN]
    split
    · exact ⟨Nat.le_trans h2 h1, h3⟩
    · rename_i r hr
      have hc : r = claimD S P ∧ (q < 60000 ∧ P < S.length ∧ sizeAt S P ≤ 200 ∧ P + manyN (sizeAt S P) ≤ S.length ∧ matchB S P (frameN q (claimD S P)) = true) := by
        unfold readD at hr
        split at hr
        · rename_i hc; simp only [Option.some.injEq] at hr; exact ⟨hr.symm, hc⟩
        · cases hr
      have hlen : r.length = sizeAt S P := by rw [hc.1]; exact claimD_len hw P ⟨hc.2.2.1, hc.2.2.2.2.1⟩
      have hp := manyN_pos r.length
      refine ih _ _ _ (by rw [hlen]; exact hc.2.2.2.2.1) (by simp; omega) (fun i => ?_)
      rw [getD_snoc]
      split
      · exact h3 i
      · split
        · rw [hlen]; exact hc.2.2.2.1
        · simp
theorem open_sizes (d : Dk) (hs : Small d) : Small (openJ d).1 ∧ lenD (openJ d).1 ≤ 64000 ∧ (openR d).length ≤ 2000 ∧ ∀ i : Nat, ((openR d)[i]?.getD []).length ≤ 200 := by
  cases hk : openOk d with
  | false =>
    have h1 : openJ d = (([], []), 0, 0) := by unfold openJ; rw [hk]; rfl
    have h2 : openR d = [] := by unfold openR; rw [hk]; rfl
    rw [h1, h2]
    exact ⟨⟨by simp, by simp [lenBB], by simp [lenWs]⟩, by simp [lenD, lenBB, lenWs], by simp, fun i => by simp⟩
  | true =>
    have hk' := hk
    unfold openOk at hk'
    rw [Bool.and_eq_true] at hk'
    have hd : d.2 = [] := by simpa using hk'.2
    have h1 : openJ d = (d, ((openS d.1).1 : Int), ((openS d.1).2.1 : Int)) := by unfold openJ; rw [hk]; rfl
    have h2 : openR d = (openS d.1).2.2 := by unfold openR; rw [hk]; rfl
    have hpar := hk'.1
    unfold okD at hpar
    simp only [Bool.and_eq_true, decide_eq_true_eq, List.all_eq_true] at hpar
    have hw : ∀ i, i < d.1.length → (d.1[i]?.getD []).length = 32 := fun i hi => by
      have := hpar.1.2 _ (List.getElem_mem hi)
      simp [secOk] at this
      rw [List.getElem?_eq_getElem hi]
      simpa using this
    have hin := runN_inv hw (d.1.length + 1) 0 0 [] (Nat.zero_le _) (Nat.le_refl _) (fun i => by simp)
    have hl := hpar.1.1.1
    have hb := lenBB_most 32 d.1 (fun i => by
      by_cases hi : i < d.1.length
      · exact Nat.le_of_eq (hw i hi)
      · rw [List.getElem?_eq_none (by omega)]; simp)
    rw [h1, h2]
    refine ⟨hs, ?_, Nat.le_trans hin.1 hl, hin.2⟩
    show lenBB d.1 + lenWs d.2 ≤ 64000
    rw [hd]
    simp only [lenWs]
    omega
theorem specOpen_all (v : Value) (d : Dk) (l h : Nat) (w : World) (r : RdD w l h v d) (hh : h ≤ w.heap.size) (hsm : Small d) :
    Calls Tryd.prog 12 #[v] w fun e w' => ∃ X V, e = .returned (.tuple #[X, V, .bool (openOk d)]) ∧ RdJ w' w.heap.size w'.heap.size X (openJ d) ∧ RdBB w' w.heap.size w'.heap.size V (openR d) ∧ Below w.heap.size w w' := by
  cases hk : openOk d with
  | false =>
    have h1 : openJ d = (([], []), 0, 0) := by unfold openJ; rw [hk]; rfl
    have h2 : openR d = [] := by unfold openR; rw [hk]; rfl
    rw [h1, h2]
    refine (specOpen_no v d l h w r hh hk).mono ?_
    rintro e w' ⟨rfl, hb⟩
    exact ⟨_, _, rfl, ⟨_, _, rfl, (nilD2 _ _ _).rd⟩, (GrBB_nil w' w.heap.size).rd, hb⟩
  | true =>
    have hk' := hk
    unfold openOk at hk'
    rw [Bool.and_eq_true] at hk'
    have hd : d.2 = [] := by simpa using hk'.2
    have h1 : openJ d = (d, ((openS d.1).1 : Int), ((openS d.1).2.1 : Int)) := by unfold openJ; rw [hk]; rfl
    have h2 : openR d = (openS d.1).2.2 := by unfold openR; rw [hk]; rfl
    rw [h1, h2]
    exact specOpen_yes v d l h w r hh hk'.1 hd hsm

end Go.Proofs.YtjhaanenkeceiaaDoor.fnExactOpen
end

section
/- The specification's flush over a disk that lies in a variable of whatever type, as its first field. Condition: the disk is DiskOk. -/
namespace Go.Proofs.YtjhaanenkeceiaaDoor
open Go.RowKit
set_option linter.unusedVariables false
attribute [local go_sem ↓] Go.wp_at_zero Go.wp_at_succ

/-- A variable of type T in block b whose first two cells are a disk's; R lies behind them. -/
def VarT (T : TypeId) (R : List Value) (w : World) (b : Nat) (x y : Value) : Prop := w.heap[b]? = some (.cells (x :: y :: R).toArray T (0, 0))
section
variable {T : TypeId} {R : List Value} {w w' : World} {b : Nat} {x y : Value}
theorem VarT.c0 (h : VarT T R w b x y) : w.cell? ⟨b, 0, none⟩ = some x := by rw [cell_of_row _ _ _ _ _ _ h]; rfl
theorem VarT.c1 (h : VarT T R w b x y) : w.cell? ⟨b, 1, none⟩ = some y := by rw [cell_of_row _ _ _ _ _ _ h]; rfl
theorem VarT.f (h : VarT T R w b x y) (i : Nat) : w.frozen? ⟨b, i, none⟩ = false := frozen_of_row _ _ _ _ _ h
theorem VarT.lt (h : VarT T R w b x y) : b < w.heap.size := lt_of_block h
theorem VarT.set1 (h : VarT T R w b x y) (u : Value) : VarT T R (w.setCell ⟨b, 1, none⟩ u) b x u := by
  show _ = _
  rw [heap_setCell_same _ _ _ _ _ _ h]; simp
end
/-- Writes of the call's own in blocks l .. h-1, nothing of them in block b. -/
def KwE (w : World) (l h b : Nat) (v : Value) (ws : List Wt) : Prop :=
  ∃ (xs C : List Value), xs.length = ws.length ∧ w.ownsRow l 75 2 v ws.length C ∧ (∀ k, v.ownBlock = some k → k < h ∧ k ≠ b) ∧ (∀ i, i < ws.length → C[i * 2]? = some (.int .i64 (ws[i]?.getD (0, [])).1) ∧ C[i * 2 + 1]? = some (xs[i]?.getD undef)) ∧
    ∀ i, i < ws.length → RdB w l h (xs[i]?.getD undef) (ws[i]?.getD (0, [])).2 ∧ ∀ g, (xs[i]?.getD undef).ownBlock = some g → l ≤ g ∧ g < h ∧ g ≠ b
theorem KwE.keep {w w' : World} {l h b : Nat} {v : Value} {ws : List Wt} (o : KwE w l h b v ws) (hk : ∀ q, l ≤ q → q < h → q ≠ b → w'.heap[q]? = w.heap[q]?) : KwE w' l h b v ws := by
  obtain ⟨xs, C, hl, ho, hbf, hC, he⟩ := o
  exact ⟨xs, C, hl, ownsRow_kept2 ho (fun q hq => hk q (ho.lt q hq).1 (hbf q hq).1 (hbf q hq).2), hbf, hC, fun i hi => ⟨(he i hi).1.blk (fun g hg => hk g ((he i hi).2 g hg).1 ((he i hi).2 g hg).2.1 ((he i hi).2 g hg).2.2), (he i hi).2⟩⟩
theorem KwE.rd {w : World} {l h b : Nat} {v : Value} {ws : List Wt} (o : KwE w l h b v ws) : RdWs w l h v ws := by
  obtain ⟨xs, C, hl, ho, hb, hC, he⟩ := o
  have hCl : C.length = ws.length * 2 := ho.1
  rcases ho.2 with ⟨hv, h0⟩ | ⟨g, c, cur, hv, hg, hh, hnc, hm, _⟩
  · subst hv
    exact ⟨none, 0, 0, fun i => xs[i]?.getD undef, rfl, by omega, ⟨Nat.le_refl _, Nat.zero_le _, fun _ => ⟨rfl, rfl⟩⟩, .inl rfl, fun i hi => absurd hi (Nat.not_lt_zero _)⟩
  · subst hv
    refine ⟨_, ws.length, c, fun i => xs[i]?.getD undef, rfl, rfl, ⟨hnc, hm, fun e => by cases e⟩, .inr ⟨g, 0, rfl, hg, (hb g rfl).1, fun i hi => ?_⟩, fun i hi => (he i hi).1⟩
    rw [Nat.zero_add, World.ownsRow.cellAt ho (i * 2) (by omega), World.ownsRow.cellAt ho (i * 2 + 1) (by omega)]
    exact hC i hi

/-- What holds at the head of each round. -/
def SFRelT (T : TypeId) (R : List Value) (w : World) (b : Nat) (x y : Value) (d : Dk) (l H h m : Nat) (i : Value) (wr : World) : Prop :=
  ∃ k : Nat, k ≤ m ∧ i = .int .i64 k ∧ KpE wr l h b x (flushS d.1 (d.2.take k)) ∧ KwE wr H h b y d.2 ∧ VarT T R wr b x y ∧ TurnsV [x] w wr

set_option maxHeartbeats 2000000 in
theorem specFlushT_in (T : TypeId) (R : List Value) (b : Nat) (x y : Value) (d : Dk) (l H h : Nat) (w : World) (hv : VarT T R w b x y) (o1 : KpE w l H b x d.1) (o2 : KwE w H h b y d.2) (hH : H ≤ h) (hlH : l ≤ H) (hh : h ≤ w.heap.size) (hok : okD d = true) :
    Calls Tryd.prog 58 #[.pointer (some ⟨b, 0, none⟩)] w fun e w' => (∃ u, e = .returned u) ∧ KpE w' l h b x (flushS d.1 d.2) ∧ VarT T R w' b x (.slice none 0 0) ∧ TurnsV [.slice (some ⟨b, 0, none⟩) 0 0, x] w w' := by
  obtain ⟨d1, d2⟩ := d
  have hok' := hok
  unfold okD at hok'
  simp only [Bool.and_eq_true, decide_eq_true_eq, List.all_eq_true] at hok'
  obtain ⟨⟨⟨hn2, hm2⟩, hs⟩, hw⟩ := hok'
  have HWH : Hid (Whole d1) := fun i hi => by
    have := hs _ (List.getElem_mem hi)
    simp [secOk] at this
    simp [hi, this]
  have HWW : Hid (∀ i, i < d2.length → 0 ≤ (d2[i]?.getD (0, [])).1 ∧ (d2[i]?.getD (0, [])).1 < (d1.length : Int) ∧ (d2[i]?.getD (0, [])).2.length = 32) := fun i hi => by
    have := hw _ (List.getElem_mem hi)
    simp [waitOk, secOk] at this
    simp [hi]
    omega
  obtain ⟨m, hm⟩ : ∃ m, m = d2.length := ⟨_, rfl⟩
  have hbw := hv.lt
  have HM : Hid _ := hm
  have hm3 : m ≤ 2000 := by omega
  have HST : Hid (SFRelT T R w b x y (d1, d2) l H h m (.int .i64 0) w) := ⟨0, Nat.zero_le _, rfl, by simpa [flushS] using o1.up hH, o2, hv, TurnsV.refl _ _⟩
  have HXH : Hid (∀ k, x.ownBlock = some k → k < H ∧ k ≠ b) := fun k hk => by obtain ⟨_, _, _, hb', _⟩ := o1; exact hb' k hk
  clear hok hs hw hm o1 o2 hv
  go_enter Tryd.func58, Tryd.ntmps58
  go_wp2
  go_loopw [2] (fun i wr => SFRelT T R w b x y (d1, d2) l H h m i wr) (fun i _ => m - (intOf i).toNat)
  case atStart => exact HST.out
  case round =>
    clear HST
    obtain ⟨k, hk, rfl, hX, hY, vO, ht⟩ := hrel
    have hsz := ht.size
    have hYr := hY
    obtain ⟨xs, C, hxl, hrow, hyb, hCC, hee⟩ := hYr
    obtain ⟨ya, yc, rfl⟩ : ∃ a c, y = .slice a m c := by
      rw [HM.out]
      rcases hrow.2 with ⟨h0, hz0⟩ | ⟨g, c, cur, h0, _⟩
      · refine ⟨none, 0, ?_⟩
        rw [h0]
        have hz1 : d2.length = 0 := hz0
        rw [hz1]
      · exact ⟨_, _, h0⟩
    by_cases hlt : k < m
    · obtain ⟨hp0, hp1, hp2⟩ := HWW.out k (by rw [← HM.out]; exact hlt)
      have hfl : (flushS d1 (d2.take k)).length = d1.length := flushS_length _ _
      have hwh := Whole.flush HWH.out (fun i hi => (HWW.out i hi).2.2) k (by rw [← HM.out]; omega)
      have hnx := flushS_next d1 d2 k (by rw [← HM.out]; exact hlt)
      have hk2 : k < d2.length := by rw [← HM.out]; exact hlt
      have hCl : C.length = d2.length * 2 := hrow.1
      rcases hrow.2 with ⟨_, hz0⟩ | ⟨gy, cy, cur, hye, hgy, _⟩
      · have hz1 : d2.length = 0 := hz0
        omega
      simp only [Value.slice.injEq] at hye
      obtain ⟨rfl, _, hyc⟩ := hye
      clear hyc
      replace hrow : wr.ownsRow H 75 2 (.slice (some ⟨gy, 0, none⟩) m yc) m C := by
        have h9 : wr.ownsRow H 75 2 (.slice (some ⟨gy, 0, none⟩) m yc) d2.length C := hrow
        rw [← HM.out] at h9
        exact h9
      have h1 := (World.ownsRow.cellAt hrow (k * 2) (by omega)).trans (hCC k hk2).1
      have h2 := (World.ownsRow.cellAt hrow (k * 2 + 1) (by omega)).trans (hCC k hk2).2
      obtain ⟨hrd, hrg⟩ := hee k hk2
      obtain ⟨q, hq⟩ : ∃ q : Nat, (d2[k]?.getD (0, [])).1 = (q : Int) := ⟨(d2[k]?.getD (0, [])).1.toNat, by omega⟩
      rw [hq] at h1 hp0 hp1
      have hst : stepS (flushS d1 (d2.take k)) (d2[k]?.getD (0, [])) 32 = (flushS d1 (d2.take k)).set q (d2[k]?.getD (0, [])).2 := by unfold stepS; rw [hq, Int.toNat_natCast, mixed_all (hwh q (by omega)) hp2]
      rw [hst] at hnx
      generalize (d2[k]?.getD (0, [])).2 = zs at hrd hp2 hnx
      generalize xs[k]?.getD undef = u at h2 hrd hrg
      obtain ⟨sa, sn, sc, rfl⟩ := hrd.sliced
      generalize flushS d1 (d2.take k) = S0 at hX hfl hnx hst hwh
      have hqs : q < S0.length := by omega
      have hXr := hX
      obtain ⟨vs, hvl, hxrow, hxb, _⟩ := hXr
      rcases hxrow.2 with ⟨_, hz0⟩ | ⟨gx, cx, curx, hxe, hgx, _⟩
      · omega
      subst hxe
      have hgxH := (HXH.out gx rfl).1
      have hgxb := (HXH.out gx rfl).2
      obtain ⟨o0, hov⟩ : ∃ v, wr.cell? ⟨gx, q, none⟩ = some v := by rw [hxrow.cellAt q (by omega)]; exact ⟨_, List.getElem?_eq_getElem (by omega)⟩
      have hof := hxrow.frozenAt q
      have c0 := vO.c0
      have c1 := vO.c1
      have hi0 : (0 : Int) ≤ (k : Int) := by omega
      have hi1 : (k : Int) < (m : Int) := by omega
      have hj0 : (0 : Int) ≤ (q : Int) := by omega
      have hj1 : (q : Int) < (S0.length : Int) := by omega
      have n1 : ¬ gx = b := hgxb
      have n2 : ¬ gx = gy := by omega
      have n1' : ¬ b = gx := fun e => hgxb e.symm
      have n2' : ¬ gy = gx := by omega
      have HR : Hid (SFRelT T R w b (.slice (some ⟨gx, 0, none⟩) S0.length cx) (.slice (some ⟨gy, 0, none⟩) m yc) (d1, d2) l H h m (.int .i64 ((k : Int) + 1)) ((wr.drewN 1).setCell ⟨gx, q, none⟩ (.slice sa sn sc))) := by
        refine ⟨k + 1, by omega, by go_num, ?_, ?_, ?_, ?_⟩
        · rw [hnx]
          have hX1 : KpE (wr.drewN 1) l h b (.slice (some ⟨gx, 0, none⟩) S0.length cx) S0 := hX.keep (fun _ _ _ _ => rfl)
          exact hX1.put hqs ((hrd.blk (w' := wr.drewN 1) (fun _ _ => rfl)).wide hlH (Nat.le_refl _)) (fun g hg => ⟨by have := (hrg g hg).1; omega, (hrg g hg).2.1, (hrg g hg).2.2, by have := (hrg g hg).1; omega⟩)
        · exact hY.keep (fun p h1 h2 h3 => heap_setCell_other _ _ _ _ (by show p ≠ gx; omega))
        · exact (heap_setCell_other _ _ _ _ (by show b ≠ gx; omega)).trans vO
        · refine ht.trans ⟨rfl, rfl, rfl, by simp, fun q' _ hq' => ?_⟩
          refine heap_setCell_other _ _ _ _ (fun e => hq' ⟨0, by simp, ?_⟩)
          have e' : q' = gx := e
          subst e'; rfl
      clear hX hY vO ht hnx hst hq hee hCC hrow hxrow hrd hrg hwh hfl hxl hvl hxb hyb hCl
      go_wp2
      go_region_held3 (fun w' => w'.cell? ⟨b, 0, none⟩ = some (.slice (some ⟨gx, 0, none⟩) S0.length cx) ∧ w'.cell? ⟨b, 1, none⟩ = some (.slice (some ⟨gy, 0, none⟩) m yc) ∧ w'.cell? ⟨gy, k * 2, none⟩ = some (.int .i64 (q : Int)) ∧ w'.cell? ⟨gy, k * 2 + 1, none⟩ = some (.slice sa sn sc)) (first | go_keep | (refine ⟨?_, ?_, ?_, ?_⟩ <;> assumption)) (fail)
      go_wp2
      refine ⟨?_, by simp [intOf]; omega⟩
      first | exact HR.out | exact ⟨_, _, _, _, _, _, _, _, _, _, _, _, _, _, _, _, _, _, _, _, _, _, _, _, _, _, _, _, _, _, _, HR.out, rfl⟩
    · have hkm : k = m := by omega
      subst hkm
      have c1 := vO.c1
      have f1 := vO.f 1
      have e1 : d2.take k = d2 := List.take_of_length_le (by rw [← HM.out]; exact Nat.le_refl _)
      rw [e1] at hX
      have HX : Hid (KpE wr l h b x (flushS d1 d2)) := hX
      have HVO : Hid (VarT T R wr b _ _) := vO
      have HT : Hid (TurnsV [x] w wr) := ht
      clear hX vO ht hY e1 hrow hCC hee hxl hyb
      go_wp2
      refine bodyPost_end (v := .tuple #[]) (by simp [results, Tryd.results58, go_sem]) rfl ⟨⟨_, rfl⟩, ?_, ?_, ?_⟩
      · exact KpE.keep HX.out (fun p _ _ h3 => heap_setCell_other _ _ _ _ h3)
      · exact VarT.set1 HVO.out _
      · refine HT.out.more.trans ⟨rfl, rfl, rfl, by simp, fun q _ hq => heap_setCell_other _ _ _ _ (fun e => hq ⟨0, by simp, ?_⟩)⟩
        have e' : q = b := e
        rw [e']; rfl
end Go.Proofs.YtjhaanenkeceiaaDoor
end
