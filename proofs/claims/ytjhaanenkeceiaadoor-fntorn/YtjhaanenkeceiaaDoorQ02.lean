/- Joined: Records ImplOpen ImplCrash TornPure ImplAppend ImplOpen2 ImplOpen3 Parts Reads2 ImplWrite2. -/
import Derived.Test.YtjhaanenkeceiaaDoorQ01
import Derived.Test.YtjhaanenkeceiaaDoorJBase
import Derived.Test.YtjhaanenkeceiaaDoorImplFlush2
import Derived.Test.YtjhaanenkeceiaaDoorNews
import Derived.Test.YtjhaanenkeceiaaDoorImplJ4
import Derived.Test.YtjhaanenkeceiaaDoorDisk
import Derived.Test.YtjhaanenkeceiaaDoorSteps2
import Derived.Test.YtjhaanenkeceiaaDoorWalkBase
import Derived.Test.YtjhaanenkeceiaaDoorImplSec
import Derived.Test.YtjhaanenkeceiaaDoorImplWrite

section
/- The program's iterator over a journal's records, whatever the loop over it does that keeps to its word. Conditions: the sectors are whole, at most 2000, and stay as they are. -/
namespace Go.Proofs.YtjhaanenkeceiaaDoor
open Go.RowKit
set_option linter.unusedVariables false
set_option linter.unusedSimpArgs false
attribute [local go_sem ↓] Go.wp_at_zero Go.wp_at_succ

/-- So it stands between two rounds. -/
def RecI (b c D L : Nat) (x y : Value) (r : Loop) (wb : World) (H : Nat) (S : List (List Int)) (P q : Nat) (acc : List (List Int)) (W : World) : Prop :=
  VarJ 30 W b x y (P : Int) (q : Int) ∧ (∃ v vs, W.heap[c]? = some (.cells #[v] 23 (0, 0)) ∧ OwX W (L + 1) W.heap.size v acc vs) ∧ W.heap[L]? = some (.loop r) ∧ W.heap[D]? = some (.deferred (some [])) ∧ Below H wb W ∧ OpenAt S P q acc
/-- What a round leaves. -/
def YieldR (c L : Nat) (r : Loop) (zs : List Int) (acc : List (List Int)) (W : World) (e : Ending) (W' : World) : Prop :=
  e = .returned (.bool true) ∧ (∃ v' vs', W'.heap[c]? = some (.cells #[v'] 23 (0, 0)) ∧ OwX W' (L + 1) W'.heap.size v' (acc ++ [zs]) vs') ∧ W'.heap[L]? = some (.loop r) ∧ (∀ k, k < L → k ≠ c → W'.heap[k]? = W.heap[k]?) ∧ (W'.os = W.os ∧ W'.tape = W.tape ∧ W'.output = W.output ∧ W.heap.size ≤ W'.heap.size)
/-- What a round's body keeps to. -/
def YieldOk (c L : Nat) (r : Loop) : Prop :=
  ∀ (u : Value) (zs : List Int) (W : World) (acc : List (List Int)) (v : Value) (vs : List Value) (h0 : Nat), W.heap[c]? = some (.cells #[v] 23 (0, 0)) → OwX W (L + 1) h0 v acc vs → OwB W h0 W.heap.size u zs → L + 1 ≤ h0 → h0 ≤ W.heap.size → W.heap[L]? = some (.loop r) → acc.length ≤ 2000 →
    YieldAt Fence.wide 8 Tryd.prog L #[u] W (YieldR c L r zs acc W)
def leftM (b n : Nat) (w : World) : Nat := n - (intOf ((w.cell? ⟨b, 2, none⟩).getD undef)).toNat
theorem leftM_eq {b n : Nat} {x y : Value} {P q : Nat} {w : World} (h : VarJ 30 w b x y (P : Int) (q : Int)) : leftM b n w = n - P := by unfold leftM; rw [h.c2]; simp [intOf]

set_option maxRecDepth 100000 in
set_option maxHeartbeats 2000000 in
theorem records_any (b c D L : Nat) (x y : Value) (r : Loop) (wb : World) (H : Nat) (S : List (List Int)) (lS hS : Nat) (a : Addr) (w : World) (h0 : RecI b c D L x y r wb H S 0 0 [] w) (hY : YieldOk c L r) (rS : RdBB wb lS hS x S) (hhS : hS ≤ H) (hHb : H ≤ wb.heap.size) (hg : Glob wb a) (hgH : 2 < H)
    (hord : H ≤ b ∧ b < L ∧ H ≤ c ∧ c < L ∧ b ≠ c ∧ H ≤ D ∧ D < L ∧ D ≠ b ∧ D ≠ c) (hn : S.length ≤ 2000) (hw32 : ∀ i, i < S.length → (S[i]?.getD []).length = 32) (hbz : ∀ i : Nat, isBytes (S[i]?.getD [])) :
    Calls Tryd.prog 76 #[.pointer (some ⟨b, 0, none⟩), .func (.yield L) #[] #[]] w fun e W' => (∃ v, e = .returned v) ∧ W'.heap[L]? = some (.loop r) ∧ ∃ P q acc, RecI b c D L x y r wb H S P q acc W' ∧ readD S P q = none := by
  have HY : Hid _ := hY
  have HR0 : Hid _ := rS
  have HGL : Hid _ := hg
  have HW : Hid _ := hw32
  have HBZ : Hid _ := hbz
  have HST : Hid (RecI b c D L x y r wb H S 0 0 [] w) := h0
  clear hY rS hg hw32 hbz h0
  refine (callsIn_wide (n := 9)).1 ?_
  refine callsIn_of_wp Tryd.func76 rfl trivial ?_ rfl
  simp only [Tryd.ntmps76, List.size_toArray, List.length_cons, List.length_nil, Nat.reduceAdd, Nat.reduceSub, Array.replicate_succ, Array.replicate_zero, List.push_toArray, List.append_toArray, List.nil_append, List.cons_append]
  gi_wp2
  gi_loopw [4] (fun _ wr => ∃ P q acc, RecI b c D L x y r wb H S P q acc wr) (fun _ wr => leftM b S.length wr)
  case atStart => exact ⟨0, 0, [], HST.out⟩
  case round =>
    clear HST
    obtain ⟨P, q, acc, hV, ⟨v, vs, hc, hX⟩, hL, hD, hB, hO⟩ := hrel
    have hP : P ≤ S.length := hO.1
    have hqP : q ≤ P := hO.2.1
    have hac : acc.length ≤ P := hO.2.2.1
    have hLlt := lt_of_block hL
    have hsB := hB.size
    have rS1 : RdBB wr lS hS x S := RdBB.same HR0.out ⟨hsB, fun k _ h2 => hB.block k (by omega)⟩
    have hg1 : Glob wr a := (hB.cell (p := ⟨2, 0, none⟩) hgH).trans HGL.out
    have HCL : Hid _ := claimed_any b x y S P (q : Int) lS hS a wr hV rS1 (by omega) hg1 hn hP HW.out
    have HV : Hid _ := hV
    have HC : Hid _ := hc
    have HX : Hid _ := hX
    have HL : Hid _ := hL
    have HD : Hid _ := hD
    have HB : Hid _ := hB
    have HO : Hid _ := hO
    clear hV hc hX hL hD hB hO rS1 hg1
    gi_wp2_with fail
    refine ⟨trivial, CallsIn.mono (callsIn_wide.2 HCL.out) ?_⟩
    rintro e w1 ⟨u, rfl, oU, b1⟩
    clear HCL
    have s1 := b1.size
    obtain ⟨ua, un, uc, rfl⟩ := oU.rd.sliced
    have v1 := VarJ.step HV.out b1
    have c13 := v1.c3
    have HFR : Hid _ := implFrame_all (q : Int) _ (claimD S P) _ _ w1 oU.rd (Nat.le_refl _)
    have HOU : Hid _ := oU
    have HB1 : Hid _ := b1
    clear oU b1 v1
    gi_wp2_with fail
    refine ⟨trivial, CallsIn.mono (callsIn_wide.2 HFR.out) ?_⟩
    rintro e w2 ⟨fx, fvs, rfl, oF, b2⟩
    clear HFR c13
    have s2 := b2.size
    have B2 : Below wr.heap.size wr w2 := HB1.out.trans (b2.mono s1)
    obtain ⟨fa, fn, fc, rfl⟩ := row_sliced oF.2.1
    have hfn : fn = (frameD (q : Int) (claimD S P)).length := by obtain ⟨a', n', c', us, he, hl, _⟩ := oF.bb.rd; simp only [Value.slice.injEq] at he; omega
    have hf9 : (frameD (q : Int) (claimD S P)).length ≤ 20 := by
      unfold frameD
      split
      · rename_i hz9; unfold frameN; rw [List.length_map, List.length_range]; have := manyN_le _ hz9.2.2; omega
      · simp
    have v2 := VarJ.step HV.out B2
    have rS2 : RdBB w2 lS hS x S := RdBB.same (RdBB.same HR0.out ⟨hsB, fun k _ h2 => HB.out.block k (by omega)⟩) (SameIn.ofBelow B2 (by omega))
    have hg2 : Glob w2 a := (B2.cell (p := ⟨2, 0, none⟩) (by show 2 < wr.heap.size; omega)).trans ((HB.out.cell (p := ⟨2, 0, none⟩) hgH).trans HGL.out)
    have HSP : Hid _ := spoiler_any b x y S P (q : Int) lS hS a w2 v2 rS2 (by omega) hg2 hn hP _ (frameD (q : Int) (claimD S P)) w1.heap.size w2.heap.size oF.bb.rd (Nat.le_refl _) hf9
    have hq6 : q < 60000 := by omega
    have HRS : Hid _ := read_same HW.out HBZ.out P q hq6
    have HFN : Hid _ := hfn
    have HB2 : Hid _ := B2
    have HB12 : Hid _ := b2
    have HV2 : Hid _ := v2
    -- how it stands wherever the walk leaves it
    have HEND : Hid (∀ W, Below wr.heap.size wr W → RecI b c D L x y r wb H S P q acc W) := fun W hW => by
      refine ⟨VarJ.step HV.out hW, ⟨v, vs, (hW.block c (by omega)).trans HC.out, (OwX.same HX.out (SameIn.ofBelow hW (Nat.le_refl _))).wide (Nat.le_refl _) hW.size⟩, (hW.block L hLlt).trans HL.out, (hW.block D (by omega)).trans HD.out, HB.out.trans (hW.mono (by omega)), HO.out⟩
    have HENDL : Hid (∀ W, Below wr.heap.size wr W → W.heap[L]? = some (.loop r)) := fun W hW => (hW.block L hLlt).trans HL.out
    clear oF b2 B2 v2 rS2 hg2
    by_cases hz : fn = 0
    · subst hz
      have HNO : Hid (readD S P q = none) := by
        show _ = _
        have h1 : frameD (q : Int) (claimD S P) = [] := List.eq_nil_of_length_eq_zero hfn.symm
        rw [HRS.out, h1, if_neg (fun h => h.1 rfl)]
      clear hfn HSP HRS HFN
      gi_wp2
      refine ⟨trivial, ?_⟩
      gi_wp2
      refine bodyPost_ret (results_none rfl _ _ _) rfl ?_
      exact ⟨⟨_, rfl⟩, HENDL.out _ HB2.out, _, _, _, HEND.out _ HB2.out, HNO.out⟩
    · clear hfn
      have e0 : ((fn : Int) == 0) = false := by simp; omega
      gi_wp2_with fail
      refine ⟨trivial, CallsIn.mono (callsIn_wide.2 HSP.out) ?_⟩
      rintro e w3 ⟨z, rfl, hz3, b3⟩
      clear HSP
      have B3 : Below wr.heap.size wr w3 := HB2.out.trans (b3.mono HB2.out.size)
      have HK13 : Hid (∀ k, k < w1.heap.size → w3.heap[k]? = w1.heap[k]?) := fun k hk => (b3.block k (by omega)).trans (HB12.out.block k hk)
      have s3 := b3.size
      by_cases hm : matchB S P (frameD (q : Int) (claimD S P)) = true
      case neg =>
        have hzz : (z == -1) = false := by
          simp only [beq_eq_false_iff_ne, ne_eq]
          exact fun h => hm (hz3.1 h)
        have hzz2 : (z != -1) = true := by simp only [bne, hzz]; rfl
        have hzz3 : ¬ z = -1 := fun h => hm (hz3.1 h)
        have HNO : Hid (readD S P q = none) := by show _ = _; rw [HRS.out, if_neg (fun h => hm h.2)]
        have HB3 : Hid _ := B3
        clear B3 b3 hz3 hm HRS
        gi_wp2
        refine bodyPost_ret (results_none rfl _ _ _) rfl ?_
        exact ⟨⟨_, rfl⟩, HENDL.out _ HB3.out, _, _, _, HEND.out _ HB3.out, HNO.out⟩
      have hz1 : z = -1 := hz3.2 hm
      subst hz1
      have hrd : readD S P q = some (claimD S P) := by
        rw [HRS.out, if_pos ⟨fun h => hz (by rw [HFN.out, h]; rfl), hm⟩]
      have hnx := OpenAt.next HW.out HO.out hrd
      have hfm : fn = manyN (claimD S P).length := by
        rw [HFN.out]
        have : frameD (q : Int) (claimD S P) ≠ [] := fun h => hz (by rw [HFN.out, h]; rfl)
        unfold frameD at this ⊢
        split
        · unfold frameN; rw [List.length_map, List.length_range]
        · rename_i hno; rw [if_neg hno] at this; exact absurd rfl this
      rw [← hfm] at hnx
      have v3 := VarJ.step HV.out B3
      have c2 := v3.c2
      have c3 := v3.c3
      have f2 := v3.f 2
      have f3 := v3.f 3
      have hPn : P + fn ≤ S.length := hnx.1
      have hw1 := wrap_id ((P : Int) + (fn : Int)) (by omega) (by omega)
      have V4 := (v3.set2 ((P : Int) + (fn : Int))).set3 ((q : Int) + 1)
      have HB3 : Hid _ := B3
      have HNX : Hid _ := hnx
      have HV4 : Hid _ := V4
      clear B3 b3 hz3 hm HRS hrd hnx hfm v3 V4
      have hfar : ∀ k, k ≠ b → ((w3.setCell ⟨b, 2, none⟩ (.int .i64 ((P : Int) + (fn : Int)))).setCell ⟨b, 3, none⟩ (.int .i64 ((q : Int) + 1))).heap[k]? = w3.heap[k]? := fun k hk => by rw [heap_setCell_other _ _ _ _ hk, heap_setCell_other _ _ _ _ hk]
      have hsz4 : ((w3.setCell ⟨b, 2, none⟩ (.int .i64 ((P : Int) + (fn : Int)))).setCell ⟨b, 3, none⟩ (.int .i64 ((q : Int) + 1))).heap.size = w3.heap.size := by simp
      have hos4 : ((w3.setCell ⟨b, 2, none⟩ (.int .i64 ((P : Int) + (fn : Int)))).setCell ⟨b, 3, none⟩ (.int .i64 ((q : Int) + 1))).os = w3.os := rfl
      have htp4 : ((w3.setCell ⟨b, 2, none⟩ (.int .i64 ((P : Int) + (fn : Int)))).setCell ⟨b, 3, none⟩ (.int .i64 ((q : Int) + 1))).tape = w3.tape := rfl
      have hou4 : ((w3.setCell ⟨b, 2, none⟩ (.int .i64 ((P : Int) + (fn : Int)))).setCell ⟨b, 3, none⟩ (.int .i64 ((q : Int) + 1))).output = w3.output := rfl
      generalize hw4 : (w3.setCell ⟨b, 2, none⟩ (.int .i64 ((P : Int) + (fn : Int)))).setCell ⟨b, 3, none⟩ (.int .i64 ((q : Int) + 1)) = w4 at hfar hsz4 hos4 htp4 hou4 HV4
      have HW4 : Hid _ := hw4
      have hbL : b < L := hord.2.1
      have keep : ∀ k, k < wr.heap.size → k ≠ b → w4.heap[k]? = wr.heap[k]? := fun k hk hb => (hfar k hb).trans (HB3.out.block k hk)
      have sw4 : SameIn (L + 1) wr.heap.size wr w4 := ⟨by rw [hsz4]; omega, fun k h1 h2 => keep k h2 (by omega)⟩
      have sw5 : SameIn wr.heap.size w1.heap.size w1 w4 := ⟨by rw [hsz4]; omega, fun k h1 h2 => (hfar k (by omega)).trans (HK13.out k h2)⟩
      have hyl := HY.out (.slice ua un uc) (claimD S P) w4 acc v vs wr.heap.size ((keep c (by omega) (fun e => hord.2.2.2.2.1 e.symm)).trans HC.out) (OwX.same HX.out sw4) ((OwB.same HOU.out sw5).wide (Nat.le_refl _) (by rw [hsz4]; omega)) hLlt (by rw [hsz4]; omega) ((keep L hLlt (by omega)).trans HL.out) (by omega)
      obtain ⟨yf, yt, ya, yb, hyr, HRD⟩ := hyl
      have HRND : Hid _ := HRD
      have HKP : Hid _ := keep
      clear hw4 keep sw4 sw5 HRD
      gi_wp2_with (rw [HW4.out])
      refine RoundIn.mono HRND.out ?_
      rintro e W5 ⟨rfl, ⟨v5, vs5, hc5, hX5⟩, hL5, far5, hos5, htp5, hou5, hs5⟩
      have HR5 : Hid (RecI b c D L x y r wb H S (P + fn) (q + 1) (acc ++ [claimD S P]) W5) := by
        have hV5 : VarJ 30 W5 b x y ((P + fn : Nat) : Int) ((q + 1 : Nat) : Int) := by
          rw [Int.natCast_add P fn, Int.natCast_add q 1]
          exact (far5 b (by omega) hord.2.2.2.2.1).trans HV4.out
        refine ⟨hV5, ⟨v5, vs5, hc5, hX5⟩, hL5, ?_, ?_, HNX.out⟩
        · exact (far5 D hord.2.2.2.2.2.2.1 hord.2.2.2.2.2.2.2.2).trans ((HKP.out D (by omega) hord.2.2.2.2.2.2.2.1).trans HD.out)
        · refine ⟨hos5.trans (hos4.trans (HB3.out.os.trans HB.out.os)), htp5.trans (htp4.trans (HB3.out.tape.trans HB.out.tape)), hou5.trans (hou4.trans (HB3.out.output.trans HB.out.output)), by omega, fun k hk => ?_⟩
          exact (far5 k (by omega) (by omega)).trans ((HKP.out k (by omega) (by omega)).trans (HB.out.block k hk))
      have hms : leftM b S.length W5 < leftM b S.length wr := by rw [leftM_eq HR5.out.1, leftM_eq HV.out]; omega
      have HMS : Hid _ := hms
      clear hc5 hX5 hL5 far5 hos5 htp5 hou5 hms
      gi_wp2
      exact ⟨⟨_, _, _, HR5.out⟩, HMS.out⟩
end Go.Proofs.YtjhaanenkeceiaaDoor
end

section
/- The program's Open as a plain function; it leans on the package's error errNoSector. No condition of ours. -/
namespace Go.Proofs.YtjhaanenkeceiaaDoor
open Go.RowKit Go.Shelf
set_option linter.unusedVariables false
set_option linter.unusedSimpArgs false
attribute [local go_sem] Oper.semAt_some
attribute [local go_sem ↓] Go.wp_at_zero Go.wp_at_succ

def openOk (d : Dk) : Bool := okD d && d.2.isEmpty
def openJ (d : Dk) : Jn := if openOk d then (d, ((openS d.1).1 : Int), ((openS d.1).2.1 : Int)) else (([], []), 0, 0)
def openR (d : Dk) : List (List Int) := if openOk d then (openS d.1).2.2 else []

theorem OwX.snoc {W wa w1 : World} {l h0 h1 n : Nat} {v v' u : Value} {zss : List (List Int)} {zs : List Int} {vs : List Value} (o : OwX W l h0 v zss vs) (hu : OwB W h0 h1 u zs) (hlh : l ≤ h0) (h01 : h0 ≤ h1) (hsame : SameIn l h1 W wa)
    (hs : h1 ≤ wa.heap.size) (hn : n = zss.length + 1) (ho : w1.ownsRow l 22 1 v' n (vs ++ [u])) (hg : wa.grownBy w1 v.ownBlock) : OwX w1 l w1.heap.size v' (zss ++ [zs]) (vs ++ [u]) := by
  obtain ⟨hl, hrow, hbf, he, hd⟩ := o
  have hs1 := hg.size
  have far : ∀ q, l ≤ q → q < h1 → v.ownBlock ≠ some q → w1.heap[q]? = W.heap[q]? := fun q h1' h2 hne => (hg.block q (by omega) (fun e => hne e.symm)).trans (hsame.2 q h1' h2)
  have hlen : (vs ++ [u]).length = n := by rw [List.length_append, hl, hn]; rfl
  refine ⟨by rw [hlen, hn]; simp, by rw [hlen]; exact ho, fun k hk => (ho.lt k hk).2, fun i hi => ?_, fun i j k hij hj hk => ?_⟩
  · rw [getD_snoc, getD_snoc]
    by_cases h2 : i < vs.length
    · rw [if_pos h2, if_pos (by omega)]
      have hei := he i h2
      have k2 : Owns w1 l (vs[i]?.getD undef) (zss[i]?.getD []) := hei.2.1.kept2 (fun q hq => far q (hei.2.1.lt q hq).1 (by have := hei.2.2 q hq; omega) (row_row hei.2.1 hrow (by decide) q hq))
      exact ⟨hei.1, k2, fun q hq => (k2.lt q hq).2⟩
    · have e : i = vs.length := by rw [List.length_append] at hi; simp at hi; omega
      rw [if_neg h2, if_pos e, if_neg (by omega), if_pos (by omega)]
      have k2 : Owns w1 h0 u zs := hu.2.1.kept2 (fun q hq => far q (by have := (hu.2.1.lt q hq).1; omega) (hu.2.2 q hq) (row_row hu.2.1 hrow (by decide) q hq))
      exact ⟨hu.1, k2.base hlh, fun q hq => (k2.lt q hq).2⟩
  · rw [getD_snoc] at hk ⊢
    have hj' : j < vs.length + 1 := by simpa using hj
    rw [if_pos (by omega)] at hk
    by_cases h2 : j < vs.length
    · rw [if_pos h2]; exact hd i j k hij h2 hk
    · rw [if_neg h2, if_pos (by omega)]
      intro e
      have a1 := (he i (by omega)).2.2 k hk
      have a2 := (hu.2.1.lt k e).1
      omega

set_option maxRecDepth 100000 in
set_option maxHeartbeats 2000000 in
theorem implOpen_no (v : Value) (d : Dk) (l h : Nat) (w : World) (r : RdD w l h v d) (hh : h ≤ w.heap.size) (a : Addr) (hg : Glob w a) (hok : openOk d = false) :
    Calls Tryd.prog 13 #[v] w fun e w' => e = .returned (.tuple #[.agg #[.slice none 0 0, .slice none 0 0, .int .i64 0, .int .i64 0], .slice none 0 0, .bool false]) ∧ Below w.heap.size w w' := by
  obtain ⟨xa, xn, xc, ya, yn, yc, rfl⟩ := r.open
  have hyn : yn = d.2.length ∧ yn ≤ 9223372036854775807 := by
    obtain ⟨x', y', he, _, rb⟩ := r
    simp only [Value.agg.injEq, Array.mk.injEq, List.cons.injEq, and_true] at he
    obtain ⟨rfl, rfl⟩ := he
    exact rb.len
  have hlt := hg.lt
  have b0 := Below.new (w := w) (.cells #[.slice xa xn xc, .slice ya yn yc] 26)
  have v0 := VarD.new w (.slice xa xn xc) (.slice ya yn yc)
  generalize hw0 : w.alloc (.cells #[.slice xa xn xc, .slice ya yn yc] 26) = w0 at b0 v0
  have s0 : w0.heap.size = w.heap.size + 1 := by rw [← hw0]; simp
  have b1 := Below.new (w := w0) (.cells #[.slice none 0 0, .slice none 0 0, .int .i64 0, .int .i64 0] 30)
  have vR := VarJ.new (T := 30) w0 (.slice none 0 0) (.slice none 0 0) 0 0
  rw [s0] at vR
  have v1 := v0.step b1
  generalize hw1 : w0.alloc (.cells #[.slice none 0 0, .slice none 0 0, .int .i64 0, .int .i64 0] 30) = w1 at b1 vR v1
  have B1 : Below w.heap.size w w1 := b0.trans (b1.mono (by omega))
  have sR := vR.lt
  have HOK : Hid _ := implOk_any _ d l h a w1 (r.step hh B1) (by have := B1.size; omega) (hg.step B1 hlt)
  have HW : Hid ((w.alloc (.cells #[.slice xa xn xc, .slice ya yn yc] 26)).alloc (.cells #[.slice none 0 0, .slice none 0 0, .int .i64 0, .int .i64 0] 30) = w1) := by show _ = _; rw [hw0, hw1]
  have HV1 : Hid (VarD w1 w.heap.size _ _) := v1
  have HVR : Hid (VarJ _ w1 (w.heap.size + 1) _ _ _ _) := vR
  have HB1 : Hid (Below w.heap.size w w1) := B1
  have c0 := v1.c0
  have c1 := v1.c1
  have hym := hyn.2
  have HCS : Hid (okD d = false ∨ (okD d = true ∧ 0 < yn)) := by
    show _ ∨ _
    cases hk : okD d with
    | false => exact .inl rfl
    | true =>
      refine .inr ⟨rfl, ?_⟩
      unfold openOk at hok
      rw [hk, Bool.true_and] at hok
      rw [hyn.1]
      cases hd : d.2 with
      | nil => rw [hd] at hok; simp at hok
      | cons _ _ => simp
  clear hw0 hw1 r hg b0 v0 b1 vR v1 B1 s0 hyn hok
  rcases HCS.out with hk | ⟨hk, hy0⟩
  · rw [hk] at HOK
    clear hk HCS
    go_enter Tryd.func13, Tryd.ntmps13
    go_wp2_with fail
    rw [HW.out]
    refine Calls.mono HOK.out ?_
    rintro e w2 ⟨rfl, b2⟩
    have vR2 := VarJ.step HVR.out b2
    have e0 := vR2.c0
    have e1 := vR2.c1
    have e2 := vR2.c2
    have e3 := vR2.c3
    have f0 := vR2.f 0
    have f1 := vR2.f 1
    have f2 := vR2.f 2
    have f3 := vR2.f 3
    have HB2 : Hid (Below w.heap.size w w2) := HB1.out.trans (b2.mono HB1.out.size)
    clear b2 vR2 HOK HV1 HVR HB1 c0 c1
    go_wp2
    refine bodyPost_ret (v := .tuple #[.agg #[.slice none 0 0, .slice none 0 0, .int .i64 0, .int .i64 0], .slice none 0 0, .bool false]) (by simp [results, Tryd.results13, go_sem, e0, e1, e2, e3]) rfl ⟨rfl, ?_⟩
    exact (((HB2.out.setCell (Nat.le_succ _) _).setCell (Nat.le_succ _) _).setCell (Nat.le_succ _) _).setCell (Nat.le_succ _) _
  · rw [hk] at HOK
    have hd0 : decide (0 < (yn : Int)) = true := by simp; omega
    clear hk HCS
    go_enter Tryd.func13, Tryd.ntmps13
    go_wp2_with fail
    rw [HW.out]
    refine Calls.mono HOK.out ?_
    rintro e w2 ⟨rfl, b2⟩
    have vR2 := VarJ.step HVR.out b2
    have v2 := VarD.step HV1.out b2
    have k1 := v2.c1
    have e0 := vR2.c0
    have e1 := vR2.c1
    have e2 := vR2.c2
    have e3 := vR2.c3
    have f0 := vR2.f 0
    have f1 := vR2.f 1
    have f2 := vR2.f 2
    have f3 := vR2.f 3
    have HB2 : Hid (Below w.heap.size w w2) := HB1.out.trans (b2.mono HB1.out.size)
    clear b2 vR2 v2 HOK HV1 HVR HB1 c0 c1
    go_wp2
    refine bodyPost_ret (v := .tuple #[.agg #[.slice none 0 0, .slice none 0 0, .int .i64 0, .int .i64 0], .slice none 0 0, .bool false]) (by simp [results, Tryd.results13, go_sem, e0, e1, e2, e3]) rfl ⟨rfl, ?_⟩
    exact (((HB2.out.setCell (Nat.le_succ _) _).setCell (Nat.le_succ _) _).setCell (Nat.le_succ _) _).setCell (Nat.le_succ _) _
end Go.Proofs.YtjhaanenkeceiaaDoor
end

section
/- Of what waits, what is kept is made safe, of the torn one the first half: the program's crash, over a disk of the call's own that is DiskOk. -/
namespace Go.Proofs.YtjhaanenkeceiaaDoor
open Go.RowKit
set_option linter.unusedVariables false

def keepAt (bs : List Bool) (k : Nat) : Bool := bs[k]?.getD false
def tornAt (torn : Int) (k : Nat) : Nat := if (k : Int) = torn then 16 else 32
/-- The sectors behind the first k writes of a crash. -/
def crashS (s : List (List Int)) (ws : List Wt) (bs : List Bool) (torn : Int) : Nat → List (List Int)
  | 0 => s
  | k + 1 => if keepAt bs k then stepS (crashS s ws bs torn k) (ws[k]?.getD (0, [])) (tornAt torn k) else crashS s ws bs torn k
def crashD (d : Dk) (bs : List Bool) (torn : Int) : Dk := if okD d then (crashS d.1 d.2 bs torn d.2.length, []) else ([], [])
theorem tornAt_le (torn : Int) (k : Nat) : tornAt torn k ≤ 32 := by unfold tornAt; split <;> omega
theorem crashS_length (s : List (List Int)) (ws : List Wt) (bs : List Bool) (torn : Int) (k : Nat) : (crashS s ws bs torn k).length = s.length := by
  induction k with
  | zero => rfl
  | succ k ih => unfold crashS; split <;> simp [ih]
theorem Whole.crash {s : List (List Int)} {ws : List Wt} {bs : List Bool} {torn : Int} (h : Whole s) (hp : ∀ i, i < ws.length → (ws[i]?.getD (0, [])).2.length = 32) : ∀ k, k ≤ ws.length → Whole (crashS s ws bs torn k) := by
  intro k
  induction k with
  | zero => intro _; exact h
  | succ k ih =>
    intro hk
    unfold crashS
    split
    · exact (ih (by omega)).step (hp k (by omega)) (tornAt_le _ _)
    · exact ih (by omega)

/-- What holds at the head of each round. -/
def CrRel (w : World) (b : Nat) (x y : Value) (d : Dk) (bs : List Bool) (torn : Int) (vs xs : List Value) (l h m : Nat) (i : Value) (wr : World) : Prop :=
  ∃ k : Nat, k ≤ m ∧ i = .int .i64 k ∧ OwX wr l h x (crashS d.1 d.2 bs torn k) vs ∧ OwY wr l h y d.2 xs ∧ VarD wr b x y ∧ TurnsV vs w wr

set_option maxHeartbeats 2000000 in
theorem crash_any (b : Nat) (x y : Value) (d : Dk) (kv : Value) (bs : List Bool) (lk hk' : Nat) (torn : Int) (vs xs : List Value) (l h : Nat) (w : World) (hv : VarD w b x y) (o1 : OwX w l h x d.1 vs) (o2 : OwY w l h y d.2 xs) (ha : ∀ q, Blk vs q → ¬ Blk xs q) (hb : ¬ Blk vs b) (hh : h ≤ w.heap.size) (hok : okD d = true) (rk : RdF w lk hk' kv bs) (hkl : hk' ≤ l) (hkm : bs.length ≤ 9223372036854775807) :
    Calls Tryd.prog 55 #[.pointer (some ⟨b, 0, none⟩), kv, .int .i64 torn] w fun e w' => (∃ u, e = .returned u) ∧ OwX w' l h x (crashS d.1 d.2 bs torn d.2.length) vs ∧ VarD w' b x (.slice none 0 0) ∧ TurnsV (.slice (some ⟨b, 0, none⟩) 0 0 :: vs) w w' := by
  obtain ⟨d1, d2⟩ := d
  have hok' := hok
  unfold okD at hok'
  simp only [Bool.and_eq_true, decide_eq_true_eq, List.all_eq_true] at hok'
  obtain ⟨⟨⟨hn2, hm2⟩, hs⟩, hw⟩ := hok'
  have HWH : Hid (Whole d1) := fun i hi => by
    have := hs _ (List.getElem_mem hi)
    simp [secOk] at this
    simp [hi, this]
  have HWW : Hid (∀ i, i < d2.length → 0 ≤ (d2[i]?.getD (0, [])).1 ∧ (d2[i]?.getD (0, [])).1 < (d1.length : Int) ∧ (d2[i]?.getD (0, [])).2.length = 32) := fun i hi => by
    have := hw _ (List.getElem_mem hi)
    simp [waitOk, secOk] at this
    simp [hi]
    omega
  obtain ⟨ka, kn, kc, rfl, hkn, _, hkc⟩ := rk
  have HKN : Hid _ := hkn
  have hknm : kn ≤ 9223372036854775807 := by omega
  have HKC : Hid _ := hkc
  obtain ⟨ya, m, yc, us, rfl, hm, hhd, hc, he⟩ := o2.ww.rd
  replace hm : m = d2.length := hm
  have hbw := hv.lt
  have HM : Hid _ := hm
  have hm3 : m ≤ 2000 := by omega
  have c1 := hv.c1
  have HA : Hid _ := ha
  have HBN : Hid _ := hb
  have HST : Hid (CrRel w b x (.slice ya m yc) (d1, d2) bs torn vs xs l h m (.int .i64 0) w) := ⟨0, Nat.zero_le _, rfl, o1, o2, hv, TurnsV.refl _ _⟩
  have HOX0 : Hid (OwX w l h x d1 vs) := o1
  clear hok hs hw hm hc he hhd o1 o2 hv ha hb us hkn hkc
  go_enter Tryd.func55, Tryd.ntmps55
  go_wp2
  go_loopw [13] (fun i wr => CrRel w b x (.slice ya m yc) (d1, d2) bs torn vs xs l h m i wr) (fun i _ => m - (intOf i).toNat)
  case atStart => exact HST.out
  case round =>
    clear HST c1
    obtain ⟨k, hk, rfl, hX, hY, vO, ht⟩ := hrel
    have hsz := ht.size
    by_cases hlt : k < m
    · obtain ⟨hp0, hp1, hp2⟩ := HWW.out k (by rw [← HM.out]; exact hlt)
      have hfl : (crashS d1 d2 bs torn k).length = d1.length := crashS_length _ _ _ _ _
      have hwh := Whole.crash (bs := bs) (torn := torn) HWH.out (fun i hi => (HWW.out i hi).2.2) k (by rw [← HM.out]; omega)
      have hnx : crashS d1 d2 bs torn (k + 1) = if keepAt bs k then stepS (crashS d1 d2 bs torn k) (d2[k]?.getD (0, [])) (tornAt torn k) else crashS d1 d2 bs torn k := rfl
      obtain ⟨a2, m2, c2, us, hye, hm2', _, hcc, hee⟩ := hY.ww.rd
      simp only [Value.slice.injEq] at hye
      obtain ⟨rfl, rfl, rfl⟩ := hye
      obtain ⟨g, off, rfl, hg0, hgh, hcell⟩ := hcc.resolve_left (by omega)
      have h1 := (hcell k hlt).1
      have h2 := (hcell k hlt).2
      have hrd := hee k hlt
      have hws : g < wr.heap.size := by omega
      obtain ⟨q, hq⟩ : ∃ q : Nat, (d2[k]?.getD (0, [])).1 = (q : Int) := ⟨(d2[k]?.getD (0, [])).1.toNat, by omega⟩
      have hst : ∀ c, stepS (crashS d1 d2 bs torn k) (d2[k]?.getD (0, [])) c = (crashS d1 d2 bs torn k).set q (mixed ((crashS d1 d2 bs torn k)[q]?.getD []) (d2[k]?.getD (0, [])).2 c) := fun c => by unfold stepS; rw [hq, Int.toNat_natCast]
      rw [hq] at h1 hp0 hp1
      rw [hst] at hnx
      generalize (d2[k]?.getD (0, [])).2 = zs at hrd hp2 hnx
      generalize us k = sl at h2 hrd
      generalize crashS d1 d2 bs torn k = S0 at hX hfl hwh hnx
      have hqs : q < S0.length := by omega
      obtain ⟨sa, sn, sc, rfl⟩ := hrd.sliced
      have hi0 : (0 : Int) ≤ (k : Int) := by omega
      have hi1 : (k : Int) < (m : Int) := by omega
      have b4 := Below.new (w := wr) (.cells #[.int .i64 (q : Int), .slice sa sn sc] 75)
      have HMS : Hid (∀ c, c ≤ 32 → _) := fun c hc => makeSafe_any b q c x (.slice (some ⟨g, off, none⟩) m yc) S0 vs l h (.slice sa sn sc) zs l h _ (vO.step b4) (hX.same (SameIn.ofBelow b4 (by omega))) hqs (hwh q hqs) (hrd.same (SameIn.ofBelow b4 (by omega))) hp2 hc (by simp; omega) (by simp; omega) (by omega)
      have HX : Hid (OwX wr l h x S0 vs) := hX
      have HY : Hid (OwY wr l h _ d2 xs) := hY
      have HVO : Hid (VarD wr b _ _) := vO
      have HNX : Hid _ := hnx
      have HT : Hid (TurnsV vs w wr) := ht
      have HB4 : Hid _ := b4
      have HQV : Hid (q < vs.length) := by show q < _; have := hX.1; omega
      have HKEEP : Hid (∀ W, TurnsV vs wr W → OwX W l h x (crashS d1 d2 bs torn (k + 1)) vs → CrRel w b x (.slice (some ⟨g, off, none⟩) m yc) (d1, d2) bs torn vs xs l h m (.int .i64 ((k : Int) + 1)) W) := fun W hgv hX5 => by
        refine ⟨k + 1, by omega, by go_num, hX5, ?_, ?_, HT.out.trans hgv⟩
        · refine OwY.keep HY.out (fun q' hq' => hgv.block q' (by have := OwY.lt HY.out q' hq'; omega) (fun hbv => ?_))
          obtain ⟨i, hi, hk'⟩ := hq'
          cases i with
          | zero =>
            obtain ⟨C, _, h2, _⟩ := HY.out
            obtain ⟨j, hj, hjk⟩ := hbv
            exact tag_ne h2 ((OwX.same HX.out (SameIn.refl _ _ _)).2.2.2.1 j hj).2.1 (by decide) q' (by simpa using hk') hjk
          | succ i => exact HA.out q' hbv ⟨i, by simpa using hi, by simpa using hk'⟩
        · exact (hgv.block b (VarD.lt HVO.out) HBN.out).trans HVO.out
      have HKC2 : Hid (∀ i, i < kn → ∃ bk ok, ka = some ⟨bk, ok, none⟩ ∧ (wr.alloc (.cells #[.int .i64 (q : Int), .slice sa sn sc] 75)).cell? ⟨bk, ok + i, none⟩ = some (.bool (keepAt bs i))) := fun i hi => by
        rcases HKC.out with h0 | ⟨bk, ok, hka, _, hbk, hck⟩
        · have := HKN.out; rw [h0] at this; simp at this; omega
        · refine ⟨bk, ok, hka, ?_⟩
          have hlt1 := OwX.lt HX.out
          have hbkw : bk < w.heap.size := block_lt_of_cell (a := ⟨bk, ok + i, none⟩) (hck i (by rw [← HKN.out]; exact hi))
          have e1 : wr.heap[bk]? = w.heap[bk]? := HT.out.block bk hbkw (fun hb => by have := hlt1 bk hb; omega)
          have e2 := HB4.out.block bk (by omega)
          have := (World.cell?_of_block (a := ⟨bk, ok + i, none⟩) (e2.trans e1)).trans (hck i (by rw [← HKN.out]; exact hi))
          exact this
      clear hm2' hX hY vO ht hnx hst hq hcc hcell hee hrd hwh hfl b4
      by_cases hin : k < kn
      case neg =>
        have hd0 : decide ((kn : Int) ≤ (k : Int)) = true := by simp; omega
        have hka : keepAt bs k = false := by unfold keepAt; rw [List.getElem?_eq_none (by rw [← HKN.out]; omega)]; rfl
        have HR : Hid _ := HKEEP.out _ (TurnsV.ofBelow HB4.out) (by rw [HNX.out, hka]; exact OwX.same HX.out (SameIn.ofBelow HB4.out (by omega)))
        clear hka HX HY HVO HMS HNX HT HB4 HKEEP HKC2
        go_wp2
        refine ⟨?_, by simp [intOf]; omega⟩
        first | exact HR.out | exact ⟨_, _, _, _, _, _, _, _, _, _, _, _, _, _, _, _, _, _, _, _, _, _, _, _, _, _, _, _, _, _, HR.out, rfl⟩ | exact ⟨_, _, _, _, _, _, _, _, _, _, _, _, _, _, _, _, _, _, _, _, _, _, _, _, _, _, _, _, _, _, _, HR.out, rfl⟩ | exact ⟨_, _, _, _, _, _, _, _, _, _, _, _, _, _, _, _, _, _, _, _, _, _, _, _, _, _, _, _, _, HR.out, rfl⟩ | exact ⟨_, _, _, _, _, _, _, _, _, _, _, _, _, _, _, _, _, _, _, _, _, _, _, _, _, _, _, _, HR.out, rfl⟩ | exact ⟨_, _, _, _, _, _, _, _, _, _, _, _, _, _, _, _, _, _, _, _, _, _, _, _, _, _, _, _, _, _, _, _, HR.out, rfl⟩ | exact ⟨_, _, _, _, _, _, _, _, _, _, _, _, _, _, _, _, _, _, _, _, _, _, _, _, _, _, _, HR.out, rfl⟩ | exact ⟨_, _, _, _, _, _, _, _, _, _, _, _, _, _, _, _, _, _, _, _, _, _, _, _, _, _, HR.out, rfl⟩ | exact ⟨_, _, _, _, _, _, _, _, _, _, _, _, _, _, _, _, _, _, _, _, _, _, _, _, _, HR.out, rfl⟩
      obtain ⟨bk, ok, rfl, hck⟩ := HKC2.out k hin
      have hd0 : decide ((kn : Int) ≤ (k : Int)) = false := by simp; omega
      have hj1 : (k : Int) < (kn : Int) := by omega
      cases hkb : keepAt bs k with
      | false =>
        rw [hkb] at hck
        have HR : Hid _ := HKEEP.out _ (TurnsV.ofBelow HB4.out) (by rw [HNX.out, hkb]; exact OwX.same HX.out (SameIn.ofBelow HB4.out (by omega)))
        clear hkb HX HY HVO HMS HNX HT HB4 HKEEP HKC2
        go_wp2
        refine ⟨?_, by simp [intOf]; omega⟩
        first | exact HR.out | exact ⟨_, _, _, _, _, _, _, _, _, _, _, _, _, _, _, _, _, _, _, _, _, _, _, _, _, _, _, _, _, _, HR.out, rfl⟩ | exact ⟨_, _, _, _, _, _, _, _, _, _, _, _, _, _, _, _, _, _, _, _, _, _, _, _, _, _, _, _, _, _, _, HR.out, rfl⟩ | exact ⟨_, _, _, _, _, _, _, _, _, _, _, _, _, _, _, _, _, _, _, _, _, _, _, _, _, _, _, _, _, HR.out, rfl⟩ | exact ⟨_, _, _, _, _, _, _, _, _, _, _, _, _, _, _, _, _, _, _, _, _, _, _, _, _, _, _, _, HR.out, rfl⟩ | exact ⟨_, _, _, _, _, _, _, _, _, _, _, _, _, _, _, _, _, _, _, _, _, _, _, _, _, _, _, _, _, _, _, _, HR.out, rfl⟩ | exact ⟨_, _, _, _, _, _, _, _, _, _, _, _, _, _, _, _, _, _, _, _, _, _, _, _, _, _, _, HR.out, rfl⟩ | exact ⟨_, _, _, _, _, _, _, _, _, _, _, _, _, _, _, _, _, _, _, _, _, _, _, _, _, _, HR.out, rfl⟩ | exact ⟨_, _, _, _, _, _, _, _, _, _, _, _, _, _, _, _, _, _, _, _, _, _, _, _, _, HR.out, rfl⟩
      | true =>
        rw [hkb] at hck
        have HN2 : Hid (crashS d1 d2 bs torn (k + 1) = S0.set q (mixed (S0[q]?.getD []) zs (tornAt torn k))) := by show _ = _; rw [HNX.out, hkb]; rfl
        clear hkb HNX HKC2
        by_cases htk : (k : Int) = torn
        · have hc16 : tornAt torn k = 16 := by unfold tornAt; rw [if_pos htk]
          have hde : ((k : Int) == torn) = true := by simpa using htk
          have HN3 : Hid _ := HN2.out
          rw [hc16] at HN3
          clear htk hc16 HN2
          go_wp2_with fail
          refine Calls.mono (HMS.out 16 (by omega)) ?_
          rintro e w5 ⟨⟨u, rfl⟩, hX5, hg5⟩
          have hgv : TurnsV vs wr w5 := (TurnsV.ofBelow HB4.out).trans (TurnsV.ofGrown hg5 (fun q' hq' => ⟨q, HQV.out, hq'⟩))
          have HR : Hid _ := HKEEP.out w5 hgv (by rw [HN3.out]; exact hX5)
          clear HX HY HVO HMS hX5 hg5 hgv HN3 HT HB4 HKEEP h1 h2 hck
          go_wp2
          refine ⟨?_, by simp [intOf]; omega⟩
          first | exact HR.out | exact ⟨_, _, _, _, _, _, _, _, _, _, _, _, _, _, _, _, _, _, _, _, _, _, _, _, _, _, _, _, _, _, HR.out, rfl⟩ | exact ⟨_, _, _, _, _, _, _, _, _, _, _, _, _, _, _, _, _, _, _, _, _, _, _, _, _, _, _, _, _, _, _, HR.out, rfl⟩ | exact ⟨_, _, _, _, _, _, _, _, _, _, _, _, _, _, _, _, _, _, _, _, _, _, _, _, _, _, _, _, _, HR.out, rfl⟩ | exact ⟨_, _, _, _, _, _, _, _, _, _, _, _, _, _, _, _, _, _, _, _, _, _, _, _, _, _, _, _, HR.out, rfl⟩ | exact ⟨_, _, _, _, _, _, _, _, _, _, _, _, _, _, _, _, _, _, _, _, _, _, _, _, _, _, _, _, _, _, _, _, HR.out, rfl⟩ | exact ⟨_, _, _, _, _, _, _, _, _, _, _, _, _, _, _, _, _, _, _, _, _, _, _, _, _, _, _, HR.out, rfl⟩ | exact ⟨_, _, _, _, _, _, _, _, _, _, _, _, _, _, _, _, _, _, _, _, _, _, _, _, _, _, HR.out, rfl⟩ | exact ⟨_, _, _, _, _, _, _, _, _, _, _, _, _, _, _, _, _, _, _, _, _, _, _, _, _, HR.out, rfl⟩
        · have hc32 : tornAt torn k = 32 := by unfold tornAt; rw [if_neg htk]
          have hde : ((k : Int) == torn) = false := by simpa using htk
          have HN3 : Hid _ := HN2.out
          rw [hc32] at HN3
          clear htk hc32 HN2
          go_wp2_with fail
          refine Calls.mono (HMS.out 32 (by omega)) ?_
          rintro e w5 ⟨⟨u, rfl⟩, hX5, hg5⟩
          have hgv : TurnsV vs wr w5 := (TurnsV.ofBelow HB4.out).trans (TurnsV.ofGrown hg5 (fun q' hq' => ⟨q, HQV.out, hq'⟩))
          have HR : Hid _ := HKEEP.out w5 hgv (by rw [HN3.out]; exact hX5)
          clear HX HY HVO HMS hX5 hg5 hgv HN3 HT HB4 HKEEP h1 h2 hck
          go_wp2
          refine ⟨?_, by simp [intOf]; omega⟩
          first | exact HR.out | exact ⟨_, _, _, _, _, _, _, _, _, _, _, _, _, _, _, _, _, _, _, _, _, _, _, _, _, _, _, _, _, _, HR.out, rfl⟩ | exact ⟨_, _, _, _, _, _, _, _, _, _, _, _, _, _, _, _, _, _, _, _, _, _, _, _, _, _, _, _, _, _, _, HR.out, rfl⟩ | exact ⟨_, _, _, _, _, _, _, _, _, _, _, _, _, _, _, _, _, _, _, _, _, _, _, _, _, _, _, _, _, HR.out, rfl⟩ | exact ⟨_, _, _, _, _, _, _, _, _, _, _, _, _, _, _, _, _, _, _, _, _, _, _, _, _, _, _, _, HR.out, rfl⟩ | exact ⟨_, _, _, _, _, _, _, _, _, _, _, _, _, _, _, _, _, _, _, _, _, _, _, _, _, _, _, _, _, _, _, _, HR.out, rfl⟩ | exact ⟨_, _, _, _, _, _, _, _, _, _, _, _, _, _, _, _, _, _, _, _, _, _, _, _, _, _, _, HR.out, rfl⟩ | exact ⟨_, _, _, _, _, _, _, _, _, _, _, _, _, _, _, _, _, _, _, _, _, _, _, _, _, _, HR.out, rfl⟩ | exact ⟨_, _, _, _, _, _, _, _, _, _, _, _, _, _, _, _, _, _, _, _, _, _, _, _, _, HR.out, rfl⟩
    · have hkm : k = m := by omega
      subst hkm
      have c1 := vO.c1
      have f1 := vO.f 1
      have e1 : k = d2.length := HM.out
      replace hX : OwX wr l h x (crashS d1 d2 bs torn d2.length) vs := by rw [← e1]; exact hX
      have HX : Hid (OwX wr l h x (crashS d1 d2 bs torn d2.length) vs) := hX
      have HVO : Hid (VarD wr b _ _) := vO
      have HT : Hid (TurnsV vs w wr) := ht
      have hxb : ∀ q, x.ownBlock = some q → q ≠ b := fun q hq e => by
        subst e
        rcases hX.2.1.2 with ⟨h0, _⟩ | ⟨g, c, cur, h0, _, hh1, _⟩
        · rw [h0] at hq; cases hq
        · rw [h0] at hq; cases hq
          have := vO; unfold VarD at this
          rw [hh1] at this; simp at this
      have HXB : Hid _ := hxb
      clear hX vO ht hY e1 hxb
      go_wp2
      refine bodyPost_end (v := .tuple #[]) (by simp [results, Tryd.results55, go_sem]) rfl ⟨⟨_, rfl⟩, ?_, ?_, ?_⟩
      · refine OwX.keep HX.out (fun q hq => heap_setCell_other _ _ _ _ (HXB.out q hq)) (fun q hq => heap_setCell_other _ _ _ _ (fun e => HBN.out (by rw [← show q = b from e]; exact hq)))
      · show _ = _
        rw [heap_setCell_same _ _ _ _ _ _ HVO.out]; rfl
      · refine HT.out.more.trans ⟨rfl, rfl, rfl, by simp, fun q _ hq => heap_setCell_other _ _ _ _ (fun e => hq ⟨0, by simp, ?_⟩)⟩
        have e' : q = b := e
        rw [e']; rfl
end Go.Proofs.YtjhaanenkeceiaaDoor
end

section
/- What a crash leaves of a record that is cut off, as plain functions; no condition. -/
namespace Go.Proofs.YtjhaanenkeceiaaDoor
set_option linter.unusedVariables false

theorem sec_end (q : Nat) (zs : List Int) (k : Nat) : ∃ A, A.length = 30 ∧ secN q zs k = A ++ [(((q : Int) + 1) % 256), (((q : Int) + 1) / 256)] := by
  have h := pieceN_length zs k
  have h2 : Nat.min (zs.length - 24 * k) 24 ≤ 24 := Nat.min_le_right _ _
  refine ⟨[((q : Int) % 256), ((q : Int) / 256), (k : Int), (manyN zs.length : Int), (zs.length : Int), 0] ++ (pieceN zs k ++ List.replicate (24 - (pieceN zs k).length) 0), ?_, ?_⟩
  · simp; omega
  · unfold secN; simp only [List.append_assoc]
theorem sec_30 (q : Nat) (zs : List Int) (k : Nat) : (secN q zs k)[30]?.getD 0 = ((q : Int) + 1) % 256 ∧ (secN q zs k)[31]?.getD 0 = ((q : Int) + 1) / 256 := by
  obtain ⟨A, hA, e⟩ := sec_end q zs k
  rw [e]
  constructor
  · rw [List.getElem?_append_right (by omega), hA]; rfl
  · rw [List.getElem?_append_right (by omega), hA]; rfl
/-- Bytes 30 and 31 are 0. -/
def Dead (s : List Int) : Prop := s[30]?.getD 0 = 0 ∧ s[31]?.getD 0 = 0
theorem sec_alive (q : Nat) (zs : List Int) (k : Nat) : ¬ Dead (secN q zs k) := by
  rintro ⟨h1, h2⟩
  rw [(sec_30 q zs k).1] at h1
  rw [(sec_30 q zs k).2] at h2
  omega
theorem dead_zsec : Dead zsec := ⟨rfl, rfl⟩
theorem dead_half (s : List Int) (h : s.length = 32) : Dead (mixed zsec s 16) := by
  unfold mixed
  constructor
  · rw [List.getElem?_append_right (by simp [h]), List.length_take, h]; rfl
  · rw [List.getElem?_append_right (by simp [h]), List.length_take, h]; rfl
theorem read_at {S : List (List Int)} {P q : Nat} {r : List Int} (hw : ∀ i, i < S.length → (S[i]?.getD []).length = 32) (hr : readD S P q = some r) : ∀ i, i < manyN r.length → S[P + i]?.getD [] = secN q r i := by
  obtain ⟨h1, h2, h3, h4, h5, h6⟩ := read_parts hr
  intro i hi
  unfold matchB at h6
  rw [Bool.and_eq_true, decide_eq_true_eq, List.all_eq_true, ← h1, frameN_len] at h6
  have := h6.2 i (List.mem_range.2 hi)
  rw [frameN_at q r i hi] at this
  exact eq_of_beq this
theorem read_dead {S : List (List Int)} {P q : Nat} (hw : ∀ i, i < S.length → (S[i]?.getD []).length = 32) (h : Dead (S[P]?.getD [])) : readD S P q = none := by
  cases hr : readD S P q with
  | none => rfl
  | some r =>
    have := read_at hw hr 0 (manyN_pos _)
    rw [Nat.add_zero] at this
    rw [this] at h
    exact absurd h (sec_alive _ _ _)
theorem read_end {S : List (List Int)} {P q : Nat} (h : S.length ≤ P) : readD S P q = none := by
  unfold readD
  rw [if_neg (fun hc => by omega)]
/-- A frame of which a sector is dead is not read. -/
theorem read_torn {S : List (List Int)} {P q : Nat} {zs : List Int} (hw : ∀ i, i < S.length → (S[i]?.getD []).length = 32)
    (hat : ∀ i, i < manyN zs.length → S[P + i]?.getD [] = secN q zs i ∨ Dead (S[P + i]?.getD [])) (i0 : Nat) (hi0 : i0 < manyN zs.length) (hd : Dead (S[P + i0]?.getD [])) : readD S P q = none := by
  cases hr : readD S P q with
  | none => rfl
  | some r =>
    have hra := read_at hw hr
    have h0 := hra 0 (manyN_pos _)
    rcases hat 0 (by omega) with e | e
    · rw [e] at h0
      have h4 : (zs.length : Int) = (r.length : Int) := by rw [← sec_byte4 q zs 0, ← sec_byte4 q r 0, h0]
      have h5 : zs.length = r.length := by omega
      have := hra i0 (by rw [← h5]; exact hi0)
      rw [this] at hd
      exact absurd hd (sec_alive _ _ _)
    · rw [h0] at e
      exact absurd e (sec_alive _ _ _)

/-- A disk of thirty sectors with just these records, nothing behind them. -/
def Good (S : List (List Int)) (P q : Nat) (acc : List (List Int)) : Prop :=
  S.length = 30 ∧ (∀ i, i < S.length → (S[i]?.getD []).length = 32) ∧ P ≤ 3 * q ∧ (∀ i, P ≤ i → i < 30 → S[i]?.getD [] = zsec) ∧ openS S = (P, q, acc)
theorem Good.first : Good (List.replicate 30 zsec) 0 0 [] := by
  have hw : ∀ i, i < (List.replicate 30 zsec).length → ((List.replicate 30 zsec)[i]?.getD []) = zsec := fun i hi => by
    rw [List.length_replicate] at hi
    rw [List.getElem?_replicate, if_pos hi]; rfl
  refine ⟨by simp, fun i hi => by rw [hw i hi]; rfl, Nat.le_refl _, fun i _ hi => hw i (by simpa using hi), ?_⟩
  unfold openS
  rw [List.length_replicate, runN, read_dead (fun i hi => by rw [hw i hi]; rfl)]
  rw [hw 0 (by simp)]; exact dead_zsec
/-- Up to the end of what was there it is read as it was. -/
theorem Good.until {S S' : List (List Int)} {P q : Nat} {acc : List (List Int)} (g : Good S P q acc) (hl : S'.length = S.length) (hs : ∀ i, i < P → S'[i]?.getD [] = S[i]?.getD []) : ∃ k, openS S' = runN S' (k + 1) (P, q, acc) ∧ (P < 30 → 1 ≤ k) := by
  obtain ⟨h30, hw, hP, hz, ho⟩ := g
  obtain ⟨_, k', hk1, hk2⟩ := run_same (S' := S') hw hl hs (S.length + 1) 0 0 [] ho (by omega)
  have hle : (openS S).1 ≤ S.length := runN_le hw (S.length + 1) 0 0 [] (Nat.zero_le _)
  rw [ho] at hle
  dsimp only at hle
  obtain ⟨k, rfl⟩ : ∃ k, k' = k + 1 := ⟨k' - 1, by omega⟩
  refine ⟨k, ?_, fun h => by omega⟩
  unfold openS
  rw [hl, hk1]
theorem manyN_few {n : Nat} (h : n ≤ 69) : manyN n ≤ 3 := by unfold manyN; split <;> omega
/-- The frame laid whole. -/
theorem Good.laid {S S' : List (List Int)} {P q : Nat} {acc : List (List Int)} (g : Good S P q acc) (zs : List Int) (hz : zs.length ≤ 69) (hq : q ≤ 3) (hl : S'.length = S.length)
    (hat : ∀ i : Nat, S'[i]?.getD [] = if P ≤ i ∧ i < P + manyN zs.length then secN q zs (i - P) else S[i]?.getD []) : Good S' (P + manyN zs.length) (q + 1) (acc ++ [zs]) := by
  obtain ⟨k, hk, hk1⟩ := g.until hl (fun i hi => by rw [hat, if_neg (by omega)])
  have hm := manyN_few hz
  have hp := manyN_pos zs.length
  obtain ⟨h30, hw, hP, hzz, ho⟩ := g
  have hw' : ∀ i, i < S'.length → (S'[i]?.getD []).length = 32 := fun i hi => by
    rw [hat]
    split
    · exact secN_length _ _ _
    · exact hw i (by omega)
  have hzz' : ∀ i, P + manyN zs.length ≤ i → i < 30 → S'[i]?.getD [] = zsec := fun i h1 h2 => by rw [hat, if_neg (by omega)]; exact hzz i (by omega) h2
  refine ⟨by omega, hw', by omega, hzz', ?_⟩
  rw [hk, runN, read_frame (zs := zs) (by omega) (by omega) (by omega) (fun i hi => by rw [hat, if_pos (by omega), Nat.add_sub_cancel_left])]
  obtain ⟨k2, rfl⟩ : ∃ k2, k = k2 + 1 := ⟨k - 1, by have := hk1 (by omega); omega⟩
  dsimp only
  rw [runN, read_dead hw']
  rw [hzz' _ (Nat.le_refl _) (by omega)]
  exact dead_zsec
/-- The frame torn: nothing of it is read. -/
theorem Good.torn {S S' : List (List Int)} {P q : Nat} {acc : List (List Int)} (g : Good S P q acc) (zs : List Int) (hl : S'.length = S.length) (hw' : ∀ i, i < S'.length → (S'[i]?.getD []).length = 32)
    (hs : ∀ i, i < P → S'[i]?.getD [] = S[i]?.getD []) (hat : ∀ i, i < manyN zs.length → S'[P + i]?.getD [] = secN q zs i ∨ Dead (S'[P + i]?.getD [])) (i0 : Nat) (hi0 : i0 < manyN zs.length) (hd : Dead (S'[P + i0]?.getD [])) : openS S' = (P, q, acc) := by
  obtain ⟨k, hk, _⟩ := g.until hl hs
  rw [hk, runN, read_torn hw' hat i0 hi0 hd]
/-- What a crash leaves of the frame's sectors. -/
theorem crash_frame (S : List (List Int)) (P : Nat) (fr : List (List Int)) (bs : List Bool) (torn : Int) (hfit : P + fr.length ≤ S.length) :
    ∀ k, k ≤ fr.length → (crashS S (frameW P fr) bs torn k).length = S.length ∧ (∀ i : Nat, (crashS S (frameW P fr) bs torn k)[i]?.getD [] = if P ≤ i ∧ i < P + k ∧ keepAt bs (i - P) = true then mixed (S[i]?.getD []) (fr[i - P]?.getD []) (tornAt torn (i - P)) else S[i]?.getD []) := by
  intro k
  induction k with
  | zero =>
    intro _
    refine ⟨rfl, fun i => ?_⟩
    rw [if_neg (by omega)]; rfl
  | succ k ih =>
    intro hk
    obtain ⟨h1, h2⟩ := ih (by omega)
    have hwk : (frameW (P : Int) fr)[k]?.getD (0, []) = ((P : Int) + (k : Int), fr[k]?.getD []) := by
      unfold frameW
      rw [List.getElem?_mapIdx, List.getElem?_eq_getElem (show k < fr.length by omega)]
      rfl
    rw [crashS]
    by_cases hkp : keepAt bs k = true
    · rw [if_pos hkp, hwk]
      have htn : ((P : Int) + (k : Int)).toNat = P + k := by omega
      have hold : (crashS S (frameW P fr) bs torn k)[P + k]?.getD [] = S[P + k]?.getD [] := by rw [h2, if_neg (by omega)]
      unfold stepS
      simp only [htn]
      rw [hold]
      refine ⟨by rw [List.length_set]; exact h1, fun i => ?_⟩
      by_cases hi : i = P + k
      · subst hi
        rw [List.getElem?_set_self (by omega), if_pos ⟨by omega, by omega, by rw [Nat.add_sub_cancel_left]; exact hkp⟩, Nat.add_sub_cancel_left]
        rfl
      · rw [List.getElem?_set_ne (by omega), h2]
        by_cases h3 : P ≤ i ∧ i < P + k ∧ keepAt bs (i - P) = true
        · rw [if_pos h3, if_pos ⟨h3.1, by omega, h3.2.2⟩]
        · rw [if_neg h3, if_neg (fun h => h3 ⟨h.1, by omega, h.2.2⟩)]
    · rw [if_neg hkp]
      refine ⟨h1, fun i => ?_⟩
      rw [h2]
      by_cases hi : i = P + k
      · subst hi
        rw [if_neg (by omega), if_neg (fun h => hkp (by have := h.2.2; rwa [Nat.add_sub_cancel_left] at this))]
      · by_cases h3 : P ≤ i ∧ i < P + k ∧ keepAt bs (i - P) = true
        · rw [if_pos h3, if_pos ⟨h3.1, by omega, h3.2.2⟩]
        · rw [if_neg h3, if_neg (fun h => h3 ⟨h.1, by omega, h.2.2⟩)]
/-- Behind the crash: whole, or not at all. -/
theorem Good.crash {S : List (List Int)} {P q : Nat} {acc : List (List Int)} (g : Good S P q acc) (zs : List Int) (hz : zs.length ≤ 69) (hq : q ≤ 3) (bs : List Bool) (hb : bs.length = manyN zs.length) (torn : Int) :
    (bs.all id = true ∧ (torn < 0 ∨ (manyN zs.length : Int) ≤ torn) → openS (crashS S (frameW P (frameN q zs)) bs torn (manyN zs.length)) = (P + manyN zs.length, q + 1, acc ++ [zs])) ∧
    (¬ (bs.all id = true ∧ (torn < 0 ∨ (manyN zs.length : Int) ≤ torn)) → openS (crashS S (frameW P (frameN q zs)) bs torn (manyN zs.length)) = (P, q, acc)) := by
  have hm := manyN_few hz
  have hfl := frameN_len q zs
  obtain ⟨h1, h2⟩ := crash_frame S P (frameN q zs) bs torn (by rw [hfl]; have := g.1; have := g.2.2.1; omega) (manyN zs.length) (by rw [hfl]; exact Nat.le_refl _)
  generalize crashS S (frameW P (frameN q zs)) bs torn (manyN zs.length) = S' at h1 h2
  have hkeep : ∀ i, i < bs.length → (bs.all id = true → keepAt bs i = true) := fun i hi ha => by
    rw [List.all_eq_true] at ha
    have := ha _ (List.getElem_mem hi)
    simp only [keepAt, List.getElem?_eq_getElem hi]
    simpa using this
  constructor
  · rintro ⟨ha, ht⟩
    refine (g.laid (S' := S') zs hz hq h1 (fun i => ?_)).2.2.2.2
    rw [h2]
    by_cases hi : P ≤ i ∧ i < P + manyN zs.length
    · rw [if_pos ⟨hi.1, hi.2, hkeep _ (by omega) ha⟩, if_pos hi]
      have htt : tornAt torn (i - P) = 32 := by unfold tornAt; rw [if_neg (by omega)]
      rw [htt, frameN_at q zs _ (by omega), mixed_all (g.2.1 i (by have := g.1; have := g.2.2.1; omega)) (secN_length _ _ _)]
    · rw [if_neg (fun h => hi ⟨h.1, h.2.1⟩), if_neg hi]
  · intro hno
    have hin : ∀ i, P ≤ i → i < P + manyN zs.length → S[i]?.getD [] = zsec := fun i h3 h4 => g.2.2.2.1 i h3 (by have := g.2.2.1; omega)
    have hw' : ∀ i, i < S'.length → (S'[i]?.getD []).length = 32 := fun i hi => by
      rw [h2]
      split
      · rename_i hc
        refine mixed_length (g.2.1 i (by omega)) (by rw [frameN_at q zs _ (by omega)]; exact secN_length _ _ _) ?_
        exact tornAt_le _ _
      · exact g.2.1 i (by omega)
    have hat : ∀ i, i < manyN zs.length → S'[P + i]?.getD [] = secN q zs i ∨ Dead (S'[P + i]?.getD []) := fun i hi => by
      rw [h2, Nat.add_sub_cancel_left, hin (P + i) (by omega) (by omega)]
      by_cases hk : keepAt bs i = true
      · rw [if_pos ⟨by omega, by omega, hk⟩, frameN_at q zs i hi]
        unfold tornAt
        split
        · exact .inr (dead_half _ (secN_length _ _ _))
        · exact .inl (mixed_all rfl (secN_length _ _ _))
      · rw [if_neg (fun h => hk h.2.2)]; exact .inr dead_zsec
    have hbad : ∃ i0, i0 < manyN zs.length ∧ Dead (S'[P + i0]?.getD []) := by
      by_cases ha : bs.all id = true
      · have ht : 0 ≤ torn ∧ torn < (manyN zs.length : Int) := by
          refine ⟨?_, ?_⟩
          · exact Int.not_lt.1 (fun h => hno ⟨ha, .inl h⟩)
          · exact Int.not_le.1 (fun h => hno ⟨ha, .inr h⟩)
        obtain ⟨t, rfl⟩ : ∃ t : Nat, torn = (t : Int) := ⟨torn.toNat, by omega⟩
        refine ⟨t, by omega, ?_⟩
        rw [h2, Nat.add_sub_cancel_left, if_pos ⟨by omega, by omega, hkeep t (by omega) ha⟩, hin _ (by omega) (by omega), frameN_at q zs t (by omega)]
        have htt : tornAt (t : Int) t = 16 := by unfold tornAt; rw [if_pos rfl]
        rw [htt]
        exact dead_half _ (secN_length _ _ _)
      · have : ∃ i, i < bs.length ∧ keepAt bs i = false := by
          rw [List.all_eq_true] at ha
          have := Classical.not_forall.1 ha
          obtain ⟨b, hb'⟩ := this
          have hb2 := Classical.not_imp.1 hb'
          obtain ⟨i, hi, rfl⟩ := List.mem_iff_getElem.mp hb2.1
          refine ⟨i, hi, ?_⟩
          simp only [keepAt, List.getElem?_eq_getElem hi]
          simpa using hb2.2
        obtain ⟨i, hi, hk⟩ := this
        refine ⟨i, by omega, ?_⟩
        rw [h2, Nat.add_sub_cancel_left, if_neg (fun h => by rw [hk] at h; exact absurd h.2.2 (by decide)), hin _ (by omega) (by omega)]
        exact dead_zsec
    obtain ⟨i0, hi0, hd⟩ := hbad
    exact g.torn zs h1 hw' (fun i hi => by rw [h2, if_neg (by omega)]) hat i0 hi0 hd
/-- One record more. -/
theorem Good.append {S : List (List Int)} {P q : Nat} {acc : List (List Int)} (g : Good S P q acc) (zs : List Int) (hz : zs.length ≤ 69) (hq : q ≤ 3) : Good (flushS S (frameW P (frameN q zs))) (P + manyN zs.length) (q + 1) (acc ++ [zs]) := by
  have hm := manyN_few hz
  have hfl := frameN_len q zs
  obtain ⟨h1, h2⟩ := flush_frame S P (frameN q zs) g.2.1 (fun i hi => by rw [hfl] at hi; rw [frameN_at q zs i hi]; exact secN_length q zs i) (by rw [hfl]; have := g.1; have := g.2.2.1; omega) _ (Nat.le_refl _)
  rw [List.take_of_length_le (Nat.le_refl _)] at h1 h2
  rw [hfl] at h2
  refine g.laid zs hz hq h1 (fun i => ?_)
  rw [h2]
  split
  · rw [frameN_at q zs _ (by omega)]
  · rfl
end Go.Proofs.YtjhaanenkeceiaaDoor
end

section
/- The program's Append as a plain function; it leans on the package's error errNoSector. No condition of ours. -/
namespace Go.Proofs.YtjhaanenkeceiaaDoor
open Go.RowKit
set_option linter.unusedVariables false
set_option linter.unusedSimpArgs false
attribute [local go_sem ↓] Go.wp_at_zero Go.wp_at_succ

theorem four_other {w : World} {b k : Nat} {a c e f : Value} (h : k ≠ b) : ((((w.setCell ⟨b, 0, none⟩ a).setCell ⟨b, 1, none⟩ c).setCell ⟨b, 2, none⟩ e).setCell ⟨b, 3, none⟩ f).heap[k]? = w.heap[k]? := by
  rw [heap_setCell_other _ _ _ _ h, heap_setCell_other _ _ _ _ h, heap_setCell_other _ _ _ _ h, heap_setCell_other _ _ _ _ h]
theorem four_below {w w' : World} {B b : Nat} {a c e f : Value} (h : Below B w w') (hb : B ≤ b) : Below B w ((((w'.setCell ⟨b, 0, none⟩ a).setCell ⟨b, 1, none⟩ c).setCell ⟨b, 2, none⟩ e).setCell ⟨b, 3, none⟩ f) :=
  (((h.setCell hb _).setCell hb _).setCell hb _).setCell hb _
theorem four_size (w : World) (b : Nat) (a c e f : Value) : ((((w.setCell ⟨b, 0, none⟩ a).setCell ⟨b, 1, none⟩ c).setCell ⟨b, 2, none⟩ e).setCell ⟨b, 3, none⟩ f).heap.size = w.heap.size := by simp
theorem four_same {w : World} {l h b : Nat} {a c e f : Value} (hb : b < l) : SameIn l h w ((((w.setCell ⟨b, 0, none⟩ a).setCell ⟨b, 1, none⟩ c).setCell ⟨b, 2, none⟩ e).setCell ⟨b, 3, none⟩ f) :=
  ⟨by rw [four_size]; exact Nat.le_refl _, fun k h1 _ => four_other (by omega)⟩

/-- What add leaves of a journal: the record is there and flushed, or nothing has turned. -/
def AddedJ (w : World) (b : Nat) (x : Value) (d : Dk) (P Q : Nat) (zs : List Int) (vs : List Value) (l : Nat) (e : Ending) (w' : World) : Prop :=
  (e = .returned (.bool false) ∧ ¬ (zs.length ≤ 200 ∧ roomJ (d, (P : Int), (Q : Int)) zs = true) ∧ Below w.heap.size w w') ∨
  (e = .returned (.bool true) ∧ (zs.length ≤ 200 ∧ roomJ (d, (P : Int), (Q : Int)) zs = true) ∧ ∃ H, OwX w' l H x (flushS d.1 (d.2 ++ frameW P (frameN Q zs))) vs ∧ H ≤ w'.heap.size ∧ VarJ 30 w' b x (.slice none 0 0) ((P : Int) + (manyN zs.length : Int)) ((Q : Int) + 1) ∧
    (∀ k, k < l → k ≠ b → w'.heap[k]? = w.heap[k]?) ∧ w'.os = w.os ∧ w'.tape = w.tape ∧ w'.output = w.output ∧ w.heap.size ≤ w'.heap.size)
set_option maxRecDepth 100000 in
set_option maxHeartbeats 4000000 in
theorem addJ_any (b : Nat) (x y : Value) (d : Dk) (P Q : Nat) (vs xs : List Value) (sv : Value) (zs : List Int) (lz hz l h : Nat) (w : World) (v0 : VarJ 30 w b x y (P : Int) (Q : Int)) (o1 : OwX w l h x d.1 vs) (o2 : OwY w l h y d.2 xs) (ha : ∀ q, Blk vs q → ¬ Blk xs q) (hh : h ≤ w.heap.size)
    (hlw : l ≤ w.heap.size) (rz : RdB w lz hz sv zs) (hhz : hz ≤ w.heap.size) (hp : P ≤ d.1.length) (hq : Q ≤ 60000) (hok : okD d = true) :
    Calls Tryd.prog 38 #[.pointer (some ⟨b, 0, none⟩), sv] w (AddedJ w b x d P Q zs vs l) := by
  have HWR : Hid _ := jwriteI_any b x y d P Q vs xs sv zs lz hz l h w v0 o1 o2 ha hh hlw rz hhz hp hq hok
  have HOKF : Hid (roomJ (d, (P : Int), (Q : Int)) zs = true → okD (d.1, d.2 ++ frameW P (frameN Q zs)) = true) := fun h => okD_frame hok h
  obtain ⟨sa, sn, sc, rfl⟩ := rz.sliced
  clear v0 o1 o2 ha rz
  go_enter Tryd.func38, Tryd.ntmps38
  go_wp2_with fail
  refine Calls.mono HWR.out ?_
  rintro e w5 (⟨rfl, hno, b5⟩ | ⟨rfl, hyes, y5, xs5, v5, oX5, oY5, ha5, far5, hos5, htp5, hou5, s5⟩)
  · have HN : Hid _ := hno
    have HB : Hid (Below w.heap.size w w5) := b5
    clear hno b5 HWR
    go_wp2
    go_ret
    exact .inl ⟨rfl, HN.out, HB.out⟩
  · have hbo : ¬ Blk vs b := fun ⟨i, hi, hk⟩ => row_ne v5 (oX5.2.2.2.1 i hi).2.1 (by decide) _ hk rfl
    have HFLU : Hid _ := flushJ_any _ _ b _ y5 (d.1, d.2 ++ frameW P (frameN Q zs)) vs xs5 l w5.heap.size w5 v5 oX5 oY5 ha5 hbo (Nat.le_refl _) (HOKF.out hyes.2)
    have HLX : Hid _ := oX5.lt
    have HY : Hid _ := hyes
    have HF : Hid _ := far5
    have HE : Hid _ := And.intro hos5 (And.intro htp5 (And.intro hou5 s5))
    clear v5 oX5 oY5 ha5 far5 hos5 htp5 hou5 s5 hbo HWR hyes
    go_wp2_with fail
    refine Calls.mono HFLU.out ?_
    rintro e w6 ⟨⟨u6, rfl⟩, oX6, vO6, t6⟩
    have HX6 : Hid _ := oX6
    have HV6 : Hid _ := vO6
    have HT6 : Hid _ := t6
    clear oX6 vO6 t6 HFLU
    go_wp2
    go_ret
    refine .inr ⟨rfl, HY.out, w5.heap.size, HX6.out, HT6.out.size, HV6.out, fun k hk hb => ?_, HT6.out.os.trans HE.out.1, HT6.out.tape.trans HE.out.2.1, HT6.out.output.trans HE.out.2.2.1, Nat.le_trans HE.out.2.2.2 HT6.out.size⟩
    refine (HT6.out.block k (by have := HE.out.2.2.2; omega) (fun hbk => ?_)).trans (HF.out k hk hb)
    obtain ⟨i, hi, hkk⟩ := hbk
    cases i with
    | zero => have := slice_block (show (Value.slice (some ⟨b, 0, none⟩) 0 0).ownBlock = some k by simpa using hkk); simp at this; omega
    | succ i => have := HLX.out k ⟨i, by simpa using hi, by simpa using hkk⟩; omega

set_option maxRecDepth 100000 in
set_option maxHeartbeats 4000000 in
theorem implAppend_all (j : Jn) (zs : List Int) (a : Addr) (w : World) (jv : Value) (l h : Nat) (sv : Value) (lz hz : Nat) (rj : RdJ w l h jv j) (hh : h ≤ w.heap.size) (rz : RdB w lz hz sv zs) (hhz : hz ≤ w.heap.size) (hg : Glob w a) :
    Calls Tryd.prog 8 #[jv, sv] w fun e w' => ∃ x, e = .returned (.tuple #[x, .bool (appendJ j zs).2]) ∧ OwJ2 w' w.heap.size w'.heap.size x (appendJ j zs).1 ∧ Below w.heap.size w w' := by
  obtain ⟨d, p, q⟩ := j
  obtain ⟨xa, xn, xc, ya, yn, yc, rfl, r⟩ := rj.open
  have hlt := hg.lt
  have b0 := Below.new (w := w) (.cells #[.slice xa xn xc, .slice ya yn yc, .int .i64 p, .int .i64 q] 30)
  have v0 := VarJ.new (T := 30) w (.slice xa xn xc) (.slice ya yn yc) p q
  generalize hw0 : w.alloc (.cells #[.slice xa xn xc, .slice ya yn yc, .int .i64 p, .int .i64 q] 30) = w0 at b0 v0
  have s0 : w0.heap.size = w.heap.size + 1 := by rw [← hw0]; simp
  have b1 := Below.new (w := w0) (.cells #[.slice none 0 0, .slice none 0 0, .int .i64 0, .int .i64 0] 30)
  have vR := VarJ.new (T := 30) w0 (.slice none 0 0) (.slice none 0 0) 0 0
  rw [s0] at vR
  have v1 := v0.step b1
  generalize hw1 : w0.alloc (.cells #[.slice none 0 0, .slice none 0 0, .int .i64 0, .int .i64 0] 30) = w1 at b1 vR v1
  have B1 : Below w.heap.size w w1 := b0.trans (b1.mono (by omega))
  have r1 := r.step hh B1
  have sR := vR.lt
  have HOK : Hid _ := jokI_any w.heap.size _ _ p q d l h a w1 v1 r1 (by omega) (hg.step B1 hlt)
  have HW : Hid ((w.alloc (.cells #[.slice xa xn xc, .slice ya yn yc, .int .i64 p, .int .i64 q] 30)).alloc (.cells #[.slice none 0 0, .slice none 0 0, .int .i64 0, .int .i64 0] 30) = w1) := by show _ = _; rw [hw0, hw1]
  have HR1 : Hid (RdD w1 l h _ d) := r1
  have HV1 : Hid (VarJ 30 w1 w.heap.size _ _ _ _) := v1
  have HVR : Hid (VarJ 30 w1 (w.heap.size + 1) _ _ _ _) := vR
  have HB1 : Hid (Below w.heap.size w w1) := B1
  have HZ : Hid (RdB w lz hz sv zs) := rz
  obtain ⟨sa, sn, sc, rfl⟩ := rz.sliced
  clear hw0 hw1 r hg b0 v0 b1 vR v1 r1 B1 s0 rj rz
  by_cases hok : okJ (d, p, q) = true
  case neg =>
    have hok' : okJ (d, p, q) = false := by simpa using hok
    have hfd : appendJ (d, p, q) zs = ((([], []), 0, 0), false) := by unfold appendJ; rw [if_neg hok]
    rw [hok'] at HOK
    rw [hfd]
    clear hok hok' hfd HZ
    go_enter Tryd.func8, Tryd.ntmps8
    go_wp2_with fail
    rw [HW.out]
    refine Calls.mono HOK.out ?_
    rintro e w2 ⟨rfl, b2⟩
    have vR2 := VarJ.step HVR.out b2
    have HB2 : Hid (Below w.heap.size w w2) := HB1.out.trans (b2.mono HB1.out.size)
    have e0 := vR2.c0
    have e1 := vR2.c1
    have e2 := vR2.c2
    have e3 := vR2.c3
    have f0 := vR2.f 0
    have f1 := vR2.f 1
    have f2 := vR2.f 2
    have f3 := vR2.f 3
    clear b2 vR2 HR1 HV1 HVR HB1 HOK
    go_wp2
    refine bodyPost_ret (v := .tuple #[.agg #[.slice none 0 0, .slice none 0 0, .int .i64 0, .int .i64 0], .bool false]) (by simp [results, Tryd.results8, go_sem, e0, e1, e2, e3]) rfl ⟨_, rfl, ⟨_, _, rfl, OwD2_nil _ _ _⟩, four_below HB2.out (Nat.le_succ _)⟩
  have hpar := hok
  unfold okJ at hpar
  simp only [Bool.and_eq_true, decide_eq_true_eq] at hpar
  obtain ⟨⟨⟨⟨hd, hp0⟩, hP⟩, hq0⟩, hQ⟩ := hpar
  obtain ⟨P, rfl⟩ : ∃ P : Nat, p = (P : Int) := ⟨p.toNat, by omega⟩
  obtain ⟨Q, rfl⟩ : ∃ Q : Nat, q = (Q : Int) := ⟨q.toNat, by omega⟩
  replace hP : P ≤ d.1.length := by omega
  replace hQ : Q ≤ 60000 := by omega
  rw [hok] at HOK
  have HOKD : Hid (okD d = true) := hd
  by_cases hyes : zs.length ≤ 200 ∧ roomJ (d, (P : Int), (Q : Int)) zs = true
  case neg =>
    have hfd : appendJ (d, (P : Int), (Q : Int)) zs = ((d, (P : Int), (Q : Int)), false) := by unfold appendJ; rw [if_pos hok, if_neg hyes]
    rw [hfd]
    have HNO : Hid _ := hyes
    clear hok hd hp0 hq0 hyes hfd
    go_enter Tryd.func8, Tryd.ntmps8
    go_wp2_with fail
    rw [HW.out]
    refine Calls.mono HOK.out ?_
    rintro e w2 ⟨rfl, b2⟩
    have v2 := VarJ.step HV1.out b2
    have vR2 := VarJ.step HVR.out b2
    have r2 := RdD.step HR1.out (by omega) b2
    have B2 := HB1.out.trans (b2.mono HB1.out.size)
    have s2 := b2.size
    have hp9 := r2
    obtain ⟨x', y', he, r21, r22⟩ := hp9
    simp only [Value.agg.injEq, Array.mk.injEq, List.cons.injEq, and_true] at he
    obtain ⟨rfl, rfl⟩ := he
    have HCL : Hid _ := jcloneI_any w.heap.size _ _ (P : Int) (Q : Int) d l h w2 v2 r21 r22 (by omega) HOKD.out
    have HVR2 : Hid (VarJ 30 w2 (w.heap.size + 1) _ _ _ _) := vR2
    have HB2 : Hid (Below w.heap.size w w2) := B2
    clear r21 r22 r2 v2 vR2 b2 B2 HR1 HV1 HVR HB1 HOK
    go_wp2_with fail
    refine Calls.mono HCL.out ?_
    rintro e w3 ⟨u, rfl, oJ, b3⟩
    obtain ⟨ux, uy, rfl, oU⟩ := oJ
    obtain ⟨pa, pn, pc, qa, qn, qc, he⟩ := oU.rd.open
    simp only [Value.agg.injEq, Array.mk.injEq, List.cons.injEq, and_true] at he
    obtain ⟨rfl, rfl⟩ := he
    have s3 := b3.size
    have b4 := Below.new (w := w3) (.cells #[.slice pa pn pc, .slice qa qn qc, .int .i64 (P : Int), .int .i64 (Q : Int)] 30)
    have vO := VarJ.new (T := 30) w3 (.slice pa pn pc) (.slice qa qn qc) (P : Int) (Q : Int)
    have vR4 := (VarJ.step HVR2.out b3).step b4
    have oU4 := oU.step (Nat.le_refl _) b4
    have B3 := HB2.out.trans (b3.mono HB2.out.size)
    have B4 := B3.trans (b4.mono B3.size)
    generalize hw4 : w3.alloc (.cells #[.slice pa pn pc, .slice qa qn qc, .int .i64 (P : Int), .int .i64 (Q : Int)] 30) = w4 at b4 vO vR4 oU4 B4
    have HW4 : Hid _ := hw4
    have s4 := vO.lt
    obtain ⟨x', y', vs, xs, he, oX, oY, hap⟩ := oU4
    simp only [Value.agg.injEq, Array.mk.injEq, List.cons.injEq, and_true] at he
    obtain ⟨rfl, rfl⟩ := he
    have HWR : Hid _ := addJ_any w3.heap.size _ _ d P Q vs xs (.slice sa sn sc) zs lz hz w2.heap.size w3.heap.size w4 vO oX oY hap (by omega) (by omega) (HZ.out.same (SameIn.ofBelow B4 hhz)) (by have := B4.size; omega) hP hQ HOKD.out
    have HVR4 : Hid (VarJ 30 w4 (w.heap.size + 1) _ _ _ _) := vR4
    have HVO : Hid (VarJ 30 w4 w3.heap.size _ _ _ _) := vO
    have HB4 : Hid (Below w.heap.size w w4) := B4
    have HX4 : Hid (OwX w4 w2.heap.size w3.heap.size _ d.1 vs) := oX
    have HY4 : Hid (OwY w4 w2.heap.size w3.heap.size _ d.2 xs) := oY
    have HAP : Hid _ := hap
    clear hw4 oX oY hap vO vR4 B3 B4 b4 b3 oU HVR2 HB2 HCL HZ
    go_wp2_with (rw [HW4.out])
    refine Calls.mono HWR.out ?_
    rintro e w5 (⟨rfl, _, b5⟩ | ⟨_, hyes, _⟩)
    case inr => exact absurd hyes HNO.out
    have s5 := b5.size
    have vO5 := VarJ.step HVO.out b5
    have vR5 := VarJ.step HVR4.out b5
    have k0 := vO5.c0
    have k1 := vO5.c1
    have k2 := vO5.c2
    have k3 := vO5.c3
    have e0 := vR5.c0
    have e1 := vR5.c1
    have e2 := vR5.c2
    have e3 := vR5.c3
    have f0 := vR5.f 0
    have f1 := vR5.f 1
    have f2 := vR5.f 2
    have f3 := vR5.f 3
    have HB5 : Hid (Below w.heap.size w w5) := HB4.out.trans (b5.mono HB4.out.size)
    have HX5 : Hid (OwX w5 w2.heap.size w3.heap.size _ d.1 vs) := OwX.same HX4.out (SameIn.ofBelow b5 (by omega))
    have HY5 : Hid (OwY w5 w2.heap.size w3.heap.size _ d.2 xs) := OwY.same HY4.out (SameIn.ofBelow b5 (by omega))
    clear b5 vO5 vR5 HB4 HX4 HY4 HVR4 HVO HWR HNO
    go_wp2
    refine bodyPost_ret (v := .tuple #[.agg #[.slice pa pn pc, .slice qa qn qc, .int .i64 (P : Int), .int .i64 (Q : Int)], .bool false]) (by simp [results, Tryd.results8, go_sem, e0, e1, e2, e3]) rfl ⟨_, rfl, ⟨_, _, rfl, _, _, vs, xs, rfl, (OwX.same HX5.out (four_same (by omega))).wide (by omega) (by rw [four_size]; omega), (OwY.same HY5.out (four_same (by omega))).wide (by omega) (by rw [four_size]; omega), HAP.out⟩, four_below HB5.out (Nat.le_succ _)⟩
  have hfd : appendJ (d, (P : Int), (Q : Int)) zs = (((flushS d.1 (d.2 ++ frameW P (frameN Q zs)), []), (P : Int) + (manyN zs.length : Int), (Q : Int) + 1), true) := by unfold appendJ; rw [if_pos hok, if_pos hyes]; simp
  rw [hfd]
  have HYES : Hid _ := hyes
  have HOKF : Hid (okD (d.1, d.2 ++ frameW P (frameN Q zs)) = true) := okD_frame hd hyes.2
  clear hok hd hp0 hq0 hyes hfd
  go_enter Tryd.func8, Tryd.ntmps8
  go_wp2_with fail
  rw [HW.out]
  refine Calls.mono HOK.out ?_
  rintro e w2 ⟨rfl, b2⟩
  have v2 := VarJ.step HV1.out b2
  have vR2 := VarJ.step HVR.out b2
  have r2 := RdD.step HR1.out (by omega) b2
  have B2 := HB1.out.trans (b2.mono HB1.out.size)
  have s2 := b2.size
  have hp9 := r2
  obtain ⟨x', y', he, r21, r22⟩ := hp9
  simp only [Value.agg.injEq, Array.mk.injEq, List.cons.injEq, and_true] at he
  obtain ⟨rfl, rfl⟩ := he
  have HCL : Hid _ := jcloneI_any w.heap.size _ _ (P : Int) (Q : Int) d l h w2 v2 r21 r22 (by omega) HOKD.out
  have HVR2 : Hid (VarJ 30 w2 (w.heap.size + 1) _ _ _ _) := vR2
  have HB2 : Hid (Below w.heap.size w w2) := B2
  clear r21 r22 r2 v2 vR2 b2 B2 HR1 HV1 HVR HB1 HOK
  go_wp2_with fail
  refine Calls.mono HCL.out ?_
  rintro e w3 ⟨u, rfl, oJ, b3⟩
  obtain ⟨ux, uy, rfl, oU⟩ := oJ
  obtain ⟨pa, pn, pc, qa, qn, qc, he⟩ := oU.rd.open
  simp only [Value.agg.injEq, Array.mk.injEq, List.cons.injEq, and_true] at he
  obtain ⟨rfl, rfl⟩ := he
  have s3 := b3.size
  have b4 := Below.new (w := w3) (.cells #[.slice pa pn pc, .slice qa qn qc, .int .i64 (P : Int), .int .i64 (Q : Int)] 30)
  have vO := VarJ.new (T := 30) w3 (.slice pa pn pc) (.slice qa qn qc) (P : Int) (Q : Int)
  have vR4 := (VarJ.step HVR2.out b3).step b4
  have oU4 := oU.step (Nat.le_refl _) b4
  have B3 := HB2.out.trans (b3.mono HB2.out.size)
  have B4 := B3.trans (b4.mono B3.size)
  generalize hw4 : w3.alloc (.cells #[.slice pa pn pc, .slice qa qn qc, .int .i64 (P : Int), .int .i64 (Q : Int)] 30) = w4 at b4 vO vR4 oU4 B4
  have HW4 : Hid _ := hw4
  have s4 := vO.lt
  obtain ⟨x', y', vs, xs, he, oX, oY, hap⟩ := oU4
  simp only [Value.agg.injEq, Array.mk.injEq, List.cons.injEq, and_true] at he
  obtain ⟨rfl, rfl⟩ := he
  have HWR : Hid _ := addJ_any w3.heap.size _ _ d P Q vs xs (.slice sa sn sc) zs lz hz w2.heap.size w3.heap.size w4 vO oX oY hap (by omega) (by omega) (HZ.out.same (SameIn.ofBelow B4 hhz)) (by have := B4.size; omega) hP hQ HOKD.out
  have HVR4 : Hid (VarJ 30 w4 (w.heap.size + 1) _ _ _ _) := vR4
  have HVO : Hid (VarJ 30 w4 w3.heap.size _ _ _ _) := vO
  have HB4 : Hid (Below w.heap.size w w4) := B4
  have HX4 : Hid (OwX w4 w2.heap.size w3.heap.size _ d.1 vs) := oX
  have HY4 : Hid (OwY w4 w2.heap.size w3.heap.size _ d.2 xs) := oY
  have HAP : Hid _ := hap
  clear hw4 oX oY hap vO vR4 B3 B4 b4 b3 oU HVR2 HB2 HCL HZ
  go_wp2_with (rw [HW4.out])
  refine Calls.mono HWR.out ?_
  rintro e w6 (⟨_, hno, _⟩ | ⟨rfl, _, H6, oX6, hH6, vO6, far6, hos6, htp6, hou6, s6⟩)
  case inl => exact absurd HYES.out hno
  have hrl : w.heap.size + 1 < w2.heap.size := by omega
  have vR6 : VarJ 30 w6 (w.heap.size + 1) (.slice none 0 0) (.slice none 0 0) 0 0 := (far6 _ hrl (by omega)).trans HVR4.out
  have B6 : Below w.heap.size w w6 := ⟨hos6.trans HB4.out.os, htp6.trans HB4.out.tape, hou6.trans HB4.out.output, Nat.le_trans HB4.out.size s6, fun k hk => (far6 k (by omega) (by omega)).trans (HB4.out.block k hk)⟩
  have k0 := vO6.c0
  have k1 := vO6.c1
  have k2 := vO6.c2
  have k3 := vO6.c3
  have e0 := vR6.c0
  have e1 := vR6.c1
  have e2 := vR6.c2
  have e3 := vR6.c3
  have f0 := vR6.f 0
  have f1 := vR6.f 1
  have f2 := vR6.f 2
  have f3 := vR6.f 3
  have HX6 : Hid (OwX w6 w2.heap.size H6 _ (flushS d.1 (d.2 ++ frameW P (frameN Q zs))) vs) := oX6
  have HB6 : Hid (Below w.heap.size w w6) := B6
  clear oX6 B6 far6 hos6 htp6 hou6 vO6 vR6 HB4 HX4 HY4 HVR4 HVO HWR HYES HAP HOKF
  go_wp2
  refine bodyPost_ret (v := .tuple #[.agg #[.slice pa pn pc, .slice none 0 0, .int .i64 ((P : Int) + (manyN zs.length : Int)), .int .i64 ((Q : Int) + 1)], .bool true]) (by simp [results, Tryd.results8, go_sem, e0, e1, e2, e3]) rfl ⟨_, rfl, ⟨_, _, rfl, _, _, vs, [], rfl, (OwX.same HX6.out (four_same (by omega))).wide (by omega) (by rw [four_size]; omega), OwY_nil _ _ _, fun q _ => no_blk q⟩, four_below HB6.out (Nat.le_succ _)⟩
end Go.Proofs.YtjhaanenkeceiaaDoor
end

section
/- The program's Open of a disk that is DiskOk and on which nothing waits; it leans on the package's error errNoSector. -/
namespace Go.Proofs.YtjhaanenkeceiaaDoor
open Go.RowKit Go.Shelf
set_option linter.unusedVariables false
set_option linter.unusedSimpArgs false
attribute [local go_sem] Oper.semAt_some
attribute [local go_sem ↓] Go.wp_at_zero Go.wp_at_succ

theorem heap_put {w : World} {L k : Nat} {o : Obj} (h : k ≠ L) : (w.putObj L o).heap[k]? = w.heap[k]? := World.putObj_heap_other h
theorem cell_row1 {w : World} {c : Nat} {v : Value} {t : TypeId} (h : w.heap[c]? = some (.cells #[v] t (0, 0))) : w.cell? ⟨c, 0, none⟩ = some v := by rw [cell_of_row _ _ _ _ _ _ h]; rfl

theorem four_other2 {w : World} {b k : Nat} {a c e f : Value} (h : k ≠ b) : ((((w.setCell ⟨b, 0, none⟩ a).setCell ⟨b, 1, none⟩ c).setCell ⟨b, 2, none⟩ e).setCell ⟨b, 3, none⟩ f).heap[k]? = w.heap[k]? := by
  rw [heap_setCell_other _ _ _ _ h, heap_setCell_other _ _ _ _ h, heap_setCell_other _ _ _ _ h, heap_setCell_other _ _ _ _ h]
theorem four_below2 {w w' : World} {B b : Nat} {a c e f : Value} (h : Below B w w') (hb : B ≤ b) : Below B w ((((w'.setCell ⟨b, 0, none⟩ a).setCell ⟨b, 1, none⟩ c).setCell ⟨b, 2, none⟩ e).setCell ⟨b, 3, none⟩ f) :=
  (((h.setCell hb _).setCell hb _).setCell hb _).setCell hb _
theorem four_same2 {w : World} {l h b : Nat} {a c e f : Value} (hb : b < l) : SameIn l h w ((((w.setCell ⟨b, 0, none⟩ a).setCell ⟨b, 1, none⟩ c).setCell ⟨b, 2, none⟩ e).setCell ⟨b, 3, none⟩ f) :=
  ⟨by simp, fun k h1 _ => four_other2 (by omega)⟩
/-- What behind the loop is left. -/
def FinI (b c D L : Nat) (x y : Value) (wb : World) (H : Nat) (S : List (List Int)) (W : World) : Prop := ∃ r P q acc, RecI b c D L x y r wb H S P q acc W ∧ readD S P q = none

set_option maxRecDepth 100000 in
set_option maxHeartbeats 4000000 in
/-- reopen, of a journal's variable on top of all: what lies on its disk. -/
theorem reopen_any (w3 w4 : World) (pa : Option Addr) (pn pc : Nat) (qa : Option Addr) (qn qc : Nat) (P0 Q0 : Int) (d1 : List (List Int)) (lS : Nat) (a : Addr) (vJ : VarJ 30 w4 w3.heap.size (.slice pa pn pc) (.slice qa qn qc) P0 Q0) (b4 : Below w3.heap.size w3 w4) (s4 : w4.heap.size = w3.heap.size + 1)
    (rS : RdBB w3 lS w3.heap.size (.slice pa pn pc) d1) (hg : Glob w3 a) (hS2 : d1.length ≤ 2000) (hw32 : ∀ i, i < d1.length → (d1[i]?.getD []).length = 32) (hbz : ∀ i : Nat, isBytes (d1[i]?.getD [])) :
    Calls Tryd.prog 50 #[.pointer (some ⟨w3.heap.size, 0, none⟩)] w4 fun e w' => ∃ V vs, e = .returned V ∧ VarJ 30 w' w3.heap.size (.slice pa pn pc) (.slice qa qn qc) ((openS d1).1 : Int) ((openS d1).2.1 : Int) ∧ OwX w' (w3.heap.size + 1) w'.heap.size V (openS d1).2.2 vs ∧ Below w3.heap.size w3 w' ∧ w3.heap.size + 1 ≤ w'.heap.size := by
  have hgl := hg.lt
  have vZ := (VarJ.set2 vJ 0).set3 0
  have bz : Below w3.heap.size w3 ((w4.setCell ⟨w3.heap.size, 2, none⟩ (.int .i64 0)).setCell ⟨w3.heap.size, 3, none⟩ (.int .i64 0)) := (b4.setCell (Nat.le_refl _) _).setCell (Nat.le_refl _) _
  have sz : ((w4.setCell ⟨w3.heap.size, 2, none⟩ (.int .i64 0)).setCell ⟨w3.heap.size, 3, none⟩ (.int .i64 0)).heap.size = w3.heap.size + 1 := by simp [s4]
  generalize hwz : (w4.setCell ⟨w3.heap.size, 2, none⟩ (.int .i64 0)).setCell ⟨w3.heap.size, 3, none⟩ (.int .i64 0) = wz at vZ bz sz
  have b5 := Below.new (w := wz) (.cells #[.slice none 0 0] 23)
  have hc5 := heap_alloc_new wz (.cells #[.slice none 0 0] 23)
  rw [sz] at hc5
  have vJ5 := vZ.step b5
  generalize hw5 : wz.alloc (.cells #[.slice none 0 0] 23) = w5 at b5 hc5 vJ5
  have s5 : w5.heap.size = w3.heap.size + 2 := by rw [← hw5]; simp; omega
  have HW5 : Hid (((w4.setCell ⟨w3.heap.size, 2, none⟩ (.int .i64 0)).setCell ⟨w3.heap.size, 3, none⟩ (.int .i64 0)).alloc (.cells #[.slice none 0 0] 23) = w5) := by show _ = _; rw [hwz, hw5]
  have B35 : Below w3.heap.size w3 w5 := bz.trans (b5.mono (by omega))
  obtain ⟨L, hL⟩ : ∃ L, L = w5.heap.size + 1 := ⟨_, rfl⟩
  have hD : w5.heap.size = w3.heap.size + 2 := s5
  have HG3 : Hid (Glob w3 a) := hg
  have HVJ5 : Hid (VarJ _ w5 w3.heap.size _ _ _ _) := vJ5
  have HC5 : Hid _ := hc5
  have HB35 : Hid (Below w3.heap.size w3 w5) := B35
  have HRS3 : Hid (RdBB w3 lS w3.heap.size (.slice pa pn pc) d1) := rS
  have HW32 : Hid (∀ i, i < d1.length → (d1[i]?.getD []).length = 32) := hw32
  have HBZ : Hid (∀ i : Nat, isBytes (d1[i]?.getD [])) := hbz
  have k2 := vJ.c2
  have k3 := vJ.c3
  have f2 := vJ.f 2
  have f3 := vJ.f 3
  obtain ⟨i0, hi, hz0, hz1, hz2⟩ := info_parts Tryd.infoBB
  clear hwz hw5 b5 vZ bz sz vJ5 hc5 B35 rS hg hw32 hbz vJ b4
  refine (callsIn_wide (n := 9)).1 ?_
  refine callsIn_of_wp_marks Tryd.func50 rfl trivial ?_ rfl
  simp only [Tryd.ntmps50, List.size_toArray, List.length_cons, List.length_nil, Nat.reduceAdd, Nat.reduceSub, Array.replicate_succ, Array.replicate_zero, List.push_toArray, List.append_toArray, List.nil_append, List.cons_append]
  refine wpIn_wide.2 ?_
  go_wp2_with (rw [HW5.out])
  clear k2 k3 f2 f3
  refine range_st (gf := 76) (bnd := #[.pointer (some ⟨w3.heap.size, 0, none⟩)]) rfl (enters_of Tryd.func76 (by kernel_rfl) rfl)
    (FinI w3.heap.size (w3.heap.size + 1) w5.heap.size L (.slice pa pn pc) (.slice qa qn qc) w3 w3.heap.size d1) ?_ ?_
  · intro fn
    rw [← hL]
    generalize hr : recOf _ _ _ _ _ _ _ = rr
    have ba := Below.new (w := w5) (.deferred (some []))
    have bb := Below.new (w := w5.alloc (.deferred (some []))) (.loop rr)
    have ha : (w5.alloc (.deferred (some []))).heap[w5.heap.size]? = some (.deferred (some [])) := World.alloc_heap_new _ _
    have hb : ((w5.alloc (.deferred (some []))).alloc (.loop rr)).heap[L]? = some (.loop rr) := by
      have := World.alloc_heap_new (w5.alloc (.deferred (some []))) (.loop rr)
      rw [World.size_alloc, ← hL] at this; exact this
    have hsa : (w5.alloc (.deferred (some []))).heap.size = w5.heap.size + 1 := by simp
    have bab : Below w5.heap.size w5 ((w5.alloc (.deferred (some []))).alloc (.loop rr)) := ba.trans (bb.mono (by omega))
    have RI : RecI w3.heap.size (w3.heap.size + 1) w5.heap.size L (.slice pa pn pc) (.slice qa qn qc) rr w3 w3.heap.size d1 0 0 [] ((w5.alloc (.deferred (some []))).alloc (.loop rr)) := by
      refine ⟨VarJ.step HVJ5.out bab, ⟨.slice none 0 0, [], (bab.block _ (by omega)).trans HC5.out, ?_⟩, hb, (bb.block _ (by omega)).trans ha, HB35.out.trans (bab.mono (by omega)), OpenAt.start d1⟩
      exact ⟨rfl, World.ownsRow_nil _ _ _ _, fun k h => by simp [Value.ownBlock] at h, fun i hi => absurd hi (Nat.not_lt_zero _), fun i j q _ hj => absurd hj (Nat.not_lt_zero _)⟩
    have HYO : YieldOk (w3.heap.size + 1) L rr := by
      clear ba bb ha hb hsa bab RI
      intro u zs W acc v vs h0 hc hX hU hL1 hh0 hLr hac
      rw [← hr] at hLr ⊢
      have hLa : L ≤ w5.heap.size + 1 ∧ w5.heap.size + 1 ≤ L ∧ w5.heap.size ≤ w3.heap.size + 2 ∧ w3.heap.size + 2 ≤ w5.heap.size := by omega
      clear hL hD hr s4
      obtain ⟨ua, un, uc, rfl⟩ := hU.rd.sliced
      have hLlt : L < W.heap.size := (Array.getElem?_eq_some_iff.1 hLr).1
      refine round_st hLr rfl { tmps := #[.pointer (some ⟨w3.heap.size, 0, none⟩), undef, .slice none 0 0, .pointer (some ⟨w3.heap.size + 1, 0, none⟩), .slice ua un uc, .pointer (some ⟨w3.heap.size, 0, none⟩), .pointer (some ⟨w3.heap.size, 0, none⟩), .pointer (some ⟨w3.heap.size, 0, none⟩), .pointer (some ⟨w3.heap.size, 2, none⟩), .pointer (some ⟨w3.heap.size, 0, none⟩), .pointer (some ⟨w3.heap.size, 3, none⟩), .pointer (some ⟨w3.heap.size, 0, none⟩), .func (.func 76) #[.pointer (some ⟨w3.heap.size, 0, none⟩)] #[], .slice ua un uc, undef, undef, undef, undef, undef], defers := [] } ?_ ?_
      · intro K hK
        gi_wp2
        exact hK
      · generalize hbz9 : recOf _ _ _ _ _ _ .busy = rb
        generalize hrd9 : recOf _ _ _ _ _ _ .ready = rd
        have k2 : ∀ k, k ≠ L → (W.putObj L (.loop rb)).heap[k]? = W.heap[k]? := fun k hk => World.putObj_heap_other hk
        have l2 : (W.putObj L (.loop rb)).heap[L]? = some (.loop rb) := World.putObj_heap_same hLlt
        have z2 : (W.putObj L (.loop rb)).heap.size = W.heap.size := World.putObj_size
        have o2 : (W.putObj L (.loop rb)).os = W.os ∧ (W.putObj L (.loop rb)).tape = W.tape ∧ (W.putObj L (.loop rb)).output = W.output := ⟨rfl, rfl, rfl⟩
        generalize W.putObj L (.loop rb) = W2 at k2 l2 z2 o2 ⊢
        have z2a : W2.heap.size ≤ W.heap.size ∧ W.heap.size ≤ W2.heap.size := by omega
        clear z2
        have hc2 : W2.heap[w3.heap.size + 1]? = some (.cells #[v] 23 (0, 0)) := (k2 _ (by omega)).trans hc
        have cc := cell_row1 hc2
        have hrow2 : W2.ownsRow (L + 1) 22 1 v vs.length vs := ownsRow_kept2 hX.2.1 (fun q hq => k2 q (by have := (hX.2.1.lt q hq).1; omega))
        have hvl : vs.length ≤ acc.length ∧ acc.length ≤ vs.length := by have := hX.1; omega
        have HC2 : Hid _ := hc2
        have HK2 : Hid _ := k2
        have HX : Hid _ := hX
        have HU : Hid _ := hU
        have hvb : ∀ q, v.ownBlock = some q → L + 1 ≤ q := fun q hq => (hX.2.1.lt q hq).1
        have HVB : Hid _ := hvb
        have ff : W2.frozen? ⟨w3.heap.size + 1, 0, none⟩ = false := frozen_of_row _ _ _ _ _ hc2
        have HO2 : Hid _ := o2
        have HL2 : Hid _ := l2
        clear hX hU k2 hc2 hc hLr hvb l2 o2
        gi_wp2_with (gi_at_builtin; refine wpListIn_append_own _ rfl _ _ 23 rfl (L + 1) 22 i0 (.slice none 0 0) 1 24 Tryd.underlying23 hi hz0 hz1 hz2 rfl (by decide) _ _ _ rfl (World.ownsRow.alloc hrow2 _) ⟨W2.heap.size, 0, none⟩ 1 1 [.slice ua un uc] rfl rfl (one_slice W2 _) (one_slice1 _) (by unfold maxLen; omega) (by omega) (by simp; omega) ?_; intro v' w1 hown' hgrow _; obtain ⟨g', cap', rfl⟩ := ownsRow_succ hown'; have hcg : w1.heap[w3.heap.size + 1]? = some (.cells #[v] 23 (0, 0)) := (hgrow.block _ (by simp; omega) (fun e => by have := HVB.out _ e.symm; omega)).trans ((Below.heap_alloc W2 _ _ (by omega)).trans HC2.out); have cg := cell_row1 hcg; have fg : w1.frozen? ⟨w3.heap.size + 1, 0, none⟩ = false := frozen_of_row _ _ _ _ _ hcg)
        have hs1 := hgrow.size
        rw [World.size_alloc] at hs1
        have hfar1 : ∀ k, k < W2.heap.size → v.ownBlock ≠ some k → w1.heap[k]? = W2.heap[k]? := fun k hk hne => (hgrow.block k (by simp; omega) (fun e => hne e.symm)).trans (Below.heap_alloc W2 _ k hk)
        have hL1' : w1.heap[L]? = some (.loop rb) := (hfar1 L (by omega) (fun e => by have := HVB.out _ e; omega)).trans HL2.out
        refine ⟨?_, rfl, ⟨.slice (some ⟨g', 0, none⟩) (vs.length + 1) cap', vs ++ [.slice ua un uc], ?_, ?_⟩, ?_, ?_, ?_⟩
        · rw [heap_setCell_other _ _ _ _ (by show L ≠ w3.heap.size + 1; omega)]; exact hL1'
        · rw [World.putObj_heap_other (by omega), heap_setCell_same _ _ _ _ _ _ hcg]; rfl
        · have hsn := OwX.snoc (W := W) (wa := W2.alloc (.cells #[.slice ua un uc] 22)) (n := vs.length + 1) HX.out HU.out hL1 hh0 ⟨by simp; omega, fun k h1 h2 => (Below.heap_alloc W2 _ k (by omega)).trans (HK2.out k (by omega))⟩ (by simp; omega) (by omega) hown' hgrow
          have hsm := hsn.same (w' := (w1.setCell ⟨w3.heap.size + 1, 0, none⟩ (.slice (some ⟨g', 0, none⟩) (vs.length + 1) cap')).putObj L (.loop rd)) ⟨by simp, fun k h1 h2 => by rw [World.putObj_heap_other (by omega), heap_setCell_other _ _ _ _ (by show k ≠ w3.heap.size + 1; omega)]⟩
          simpa using hsm
        · exact World.putObj_heap_same (by simp; omega)
        · intro k hk hkc
          rw [World.putObj_heap_other (by omega), heap_setCell_other _ _ _ _ hkc]
          exact (hfar1 k (by omega) (fun e => by have := HVB.out _ e; omega)).trans (HK2.out k (by omega))
        · exact ⟨hgrow.os.trans HO2.out.1, hgrow.tape.trans HO2.out.2.1, hgrow.output.trans HO2.out.2.2, by simp; omega⟩
    refine Calls.mono (records_any w3.heap.size (w3.heap.size + 1) w5.heap.size L (.slice pa pn pc) (.slice qa qn qc) rr w3 w3.heap.size d1 lS w3.heap.size a _ RI HYO HRS3.out (Nat.le_refl _) (Nat.le_refl _) HG3.out (by omega) (by omega) hS2 HW32.out HBZ.out) ?_
    rintro e W' ⟨hv, hl, P, q, acc, hI, hn⟩
    exact ⟨hv, hl, _, P, q, acc, hI, hn⟩
  · intro r W hF hlt
    obtain ⟨r', P, q, acc, ⟨hV, ⟨v, vs, hc, hX⟩, hLr, hDf, hB, hO⟩, hn⟩ := hF
    have hst := hO.stop hn
    have HSTO : Hid _ := hst
    obtain ⟨va, vn, vc, rfl⟩ := row_sliced hX.2.1
    have hLlt := (Array.getElem?_eq_some_iff.1 hLr).1
    have k6 : ∀ k, k ≠ L → (W.putObj (w5.heap.size + 1) (.loop r)).heap[k]? = W.heap[k]? := fun k hk => World.putObj_heap_other (by omega)
    have z6 : (W.putObj (w5.heap.size + 1) (.loop r)).heap.size = W.heap.size := World.putObj_size
    have o6 : (W.putObj (w5.heap.size + 1) (.loop r)).os = W.os ∧ (W.putObj (w5.heap.size + 1) (.loop r)).tape = W.tape ∧ (W.putObj (w5.heap.size + 1) (.loop r)).output = W.output := ⟨rfl, rfl, rfl⟩
    generalize W.putObj (w5.heap.size + 1) (.loop r) = W6 at k6 z6 o6 ⊢
    have hV6 : VarJ 30 W6 w3.heap.size (.slice pa pn pc) (.slice qa qn qc) (P : Int) (q : Int) := (k6 _ (by omega)).trans hV
    have hc6 := (k6 (w3.heap.size + 1) (by omega)).trans hc
    have cc6 := cell_row1 hc6
    have HD6 : Hid (W6.heap[w5.heap.size]? = some (.deferred (some []))) := (k6 w5.heap.size (by omega)).trans hDf
    have far8 : ∀ k, k ≠ w5.heap.size → (W6.putObj w5.heap.size (.deferred none)).heap[k]? = W6.heap[k]? := fun k h2 => World.putObj_heap_other h2
    have z8 : (W6.putObj w5.heap.size (.deferred none)).heap.size = W6.heap.size := World.putObj_size
    have o8 : (W6.putObj w5.heap.size (.deferred none)).os = W6.os ∧ (W6.putObj w5.heap.size (.deferred none)).tape = W6.tape ∧ (W6.putObj w5.heap.size (.deferred none)).output = W6.output := ⟨rfl, rfl, rfl⟩
    generalize hW8 : W6.putObj w5.heap.size (.deferred none) = W8 at far8 z8 o8
    have HW8 : Hid _ := hW8
    have VJ8 : VarJ 30 W8 w3.heap.size (.slice pa pn pc) (.slice qa qn qc) (P : Int) (q : Int) := (far8 _ (by omega)).trans hV6
    have OX8 : OwX W8 (w3.heap.size + 1) W8.heap.size (.slice va vn vc) acc vs := by
      have h8 := hX.same (w' := W8) ⟨by rw [z8]; omega, fun k h1 h2 => (far8 k (by omega)).trans (k6 k (by omega))⟩
      exact h8.wide (by omega) (by rw [z8]; omega)
    have B8 : Below w3.heap.size w3 W8 := ⟨o8.1.trans (o6.1.trans hB.os), o8.2.1.trans (o6.2.1.trans hB.tape), o8.2.2.trans (o6.2.2.trans hB.output), by rw [z8]; have := hB.size; omega, fun k hk => (far8 k (by omega)).trans ((k6 k (by omega)).trans (hB.block k hk))⟩
    have HALL : Hid _ := And.intro VJ8 (And.intro OX8 (And.intro B8 (show w3.heap.size + 1 ≤ W8.heap.size by rw [z8]; omega)))
    clear VJ8 OX8 B8 hW8 z8 o8 far8 hD hL z6 hV hc hX hLr hDf hB hO hn hst k6 o6 hV6 hc6
    go_wp2
    refine ⟨by simp, .inl ⟨_, _, rfl, run_takeDeferred HD6.out, ?_⟩⟩
    rw [HW8.out]
    refine ⟨.slice va vn vc, ?_, _, vs, rfl, ?_, ?_, ?_, ?_⟩
    · simp [results, Tryd.results50, go_sem]
    · rw [HSTO.out]; exact HALL.out.1
    · rw [HSTO.out]; exact HALL.out.2.1
    · exact HALL.out.2.2.1
    · exact HALL.out.2.2.2
set_option maxRecDepth 100000 in
set_option maxHeartbeats 4000000 in
theorem implOpen_yes (v : Value) (d : Dk) (l h : Nat) (w : World) (r : RdD w l h v d) (hh : h ≤ w.heap.size) (a : Addr) (hg : Glob w a) (hok : okD d = true) (hno : d.2 = []) :
    Calls Tryd.prog 13 #[v] w fun e w' => ∃ X V vs H, e = .returned (.tuple #[X, V, .bool true]) ∧ OwJ2 w' w.heap.size H X (d, ((openS d.1).1 : Int), ((openS d.1).2.1 : Int)) ∧ OwX w' H w'.heap.size V (openS d.1).2.2 vs ∧ H ≤ w'.heap.size ∧ w.heap.size ≤ H ∧ Below w.heap.size w w' := by
  obtain ⟨d1, d2⟩ := d
  subst hno
  obtain ⟨xa, xn, xc, ya, yn, yc, rfl⟩ := r.open
  have hyn : yn = 0 := by
    obtain ⟨x', y', he, _, rb⟩ := r
    simp only [Value.agg.injEq, Array.mk.injEq, List.cons.injEq, and_true] at he
    obtain ⟨rfl, rfl⟩ := he
    exact rb.len.1
  subst hyn
  have hlt := hg.lt
  have b0 := Below.new (w := w) (.cells #[.slice xa xn xc, .slice ya 0 yc] 26)
  have v0 := VarD.new w (.slice xa xn xc) (.slice ya 0 yc)
  generalize hw0 : w.alloc (.cells #[.slice xa xn xc, .slice ya 0 yc] 26) = w0 at b0 v0
  have s0 : w0.heap.size = w.heap.size + 1 := by rw [← hw0]; simp
  have b1 := Below.new (w := w0) (.cells #[.slice none 0 0, .slice none 0 0, .int .i64 0, .int .i64 0] 30)
  have vR := VarJ.new (T := 30) w0 (.slice none 0 0) (.slice none 0 0) 0 0
  rw [s0] at vR
  have v1 := v0.step b1
  generalize hw1 : w0.alloc (.cells #[.slice none 0 0, .slice none 0 0, .int .i64 0, .int .i64 0] 30) = w1 at b1 vR v1
  have B1 : Below w.heap.size w w1 := b0.trans (b1.mono (by omega))
  have sR := vR.lt
  have s1 := B1.size
  have r1 := r.step hh B1
  have g1 := hg.step B1 hlt
  have h9 := implOk_any _ (d1, []) l h a w1 r1 (by omega) g1
  rw [hok] at h9
  have HOK : Hid _ := h9
  have HW : Hid ((w.alloc (.cells #[.slice xa xn xc, .slice ya 0 yc] 26)).alloc (.cells #[.slice none 0 0, .slice none 0 0, .int .i64 0, .int .i64 0] 30) = w1) := by show _ = _; rw [hw0, hw1]
  have HV1 : Hid (VarD w1 w.heap.size _ _) := v1
  have HVR : Hid (VarJ _ w1 (w.heap.size + 1) _ _ _ _) := vR
  have HB1 : Hid (Below w.heap.size w w1) := B1
  have HR1 : Hid (RdD w1 l h _ _) := r1
  have HG1 : Hid _ := g1
  have HOKD : Hid (okD (d1, []) = true) := hok
  have hpar := hok
  unfold okD at hpar
  simp only [Bool.and_eq_true, decide_eq_true_eq, List.all_eq_true] at hpar
  have hS2 : d1.length ≤ 2000 := hpar.1.1.1
  have HW32 : Hid (∀ i, i < d1.length → (d1[i]?.getD []).length = 32) := fun i hi => by
    have := hpar.1.2 _ (List.getElem_mem hi)
    simp [secOk] at this
    rw [List.getElem?_eq_getElem hi]
    simpa using this
  have c0 := v1.c0
  have c1 := v1.c1
  clear hw0 hw1 r hg b0 v0 b1 vR v1 B1 s0 r1 g1 h9 hok hpar
  go_enter Tryd.func13, Tryd.ntmps13
  go_wp2_with fail
  rw [HW.out]
  refine Calls.mono HOK.out ?_
  rintro e w2 ⟨rfl, b2⟩
  have v2 := VarD.step HV1.out b2
  have k1 := v2.c1
  have r2 := RdD.step HR1.out (by omega) b2
  obtain ⟨x', y', he, r21, r22⟩ := r2
  simp only [Value.agg.injEq, Array.mk.injEq, List.cons.injEq, and_true] at he
  obtain ⟨rfl, rfl⟩ := he
  have s2 := b2.size
  have HCL : Hid _ := clone_any w.heap.size _ _ (d1, []) l h w2 v2 r21 r22 (by omega) HOKD.out
  have HVR2 : Hid (VarJ _ w2 (w.heap.size + 1) _ _ _ _) := VarJ.step HVR.out b2
  have HB2 : Hid (Below w.heap.size w w2) := HB1.out.trans (b2.mono HB1.out.size)
  have HG2 : Hid (Glob w2 a) := Glob.step (w := w1) HG1.out b2 (by omega)
  clear b2 v2 r21 r22 HOK HV1 HVR HB1 HR1 HG1 c0 c1
  go_wp2_with fail
  refine Calls.mono HCL.out ?_
  rintro e w3 ⟨u, rfl, oU, b3⟩
  obtain ⟨pa, pn, pc, qa, qn, qc, rfl⟩ := oU.rd.open
  have s3 := b3.size
  have b4 := Below.new (w := w3) (.cells #[.slice pa pn pc, .slice qa qn qc, .int .i64 0, .int .i64 0] 30)
  have vJ := VarJ.new (T := 30) w3 (.slice pa pn pc) (.slice qa qn qc) 0 0
  generalize hw4 : w3.alloc (.cells #[.slice pa pn pc, .slice qa qn qc, .int .i64 0, .int .i64 0] 30) = w4 at b4 vJ
  have s4 : w4.heap.size = w3.heap.size + 1 := by rw [← hw4]; simp
  have HW4 : Hid (w3.alloc (.cells #[.slice pa pn pc, .slice qa qn qc, .int .i64 0, .int .i64 0] 30) = w4) := hw4
  have HRS3 : RdBB w3 w2.heap.size w3.heap.size (.slice pa pn pc) d1 := by
    obtain ⟨x', y', he, ra, _⟩ := oU.rd
    simp only [Value.agg.injEq, Array.mk.injEq, List.cons.injEq, and_true] at he
    obtain ⟨rfl, rfl⟩ := he
    exact ra
  have HBZ : ∀ i : Nat, isBytes (d1[i]?.getD []) := fun i => by
    obtain ⟨a', n', c', us, he, hl, _, _, hee⟩ := HRS3
    by_cases hi : i < n'
    · exact (hee i hi).1
    · rw [List.getElem?_eq_none (by omega)]; exact isBytes_nil
  have HRE : Hid _ := reopen_any w3 w4 pa pn pc qa qn qc 0 0 d1 w2.heap.size a vJ b4 s4 HRS3 (Glob.step (w := w2) HG2.out b3 (by omega)) hS2 HW32.out HBZ
  have B24 : Below w2.heap.size w2 w4 := b3.trans (b4.mono s3)
  have HB4 : Hid (Below w.heap.size w w4) := HB2.out.trans (B24.mono HB2.out.size)
  have HVR4 : Hid (VarJ 30 w4 (w.heap.size + 1) (.slice none 0 0) (.slice none 0 0) 0 0) := VarJ.step HVR2.out B24
  have HO3 : Hid (OwD2 w3 w2.heap.size w3.heap.size (.agg #[.slice pa pn pc, .slice qa qn qc]) (d1, [])) := oU
  have HB34 : Hid (Below w3.heap.size w3 w4) := b4
  have hrl : w.heap.size + 1 < w2.heap.size := by omega
  clear hw4 oU b3 b4 B24 vJ HG2 HB2 HVR2 HCL k1 HRS3 HBZ HW32
  go_wp2_with (rw [HW4.out])
  refine Calls.mono HRE.out ?_
  rintro e w6 ⟨V, vs, rfl, vJ6, oX6, b6, s6⟩
  obtain ⟨va, vn, vc, rfl⟩ := row_sliced oX6.2.1
  have vR6 : VarJ 30 w6 (w.heap.size + 1) (.slice none 0 0) (.slice none 0 0) 0 0 := (b6.block _ (by omega)).trans ((HB34.out.block _ (by omega)).symm.trans HVR4.out)
  have B6 : Below w.heap.size w w6 := ⟨b6.os.trans (HB34.out.os.symm.trans HB4.out.os), b6.tape.trans (HB34.out.tape.symm.trans HB4.out.tape), b6.output.trans (HB34.out.output.symm.trans HB4.out.output), by have := HB4.out.size; omega, fun k hk => (b6.block k (by omega)).trans ((HB34.out.block k (by omega)).symm.trans (HB4.out.block k hk))⟩
  have O6 : OwD2 w6 w2.heap.size w3.heap.size (.agg #[.slice pa pn pc, .slice qa qn qc]) (d1, []) := OwD2.same HO3.out ⟨b6.size, fun k h1 h2 => b6.block k h2⟩
  obtain ⟨Po, hPo⟩ : ∃ P, P = (openS d1).1 := ⟨_, rfl⟩
  obtain ⟨Qo, hQo⟩ : ∃ P, P = (openS d1).2.1 := ⟨_, rfl⟩
  rw [← hPo, ← hQo] at vJ6
  have HP : Hid (Po = (openS d1).1 ∧ Qo = (openS d1).2.1) := ⟨hPo, hQo⟩
  clear hPo hQo
  have k0 := vJ6.c0
  have k1 := vJ6.c1
  have k2 := vJ6.c2
  have k3 := vJ6.c3
  have e0 := vR6.c0
  have e1 := vR6.c1
  have e2 := vR6.c2
  have e3 := vR6.c3
  have f0 := vR6.f 0
  have f1 := vR6.f 1
  have f2 := vR6.f 2
  have f3 := vR6.f 3
  have HX6 : Hid (OwX w6 (w3.heap.size + 1) w6.heap.size _ (openS d1).2.2 vs) := oX6
  have HB6 : Hid (Below w.heap.size w w6) := B6
  have HO6 : Hid (OwD2 w6 w2.heap.size w3.heap.size _ _) := O6
  have nb1 : ¬ w3.heap.size = w.heap.size + 1 := by omega
  have nb3 : ¬ w.heap.size + 1 = w3.heap.size := by omega
  clear vJ6 oX6 vR6 B6 O6 HO3 HB34 HB4 HVR4 HRE b6
  go_wp2
  rw [← HP.out.1, ← HP.out.2]
  refine bodyPost_ret (v := .tuple #[.agg #[.slice pa pn pc, .slice qa qn qc, .int .i64 (Po : Int), .int .i64 (Qo : Int)], .slice va vn vc, .bool true]) (by simp [results, Tryd.results13, go_sem, e0, e1, e2, e3]) rfl ⟨_, _, vs, w3.heap.size + 1, rfl, ⟨_, _, rfl, (OwD2.same HO6.out (four_same2 (by omega))).wide (by omega) (by omega)⟩, (OwX.same HX6.out (four_same2 (by omega))).wide (Nat.le_refl _) (by simp), by simp; omega, by omega, four_below2 HB6.out (Nat.le_succ _)⟩
end Go.Proofs.YtjhaanenkeceiaaDoor
end

section
/- The program's Open, whatever disk. -/
namespace Go.Proofs.YtjhaanenkeceiaaDoor
open Go.RowKit
set_option linter.unusedVariables false

theorem implOpen_all (v : Value) (d : Dk) (l h : Nat) (w : World) (r : RdD w l h v d) (hh : h ≤ w.heap.size) (a : Addr) (hg : Glob w a) :
    Calls Tryd.prog 13 #[v] w fun e w' => ∃ X V vs H, e = .returned (.tuple #[X, V, .bool (openOk d)]) ∧ OwJ2 w' w.heap.size H X (openJ d) ∧ OwX w' H w'.heap.size V (openR d) vs ∧ H ≤ w'.heap.size ∧ w.heap.size ≤ H ∧ Below w.heap.size w w' := by
  cases hk : openOk d with
  | false =>
    have h1 : openJ d = (([], []), 0, 0) := by unfold openJ; rw [hk]; rfl
    have h2 : openR d = [] := by unfold openR; rw [hk]; rfl
    rw [h1, h2]
    refine (implOpen_no v d l h w r hh a hg hk).mono ?_
    rintro e w' ⟨rfl, hb⟩
    exact ⟨_, _, [], w.heap.size, rfl, ⟨_, _, rfl, nilD2 _ _ _⟩, ⟨rfl, World.ownsRow_nil _ _ _ _, fun k h => by simp [Value.ownBlock] at h, fun i hi => absurd hi (Nat.not_lt_zero _), fun i j q _ hj => absurd hj (Nat.not_lt_zero _)⟩, hb.size, Nat.le_refl _, hb⟩
  | true =>
    have hk' := hk
    unfold openOk at hk'
    rw [Bool.and_eq_true] at hk'
    have hd : d.2 = [] := by simpa using hk'.2
    have h1 : openJ d = (d, ((openS d.1).1 : Int), ((openS d.1).2.1 : Int)) := by unfold openJ; rw [hk]; rfl
    have h2 : openR d = (openS d.1).2.2 := by unfold openR; rw [hk]; rfl
    rw [h1, h2]
    refine (implOpen_yes v d l h w r hh a hg hk'.1 hd).mono ?_
    rintro e w' ⟨X, V, vs, H, rfl, oJ, oX, hH, hl, hb⟩
    exact ⟨X, V, vs, H, rfl, oJ, oX, hH, hl, hb⟩
end Go.Proofs.YtjhaanenkeceiaaDoor
end

section
/- A disk that is read, in its two parts. -/
namespace Go.Proofs.YtjhaanenkeceiaaDoor
set_option linter.unusedVariables false

theorem RdD.parts {w : World} {l h : Nat} {x y : Value} {d : Dk} (r : RdD w l h (.agg #[x, y]) d) : RdBB w l h x d.1 ∧ RdWs w l h y d.2 := by
  obtain ⟨x', y', he, r1, r2⟩ := r
  simp only [Value.agg.injEq, Array.mk.injEq, List.cons.injEq, and_true] at he
  obtain ⟨rfl, rfl⟩ := he
  exact ⟨r1, r2⟩
theorem RdBB.len {w : World} {l h : Nat} {a : Option Addr} {n c : Nat} {z : List (List Int)} (r : RdBB w l h (.slice a n c) z) : n = z.length ∧ n ≤ 9223372036854775807 := by
  obtain ⟨a', n', c', vs, he, hl, hh, _⟩ := r
  simp only [Value.slice.injEq] at he
  obtain ⟨rfl, rfl, rfl⟩ := he
  exact ⟨hl, by have := hh.1; have := hh.2.1; unfold maxLen at this; omega⟩
end Go.Proofs.YtjhaanenkeceiaaDoor
end

section
/- Reading a sector of a disk, the program's and the specification's way. No condition of ours; the program's leans on its variable errNoSector. -/
namespace Go.Proofs.YtjhaanenkeceiaaDoor
open Go.RowKit
set_option linter.unusedVariables false

/-- What the last of the first k writes says of the sector p. -/
def backW (ws : List Wt) (p : Int) : Nat → Option (List Int)
  | 0 => none
  | k + 1 => if (ws[k]?.getD (0, [])).1 = p then some (ws[k]?.getD (0, [])).2 else backW ws p k
def readZ (d : Dk) (p : Int) : List Int := (backW d.2 p d.2.length).getD (d.1[p.toNat]?.getD [])
def readOk (d : Dk) (p : Int) : Bool := okD d && decide (0 ≤ p) && decide (p < (d.1.length : Int))
def readSD (d : Dk) (p : Int) : List Int := if readOk d p then readZ d p else []

theorem RdB_nil (w : World) (l h : Nat) : RdB w l h (.slice none 0 0) [] := ⟨isBytes_nil, none, 0, 0, rfl, rfl, ⟨Nat.le_refl _, Nat.zero_le _, fun _ => ⟨rfl, rfl⟩⟩, .inl rfl⟩
theorem Owns_nil (w : World) (l : Nat) : Owns w l (.slice none 0 0) [] := World.ownsRow_nil _ _ _ _
theorem OwB_nil (w : World) (l h : Nat) : OwB w l h (.slice none 0 0) [] := ⟨isBytes_nil, Owns_nil w l, (fun (k : Nat) (hk : Value.ownBlock (.slice none 0 0) = some k) => by cases hk)⟩
theorem readZ_len {d : Dk} {p : Int} (h : readOk d p = true) : (readZ d p).length = 32 := by
  unfold readOk okD at h
  simp only [Bool.and_eq_true, decide_eq_true_eq, List.all_eq_true] at h
  obtain ⟨⟨⟨⟨⟨_, _⟩, hs⟩, hw⟩, h0⟩, h1⟩ := h
  have hb : ∀ k, k ≤ d.2.length → ∀ z, backW d.2 p k = some z → z.length = 32 := by
    intro k
    induction k with
    | zero => intro _ z hz; cases hz
    | succ k ih =>
      intro hk z hz
      unfold backW at hz
      split at hz
      · have hm := hw _ (List.getElem_mem (show k < d.2.length by omega))
        simp only [Option.some.injEq] at hz
        rw [← hz]
        have : d.2[k]?.getD (0, []) = d.2[k]'(by omega) := by simp [show k < d.2.length by omega]
        rw [this]
        simp [waitOk, secOk] at hm
        exact hm.2
      · exact ih (by omega) z hz
  unfold readZ
  cases hz : backW d.2 p d.2.length with
  | some z => exact hb _ (Nat.le_refl _) z hz
  | none =>
    have hq : p.toNat < d.1.length := by omega
    have := hs _ (List.getElem_mem hq)
    simp [secOk] at this
    simp [hq, this]

theorem readD_small (d : Dk) (p : Int) : (readSD d p).length ≤ 2097152 := by
  unfold readSD
  split
  · rename_i h
    rw [readZ_len h]; omega
  · simp
end Go.Proofs.YtjhaanenkeceiaaDoor
end

section
/- The program's WriteSector as a plain function of its arguments; it leans on the package's three errors. No condition of ours. -/
namespace Go.Proofs.YtjhaanenkeceiaaDoor
open Go.RowKit
set_option linter.unusedVariables false

/-- May this be written? -/
def writeOk (d : Dk) (p : Int) (zs : List Int) : Bool := decide (0 ≤ p) && decide (p < (d.1.length : Int)) && decide (zs.length = 32) && decide (d.2.length < 2000)
def writeD (d : Dk) (p : Int) (zs : List Int) : Dk × Bool := if okD d then (if writeOk d p zs then ((d.1, d.2 ++ [(p, zs)]), true) else (d, false)) else (([], []), false)

set_option maxHeartbeats 400000 in
theorem write_out (b n c : Nat) (xa : Option Addr) (p : Int) (a : Addr) (sl : Value) (w : World) (c0 : w.cell? ⟨b, 0, none⟩ = some (.slice xa n c)) (hg : Glob w a) (hp : p < 0 ∨ (n : Int) ≤ p) (hn : n ≤ 9223372036854775807) :
    Calls Tryd.prog 54 #[.pointer (some ⟨b, 0, none⟩), .int .i64 p, sl] w fun e w' => e = .returned (errV a) ∧ ∃ m, w' = w.drewN m := by
  have HSA : Hid _ := safeAt_out b n c xa p a w c0 hg hp hn
  clear hg hp
  go_enter Tryd.func54, Tryd.ntmps54
  go_wp2_with fail
  refine Calls.mono HSA.out ?_
  rintro e w2 ⟨rfl, m, hw2⟩
  have HW2 : Hid _ := hw2
  clear hw2
  go_wp2
  go_ret
  exact ⟨rfl, _, HW2.out⟩
set_option maxHeartbeats 400000 in
theorem write_len (b g off k n c sn sc : Nat) (x : Value) (sa : Option Addr) (a : Addr) (w : World) (c0 : w.cell? ⟨b, 0, none⟩ = some (.slice (some ⟨g, off, none⟩) n c)) (c1 : w.cell? ⟨g, off + k, none⟩ = some x) (hk : k < n) (hn : n ≤ 9223372036854775807)
    (h1 : w.cell? ⟨0, 0, none⟩ = some (errV a)) (hs : sn ≠ 32) (hsm : sn ≤ 9223372036854775807) :
    Calls Tryd.prog 54 #[.pointer (some ⟨b, 0, none⟩), .int .i64 k, .slice sa sn sc] w fun e w' => e = .returned (errV a) ∧ w' = w := by
  have HSA : Hid _ := safeAt_in b g off k n c x w c0 c1 hk hn
  have hd : ((sn : Int) == 32) = false := by simp; omega
  have h1' : w.cell? ⟨0, 0, none⟩ = some (.iface 131 (.pointer (some a))) := h1
  clear c1 h1 hs
  go_enter Tryd.func54, Tryd.ntmps54
  go_wp2_with fail
  refine Calls.mono HSA.out ?_
  rintro e w2 ⟨rfl, hw2⟩
  subst hw2
  go_wp2
  go_ret
  exact ⟨rfl, rfl⟩
set_option maxHeartbeats 400000 in
theorem write_many (b g off k n c m yc sc : Nat) (x : Value) (sa ya : Option Addr) (a : Addr) (w : World) (c0 : w.cell? ⟨b, 0, none⟩ = some (.slice (some ⟨g, off, none⟩) n c)) (c1 : w.cell? ⟨g, off + k, none⟩ = some x) (hk : k < n) (hn : n ≤ 9223372036854775807)
    (cw : w.cell? ⟨b, 1, none⟩ = some (.slice ya m yc)) (hm : 2000 ≤ m) (hmm : m ≤ 9223372036854775807) (h2 : w.cell? ⟨1, 0, none⟩ = some (errV a)) :
    Calls Tryd.prog 54 #[.pointer (some ⟨b, 0, none⟩), .int .i64 k, .slice sa 32 sc] w fun e w' => e = .returned (errV a) ∧ w' = w := by
  have HSA : Hid _ := safeAt_in b g off k n c x w c0 c1 hk hn
  have hd : decide ((2000 : Int) ≤ (m : Int)) = true := by simp; omega
  have h2' : w.cell? ⟨1, 0, none⟩ = some (.iface 131 (.pointer (some a))) := h2
  clear c1 h2 hm
  go_enter Tryd.func54, Tryd.ntmps54
  go_wp2_with fail
  refine Calls.mono HSA.out ?_
  rintro e w2 ⟨rfl, hw2⟩
  subst hw2
  go_wp2
  go_ret
  exact ⟨rfl, rfl⟩

theorem OwX.drewN {w : World} {l h : Nat} {v : Value} {zss : List (List Int)} {vs : List Value} (o : OwX w l h v zss vs) (m : Nat) : OwX (w.drewN m) l h v zss vs := o.keep (fun _ _ => rfl) (fun _ _ => rfl)
theorem OwY.drewN {w : World} {l h : Nat} {v : Value} {ws : List Wt} {xs : List Value} (o : OwY w l h v ws xs) (m : Nat) : OwY (w.drewN m) l h v ws xs := o.keep (fun _ _ => rfl)

def afterW (d : Dk) (p : Int) (zs : List Int) : List Wt := if writeOk d p zs then d.2 ++ [(p, zs)] else d.2

set_option maxHeartbeats 1000000 in
theorem write_all (b : Nat) (x y : Value) (d : Dk) (vs xs : List Value) (l h : Nat) (p : Int) (sl : Value) (zs : List Int) (l' h' : Nat) (w : World) (a a1 a2 : Addr) (hv : VarD w b x y) (o1 : OwX w l h x d.1 vs) (o2 : OwY w l h y d.2 xs) (ha : ∀ q, Blk vs q → ¬ Blk xs q)
    (hh : h ≤ w.heap.size) (hlb : l ≤ w.heap.size) (hok : okD d = true) (r : RdB w l' h' sl zs) (hh' : h' ≤ w.heap.size) (hbl : h ≤ b) (hg : Glob w a) (h1 : w.cell? ⟨0, 0, none⟩ = some (errV a1)) (h2 : w.cell? ⟨1, 0, none⟩ = some (errV a2)) :
    Calls Tryd.prog 54 #[.pointer (some ⟨b, 0, none⟩), .int .i64 p, sl] w fun e w' => ∃ ev y' xs', e = .returned ev ∧ ((ev = .nilIface ∧ writeOk d p zs = true) ∨ ((∃ a', ev = errV a') ∧ writeOk d p zs = false)) ∧ OwX w' l w'.heap.size x d.1 vs ∧ OwY w' l w'.heap.size y' (afterW d p zs) xs' ∧
      (∀ q, Blk vs q → ¬ Blk xs' q) ∧ VarD w' b x y' ∧ (∀ k, k < w.heap.size → k ≠ b → y.ownBlock ≠ some k → w'.heap[k]? = w.heap[k]?) ∧ (w'.os = w.os ∧ w'.tape = w.tape ∧ w'.output = w.output ∧ w.heap.size ≤ w'.heap.size) := by
  have hok' := hok
  unfold okD at hok'
  simp only [Bool.and_eq_true, decide_eq_true_eq] at hok'
  obtain ⟨⟨⟨hn2, hm2⟩, _⟩, _⟩ := hok'
  have same : ∀ m, (∃ a', (errV a') = errV a') → writeOk d p zs = false → ∀ (ev : Value) (a' : Addr), ev = errV a' → ∃ ev' y' xs', Ending.returned ev = .returned ev' ∧ ((ev' = .nilIface ∧ writeOk d p zs = true) ∨ ((∃ a', ev' = errV a') ∧ writeOk d p zs = false)) ∧ OwX (w.drewN m) l (w.drewN m).heap.size x d.1 vs ∧ OwY (w.drewN m) l (w.drewN m).heap.size y' (afterW d p zs) xs' ∧
      (∀ q, Blk vs q → ¬ Blk xs' q) ∧ VarD (w.drewN m) b x y' ∧ (∀ k, k < w.heap.size → k ≠ b → y.ownBlock ≠ some k → (w.drewN m).heap[k]? = w.heap[k]?) ∧ ((w.drewN m).os = w.os ∧ (w.drewN m).tape = w.tape ∧ (w.drewN m).output = w.output ∧ w.heap.size ≤ (w.drewN m).heap.size) := fun m _ hf ev a' hev => by
    refine ⟨ev, y, xs, rfl, .inr ⟨⟨a', hev⟩, hf⟩, (o1.drewN m).wide (Nat.le_refl _) hh, ?_, ha, hv, fun _ _ _ _ => rfl, rfl, rfl, rfl, Nat.le_refl _⟩
    have e : afterW d p zs = d.2 := by unfold afterW; rw [hf]; rfl
    rw [e]
    exact (o2.drewN m).wide (Nat.le_refl _) hh
  obtain ⟨xa, n, xc, us, hxe, hnx, _, hcx, _⟩ := o1.bb.rd
  obtain ⟨sa, sn, sc, hse⟩ := r.sliced
  have hsl : sn = zs.length ∧ sn ≤ 9223372036854775807 := by obtain ⟨_, a', n', c', he', hl', hd', _⟩ := r; rw [hse] at he'; simp only [Value.slice.injEq] at he'; obtain ⟨_, rfl, rfl⟩ := he'; exact ⟨hl', by have h3 := hd'.1; have h4 := hd'.2.1; unfold maxLen at h4; omega⟩
  by_cases hin : 0 ≤ p ∧ p < (d.1.length : Int)
  · obtain ⟨q, rfl⟩ : ∃ q : Nat, p = (q : Int) := ⟨p.toNat, by omega⟩
    have hqn : q < n := by omega
    obtain ⟨gx, ox, hxa, _, _, hcc⟩ := hcx.resolve_left (by omega)
    have c0 := hv.c0
    rw [hxe, hxa] at c0
    by_cases h32 : zs.length = 32
    · by_cases hfull : d.2.length < 2000
      · have hw : writeOk d q zs = true := by unfold writeOk; simp [h32, hfull]; omega
        have ea : afterW d q zs = d.2 ++ [((q : Int), zs)] := by unfold afterW; rw [hw]; rfl
        have hyr := o2
        obtain ⟨C, _, hyo, hyb, _⟩ := hyr
        refine (write_in b q x y d vs xs l h sl zs l' h' w hv o1 o2 ha hh hlb r hh' (by omega) hn2 hfull h32 (fun k hk => by have := hyb k hk; omega) (.inr hbl)).mono ?_
        rintro e w' ⟨he, y', xs', p1, p2, p3, p4, p5, p6⟩
        exact ⟨_, y', xs', he, .inl ⟨rfl, hw⟩, p1, by rw [ea]; exact p2, p3, p4, p5, p6⟩
      · have hw : writeOk d q zs = false := by unfold writeOk; simp [hfull]
        obtain ⟨ya, m, yc, us2, hye, hmx, hyd, _⟩ := o2.ww.rd
        have c1 := hv.c1
        rw [hye] at c1
        have hsn : sn = 32 := by omega
        subst hsn
        rw [hse]
        refine (write_many b gx ox q n xc m yc sc (us q) sa ya a2 w c0 (hcc q hqn) hqn (by omega) c1 (by omega) (by have h3 := hyd.1; have h4 := hyd.2.1; unfold maxLen at h4; omega) h2).mono ?_
        rintro e w' ⟨he, hw'⟩
        rw [he, hw']
        exact same 0 ⟨a, rfl⟩ hw _ a2 rfl
    · have hw : writeOk d q zs = false := by unfold writeOk; simp [h32]
      rw [hse]
      refine (write_len b gx ox q n xc sn sc (us q) sa a1 w c0 (hcc q hqn) hqn (by omega) h1 (by omega) hsl.2).mono ?_
      rintro e w' ⟨he, hw'⟩
      rw [he, hw']
      exact same 0 ⟨a, rfl⟩ hw _ a1 rfl
  · have hw : writeOk d p zs = false := by
      unfold writeOk
      by_cases h0 : 0 ≤ p
      · have : ¬ p < (d.1.length : Int) := fun h => hin ⟨h0, h⟩
        simp [this]
      · simp [h0]
    have c0 := hv.c0
    rw [hxe] at c0
    refine (write_out b n xc xa p a sl w c0 hg (by omega) (by omega)).mono ?_
    rintro e w' ⟨he, m, hw'⟩
    rw [he, hw']
    exact same m ⟨a, rfl⟩ hw _ a rfl
end Go.Proofs.YtjhaanenkeceiaaDoor
end
