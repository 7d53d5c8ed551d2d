/- The program's iterator over a journal's records, whatever the loop over it does that keeps to its word. Conditions: the sectors are whole, at most 2000, and stay as they are. -/
import Derived.Test.YtjhaanenkeceiaaDoorRangeSt
import Derived.Test.YtjhaanenkeceiaaDoorImplSpoil
namespace Go.Proofs.YtjhaanenkeceiaaDoor
open Go.RowKit
set_option linter.unusedVariables false
set_option linter.unusedSimpArgs false
attribute [local go_sem ↓] Go.wp_at_zero Go.wp_at_succ

/-- So it stands between two rounds. -/
def RecI (b c D L : Nat) (x y : Value) (r : Loop) (wb : World) (H : Nat) (S : List (List Int)) (P q : Nat) (acc : List (List Int)) (W : World) : Prop :=
  VarJ 30 W b x y (P : Int) (q : Int) ∧ (∃ v vs, W.heap[c]? = some (.cells #[v] 23 (0, 0)) ∧ OwX W (L + 1) W.heap.size v acc vs) ∧ W.heap[L]? = some (.loop r) ∧ W.heap[D]? = some (.deferred (some [])) ∧ Below H wb W ∧ OpenAt S P q acc
/-- What a round leaves. -/
def YieldR (c L : Nat) (r : Loop) (zs : List Int) (acc : List (List Int)) (W : World) (e : Ending) (W' : World) : Prop :=
  e = .returned (.bool true) ∧ (∃ v' vs', W'.heap[c]? = some (.cells #[v'] 23 (0, 0)) ∧ OwX W' (L + 1) W'.heap.size v' (acc ++ [zs]) vs') ∧ W'.heap[L]? = some (.loop r) ∧ (∀ k, k < L → k ≠ c → W'.heap[k]? = W.heap[k]?) ∧ (W'.os = W.os ∧ W'.tape = W.tape ∧ W'.output = W.output ∧ W.heap.size ≤ W'.heap.size)
/-- What a round's body keeps to. -/
def YieldOk (c L : Nat) (r : Loop) : Prop :=
  ∀ (u : Value) (zs : List Int) (W : World) (acc : List (List Int)) (v : Value) (vs : List Value) (h0 : Nat), W.heap[c]? = some (.cells #[v] 23 (0, 0)) → OwX W (L + 1) h0 v acc vs → OwB W h0 W.heap.size u zs → L + 1 ≤ h0 → h0 ≤ W.heap.size → W.heap[L]? = some (.loop r) → acc.length ≤ 2000 →
    YieldAt Fence.wide 8 Tryd.prog L #[u] W (YieldR c L r zs acc W)
def leftM (b n : Nat) (w : World) : Nat := n - (intOf ((w.cell? ⟨b, 2, none⟩).getD undef)).toNat
theorem leftM_eq {b n : Nat} {x y : Value} {P q : Nat} {w : World} (h : VarJ 30 w b x y (P : Int) (q : Int)) : leftM b n w = n - P := by unfold leftM; rw [h.c2]; simp [intOf]

set_option maxRecDepth 100000 in
set_option maxHeartbeats 2000000 in
theorem records_any (b c D L : Nat) (x y : Value) (r : Loop) (wb : World) (H : Nat) (S : List (List Int)) (lS hS : Nat) (a : Addr) (w : World) (h0 : RecI b c D L x y r wb H S 0 0 [] w) (hY : YieldOk c L r) (rS : RdBB wb lS hS x S) (hhS : hS ≤ H) (hHb : H ≤ wb.heap.size) (hg : Glob wb a) (hgH : 2 < H)
    (hord : H ≤ b ∧ b < L ∧ H ≤ c ∧ c < L ∧ b ≠ c ∧ H ≤ D ∧ D < L ∧ D ≠ b ∧ D ≠ c) (hn : S.length ≤ 2000) (hw32 : ∀ i, i < S.length → (S[i]?.getD []).length = 32) (hbz : ∀ i : Nat, isBytes (S[i]?.getD [])) :
    Calls Tryd.prog 76 #[.pointer (some ⟨b, 0, none⟩), .func (.yield L) #[] #[]] w fun e W' => (∃ v, e = .returned v) ∧ W'.heap[L]? = some (.loop r) ∧ ∃ P q acc, RecI b c D L x y r wb H S P q acc W' ∧ readD S P q = none := by
  have HY : Hid _ := hY
  have HR0 : Hid _ := rS
  have HGL : Hid _ := hg
  have HW : Hid _ := hw32
  have HBZ : Hid _ := hbz
  have HST : Hid (RecI b c D L x y r wb H S 0 0 [] w) := h0
  clear hY rS hg hw32 hbz h0
  refine (callsIn_wide (n := 9)).1 ?_
  refine callsIn_of_wp Tryd.func76 rfl trivial ?_ rfl
  simp only [Tryd.ntmps76, List.size_toArray, List.length_cons, List.length_nil, Nat.reduceAdd, Nat.reduceSub, Array.replicate_succ, Array.replicate_zero, List.push_toArray, List.append_toArray, List.nil_append, List.cons_append]
  gi_wp2
  gi_loopw [4] (fun _ wr => ∃ P q acc, RecI b c D L x y r wb H S P q acc wr) (fun _ wr => leftM b S.length wr)
  case atStart => exact ⟨0, 0, [], HST.out⟩
  case round =>
    clear HST
    obtain ⟨P, q, acc, hV, ⟨v, vs, hc, hX⟩, hL, hD, hB, hO⟩ := hrel
    have hP : P ≤ S.length := hO.1
    have hqP : q ≤ P := hO.2.1
    have hac : acc.length ≤ P := hO.2.2.1
    have hLlt := lt_of_block hL
    have hsB := hB.size
    have rS1 : RdBB wr lS hS x S := RdBB.same HR0.out ⟨hsB, fun k _ h2 => hB.block k (by omega)⟩
    have hg1 : Glob wr a := (hB.cell (p := ⟨2, 0, none⟩) hgH).trans HGL.out
    have HCL : Hid _ := claimed_any b x y S P (q : Int) lS hS a wr hV rS1 (by omega) hg1 hn hP HW.out
    have HV : Hid _ := hV
    have HC : Hid _ := hc
    have HX : Hid _ := hX
    have HL : Hid _ := hL
    have HD : Hid _ := hD
    have HB : Hid _ := hB
    have HO : Hid _ := hO
    clear hV hc hX hL hD hB hO rS1 hg1
    gi_wp2_with fail
    refine ⟨trivial, CallsIn.mono (callsIn_wide.2 HCL.out) ?_⟩
    rintro e w1 ⟨u, rfl, oU, b1⟩
    clear HCL
    have s1 := b1.size
    obtain ⟨ua, un, uc, rfl⟩ := oU.rd.sliced
    have v1 := VarJ.step HV.out b1
    have c13 := v1.c3
    have HFR : Hid _ := implFrame_all (q : Int) _ (claimD S P) _ _ w1 oU.rd (Nat.le_refl _)
    have HOU : Hid _ := oU
    have HB1 : Hid _ := b1
    clear oU b1 v1
    gi_wp2_with fail
    refine ⟨trivial, CallsIn.mono (callsIn_wide.2 HFR.out) ?_⟩
    rintro e w2 ⟨fx, fvs, rfl, oF, b2⟩
    clear HFR c13
    have s2 := b2.size
    have B2 : Below wr.heap.size wr w2 := HB1.out.trans (b2.mono s1)
    obtain ⟨fa, fn, fc, rfl⟩ := row_sliced oF.2.1
    have hfn : fn = (frameD (q : Int) (claimD S P)).length := by obtain ⟨a', n', c', us, he, hl, _⟩ := oF.bb.rd; simp only [Value.slice.injEq] at he; omega
    have hf9 : (frameD (q : Int) (claimD S P)).length ≤ 20 := by
      unfold frameD
      split
      · rename_i hz9; unfold frameN; rw [List.length_map, List.length_range]; have := manyN_le _ hz9.2.2; omega
      · simp
    have v2 := VarJ.step HV.out B2
    have rS2 : RdBB w2 lS hS x S := RdBB.same (RdBB.same HR0.out ⟨hsB, fun k _ h2 => HB.out.block k (by omega)⟩) (SameIn.ofBelow B2 (by omega))
    have hg2 : Glob w2 a := (B2.cell (p := ⟨2, 0, none⟩) (by show 2 < wr.heap.size; omega)).trans ((HB.out.cell (p := ⟨2, 0, none⟩) hgH).trans HGL.out)
    have HSP : Hid _ := spoiler_any b x y S P (q : Int) lS hS a w2 v2 rS2 (by omega) hg2 hn hP _ (frameD (q : Int) (claimD S P)) w1.heap.size w2.heap.size oF.bb.rd (Nat.le_refl _) hf9
    have hq6 : q < 60000 := by omega
    have HRS : Hid _ := read_same HW.out HBZ.out P q hq6
    have HFN : Hid _ := hfn
    have HB2 : Hid _ := B2
    have HB12 : Hid _ := b2
    have HV2 : Hid _ := v2
    -- how it stands wherever the walk leaves it
    have HEND : Hid (∀ W, Below wr.heap.size wr W → RecI b c D L x y r wb H S P q acc W) := fun W hW => by
      refine ⟨VarJ.step HV.out hW, ⟨v, vs, (hW.block c (by omega)).trans HC.out, (OwX.same HX.out (SameIn.ofBelow hW (Nat.le_refl _))).wide (Nat.le_refl _) hW.size⟩, (hW.block L hLlt).trans HL.out, (hW.block D (by omega)).trans HD.out, HB.out.trans (hW.mono (by omega)), HO.out⟩
    have HENDL : Hid (∀ W, Below wr.heap.size wr W → W.heap[L]? = some (.loop r)) := fun W hW => (hW.block L hLlt).trans HL.out
    clear oF b2 B2 v2 rS2 hg2
    by_cases hz : fn = 0
    · subst hz
      have HNO : Hid (readD S P q = none) := by
        show _ = _
        have h1 : frameD (q : Int) (claimD S P) = [] := List.eq_nil_of_length_eq_zero hfn.symm
        rw [HRS.out, h1, if_neg (fun h => h.1 rfl)]
      clear hfn HSP HRS HFN
      gi_wp2
      refine ⟨trivial, ?_⟩
      gi_wp2
      refine bodyPost_ret (results_none rfl _ _ _) rfl ?_
      exact ⟨⟨_, rfl⟩, HENDL.out _ HB2.out, _, _, _, HEND.out _ HB2.out, HNO.out⟩
    · clear hfn
      have e0 : ((fn : Int) == 0) = false := by simp; omega
      gi_wp2_with fail
      refine ⟨trivial, CallsIn.mono (callsIn_wide.2 HSP.out) ?_⟩
      rintro e w3 ⟨z, rfl, hz3, b3⟩
      clear HSP
      have B3 : Below wr.heap.size wr w3 := HB2.out.trans (b3.mono HB2.out.size)
      have HK13 : Hid (∀ k, k < w1.heap.size → w3.heap[k]? = w1.heap[k]?) := fun k hk => (b3.block k (by omega)).trans (HB12.out.block k hk)
      have s3 := b3.size
      by_cases hm : matchB S P (frameD (q : Int) (claimD S P)) = true
      case neg =>
        have hzz : (z == -1) = false := by
          simp only [beq_eq_false_iff_ne, ne_eq]
          exact fun h => hm (hz3.1 h)
        have hzz2 : (z != -1) = true := by simp only [bne, hzz]; rfl
        have hzz3 : ¬ z = -1 := fun h => hm (hz3.1 h)
        have HNO : Hid (readD S P q = none) := by show _ = _; rw [HRS.out, if_neg (fun h => hm h.2)]
        have HB3 : Hid _ := B3
        clear B3 b3 hz3 hm HRS
        gi_wp2
        refine bodyPost_ret (results_none rfl _ _ _) rfl ?_
        exact ⟨⟨_, rfl⟩, HENDL.out _ HB3.out, _, _, _, HEND.out _ HB3.out, HNO.out⟩
      have hz1 : z = -1 := hz3.2 hm
      subst hz1
      have hrd : readD S P q = some (claimD S P) := by
        rw [HRS.out, if_pos ⟨fun h => hz (by rw [HFN.out, h]; rfl), hm⟩]
      have hnx := OpenAt.next HW.out HO.out hrd
      have hfm : fn = manyN (claimD S P).length := by
        rw [HFN.out]
        have : frameD (q : Int) (claimD S P) ≠ [] := fun h => hz (by rw [HFN.out, h]; rfl)
        unfold frameD at this ⊢
        split
        · unfold frameN; rw [List.length_map, List.length_range]
        · rename_i hno; rw [if_neg hno] at this; exact absurd rfl this
      rw [← hfm] at hnx
      have v3 := VarJ.step HV.out B3
      have c2 := v3.c2
      have c3 := v3.c3
      have f2 := v3.f 2
      have f3 := v3.f 3
      have hPn : P + fn ≤ S.length := hnx.1
      have hw1 := wrap_id ((P : Int) + (fn : Int)) (by omega) (by omega)
      have V4 := (v3.set2 ((P : Int) + (fn : Int))).set3 ((q : Int) + 1)
      have HB3 : Hid _ := B3
      have HNX : Hid _ := hnx
      have HV4 : Hid _ := V4
      clear B3 b3 hz3 hm HRS hrd hnx hfm v3 V4
      have hfar : ∀ k, k ≠ b → ((w3.setCell ⟨b, 2, none⟩ (.int .i64 ((P : Int) + (fn : Int)))).setCell ⟨b, 3, none⟩ (.int .i64 ((q : Int) + 1))).heap[k]? = w3.heap[k]? := fun k hk => by rw [heap_setCell_other _ _ _ _ hk, heap_setCell_other _ _ _ _ hk]
      have hsz4 : ((w3.setCell ⟨b, 2, none⟩ (.int .i64 ((P : Int) + (fn : Int)))).setCell ⟨b, 3, none⟩ (.int .i64 ((q : Int) + 1))).heap.size = w3.heap.size := by simp
      have hos4 : ((w3.setCell ⟨b, 2, none⟩ (.int .i64 ((P : Int) + (fn : Int)))).setCell ⟨b, 3, none⟩ (.int .i64 ((q : Int) + 1))).os = w3.os := rfl
      have htp4 : ((w3.setCell ⟨b, 2, none⟩ (.int .i64 ((P : Int) + (fn : Int)))).setCell ⟨b, 3, none⟩ (.int .i64 ((q : Int) + 1))).tape = w3.tape := rfl
      have hou4 : ((w3.setCell ⟨b, 2, none⟩ (.int .i64 ((P : Int) + (fn : Int)))).setCell ⟨b, 3, none⟩ (.int .i64 ((q : Int) + 1))).output = w3.output := rfl
      generalize hw4 : (w3.setCell ⟨b, 2, none⟩ (.int .i64 ((P : Int) + (fn : Int)))).setCell ⟨b, 3, none⟩ (.int .i64 ((q : Int) + 1)) = w4 at hfar hsz4 hos4 htp4 hou4 HV4
      have HW4 : Hid _ := hw4
      have hbL : b < L := hord.2.1
      have keep : ∀ k, k < wr.heap.size → k ≠ b → w4.heap[k]? = wr.heap[k]? := fun k hk hb => (hfar k hb).trans (HB3.out.block k hk)
      have sw4 : SameIn (L + 1) wr.heap.size wr w4 := ⟨by rw [hsz4]; omega, fun k h1 h2 => keep k h2 (by omega)⟩
      have sw5 : SameIn wr.heap.size w1.heap.size w1 w4 := ⟨by rw [hsz4]; omega, fun k h1 h2 => (hfar k (by omega)).trans (HK13.out k h2)⟩
      have hyl := HY.out (.slice ua un uc) (claimD S P) w4 acc v vs wr.heap.size ((keep c (by omega) (fun e => hord.2.2.2.2.1 e.symm)).trans HC.out) (OwX.same HX.out sw4) ((OwB.same HOU.out sw5).wide (Nat.le_refl _) (by rw [hsz4]; omega)) hLlt (by rw [hsz4]; omega) ((keep L hLlt (by omega)).trans HL.out) (by omega)
      obtain ⟨yf, yt, ya, yb, hyr, HRD⟩ := hyl
      have HRND : Hid _ := HRD
      have HKP : Hid _ := keep
      clear hw4 keep sw4 sw5 HRD
      gi_wp2_with (rw [HW4.out])
      refine RoundIn.mono HRND.out ?_
      rintro e W5 ⟨rfl, ⟨v5, vs5, hc5, hX5⟩, hL5, far5, hos5, htp5, hou5, hs5⟩
      have HR5 : Hid (RecI b c D L x y r wb H S (P + fn) (q + 1) (acc ++ [claimD S P]) W5) := by
        have hV5 : VarJ 30 W5 b x y ((P + fn : Nat) : Int) ((q + 1 : Nat) : Int) := by
          rw [Int.natCast_add P fn, Int.natCast_add q 1]
          exact (far5 b (by omega) hord.2.2.2.2.1).trans HV4.out
        refine ⟨hV5, ⟨v5, vs5, hc5, hX5⟩, hL5, ?_, ?_, HNX.out⟩
        · exact (far5 D hord.2.2.2.2.2.2.1 hord.2.2.2.2.2.2.2.2).trans ((HKP.out D (by omega) hord.2.2.2.2.2.2.2.1).trans HD.out)
        · refine ⟨hos5.trans (hos4.trans (HB3.out.os.trans HB.out.os)), htp5.trans (htp4.trans (HB3.out.tape.trans HB.out.tape)), hou5.trans (hou4.trans (HB3.out.output.trans HB.out.output)), by omega, fun k hk => ?_⟩
          exact (far5 k (by omega) (by omega)).trans ((HKP.out k (by omega) (by omega)).trans (HB.out.block k hk))
      have hms : leftM b S.length W5 < leftM b S.length wr := by rw [leftM_eq HR5.out.1, leftM_eq HV.out]; omega
      have HMS : Hid _ := hms
      clear hc5 hX5 hL5 far5 hos5 htp5 hou5 hms
      gi_wp2
      exact ⟨⟨_, _, _, HR5.out⟩, HMS.out⟩
end Go.Proofs.YtjhaanenkeceiaaDoor
