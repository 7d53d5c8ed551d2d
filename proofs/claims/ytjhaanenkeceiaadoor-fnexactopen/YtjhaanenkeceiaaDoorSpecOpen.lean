/- Opening a disk, the specification's way. Conditions: the disk is DiskOk. -/
import Derived.Test.YtjhaanenkeceiaaDoorSpecRead
import Derived.Test.YtjhaanenkeceiaaDoorJournals
import Derived.Test.YtjhaanenkeceiaaDoorJBase
import Derived.Deep.AppendLies
namespace Go.Proofs.YtjhaanenkeceiaaDoor
open Go.RowKit
set_option linter.unusedVariables false
set_option linter.unusedSimpArgs false
attribute [local go_sem ↓] Go.wp_at_zero Go.wp_at_succ

def leftS (b n : Nat) (w : World) : Nat := n - (intOf ((w.cell? ⟨b, 2, none⟩).getD undef)).toNat
theorem leftS_eq {b n : Nat} {x y : Value} {P q : Nat} {w : World} (h : VarJ 30 w b x y (P : Int) (q : Int)) : leftS b n w = n - P := by unfold leftS; rw [h.c2]; simp [intOf]
def SORel (w : World) (b c L0 : Nat) (x y : Value) (S : List (List Int)) (o : Value) (wr : World) : Prop :=
  ∃ P q acc, Hid (VarJ 30 wr b x y ((P : Nat) : Int) ((q : Nat) : Int)) ∧ Hid (VarJ 30 wr c (.slice none 0 0) (.slice none 0 0) 0 0) ∧ Hid (GrBB wr L0 o acc) ∧ Below w.heap.size w wr ∧ L0 ≤ wr.heap.size ∧ Hid (OpenAt S P q acc)

set_option maxRecDepth 100000 in
set_option maxHeartbeats 4000000 in
theorem open3_any (v : Value) (d : Dk) (l h : Nat) (w : World) (r : RdD w l h v d) (hh : h ≤ w.heap.size) (hS : d.1.length ≤ 2000) (hw32 : ∀ i, i < d.1.length → (d.1[i]?.getD []).length = 32) (hbz : ∀ i : Nat, isBytes (d.1[i]?.getD [])) :
    Calls Tryd.prog 46 #[v] w fun e w' => ∃ X V, e = .returned (.tuple #[X, V]) ∧ RdJ w' l h X (d, ((openS d.1).1 : Int), ((openS d.1).2.1 : Int)) ∧ RdBB w' w.heap.size w'.heap.size V (openS d.1).2.2 ∧ Below w.heap.size w w' := by
  obtain ⟨xa, xn, xc, ya, yn, yc, rfl⟩ := r.open
  have hrp := r
  obtain ⟨x', y', he, r1, r2⟩ := hrp
  simp only [Value.agg.injEq, Array.mk.injEq, List.cons.injEq, and_true] at he
  obtain ⟨rfl, rfl⟩ := he
  have b0 := Below.new (w := w) (.cells #[.slice xa xn xc, .slice ya yn yc] 26)
  generalize hw0 : w.alloc (.cells #[.slice xa xn xc, .slice ya yn yc] 26) = w0 at b0
  have s0 : w0.heap.size = w.heap.size + 1 := by rw [← hw0]; simp
  have b1 := Below.new (w := w0) (.cells #[.slice none 0 0, .slice none 0 0, .int .i64 0, .int .i64 0] 30)
  have vR := VarJ.new (T := 30) w0 (.slice none 0 0) (.slice none 0 0) 0 0
  rw [s0] at vR
  generalize hw1 : w0.alloc (.cells #[.slice none 0 0, .slice none 0 0, .int .i64 0, .int .i64 0] 30) = w1 at b1 vR
  have s1 : w1.heap.size = w.heap.size + 2 := by rw [← hw1]; simp; omega
  have b2 := Below.new (w := w1) (.cells #[.slice xa xn xc, .slice ya yn yc, .int .i64 0, .int .i64 0] 30)
  have vJ := VarJ.new (T := 30) w1 (.slice xa xn xc) (.slice ya yn yc) 0 0
  rw [s1] at vJ
  have vR2 := vR.step b2
  generalize hw2 : w1.alloc (.cells #[.slice xa xn xc, .slice ya yn yc, .int .i64 0, .int .i64 0] 30) = w2 at b2 vJ vR2
  have s2 : w2.heap.size = w.heap.size + 3 := by rw [← hw2]; simp; omega
  have B2 : Below w.heap.size w w2 := (b0.trans (b1.mono (by omega))).trans (b2.mono (by omega))
  have HW : Hid (((w.alloc (.cells #[.slice xa xn xc, .slice ya yn yc] 26)).alloc (.cells #[.slice none 0 0, .slice none 0 0, .int .i64 0, .int .i64 0] 30)).alloc (.cells #[.slice xa xn xc, .slice ya yn yc, .int .i64 0, .int .i64 0] 30) = w2) := by show _ = _; rw [hw0, hw1, hw2]
  have HST : Hid (SORel w (w.heap.size + 2) (w.heap.size + 1) (w.heap.size + 3) (.slice xa xn xc) (.slice ya yn yc) d.1 (.slice none 0 0) w2) := ⟨0, 0, [], vJ, vR2, GrBB_nil _ _, B2, by omega, OpenAt.start _⟩
  have HR1 : Hid _ := r1
  have HRD : Hid (∀ W, Below w.heap.size w W → RdD W l h (.agg #[.slice xa xn xc, .slice ya yn yc]) d) := fun W hW => r.step hh hW
  have HW32 : Hid _ := hw32
  have HBZ : Hid _ := hbz
  obtain ⟨j0, hj, hy0, hy1, hy2⟩ := info_parts Tryd.infoBB
  clear hw0 hw1 hw2 b0 b1 b2 vR vJ vR2 B2 s0 s1 s2 r1 r2 r hw32 hbz
  go_enter Tryd.func46, Tryd.ntmps46
  go_wp2
  rw [HW.out]
  go_loopw [5] (fun o wr => SORel w (w.heap.size + 2) (w.heap.size + 1) (w.heap.size + 3) (.slice xa xn xc) (.slice ya yn yc) d.1 o wr) (fun _ wr => leftS (w.heap.size + 2) d.1.length wr)
  case atStart => exact HST.out
  case round =>
    clear HST
    obtain ⟨P, q, acc, HV, HVR, HG, hB, hL0, HO⟩ := hrel
    have hV := HV.out
    have hO := HO.out
    have hP : P ≤ d.1.length := hO.1
    have hqP : q ≤ P := hO.2.1
    have hac : acc.length ≤ P := hO.2.2.1
    have hsB := hB.size
    have HRD3 : Hid _ := read3_any (w.heap.size + 2) _ d.1 P q l h wr hV.c0 hV.lt (RdBB.same HR1.out (SameIn.ofBelow hB hh)) (by omega) hS hP (by omega) HW32.out HBZ.out
    have c2 := hV.c2
    have c3 := hV.c3
    have HVV : Hid (VarJ _ wr _ _ _ _ _) := hV
    clear hV
    go_wp2_with fail
    refine Calls.mono HRD3.out ?_
    rintro e w3 ⟨b3, hcase⟩
    clear HRD3 c2 c3
    have s3 := b3.size
    have B3 : Below w.heap.size w w3 := hB.trans (b3.mono hsB)
    have v3 := VarJ.step HV.out b3
    have vr3 := VarJ.step HVR.out b3
    rcases hcase with ⟨hno, rfl⟩ | ⟨rc, u, hsm, rfl, rU, fU, bU⟩
    · have hst := hO.stop hno
      have k0 := v3.c0
      have k1 := v3.c1
      have k2 := v3.c2
      have k3 := v3.c3
      have e0 := vr3.c0
      have e1 := vr3.c1
      have e2 := vr3.c2
      have e3 := vr3.c3
      have f0 := vr3.f 0
      have f1 := vr3.f 1
      have f2 := vr3.f 2
      have f3 := vr3.f 3
      obtain ⟨ga, gc, hge⟩ := HG.out.sliced
      have HST2 : Hid _ := hst
      have HGR : Hid (RdBB w3 (w.heap.size + 3) wr.heap.size _ acc) := RdBB.same HG.out.rd (SameIn.ofBelow b3 (Nat.le_refl _))
      subst hge
      have HB3 : Hid _ := B3
      clear hO HO HG HV HVR v3 vr3 b3 B3 hB hno hst
      go_wp2
      refine bodyPost_ret (v := .tuple #[.agg #[.slice xa xn xc, .slice ya yn yc, .int .i64 (P : Int), .int .i64 (q : Int)], .slice ga acc.length gc]) (by simp [results, Tryd.results46, go_sem, e0, e1, e2, e3]) rfl ⟨_, _, rfl, ?_, ?_, ?_⟩
      · rw [HST2.out]
        refine ⟨_, _, rfl, HRD.out _ ?_⟩
        exact (((HB3.out.setCell (Nat.le_succ _) _).setCell (Nat.le_succ _) _).setCell (Nat.le_succ _) _).setCell (Nat.le_succ _) _
      · rw [HST2.out]
        have h9 := RdBB.same HGR.out (w' := (((w3.setCell ⟨w.heap.size + 1, 0, none⟩ (.slice xa xn xc)).setCell ⟨w.heap.size + 1, 1, none⟩ (.slice ya yn yc)).setCell ⟨w.heap.size + 1, 2, none⟩ (.int .i64 (P : Int))).setCell ⟨w.heap.size + 1, 3, none⟩ (.int .i64 (q : Int))) ⟨by simp, fun k h1 _ => by rw [heap_setCell_other _ _ _ _ (by show k ≠ w.heap.size + 1; omega), heap_setCell_other _ _ _ _ (by show k ≠ w.heap.size + 1; omega), heap_setCell_other _ _ _ _ (by show k ≠ w.heap.size + 1; omega), heap_setCell_other _ _ _ _ (by show k ≠ w.heap.size + 1; omega)]⟩
        exact h9.wide (by omega) (by simp; omega)
      · exact (((HB3.out.setCell (Nat.le_succ _) _).setCell (Nat.le_succ _) _).setCell (Nat.le_succ _) _).setCell (Nat.le_succ _) _
    · have hnx := OpenAt.next HW32.out hO hsm
      obtain ⟨m, hm⟩ : ∃ m, manyN rc.length = m := ⟨_, rfl⟩
      have hm0 := manyN_pos rc.length
      rw [hm] at hnx hm0
      rw [hm]
      have hPm : P + m ≤ d.1.length := hnx.1
      have en : ((m : Int) == 0) = false := by simp; omega
      have hwm := wrap_id ((P : Int) + (m : Int)) (by omega) (by omega)
      obtain ⟨ua, un, uc, rfl⟩ := rU.sliced
      obtain ⟨vs, hvl, hrow, hee⟩ := HG.out
      obtain ⟨ga, gc, hge⟩ := HG.out.sliced
      subst hge
      have hrow3 : w3.ownsRow (w.heap.size + 3) 22 1 (.slice ga acc.length gc) acc.length vs := ownsRow_same hrow (fun q hq => (hrow.lt q hq).2) (SameIn.ofBelow b3 (Nat.le_refl _))
      have HRW : Hid _ := hrow3
      have HROW : Hid _ := And.intro hvl (And.intro hrow hee)
      have HRU : Hid _ := rU
      have HFU : Hid _ := And.intro fU bU
      have HB3 : Hid _ := b3
      have HBW : Hid _ := B3
      have HV3 : Hid (VarJ _ w3 _ _ _ _ _) := v3
      have HVR3 : Hid (VarJ _ w3 _ _ _ _ _) := vr3
      have HNX : Hid _ := hnx
      clear hO HO HG HV HVR v3 vr3 b3 B3 hB hnx hm hsm rU fU bU hvl hrow hee hrow3
      go_wp2_with (at_builtin; go_must (refine wpList_append_lies _ rfl (.tmp 23) (.tmp 25) 23 rfl (w.heap.size + 3) 22 j0 (.slice none 0 0) 1 24 Tryd.underlying23 hj hy0 hy1 hy2 rfl (by decide) _ acc.length vs rfl (World.ownsRow.alloc HRW.out _) ⟨w3.heap.size, 0, none⟩ 1 1 [.slice ua un uc] rfl rfl (one_slice w3 _) (one_slice1 _) (by decide) (by unfold maxLen; omega) (by omega) (by simp; omega) _ rfl ?_; intro g9 c9 w9 ho9 hg9 ha9 hl9; have v9 : VarJ 30 w9 (w.heap.size + 2) (.slice xa xn xc) (.slice ya yn yc) (P : Int) (q : Int) := (hg9.block _ (by simp; omega) (fun e => by have := (World.ownsRow.lt HRW.out _ e.symm).1; omega)).trans ((Below.heap_alloc w3 _ _ (by omega)).trans HV3.out); have c92 := v9.c2; have c93 := v9.c3; have f92 := v9.f 2; have f93 := v9.f 3))
      have hbn := Below.new (w := w3) (.cells #[.slice ua un uc] 22)
      have hb9 : Below wr.heap.size wr (w3.alloc (.cells #[.slice ua un uc] 22)) := HB3.out.trans (hbn.mono s3)
      have hG := GrBB.next (zss := acc) HROW.out.1 HROW.out.2.1 HROW.out.2.2 hb9 ho9 hg9 ha9 ((RdB.same HRU.out (SameIn.ofBelow hbn (Nat.le_refl _))).wide (by omega) (by simp)) (fun q hq => ⟨HFU.out.1 q hq, by have := HFU.out.2 q hq; simp; omega⟩)
      have hs9 := hg9.size
      rw [World.size_alloc] at hs9
      have far9 : ∀ k, k < w.heap.size + 3 → w9.heap[k]? = w3.heap[k]? := fun k hk => (hg9.block k (by simp; omega) (fun e => by have := (World.ownsRow.lt HRW.out _ e.symm).1; omega)).trans (Below.heap_alloc w3 _ k (by omega))
      have V4 := (v9.set2 ((P : Int) + (m : Int))).set3 ((q : Int) + 1)
      have HR : Hid (SORel w (w.heap.size + 2) (w.heap.size + 1) (w.heap.size + 3) (.slice xa xn xc) (.slice ya yn yc) d.1 (.slice (some ⟨g9, 0, none⟩) (acc.length + 1) c9) ((w9.setCell ⟨w.heap.size + 2, 2, none⟩ (.int .i64 ((P : Int) + (m : Int)))).setCell ⟨w.heap.size + 2, 3, none⟩ (.int .i64 ((q : Int) + 1)))) := by
        refine ⟨P + m, q + 1, acc ++ [rc], ?_, ?_, ?_, ?_, by simp; omega, HNX.out⟩
        · show VarJ _ _ _ _ _ _ _
          rw [Int.natCast_add P m, Int.natCast_add q 1]
          exact V4
        · show _ = _
          rw [heap_setCell_other _ _ _ _ (by show w.heap.size + 1 ≠ w.heap.size + 2; omega), heap_setCell_other _ _ _ _ (by show w.heap.size + 1 ≠ w.heap.size + 2; omega), far9 _ (by omega)]
          exact HVR3.out
        · exact hG.same ⟨by simp, fun k h1 _ => by rw [heap_setCell_other _ _ _ _ (by show k ≠ w.heap.size + 2; omega), heap_setCell_other _ _ _ _ (by show k ≠ w.heap.size + 2; omega)]⟩
        · have hB9 : Below w.heap.size w w9 := ⟨hg9.os.trans HBW.out.os, hg9.tape.trans HBW.out.tape, hg9.output.trans HBW.out.output, by have := HBW.out.size; omega, fun k hk => (far9 k (by omega)).trans (HBW.out.block k hk)⟩
          exact (hB9.setCell (by show w.heap.size ≤ w.heap.size + 2; omega) _).setCell (by show w.heap.size ≤ w.heap.size + 2; omega) _
      have HMS : Hid (leftS (w.heap.size + 2) d.1.length ((w9.setCell ⟨w.heap.size + 2, 2, none⟩ (.int .i64 ((P : Int) + (m : Int)))).setCell ⟨w.heap.size + 2, 3, none⟩ (.int .i64 ((q : Int) + 1))) < leftS (w.heap.size + 2) d.1.length wr) := by
        show _ < _
        have h8 : VarJ 30 ((w9.setCell ⟨w.heap.size + 2, 2, none⟩ (.int .i64 ((P : Int) + (m : Int)))).setCell ⟨w.heap.size + 2, 3, none⟩ (.int .i64 ((q : Int) + 1))) (w.heap.size + 2) (.slice xa xn xc) (.slice ya yn yc) ((P + m : Nat) : Int) ((q + 1 : Nat) : Int) := by rw [Int.natCast_add P m, Int.natCast_add q 1]; exact V4
        rw [leftS_eq h8, leftS_eq HVV.out]; omega
      clear hG hb9 hbn far9 V4 v9 ho9 hg9 ha9 hl9 HRW HROW HRU HFU
      go_wp2
      exact ⟨HR.out, HMS.out⟩
end Go.Proofs.YtjhaanenkeceiaaDoor
