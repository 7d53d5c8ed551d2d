/- The program's copy of a journal. Condition: that it is ok. -/
import Derived.Test.YtjhaanenkeceiaaDoorJBase
import Derived.Test.YtjhaanenkeceiaaDoorImplJ
namespace Go.Proofs.YtjhaanenkeceiaaDoor
open Go.RowKit
set_option linter.unusedVariables false
set_option linter.unusedSimpArgs false
attribute [local go_sem ↓] Go.wp_at_zero Go.wp_at_succ

set_option maxRecDepth 100000 in
set_option maxHeartbeats 4000000 in
theorem jcloneI_any (b : Nat) (x y : Value) (p q : Int) (d : Dk) (l h : Nat) (w : World) (v0 : VarJ 30 w b x y p q) (r : RdBB w l h x d.1) (s : RdWs w l h y d.2) (hh : h ≤ w.heap.size) (hok : okD d = true) :
    Calls Tryd.prog 37 #[.pointer (some ⟨b, 0, none⟩)] w fun e w' => ∃ u, e = .returned u ∧ OwJ2 w' w.heap.size w'.heap.size u (d, p, q) ∧ Below w.heap.size w w' := by
  have b1 := Below.new (w := w) (.cells #[.slice none 0 0, .slice none 0 0, .int .i64 0, .int .i64 0] 30)
  have vR := VarJ.new (T := 30) w (.slice none 0 0) (.slice none 0 0) 0 0
  generalize hw1 : w.alloc (.cells #[.slice none 0 0, .slice none 0 0, .int .i64 0, .int .i64 0] 30) = w1 at b1 vR
  have HW : Hid _ := hw1
  have v1 := v0.step b1
  have s1 := b1.size
  have HCL : Hid _ := cloneJ_any p q b x y d l h w1.drew v1 (r.same ((SameIn.ofBelow b1 hh).trans SameIn.drew)) (s.same ((SameIn.ofBelow b1 hh).trans SameIn.drew)) (by show h ≤ w1.heap.size; omega) hok
  have HV1 : Hid (VarJ 30 w1 b _ _ _ _) := v1
  have HVR : Hid (VarJ 30 w1 w.heap.size _ _ _ _) := vR
  have HB1 : Hid _ := b1
  have hrl : w.heap.size < w1.heap.size := vR.lt
  have hbn : ¬ b = w.heap.size := by have := v0.lt; omega
  have hbn2 : ¬ w.heap.size = b := by have := v0.lt; omega
  clear r s hok b1 hw1 vR v0
  go_enter Tryd.func37, Tryd.ntmps37
  go_wp2
  rw [HW.out]
  refine wp_region_noPanic ?_
  refine wp_region_held_drew (S := fun w' => w'.cell? ⟨b, 2, none⟩ = some (.int .i64 p) ∧ w'.cell? ⟨b, 3, none⟩ = some (.int .i64 q)) (by kernel_rfl) ⟨v1.c2, v1.c3⟩ (fun hHeld => ?_)
  clear v1
  refine wpAnyH_take (i := 0) (v := ?_) rfl (by kernel_rfl) (by kernel_rfl) (by kernel_rfl) (fun _ _ _ h => h) (Or.inl ⟨by rfl, ?_⟩) (by assumption) ?_
  rotate_left
  · (intro w_ hSw_; (try dsimp only at hSw_); go_simp; try with_reducible rfl)
  try simp only [Act.put, List.setIfInBounds_toArray, List.set_cons_zero, List.set_cons_succ, List.getElem_toArray, List.getElem_cons_zero, List.getElem_cons_succ]
  refine wpAnyH_take (i := 1) (v := ?_) rfl (by kernel_rfl) (by kernel_rfl) (by kernel_rfl) (fun _ _ _ h => h) (Or.inl ⟨by rfl, ?_⟩) (by assumption) ?_
  rotate_left
  · (intro w_ hSw_; (try dsimp only at hSw_); go_simp; try with_reducible rfl)
  try simp only [Act.put, List.setIfInBounds_toArray, List.set_cons_zero, List.set_cons_succ, List.getElem_toArray, List.getElem_cons_zero, List.getElem_cons_succ]
  refine wpAnyH_take (i := 2) (v := ?_) rfl (by kernel_rfl) (by kernel_rfl) (by kernel_rfl) (fun _ _ _ h => h) (Or.inl ⟨by rfl, ?_⟩) (by assumption) ?_
  rotate_left
  · (intro w_ hSw_; (try dsimp only at hSw_); go_simp; try with_reducible rfl)
  try simp only [Act.put, List.setIfInBounds_toArray, List.set_cons_zero, List.set_cons_succ, List.getElem_toArray, List.getElem_cons_zero, List.getElem_cons_succ]
  refine wpAnyH_take (i := 4) (v := ?_) rfl (by kernel_rfl) (by kernel_rfl) (by kernel_rfl) (fun _ _ _ h => h) (Or.inl ⟨by rfl, ?_⟩) (by assumption) ?_
  rotate_left
  · (intro w_ hSw_; (try dsimp only at hSw_); go_simp; try with_reducible rfl)
  try simp only [Act.put, List.setIfInBounds_toArray, List.set_cons_zero, List.set_cons_succ, List.getElem_toArray, List.getElem_cons_zero, List.getElem_cons_succ]
  refine wpAnyH_take (i := 5) (v := ?_) rfl (by kernel_rfl) (by kernel_rfl) (by kernel_rfl) (fun _ _ _ h => h) (Or.inl ⟨by rfl, ?_⟩) (by assumption) ?_
  rotate_left
  · (intro w_ hSw_; (try dsimp only at hSw_); go_simp; try with_reducible rfl)
  try simp only [Act.put, List.setIfInBounds_toArray, List.set_cons_zero, List.set_cons_succ, List.getElem_toArray, List.getElem_cons_zero, List.getElem_cons_succ]
  refine wpAnyH_take (i := 6) (v := ?_) rfl (by kernel_rfl) (by kernel_rfl) (by kernel_rfl) (fun _ _ _ h => h) (Or.inl ⟨by rfl, ?_⟩) (by assumption) ?_
  rotate_left
  · (intro w_ hSw_; (try dsimp only at hSw_); go_simp; try with_reducible rfl)
  try simp only [Act.put, List.setIfInBounds_toArray, List.set_cons_zero, List.set_cons_succ, List.getElem_toArray, List.getElem_cons_zero, List.getElem_cons_succ]
  refine wpAnyH_take (i := 7) (v := ?_) rfl (by kernel_rfl) (by kernel_rfl) (by kernel_rfl) (fun _ _ _ h => h) (Or.inl ⟨by rfl, ?_⟩) (by assumption) ?_
  rotate_left
  · (intro w_ hSw_; (try dsimp only at hSw_); go_simp; try with_reducible rfl)
  try simp only [Act.put, List.setIfInBounds_toArray, List.set_cons_zero, List.set_cons_succ, List.getElem_toArray, List.getElem_cons_zero, List.getElem_cons_succ]
  refine wpAnyH_take (i := 8) (v := ?_) rfl (by kernel_rfl) (by kernel_rfl) (by kernel_rfl) (fun _ _ _ h => h) (Or.inl ⟨by rfl, ?_⟩) (by assumption) ?_
  rotate_left
  · (intro w_ hSw_; (try dsimp only at hSw_); go_simp; try with_reducible rfl)
  try simp only [Act.put, List.setIfInBounds_toArray, List.set_cons_zero, List.set_cons_succ, List.getElem_toArray, List.getElem_cons_zero, List.getElem_cons_succ]
  refine wpAnyH_take (i := 9) (v := ?_) rfl (by kernel_rfl) (by kernel_rfl) (by kernel_rfl) (fun _ _ _ h => h) (Or.inl ⟨by rfl, ?_⟩) (by assumption) ?_
  rotate_left
  · (intro w_ hSw_; (try dsimp only at hSw_); go_simp; try with_reducible rfl)
  try simp only [Act.put, List.setIfInBounds_toArray, List.set_cons_zero, List.set_cons_succ, List.getElem_toArray, List.getElem_cons_zero, List.getElem_cons_succ]
  refine wpAnyH_take (i := 10) (v := ?_) rfl (by kernel_rfl) (by kernel_rfl) (by kernel_rfl) (fun _ _ _ h => h) (Or.inl ⟨by rfl, ?_⟩) (by assumption) ?_
  rotate_left
  · (intro w_ hSw_; (try dsimp only at hSw_); go_simp; try with_reducible rfl)
  try simp only [Act.put, List.setIfInBounds_toArray, List.set_cons_zero, List.set_cons_succ, List.getElem_toArray, List.getElem_cons_zero, List.getElem_cons_succ]
  refine wpAnyH_take (i := 11) (v := ?_) rfl (by kernel_rfl) (by kernel_rfl) (by kernel_rfl) (fun _ _ _ h => h) (Or.inl ⟨by rfl, ?_⟩) (by assumption) ?_
  rotate_left
  · (intro w_ hSw_; (try dsimp only at hSw_); go_simp; try with_reducible rfl)
  try simp only [Act.put, List.setIfInBounds_toArray, List.set_cons_zero, List.set_cons_succ, List.getElem_toArray, List.getElem_cons_zero, List.getElem_cons_succ]
  refine wpAnyH_ready (rs := [3]) (by kernel_rfl) (by simp) ?_
  refine AllReadyH.cons rfl (fun K hK => ?_) AllReadyH.nil
  go_simp
  refine Calls.mono HCL.out ?_
  rintro e w2 ⟨u, rfl, hO, b2⟩
  have V2 := VarJ.step HV1.out ((Below.drew (Below.refl _ _)).trans b2)
  have S1 : w2.cell? ⟨b, 2, none⟩ = some (.int .i64 p) ∧ w2.cell? ⟨b, 3, none⟩ = some (.int .i64 q) := ⟨V2.c2, V2.c3⟩
  have VR := VarJ.step HVR.out ((Below.drew (Below.refl _ _)).trans b2)
  have r0 := VR.c0
  have r1 := VR.c1
  have r2 := VR.c2
  have r3 := VR.c3
  have f0 := VR.f 0
  have f1 := VR.f 1
  have f2 := VR.f 2
  have f3 := VR.f 3
  have HO : Hid _ := hO
  obtain ⟨ua, un, uc, ta, tn, tc, rfl⟩ := hO.rd.open
  have HB : Hid (Below w.heap.size w w2) := HB1.out.trans (((Below.drew (Below.refl _ _)).trans b2).mono HB1.out.size)
  have HVR2 : Hid (VarJ _ w2 w.heap.size _ _ _ _) := VR
  have s2 := b2.size
  clear b2 V2 VR hO HV1 HVR HB1 HCL
  go_wp2_with fail
  refine hK.out _ _ S1 (fun hHeld => ?_)
  clear hK K
  try simp only [Act.put, List.setIfInBounds_toArray, List.set_cons_zero, List.set_cons_succ, List.getElem_toArray, List.getElem_cons_zero, List.getElem_cons_succ]
  refine wpAnyH_take (i := 12) (v := ?_) rfl (by kernel_rfl) (by kernel_rfl) (by kernel_rfl) (fun _ _ _ h => h) (Or.inl ⟨by rfl, ?_⟩) (by assumption) ?_
  rotate_left
  · (intro w_ hSw_; (try dsimp only at hSw_); go_simp; try with_reducible rfl)
  try simp only [Act.put, List.setIfInBounds_toArray, List.set_cons_zero, List.set_cons_succ, List.getElem_toArray, List.getElem_cons_zero, List.getElem_cons_succ]
  refine wpAnyH_ready (rs := [13]) (by kernel_rfl) (by simp) ?_
  refine AllReadyH.cons rfl (fun K hK => ?_) AllReadyH.nil
  go_simp
  refine hK.out _ _ (by first | (go_keep; done) | (refine ⟨?_, ?_⟩ <;> simp [hbn, hbn2, hHeld] ; done) | (trace_state; fail)) (fun hHeld => ?_)
  clear hK K
  try simp only [Act.put, List.setIfInBounds_toArray, List.set_cons_zero, List.set_cons_succ, List.getElem_toArray, List.getElem_cons_zero, List.getElem_cons_succ]
  refine wpAnyH_done (by kernel_rfl) (NoPanic.normal ?_) _
  have VR4 := VarJ.fill HVR2.out (.slice ua un uc) (.slice ta tn tc) p q
  have hO4 : OwD2 ((((w2.setCell ⟨w.heap.size, 0, none⟩ (.slice ua un uc)).setCell ⟨w.heap.size, 1, none⟩ (.slice ta tn tc)).setCell ⟨w.heap.size, 2, none⟩ (.int .i64 p)).setCell ⟨w.heap.size, 3, none⟩ (.int .i64 q)) w1.heap.size w2.heap.size (.agg #[.slice ua un uc, .slice ta tn tc]) d := OwD2.same HO.out ⟨by simp, fun k h1 h2 => by rw [heap_setCell_other _ _ _ _ (by show k ≠ w.heap.size; have : w1.heap.size ≤ k := h1; omega), heap_setCell_other _ _ _ _ (by show k ≠ w.heap.size; have : w1.heap.size ≤ k := h1; omega), heap_setCell_other _ _ _ _ (by show k ≠ w.heap.size; have : w1.heap.size ≤ k := h1; omega), heap_setCell_other _ _ _ _ (by show k ≠ w.heap.size; have : w1.heap.size ≤ k := h1; omega)]⟩
  have hB4 : Below w.heap.size w ((((w2.setCell ⟨w.heap.size, 0, none⟩ (.slice ua un uc)).setCell ⟨w.heap.size, 1, none⟩ (.slice ta tn tc)).setCell ⟨w.heap.size, 2, none⟩ (.int .i64 p)).setCell ⟨w.heap.size, 3, none⟩ (.int .i64 q)) := (((HB.out.setCell (Nat.le_refl _) _).setCell (Nat.le_refl _) _).setCell (Nat.le_refl _) _).setCell (Nat.le_refl _) _
  have hz4 : ((((w2.setCell ⟨w.heap.size, 0, none⟩ (.slice ua un uc)).setCell ⟨w.heap.size, 1, none⟩ (.slice ta tn tc)).setCell ⟨w.heap.size, 2, none⟩ (.int .i64 p)).setCell ⟨w.heap.size, 3, none⟩ (.int .i64 q)).heap.size = w2.heap.size := by simp
  clear S1 hHeld r0 r1 r2 r3 f0 f1 f2 f3 HO HVR2 HB
  go_wp2
  generalize ((((w2.setCell ⟨w.heap.size, 0, none⟩ (.slice ua un uc)).setCell ⟨w.heap.size, 1, none⟩ (.slice ta tn tc)).setCell ⟨w.heap.size, 2, none⟩ (.int .i64 p)).setCell ⟨w.heap.size, 3, none⟩ (.int .i64 q)) = w4 at VR4 hO4 hB4 hz4 ⊢
  have c0 := VR4.c0
  have c1 := VR4.c1
  have c2 := VR4.c2
  have c3 := VR4.c3
  refine bodyPost_ret (v := .agg #[.slice ua un uc, .slice ta tn tc, .int .i64 p, .int .i64 q]) (by simp [results, Tryd.results37, go_sem, c0, c1, c2, c3]) rfl ⟨_, rfl, ⟨_, _, rfl, OwD2.wide hO4 s1 (by omega)⟩, hB4⟩
end Go.Proofs.YtjhaanenkeceiaaDoor
