/- The frame is written: the program's write of a record into a journal of the call's own. Condition: the journal is ok. -/
import Derived.Test.YtjhaanenkeceiaaDoorImplJ3
namespace Go.Proofs.YtjhaanenkeceiaaDoor
open Go.RowKit
set_option linter.unusedVariables false
set_option linter.unusedSimpArgs false
attribute [local go_sem ↓] Go.wp_at_zero Go.wp_at_succ

set_option maxRecDepth 100000 in
set_option maxHeartbeats 8000000 in
theorem jwrite_d (b : Nat) (x y : Value) (d : Dk) (p q : Nat) (vs xs : List Value) (sv : Value) (zs : List Int) (lz hz l h : Nat) (w : World) (v0 : VarJ 30 w b x y (p : Int) (q : Int)) (o1 : OwX w l h x d.1 vs) (o2 : OwY w l h y d.2 xs) (ha : ∀ q, Blk vs q → ¬ Blk xs q) (hh : h ≤ w.heap.size)
    (hlw : l ≤ w.heap.size) (rz : RdB w lz hz sv zs) (hhz : hz ≤ w.heap.size) (hp : p ≤ d.1.length) (hq : q ≤ 60000) (hok : okD d = true) (hfr : q < 60000 ∧ zs.length ≤ 200) (hr1 : (manyN zs.length : Int) ≤ (d.1.length : Int) - (p : Int)) (hr2 : (manyN zs.length : Int) ≤ 2000 - (d.2.length : Int)) :
    Calls Tryd.prog 67 #[.pointer (some ⟨b, 0, none⟩), sv] w (WroteJ w b x d p q zs vs l) := by
  have HFR : Hid _ := implFrame_all (q : Int) sv zs lz hz w rz hhz
  have hsz : d.1.length ≤ 2000 ∧ d.2.length ≤ 2000 := by
    unfold okD at hok
    simp only [Bool.and_eq_true, decide_eq_true_eq] at hok
    exact ⟨hok.1.1.1, hok.1.1.2⟩
  obtain ⟨sa, sn, sc, rfl⟩ := rz.sliced
  have hp9 : p ≤ 2000 := by omega
  obtain ⟨xa, xn, xc, hxe⟩ : ∃ a n c, x = .slice a n c := row_sliced o1.2.1
  obtain ⟨ya, yn, yc, hye⟩ : ∃ a n c, y = .slice a n c := by obtain ⟨C, _, ho, _⟩ := o2; exact row_sliced ho
  subst hxe
  subst hye
  have hxn : xn = d.1.length := by obtain ⟨a', n', c', us, he, hl, _⟩ := o1.bb.rd; simp only [Value.slice.injEq] at he; omega
  have hyn : yn = d.2.length := (o2.ww.rd.len).1
  have HV : Hid (VarJ 30 w b _ _ _ _) := v0
  have c3 := v0.c3
  obtain ⟨hq6, hz2⟩ := hfr
  have hf : frameD (q : Int) zs = frameN q zs := by unfold frameD; rw [if_pos (by omega), Int.toNat_natCast]
  rw [hf] at HFR
  have hm0 := manyN_pos zs.length
  have hm9 := manyN_le zs.length hz2
  have hfl := frameN_len q zs
  generalize hm : manyN zs.length = m at hm0 hm9 hfl hr1 hr2
  have e0 : ((m : Int) == 0) = false := by simp; omega
  have e0b : (m == 0) = false := by simp; omega
  have e0c : decide (m = 0) = false := by simp; omega
  have e0d : ¬ m = 0 := by omega
  have e0e : decide ((m : Int) = 0) = false := by simp; omega
  have e1 : decide ((xn : Int) - (p : Int) < (m : Int)) = false := by simp; omega
  have e2 : decide (2000 - (yn : Int) < (m : Int)) = false := by simp; omega
  have HYES : Hid (zs.length ≤ 200 ∧ roomJ (d, (p : Int), (q : Int)) zs = true) := by
    refine ⟨hz2, ?_⟩
    unfold roomJ
    simp only [Bool.and_eq_true, decide_eq_true_eq, hm]
    omega
  have HO1 : Hid _ := o1
  have HO2 : Hid _ := o2
  have HA : Hid _ := ha
  have HZB : Hid (isBytes zs) := rz.1
  have HM : Hid (manyN zs.length = m) := hm
  have HFL : Hid ((frameN q zs).length = m) := hfl
  have hxm : xn ≤ 2000 := by omega
  have hym : yn ≤ 2000 := by omega
  have hrp : (p : Int) + (m : Int) ≤ (xn : Int) := by omega
  have hry : yn + m ≤ 2000 := by omega
  have HXN : Hid _ := hxn
  have HYN : Hid _ := hyn
  have hwx := wrap_id ((xn : Int) - (p : Int)) (by omega) (by omega)
  have hwy := wrap_id (2000 - (yn : Int)) (by omega) (by omega)
  clear hf v0 o1 o2 ha rz hok hr1 hr2 hm hfl hxn hyn
  go_enter Tryd.func67, Tryd.ntmps67
  go_wp2_with fail
  refine Calls.mono HFR.out ?_
  rintro e w1 ⟨fx, fvs, rfl, hF, b1⟩
  have v1 := VarJ.step HV.out b1
  have s1 := b1.size
  have HB1 : Hid _ := b1
  obtain ⟨fa, fc, hfe⟩ : ∃ a c, fx = .slice (some ⟨a, 0, none⟩) m c := by
    obtain ⟨g, c, u, he, _⟩ := OwX.put (w' := w1) (new := []) hF (j := 0) (by rw [HFL.out]; exact hm0)
    rw [HFL.out] at he
    exact ⟨g, c, he⟩
  subst hfe
  have sm : SameIn l h w w1 := SameIn.ofBelow b1 hh
  have HST : Hid (WLRel w1 b (.slice xa xn xc) d p q (frameN q zs) (.slice (some ⟨fa, 0, none⟩) m fc) fvs vs l w.heap.size w1.heap.size m (.int .i64 0) w1.drew) := by
    refine ⟨0, _, xs, Nat.zero_le _, rfl, v1, (OwX.same (OwX.same HO1.out sm) SameIn.drew).wide (Nat.le_refl _) (by show h ≤ w1.heap.size; omega), ?_, HA.out, hF.same SameIn.drew, fun _ _ _ => rfl, rfl, rfl, rfl, Nat.le_refl _⟩
    have h2 := (OwY.same (OwY.same HO2.out sm) SameIn.drew).wide (Nat.le_refl _) (show h ≤ w1.drew.heap.size by show h ≤ w1.heap.size; omega)
    show OwY _ _ _ _ _ _
    simpa [frameW] using h2
  clear hF b1 sm c3 HO1 HO2 HA HFR HV
  go_wp2
  refine wp_region_noPanic ?_
  refine wp_region_held_drew (S := fun w' => w'.cell? ⟨b, 0, none⟩ = some (.slice xa xn xc) ∧ w'.cell? ⟨b, 1, none⟩ = some (.slice ya yn yc) ∧ w'.cell? ⟨b, 2, none⟩ = some (.int .i64 (p : Int))) (by kernel_rfl) ⟨v1.c0, v1.c1, v1.c2⟩ (fun hHeld => ?_)
  refine wpAnyH_take (i := 0) (v := ?_) rfl (by kernel_rfl) (by kernel_rfl) (by kernel_rfl) (fun _ _ _ h => h) (Or.inl ⟨by rfl, ?_⟩) (by assumption) ?_
  rotate_left
  · (intro w_ hSw_; (try dsimp only at hSw_); go_simp; try with_reducible rfl)
  try simp only [Act.put, List.setIfInBounds_toArray, List.set_cons_zero, List.set_cons_succ, List.getElem_toArray, List.getElem_cons_zero, List.getElem_cons_succ]
  refine wpAnyH_take (i := 1) (v := ?_) rfl (by kernel_rfl) (by kernel_rfl) (by kernel_rfl) (fun _ _ _ h => h) (Or.inl ⟨by rfl, ?_⟩) (by assumption) ?_
  rotate_left
  · (intro w_ hSw_; (try dsimp only at hSw_); go_simp; try with_reducible rfl)
  try simp only [Act.put, List.setIfInBounds_toArray, List.set_cons_zero, List.set_cons_succ, List.getElem_toArray, List.getElem_cons_zero, List.getElem_cons_succ]
  refine wpAnyH_take (i := 2) (v := ?_) rfl (by kernel_rfl) (by kernel_rfl) (by kernel_rfl) (fun _ _ _ h => h) (Or.inl ⟨by rfl, ?_⟩) (by assumption) ?_
  rotate_left
  · (intro w_ hSw_; (try dsimp only at hSw_); go_simp; try with_reducible rfl)
  try simp only [Act.put, List.setIfInBounds_toArray, List.set_cons_zero, List.set_cons_succ, List.getElem_toArray, List.getElem_cons_zero, List.getElem_cons_succ]
  refine wpAnyH_take (i := 3) (v := ?_) rfl (by kernel_rfl) (by kernel_rfl) (by kernel_rfl) (fun _ _ _ h => h) (Or.inl ⟨by rfl, ?_⟩) (by assumption) ?_
  rotate_left
  · (intro w_ hSw_; (try dsimp only at hSw_); go_simp; try with_reducible rfl)
  try simp only [Act.put, List.setIfInBounds_toArray, List.set_cons_zero, List.set_cons_succ, List.getElem_toArray, List.getElem_cons_zero, List.getElem_cons_succ]
  refine wpAnyH_take (i := 4) (v := ?_) rfl (by kernel_rfl) (by kernel_rfl) (by kernel_rfl) (fun _ _ _ h => h) (Or.inl ⟨by rfl, ?_⟩) (by assumption) ?_
  rotate_left
  · (intro w_ hSw_; (try dsimp only at hSw_); go_simp; try with_reducible rfl)
  try simp only [Act.put, List.setIfInBounds_toArray, List.set_cons_zero, List.set_cons_succ, List.getElem_toArray, List.getElem_cons_zero, List.getElem_cons_succ]
  refine wpAnyH_take (i := 5) (v := ?_) rfl (by kernel_rfl) (by kernel_rfl) (by kernel_rfl) (fun _ _ _ h => h) (Or.inl ⟨by rfl, ?_⟩) (by assumption) ?_
  rotate_left
  · (intro w_ hSw_; (try dsimp only at hSw_); go_simp; try with_reducible rfl)
  try simp only [Act.put, List.setIfInBounds_toArray, List.set_cons_zero, List.set_cons_succ, List.getElem_toArray, List.getElem_cons_zero, List.getElem_cons_succ]
  refine wpAnyH_take (i := 6) (v := ?_) rfl (by kernel_rfl) (by kernel_rfl) (by kernel_rfl) (fun _ _ _ h => h) (Or.inl ⟨by rfl, ?_⟩) (by assumption) ?_
  rotate_left
  · (intro w_ hSw_; (try dsimp only at hSw_); go_simp; try with_reducible rfl)
  try simp only [Act.put, List.setIfInBounds_toArray, List.set_cons_zero, List.set_cons_succ, List.getElem_toArray, List.getElem_cons_zero, List.getElem_cons_succ]
  refine wpAnyH_take (i := 7) (v := ?_) rfl (by kernel_rfl) (by kernel_rfl) (by kernel_rfl) (fun _ _ _ h => h) (Or.inl ⟨by rfl, ?_⟩) (by assumption) ?_
  rotate_left
  · (intro w_ hSw_; (try dsimp only at hSw_); go_simp; try with_reducible rfl)
  try simp only [Act.put, List.setIfInBounds_toArray, List.set_cons_zero, List.set_cons_succ, List.getElem_toArray, List.getElem_cons_zero, List.getElem_cons_succ]
  refine wpAnyH_take (i := 8) (v := ?_) rfl (by kernel_rfl) (by kernel_rfl) (by kernel_rfl) (fun _ _ _ h => h) (Or.inl ⟨by rfl, ?_⟩) (by assumption) ?_
  rotate_left
  · (intro w_ hSw_; (try dsimp only at hSw_); go_simp; try with_reducible rfl)
  try simp only [Act.put, List.setIfInBounds_toArray, List.set_cons_zero, List.set_cons_succ, List.getElem_toArray, List.getElem_cons_zero, List.getElem_cons_succ]
  refine wpAnyH_take (i := 9) (v := ?_) rfl (by kernel_rfl) (by kernel_rfl) (by kernel_rfl) (fun _ _ _ h => h) (Or.inl ⟨by rfl, ?_⟩) (by assumption) ?_
  rotate_left
  · (intro w_ hSw_; (try dsimp only at hSw_); go_simp; try with_reducible rfl)
  try simp only [Act.put, List.setIfInBounds_toArray, List.set_cons_zero, List.set_cons_succ, List.getElem_toArray, List.getElem_cons_zero, List.getElem_cons_succ]
  refine wpAnyH_take (i := 10) (v := ?_) rfl (by kernel_rfl) (by kernel_rfl) (by kernel_rfl) (fun _ _ _ h => h) (Or.inl ⟨by rfl, ?_⟩) (by assumption) ?_
  rotate_left
  · (intro w_ hSw_; (try dsimp only at hSw_); go_simp; try with_reducible rfl)
  try simp only [Act.put, List.setIfInBounds_toArray, List.set_cons_zero, List.set_cons_succ, List.getElem_toArray, List.getElem_cons_zero, List.getElem_cons_succ]
  refine wpAnyH_take (i := 11) (v := ?_) rfl (by kernel_rfl) (by kernel_rfl) (by kernel_rfl) (fun _ _ _ h => h) (Or.inl ⟨by rfl, ?_⟩) (by assumption) ?_
  rotate_left
  · (intro w_ hSw_; (try dsimp only at hSw_); go_simp; try with_reducible rfl)
  try simp only [Act.put, List.setIfInBounds_toArray, List.set_cons_zero, List.set_cons_succ, List.getElem_toArray, List.getElem_cons_zero, List.getElem_cons_succ]
  refine wpAnyH_take (i := 12) (v := ?_) rfl (by kernel_rfl) (by kernel_rfl) (by kernel_rfl) (fun _ _ _ h => h) (Or.inl ⟨by rfl, ?_⟩) (by assumption) ?_
  rotate_left
  · (intro w_ hSw_; (try dsimp only at hSw_); go_simp; try with_reducible rfl)
  try simp only [Act.put, List.setIfInBounds_toArray, List.set_cons_zero, List.set_cons_succ, List.getElem_toArray, List.getElem_cons_zero, List.getElem_cons_succ]
  refine wpAnyH_take (i := 13) (v := ?_) rfl (by kernel_rfl) (by kernel_rfl) (by kernel_rfl) (fun _ _ _ h => h) (Or.inl ⟨by rfl, ?_⟩) (by assumption) ?_
  rotate_left
  · (intro w_ hSw_; (try dsimp only at hSw_); go_simp; try with_reducible rfl)
  try simp only [Act.put, List.setIfInBounds_toArray, List.set_cons_zero, List.set_cons_succ, List.getElem_toArray, List.getElem_cons_zero, List.getElem_cons_succ]
  refine wpAnyH_take (i := 14) (v := ?_) rfl (by kernel_rfl) (by kernel_rfl) (by kernel_rfl) (fun _ _ _ h => h) (Or.inl ⟨by rfl, ?_⟩) (by assumption) ?_
  rotate_left
  · (intro w_ hSw_; (try dsimp only at hSw_); go_simp; try with_reducible rfl)
  try simp only [Act.put, List.setIfInBounds_toArray, List.set_cons_zero, List.set_cons_succ, List.getElem_toArray, List.getElem_cons_zero, List.getElem_cons_succ]
  refine wpAnyH_take (i := 15) (v := ?_) rfl (by kernel_rfl) (by kernel_rfl) (by kernel_rfl) (fun _ _ _ h => h) (Or.inl ⟨by rfl, ?_⟩) (by assumption) ?_
  rotate_left
  · (intro w_ hSw_; (try dsimp only at hSw_); go_simp; try with_reducible rfl)
  try simp only [Act.put, List.setIfInBounds_toArray, List.set_cons_zero, List.set_cons_succ, List.getElem_toArray, List.getElem_cons_zero, List.getElem_cons_succ]
  refine wpAnyH_take (i := 16) (v := ?_) rfl (by kernel_rfl) (by kernel_rfl) (by kernel_rfl) (fun _ _ _ h => h) (Or.inl ⟨by rfl, ?_⟩) (by assumption) ?_
  rotate_left
  · (intro w_ hSw_; (try dsimp only at hSw_); go_simp; try with_reducible rfl)
  try simp only [Act.put, List.setIfInBounds_toArray, List.set_cons_zero, List.set_cons_succ, List.getElem_toArray, List.getElem_cons_zero, List.getElem_cons_succ]
  refine wpAnyH_take (i := 17) (v := ?_) rfl (by kernel_rfl) (by kernel_rfl) (by kernel_rfl) (fun _ _ _ h => h) (Or.inl ⟨by rfl, ?_⟩) (by assumption) ?_
  rotate_left
  · (intro w_ hSw_; (try dsimp only at hSw_); go_simp; try with_reducible rfl)
  try simp only [Act.put, List.setIfInBounds_toArray, List.set_cons_zero, List.set_cons_succ, List.getElem_toArray, List.getElem_cons_zero, List.getElem_cons_succ]
  refine wpAnyH_take (i := 18) (v := ?_) rfl (by kernel_rfl) (by kernel_rfl) (by kernel_rfl) (fun _ _ _ h => h) (Or.inl ⟨by rfl, ?_⟩) (by assumption) ?_
  rotate_left
  · (intro w_ hSw_; (try dsimp only at hSw_); go_simp; try with_reducible rfl)
  try simp only [Act.put, List.setIfInBounds_toArray, List.set_cons_zero, List.set_cons_succ, List.getElem_toArray, List.getElem_cons_zero, List.getElem_cons_succ]
  refine wpAnyH_take (i := 19) (v := ?_) rfl (by kernel_rfl) (by kernel_rfl) (by kernel_rfl) (fun _ _ _ h => h) (Or.inl ⟨by rfl, ?_⟩) (by assumption) ?_
  rotate_left
  · (intro w_ hSw_; (try dsimp only at hSw_); go_simp; try with_reducible rfl)
  try simp only [Act.put, List.setIfInBounds_toArray, List.set_cons_zero, List.set_cons_succ, List.getElem_toArray, List.getElem_cons_zero, List.getElem_cons_succ]
  refine wpAnyH_take (i := 20) (v := ?_) rfl (by kernel_rfl) (by kernel_rfl) (by kernel_rfl) (fun _ _ _ h => h) (Or.inl ⟨by rfl, ?_⟩) (by assumption) ?_
  rotate_left
  · (intro w_ hSw_; (try dsimp only at hSw_); go_simp; try with_reducible rfl)
  try simp only [Act.put, List.setIfInBounds_toArray, List.set_cons_zero, List.set_cons_succ, List.getElem_toArray, List.getElem_cons_zero, List.getElem_cons_succ]
  refine wpAnyH_take (i := 21) (v := ?_) rfl (by kernel_rfl) (by kernel_rfl) (by kernel_rfl) (fun _ _ _ h => h) (Or.inl ⟨by rfl, ?_⟩) (by assumption) ?_
  rotate_left
  · (intro w_ hSw_; (try dsimp only at hSw_); go_simp; try with_reducible rfl)
  try simp only [Act.put, List.setIfInBounds_toArray, List.set_cons_zero, List.set_cons_succ, List.getElem_toArray, List.getElem_cons_zero, List.getElem_cons_succ]
  refine wpAnyH_take (i := 22) (v := ?_) rfl (by kernel_rfl) (by kernel_rfl) (by kernel_rfl) (fun _ _ _ h => h) (Or.inl ⟨by rfl, ?_⟩) (by assumption) ?_
  rotate_left
  · (intro w_ hSw_; (try dsimp only at hSw_); go_simp; try with_reducible rfl)
  try simp only [Act.put, List.setIfInBounds_toArray, List.set_cons_zero, List.set_cons_succ, List.getElem_toArray, List.getElem_cons_zero, List.getElem_cons_succ]
  refine wpAnyH_take (i := 23) (v := ?_) rfl (by kernel_rfl) (by kernel_rfl) (by kernel_rfl) (fun _ _ _ h => h) (Or.inl ⟨by rfl, ?_⟩) (by assumption) ?_
  rotate_left
  · (intro w_ hSw_; (try dsimp only at hSw_); go_simp; try with_reducible rfl)
  try simp only [Act.put, List.setIfInBounds_toArray, List.set_cons_zero, List.set_cons_succ, List.getElem_toArray, List.getElem_cons_zero, List.getElem_cons_succ]
  refine wpAnyH_take (i := 24) (v := ?_) rfl (by kernel_rfl) (by kernel_rfl) (by kernel_rfl) (fun _ _ _ h => h) (Or.inl ⟨by rfl, ?_⟩) (by assumption) ?_
  rotate_left
  · (intro w_ hSw_; (try dsimp only at hSw_); go_simp; try with_reducible rfl)
  try simp only [Act.put, List.setIfInBounds_toArray, List.set_cons_zero, List.set_cons_succ, List.getElem_toArray, List.getElem_cons_zero, List.getElem_cons_succ]
  refine wpAnyH_take (i := 25) (v := ?_) rfl (by kernel_rfl) (by kernel_rfl) (by kernel_rfl) (fun _ _ _ h => h) (Or.inl ⟨by rfl, ?_⟩) (by assumption) ?_
  rotate_left
  · (intro w_ hSw_; (try dsimp only at hSw_); go_simp; try with_reducible rfl)
  try simp only [Act.put, List.setIfInBounds_toArray, List.set_cons_zero, List.set_cons_succ, List.getElem_toArray, List.getElem_cons_zero, List.getElem_cons_succ]
  refine wpAnyH_take (i := 26) (v := ?_) rfl (by kernel_rfl) (by kernel_rfl) (by kernel_rfl) (fun _ _ _ h => h) (Or.inl ⟨by rfl, ?_⟩) (by assumption) ?_
  rotate_left
  · (intro w_ hSw_; (try dsimp only at hSw_); go_simp; try with_reducible rfl)
  try simp only [Act.put, List.setIfInBounds_toArray, List.set_cons_zero, List.set_cons_succ, List.getElem_toArray, List.getElem_cons_zero, List.getElem_cons_succ]
  refine wpAnyH_take (i := 27) (v := ?_) rfl (by kernel_rfl) (by kernel_rfl) (by kernel_rfl) (fun _ _ _ h => h) (Or.inl ⟨by rfl, ?_⟩) (by assumption) ?_
  rotate_left
  · (intro w_ hSw_; (try dsimp only at hSw_); go_simp; try with_reducible rfl)
  try simp only [Act.put, List.setIfInBounds_toArray, List.set_cons_zero, List.set_cons_succ, List.getElem_toArray, List.getElem_cons_zero, List.getElem_cons_succ]
  refine wpAnyH_take (i := 28) (v := ?_) rfl (by kernel_rfl) (by kernel_rfl) (by kernel_rfl) (fun _ _ _ h => h) (Or.inl ⟨by rfl, ?_⟩) (by assumption) ?_
  rotate_left
  · (intro w_ hSw_; (try dsimp only at hSw_); go_simp; try with_reducible rfl)
  try simp only [Act.put, List.setIfInBounds_toArray, List.set_cons_zero, List.set_cons_succ, List.getElem_toArray, List.getElem_cons_zero, List.getElem_cons_succ]
  refine wpAnyH_take (i := 29) (v := ?_) rfl (by kernel_rfl) (by kernel_rfl) (by kernel_rfl) (fun _ _ _ h => h) (Or.inl ⟨by rfl, ?_⟩) (by assumption) ?_
  rotate_left
  · (intro w_ hSw_; (try dsimp only at hSw_); go_simp; try with_reducible rfl)
  try simp only [Act.put, List.setIfInBounds_toArray, List.set_cons_zero, List.set_cons_succ, List.getElem_toArray, List.getElem_cons_zero, List.getElem_cons_succ]
  refine wpAnyH_take (i := 30) (v := ?_) rfl (by kernel_rfl) (by kernel_rfl) (by kernel_rfl) (fun _ _ _ h => h) (Or.inl ⟨by rfl, ?_⟩) (by assumption) ?_
  rotate_left
  · (intro w_ hSw_; (try dsimp only at hSw_); go_simp; try with_reducible rfl)
  try simp only [Act.put, List.setIfInBounds_toArray, List.set_cons_zero, List.set_cons_succ, List.getElem_toArray, List.getElem_cons_zero, List.getElem_cons_succ]
  refine wpAnyH_done (by kernel_rfl) (NoPanic.normal ?_) _
  go_wp2
  go_loopw [47] (fun i wr => WLRel w1 b (.slice xa xn xc) d p q (frameN q zs) (.slice (some ⟨fa, 0, none⟩) m fc) fvs vs l w.heap.size w1.heap.size m i wr) (fun i _ => m - (intOf i).toNat)
  case atStart => exact HST.out
  case round =>
    clear HST v1
    obtain ⟨k, y', xs', hk, rfl, HV, HX, HY, HA, HF, HFAR, hw⟩ := hrel
    have HVJ := HV.out
    have c2 := HVJ.c2
    by_cases hlt : k < m
    · have hlt9 : (k : Int) < (m : Int) := by omega
      have hk0 : (0 : Int) ≤ (k : Int) := by omega
      obtain ⟨g9, c9, u, he9, hcell, hue, hub, hpt⟩ := OwX.put (w' := wr) (new := []) HF.out (j := k) (by rw [HFL.out]; exact hlt)
      clear hue hpt
      simp only [Value.slice.injEq, Option.some.injEq, Addr.mk.injEq, and_true] at he9
      obtain ⟨rfl, hmm, rfl⟩ := he9
      clear hmm
      have hrl := hub.rd
      rw [frameN_at q zs k (by rw [HM.out]; exact hlt)] at hrl
      obtain ⟨ua, un, uc, rfl⟩ := hrl.sliced
      have hyl : (d.2 ++ frameW p ((frameN q zs).take k)).length = yn + k := by
        rw [List.length_append, frameW_len, List.length_take, HFL.out, ← HYN.out]; omega
      have hsr : w1.heap.size ≤ wr.heap.size := hw.2.2.2
      obtain ⟨N, hN⟩ : ∃ N, N = p + k := ⟨_, rfl⟩
      have h9 := writeJ_in (p : Int) (q : Int) b N (.slice xa xn xc) y' (d.1, d.2 ++ frameW p ((frameN q zs).take k)) vs xs' l wr.heap.size (.slice ua un uc) (secN q zs k) w.heap.size w1.heap.size wr.drew HVJ (OwX.same HX.out SameIn.drew) (OwY.same HY.out SameIn.drew) HA.out (Nat.le_refl _) (by show l ≤ wr.heap.size; omega) (hrl.same SameIn.drew) hsr (by show N < d.1.length; have := HXN.out; omega) (by show d.1.length ≤ 2000; have := HXN.out; omega) (by show (d.2 ++ frameW p ((frameN q zs).take k)).length < 2000; omega) (secN_length q zs k)
      have hn9 : ((N : Nat) : Int) = (p : Int) + (k : Int) := by omega
      rw [hn9] at h9
      clear hn9
      have HWR : Hid _ := h9
      have HRY : Hid (wr.ownsRow l 75 2 y' (d.2 ++ frameW p ((frameN q zs).take k)).length (Classical.choose (show ∃ C, wr.ownsRow l 75 2 y' (d.2 ++ frameW p ((frameN q zs).take k)).length C from by obtain ⟨C, hl9, ho9, _⟩ := HY.out; exact ⟨C, by rw [← hl9]; exact ho9⟩))) := Classical.choose_spec (show ∃ C, wr.ownsRow l 75 2 y' (d.2 ++ frameW p ((frameN q zs).take k)).length C from by obtain ⟨C, hl9, ho9, _⟩ := HY.out; exact ⟨C, by rw [← hl9]; exact ho9⟩)
      have hpk : (p : Int) + (k : Int) ≤ 2000 := by omega
      have hwk := wrap_id ((p : Int) + (k : Int)) (by omega) (by omega)
      have HNN : Hid (N = p + k) := hN
      clear h9 HVJ hub hrl hyl hN hHeld hwx hwy e0 e0b e0c e0d e0e e1 e2 hpk
      go_wp2
      refine wp_region_noPanic ?_
      refine wp_region_held_drew (S := fun w' => w'.cell? ⟨b, 2, none⟩ = some (.int .i64 (p : Int))) (by kernel_rfl) c2 (fun hHeld => ?_)
      refine wpAnyH_take (i := 0) (v := ?_) rfl (by kernel_rfl) (by kernel_rfl) (by kernel_rfl) (fun _ _ _ h => h) (Or.inl ⟨by rfl, ?_⟩) (by assumption) ?_
      rotate_left
      · (intro w_ hSw_; (try dsimp only at hSw_); go_simp; try with_reducible rfl)
      try simp only [Act.put, List.setIfInBounds_toArray, List.set_cons_zero, List.set_cons_succ, List.getElem_toArray, List.getElem_cons_zero, List.getElem_cons_succ]
      refine wpAnyH_take (i := 1) (v := ?_) rfl (by kernel_rfl) (by kernel_rfl) (by kernel_rfl) (fun _ _ _ h => h) (Or.inl ⟨by rfl, ?_⟩) (by assumption) ?_
      rotate_left
      · (intro w_ hSw_; (try dsimp only at hSw_); go_simp; try with_reducible rfl)
      try simp only [Act.put, List.setIfInBounds_toArray, List.set_cons_zero, List.set_cons_succ, List.getElem_toArray, List.getElem_cons_zero, List.getElem_cons_succ]
      refine wpAnyH_take (i := 2) (v := ?_) rfl (by kernel_rfl) (by kernel_rfl) (by kernel_rfl) (fun _ _ _ h => h) (Or.inl ⟨by rfl, ?_⟩) (by assumption) ?_
      rotate_left
      · (intro w_ hSw_; (try dsimp only at hSw_); go_simp; try with_reducible rfl)
      try simp only [Act.put, List.setIfInBounds_toArray, List.set_cons_zero, List.set_cons_succ, List.getElem_toArray, List.getElem_cons_zero, List.getElem_cons_succ]
      refine wpAnyH_take (i := 3) (v := ?_) rfl (by kernel_rfl) (by kernel_rfl) (by kernel_rfl) (fun _ _ _ h => h) (Or.inl ⟨by rfl, ?_⟩) (by assumption) ?_
      rotate_left
      · (intro w_ hSw_; (try dsimp only at hSw_); go_simp; try with_reducible rfl)
      try simp only [Act.put, List.setIfInBounds_toArray, List.set_cons_zero, List.set_cons_succ, List.getElem_toArray, List.getElem_cons_zero, List.getElem_cons_succ]
      refine wpAnyH_take (i := 4) (v := ?_) rfl (by kernel_rfl) (by kernel_rfl) (by kernel_rfl) (fun _ _ _ h => h) (Or.inl ⟨by rfl, ?_⟩) (by assumption) ?_
      rotate_left
      · (intro w_ hSw_; (try dsimp only at hSw_); go_simp; try with_reducible rfl)
      try simp only [Act.put, List.setIfInBounds_toArray, List.set_cons_zero, List.set_cons_succ, List.getElem_toArray, List.getElem_cons_zero, List.getElem_cons_succ]
      refine wpAnyH_take (i := 5) (v := ?_) rfl (by kernel_rfl) (by kernel_rfl) (by kernel_rfl) (fun _ _ _ h => h) (Or.inl ⟨by rfl, ?_⟩) (by assumption) ?_
      rotate_left
      · (intro w_ hSw_; (try dsimp only at hSw_); go_simp; try with_reducible rfl)
      try simp only [Act.put, List.setIfInBounds_toArray, List.set_cons_zero, List.set_cons_succ, List.getElem_toArray, List.getElem_cons_zero, List.getElem_cons_succ]
      refine wpAnyH_take (i := 6) (v := ?_) rfl (by kernel_rfl) (by kernel_rfl) (by kernel_rfl) (fun _ _ _ h => h) (Or.inl ⟨by rfl, ?_⟩) (by assumption) ?_
      rotate_left
      · (intro w_ hSw_; (try dsimp only at hSw_); go_simp; try with_reducible rfl)
      try simp only [Act.put, List.setIfInBounds_toArray, List.set_cons_zero, List.set_cons_succ, List.getElem_toArray, List.getElem_cons_zero, List.getElem_cons_succ]
      refine wpAnyH_take (i := 7) (v := ?_) rfl (by kernel_rfl) (by kernel_rfl) (by kernel_rfl) (fun _ _ _ h => h) (Or.inl ⟨by rfl, ?_⟩) (by assumption) ?_
      rotate_left
      · (intro w_ hSw_; (try dsimp only at hSw_); go_simp; try with_reducible rfl)
      try simp only [Act.put, List.setIfInBounds_toArray, List.set_cons_zero, List.set_cons_succ, List.getElem_toArray, List.getElem_cons_zero, List.getElem_cons_succ]
      refine wpAnyH_take (i := 8) (v := ?_) rfl (by kernel_rfl) (by kernel_rfl) (by kernel_rfl) (fun _ _ _ h => h) (Or.inl ⟨by rfl, ?_⟩) (by assumption) ?_
      rotate_left
      · (intro w_ hSw_; (try dsimp only at hSw_); go_simp; try with_reducible rfl)
      try simp only [Act.put, List.setIfInBounds_toArray, List.set_cons_zero, List.set_cons_succ, List.getElem_toArray, List.getElem_cons_zero, List.getElem_cons_succ]
      refine wpAnyH_take (i := 9) (v := ?_) rfl (by kernel_rfl) (by kernel_rfl) (by kernel_rfl) (fun _ _ _ h => h) (Or.inl ⟨by rfl, ?_⟩) (by assumption) ?_
      rotate_left
      · (intro w_ hSw_; (try dsimp only at hSw_); go_simp; try with_reducible rfl)
      try simp only [Act.put, List.setIfInBounds_toArray, List.set_cons_zero, List.set_cons_succ, List.getElem_toArray, List.getElem_cons_zero, List.getElem_cons_succ]
      refine wpAnyH_ready (rs := [10]) (by kernel_rfl) (by simp) ?_
      refine AllReadyH.cons rfl (fun K hK => ?_) AllReadyH.nil
      go_simp
      refine Calls.mono HWR.out ?_
      rintro e w5 ⟨rfl, y5, xs5, oX5, oY5, ha5, v5, far5, hw5⟩
      have HR : Hid (WLRel w1 b (.slice xa xn xc) d p q (frameN q zs) (.slice (some ⟨fa, 0, none⟩) m fc) fvs vs l w.heap.size w1.heap.size m (.int .i64 ((k : Int) + 1)) w5) := by
        have hds : wr.drew.heap.size = wr.heap.size := rfl
        refine ⟨k + 1, y5, xs5, by omega, by go_num, v5, oX5, ?_, ha5, ?_, ?_, hw5.1.trans hw.1, hw5.2.1.trans hw.2.1, hw5.2.2.1.trans hw.2.2.1, Nat.le_trans hw.2.2.2 hw5.2.2.2⟩
        · show OwY _ _ _ _ _ _
          rw [frameW_next _ _ _ (by rw [HFL.out]; exact hlt), ← List.append_assoc, frameN_at q zs k (by rw [HM.out]; exact hlt)]
          exact oY5
        · exact OwX.keep HF.out (fun q' hq' => far5 q' (by have := HF.out.2.2.1 q' hq'; omega) (row_ne HV.out HF.out.2.1 (by decide) q' hq') (row_row HF.out.2.1 HRY.out (by decide) q' hq')) (fun q' hq' => by
            obtain ⟨j, hj, hjk⟩ := hq'
            exact far5 q' (by have := (HF.out.2.2.2.1 j hj).2.2 q' hjk; omega) (row_ne HV.out (HF.out.2.2.2.1 j hj).2.1 (by decide) q' hjk) (row_row (HF.out.2.2.2.1 j hj).2.1 HRY.out (by decide) q' hjk))
        · exact fun k' hk' hb' => (far5 k' (by omega) hb' (fun e => by have := (HRY.out.lt k' e).1; omega)).trans (HFAR.out k' hk' hb')
      have c5 := v5.c2
      clear HV HX HY HA HF HFAR HRY oX5 oY5 ha5 v5 far5 hw5 hw HWR
      go_wp2_with fail
      refine hK.out _ _ c5 (fun hHeld => ?_)
      clear hK K
      try simp only [Act.put, List.setIfInBounds_toArray, List.set_cons_zero, List.set_cons_succ, List.getElem_toArray, List.getElem_cons_zero, List.getElem_cons_succ]
      refine wpAnyH_done (by kernel_rfl) (NoPanic.normal ?_) _
      clear c5 c2 hcell
      go_wp2
      refine ⟨?_, by simp [intOf]; omega⟩
      first | exact HR.out | exact ⟨_, HR.out, rfl⟩ | exact ⟨_, _, HR.out, rfl⟩ | exact ⟨_, _, _, HR.out, rfl⟩ | exact ⟨_, _, _, _, HR.out, rfl⟩ | exact ⟨_, _, _, _, _, HR.out, rfl⟩ | exact ⟨_, _, _, _, _, _, HR.out, rfl⟩ | exact ⟨_, _, _, _, _, _, _, HR.out, rfl⟩ | exact ⟨_, _, _, _, _, _, _, _, HR.out, rfl⟩ | exact ⟨_, _, _, _, _, _, _, _, _, HR.out, rfl⟩ | exact ⟨_, _, _, _, _, _, _, _, _, _, HR.out, rfl⟩ | exact ⟨_, _, _, _, _, _, _, _, _, _, _, HR.out, rfl⟩ | exact ⟨_, _, _, _, _, _, _, _, _, _, _, _, HR.out, rfl⟩ | exact ⟨_, _, _, _, _, _, _, _, _, _, _, _, _, HR.out, rfl⟩ | exact ⟨_, _, _, _, _, _, _, _, _, _, _, _, _, _, HR.out, rfl⟩ | exact ⟨_, _, _, _, _, _, _, _, _, _, _, _, _, _, _, HR.out, rfl⟩ | exact ⟨_, _, _, _, _, _, _, _, _, _, _, _, _, _, _, _, HR.out, rfl⟩ | exact ⟨_, _, _, _, _, _, _, _, _, _, _, _, _, _, _, _, _, HR.out, rfl⟩ | exact ⟨_, _, _, _, _, _, _, _, _, _, _, _, _, _, _, _, _, _, HR.out, rfl⟩ | exact ⟨_, _, _, _, _, _, _, _, _, _, _, _, _, _, _, _, _, _, _, HR.out, rfl⟩ | exact ⟨_, _, _, _, _, _, _, _, _, _, _, _, _, _, _, _, _, _, _, _, HR.out, rfl⟩ | exact ⟨_, _, _, _, _, _, _, _, _, _, _, _, _, _, _, _, _, _, _, _, _, HR.out, rfl⟩ | exact ⟨_, _, _, _, _, _, _, _, _, _, _, _, _, _, _, _, _, _, _, _, _, _, HR.out, rfl⟩ | exact ⟨_, _, _, _, _, _, _, _, _, _, _, _, _, _, _, _, _, _, _, _, _, _, _, HR.out, rfl⟩ | exact ⟨_, _, _, _, _, _, _, _, _, _, _, _, _, _, _, _, _, _, _, _, _, _, _, _, HR.out, rfl⟩ | exact ⟨_, _, _, _, _, _, _, _, _, _, _, _, _, _, _, _, _, _, _, _, _, _, _, _, _, HR.out, rfl⟩ | exact ⟨_, _, _, _, _, _, _, _, _, _, _, _, _, _, _, _, _, _, _, _, _, _, _, _, _, _, HR.out, rfl⟩ | exact ⟨_, _, _, _, _, _, _, _, _, _, _, _, _, _, _, _, _, _, _, _, _, _, _, _, _, _, _, HR.out, rfl⟩ | exact ⟨_, _, _, _, _, _, _, _, _, _, _, _, _, _, _, _, _, _, _, _, _, _, _, _, _, _, _, _, HR.out, rfl⟩ | exact ⟨_, _, _, _, _, _, _, _, _, _, _, _, _, _, _, _, _, _, _, _, _, _, _, _, _, _, _, _, _, HR.out, rfl⟩ | exact ⟨_, _, _, _, _, _, _, _, _, _, _, _, _, _, _, _, _, _, _, _, _, _, _, _, _, _, _, _, _, _, HR.out, rfl⟩ | exact ⟨_, _, _, _, _, _, _, _, _, _, _, _, _, _, _, _, _, _, _, _, _, _, _, _, _, _, _, _, _, _, _, HR.out, rfl⟩ | exact ⟨_, _, _, _, _, _, _, _, _, _, _, _, _, _, _, _, _, _, _, _, _, _, _, _, _, _, _, _, _, _, _, _, HR.out, rfl⟩ | exact ⟨_, _, _, _, _, _, _, _, _, _, _, _, _, _, _, _, _, _, _, _, _, _, _, _, _, _, _, _, _, _, _, _, _, HR.out, rfl⟩ | exact ⟨_, _, _, _, _, _, _, _, _, _, _, _, _, _, _, _, _, _, _, _, _, _, _, _, _, _, _, _, _, _, _, _, _, _, HR.out, rfl⟩ | exact ⟨_, _, _, _, _, _, _, _, _, _, _, _, _, _, _, _, _, _, _, _, _, _, _, _, _, _, _, _, _, _, _, _, _, _, _, HR.out, rfl⟩ | exact ⟨_, _, _, _, _, _, _, _, _, _, _, _, _, _, _, _, _, _, _, _, _, _, _, _, _, _, _, _, _, _, _, _, _, _, _, _, HR.out, rfl⟩ | exact ⟨_, _, _, _, _, _, _, _, _, _, _, _, _, _, _, _, _, _, _, _, _, _, _, _, _, _, _, _, _, _, _, _, _, _, _, _, _, HR.out, rfl⟩ | exact ⟨_, _, _, _, _, _, _, _, _, _, _, _, _, _, _, _, _, _, _, _, _, _, _, _, _, _, _, _, _, _, _, _, _, _, _, _, _, _, HR.out, rfl⟩ | exact ⟨_, _, _, _, _, _, _, _, _, _, _, _, _, _, _, _, _, _, _, _, _, _, _, _, _, _, _, _, _, _, _, _, _, _, _, _, _, _, _, HR.out, rfl⟩ | exact ⟨_, _, _, _, _, _, _, _, _, _, _, _, _, _, _, _, _, _, _, _, _, _, _, _, _, _, _, _, _, _, _, _, _, _, _, _, _, _, _, _, HR.out, rfl⟩ | exact ⟨_, _, _, _, _, _, _, _, _, _, _, _, _, _, _, _, _, _, _, _, _, _, _, _, _, _, _, _, _, _, _, _, _, _, _, _, _, _, _, _, _, HR.out, rfl⟩ | exact ⟨_, _, _, _, _, _, _, _, _, _, _, _, _, _, _, _, _, _, _, _, _, _, _, _, _, _, _, _, _, _, _, _, _, _, _, _, _, _, _, _, _, _, HR.out, rfl⟩ | exact ⟨_, _, _, _, _, _, _, _, _, _, _, _, _, _, _, _, _, _, _, _, _, _, _, _, _, _, _, _, _, _, _, _, _, _, _, _, _, _, _, _, _, _, _, HR.out, rfl⟩ | exact ⟨_, _, _, _, _, _, _, _, _, _, _, _, _, _, _, _, _, _, _, _, _, _, _, _, _, _, _, _, _, _, _, _, _, _, _, _, _, _, _, _, _, _, _, _, HR.out, rfl⟩ | exact ⟨_, _, _, _, _, _, _, _, _, _, _, _, _, _, _, _, _, _, _, _, _, _, _, _, _, _, _, _, _, _, _, _, _, _, _, _, _, _, _, _, _, _, _, _, _, HR.out, rfl⟩ | exact ⟨_, _, _, _, _, _, _, _, _, _, _, _, _, _, _, _, _, _, _, _, _, _, _, _, _, _, _, _, _, _, _, _, _, _, _, _, _, _, _, _, _, _, _, _, _, _, HR.out, rfl⟩ | exact ⟨_, _, _, _, _, _, _, _, _, _, _, _, _, _, _, _, _, _, _, _, _, _, _, _, _, _, _, _, _, _, _, _, _, _, _, _, _, _, _, _, _, _, _, _, _, _, _, HR.out, rfl⟩ | exact ⟨_, _, _, _, _, _, _, _, _, _, _, _, _, _, _, _, _, _, _, _, _, _, _, _, _, _, _, _, _, _, _, _, _, _, _, _, _, _, _, _, _, _, _, _, _, _, _, _, HR.out, rfl⟩ | exact ⟨_, _, _, _, _, _, _, _, _, _, _, _, _, _, _, _, _, _, _, _, _, _, _, _, _, _, _, _, _, _, _, _, _, _, _, _, _, _, _, _, _, _, _, _, _, _, _, _, _, HR.out, rfl⟩ | exact ⟨_, _, _, _, _, _, _, _, _, _, _, _, _, _, _, _, _, _, _, _, _, _, _, _, _, _, _, _, _, _, _, _, _, _, _, _, _, _, _, _, _, _, _, _, _, _, _, _, _, _, HR.out, rfl⟩ | exact ⟨_, _, _, _, _, _, _, _, _, _, _, _, _, _, _, _, _, _, _, _, _, _, _, _, _, _, _, _, _, _, _, _, _, _, _, _, _, _, _, _, _, _, _, _, _, _, _, _, _, _, _, HR.out, rfl⟩ | exact ⟨_, _, _, _, _, _, _, _, _, _, _, _, _, _, _, _, _, _, _, _, _, _, _, _, _, _, _, _, _, _, _, _, _, _, _, _, _, _, _, _, _, _, _, _, _, _, _, _, _, _, _, _, HR.out, rfl⟩ | exact ⟨_, _, _, _, _, _, _, _, _, _, _, _, _, _, _, _, _, _, _, _, _, _, _, _, _, _, _, _, _, _, _, _, _, _, _, _, _, _, _, _, _, _, _, _, _, _, _, _, _, _, _, _, _, HR.out, rfl⟩ | exact ⟨_, _, _, _, _, _, _, _, _, _, _, _, _, _, _, _, _, _, _, _, _, _, _, _, _, _, _, _, _, _, _, _, _, _, _, _, _, _, _, _, _, _, _, _, _, _, _, _, _, _, _, _, _, _, HR.out, rfl⟩ | exact ⟨_, _, _, _, _, _, _, _, _, _, _, _, _, _, _, _, _, _, _, _, _, _, _, _, _, _, _, _, _, _, _, _, _, _, _, _, _, _, _, _, _, _, _, _, _, _, _, _, _, _, _, _, _, _, _, HR.out, rfl⟩ | exact ⟨_, _, _, _, _, _, _, _, _, _, _, _, _, _, _, _, _, _, _, _, _, _, _, _, _, _, _, _, _, _, _, _, _, _, _, _, _, _, _, _, _, _, _, _, _, _, _, _, _, _, _, _, _, _, _, _, HR.out, rfl⟩ | exact ⟨_, _, _, _, _, _, _, _, _, _, _, _, _, _, _, _, _, _, _, _, _, _, _, _, _, _, _, _, _, _, _, _, _, _, _, _, _, _, _, _, _, _, _, _, _, _, _, _, _, _, _, _, _, _, _, _, _, HR.out, rfl⟩ | exact ⟨_, _, _, _, _, _, _, _, _, _, _, _, _, _, _, _, _, _, _, _, _, _, _, _, _, _, _, _, _, _, _, _, _, _, _, _, _, _, _, _, _, _, _, _, _, _, _, _, _, _, _, _, _, _, _, _, _, _, HR.out, rfl⟩ | exact ⟨_, _, _, _, _, _, _, _, _, _, _, _, _, _, _, _, _, _, _, _, _, _, _, _, _, _, _, _, _, _, _, _, _, _, _, _, _, _, _, _, _, _, _, _, _, _, _, _, _, _, _, _, _, _, _, _, _, _, _, HR.out, rfl⟩ | exact ⟨_, _, _, _, _, _, _, _, _, _, _, _, _, _, _, _, _, _, _, _, _, _, _, _, _, _, _, _, _, _, _, _, _, _, _, _, _, _, _, _, _, _, _, _, _, _, _, _, _, _, _, _, _, _, _, _, _, _, _, _, HR.out, rfl⟩ | exact ⟨_, _, _, _, _, _, _, _, _, _, _, _, _, _, _, _, _, _, _, _, _, _, _, _, _, _, _, _, _, _, _, _, _, _, _, _, _, _, _, _, _, _, _, _, _, _, _, _, _, _, _, _, _, _, _, _, _, _, _, _, _, HR.out, rfl⟩ | exact ⟨_, _, _, _, _, _, _, _, _, _, _, _, _, _, _, _, _, _, _, _, _, _, _, _, _, _, _, _, _, _, _, _, _, _, _, _, _, _, _, _, _, _, _, _, _, _, _, _, _, _, _, _, _, _, _, _, _, _, _, _, _, _, HR.out, rfl⟩ | exact ⟨_, _, _, _, _, _, _, _, _, _, _, _, _, _, _, _, _, _, _, _, _, _, _, _, _, _, _, _, _, _, _, _, _, _, _, _, _, _, _, _, _, _, _, _, _, _, _, _, _, _, _, _, _, _, _, _, _, _, _, _, _, _, _, HR.out, rfl⟩ | exact ⟨_, _, _, _, _, _, _, _, _, _, _, _, _, _, _, _, _, _, _, _, _, _, _, _, _, _, _, _, _, _, _, _, _, _, _, _, _, _, _, _, _, _, _, _, _, _, _, _, _, _, _, _, _, _, _, _, _, _, _, _, _, _, _, _, HR.out, rfl⟩ | exact ⟨_, _, _, _, _, _, _, _, _, _, _, _, _, _, _, _, _, _, _, _, _, _, _, _, _, _, _, _, _, _, _, _, _, _, _, _, _, _, _, _, _, _, _, _, _, _, _, _, _, _, _, _, _, _, _, _, _, _, _, _, _, _, _, _, _, HR.out, rfl⟩
    · have hkm : k = m := by omega
      have hk9 : ¬ (k : Int) < (m : Int) := by omega
      subst hkm
      have c3 := HVJ.c3
      have f2 := HVJ.f 2
      have f3 := HVJ.f 3
      have hpk : (p : Int) + (k : Int) ≤ 2000 := by omega
      have hwk := wrap_id ((p : Int) + (k : Int)) (by omega) (by omega)
      have V2 := (HVJ.set2 ((p : Int) + (k : Int))).set3 ((q : Int) + 1)
      have htk : (frameN q zs).take k = frameN q zs := List.take_of_length_le (by rw [HFL.out]; exact Nat.le_refl _)
      have HY2 : Hid (OwY wr l wr.heap.size y' (d.2 ++ frameW p (frameN q zs)) xs') := by
        have := HY.out; rw [htk] at this; exact this
      obtain ⟨C, hxl, hoY, _⟩ := HY.out
      have kx : ∀ q', Blk ((.slice xa xn xc) :: vs) q' → q' ≠ b := fun q' hq' => by
        obtain ⟨i, hi, hk'⟩ := hq'
        cases i with
        | zero => exact row_ne HVJ HX.out.2.1 (by decide) q' (by simpa using hk')
        | succ i => exact row_ne HVJ (HX.out.2.2.2.1 i (by simpa using hi)).2.1 (by decide) q' (by simpa using hk')
      have ky : ∀ q', Blk (y' :: xs') q' → q' ≠ b := fun q' hq' => by
        obtain ⟨C, hxl, hoY, hbf, hC, he, hd⟩ := HY2.out
        obtain ⟨i, hi, hk'⟩ := hq'
        cases i with
        | zero => exact row_ne HVJ hoY (by decide) q' (by simpa using hk')
        | succ i => exact row_ne HVJ (he i (by simpa using hi)).2.1 (by decide) q' (by simpa using hk')
      have HKX : Hid _ := kx
      have HKY : Hid _ := ky
      have HV2 : Hid _ := V2
      clear HV HVJ HY kx ky V2 hoY hxl
      go_wp2
      go_ret
      refine .inr ⟨rfl, HYES.out, y', xs', ?_, ?_, ?_, HA.out, ?_, ?_⟩
      · rw [HM.out]; exact HV2.out
      · have h9 := OwX.keep HX.out (w' := (wr.setCell ⟨b, 2, none⟩ (.int .i64 ((p : Int) + (k : Int)))).setCell ⟨b, 3, none⟩ (.int .i64 ((q : Int) + 1))) (fun q' hq' => by rw [heap_setCell_other _ _ _ _ (HKX.out q' ⟨0, by simp, by simpa using hq'⟩), heap_setCell_other _ _ _ _ (HKX.out q' ⟨0, by simp, by simpa using hq'⟩)]) (fun q' hq' => by
          have : Blk ((.slice xa xn xc) :: vs) q' := by obtain ⟨i, hi, hk'⟩ := hq'; exact ⟨i + 1, by simpa using hi, by simpa using hk'⟩
          rw [heap_setCell_other _ _ _ _ (HKX.out q' this), heap_setCell_other _ _ _ _ (HKX.out q' this)])
        simpa using h9
      · have h9 := OwY.keep HY2.out (w' := (wr.setCell ⟨b, 2, none⟩ (.int .i64 ((p : Int) + (k : Int)))).setCell ⟨b, 3, none⟩ (.int .i64 ((q : Int) + 1))) (fun q' hq' => by rw [heap_setCell_other _ _ _ _ (HKY.out q' hq'), heap_setCell_other _ _ _ _ (HKY.out q' hq')])
        simpa using h9
      · intro k' hk' hb'
        rw [heap_setCell_other _ _ _ _ hb', heap_setCell_other _ _ _ _ hb', HFAR.out k' hk' hb']
        exact HB1.out.block k' (by omega)
      · refine ⟨hw.1.trans HB1.out.os, hw.2.1.trans HB1.out.tape, hw.2.2.1.trans HB1.out.output, ?_⟩
        have := hw.2.2.2
        simp; omega

theorem jwriteI_any (b : Nat) (x y : Value) (d : Dk) (p q : Nat) (vs xs : List Value) (sv : Value) (zs : List Int) (lz hz l h : Nat) (w : World) (v0 : VarJ 30 w b x y (p : Int) (q : Int)) (o1 : OwX w l h x d.1 vs) (o2 : OwY w l h y d.2 xs) (ha : ∀ q, Blk vs q → ¬ Blk xs q) (hh : h ≤ w.heap.size)
    (hlw : l ≤ w.heap.size) (rz : RdB w lz hz sv zs) (hhz : hz ≤ w.heap.size) (hp : p ≤ d.1.length) (hq : q ≤ 60000) (hok : okD d = true) :
    Calls Tryd.prog 67 #[.pointer (some ⟨b, 0, none⟩), sv] w (WroteJ w b x d p q zs vs l) := by
  by_cases hfr : q < 60000 ∧ zs.length ≤ 200
  · by_cases hr1 : (manyN zs.length : Int) ≤ (d.1.length : Int) - (p : Int)
    · by_cases hr2 : (manyN zs.length : Int) ≤ 2000 - (d.2.length : Int)
      · exact jwrite_d b x y d p q vs xs sv zs lz hz l h w v0 o1 o2 ha hh hlw rz hhz hp hq hok hfr hr1 hr2
      · exact jwrite_c b x y d p q vs xs sv zs lz hz l h w v0 o1 o2 ha hh hlw rz hhz hp hq hok hfr hr1 hr2
    · exact jwrite_b b x y d p q vs xs sv zs lz hz l h w v0 o1 o2 ha hh hlw rz hhz hp hq hok hfr hr1
  · exact jwrite_a b x y d p q vs xs sv zs lz hz l h w v0 o1 o2 ha hh hlw rz hhz hp hq hok hfr
end Go.Proofs.YtjhaanenkeceiaaDoor
