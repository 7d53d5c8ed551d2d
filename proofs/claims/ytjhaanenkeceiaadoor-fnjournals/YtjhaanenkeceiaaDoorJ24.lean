/- Joined: ImplJ4 ImplAppend ImplOpen3. -/
import Derived.Test.YtjhaanenkeceiaaDoorJ23
import Derived.Test.YtjhaanenkeceiaaDoorJ05
import Derived.Test.YtjhaanenkeceiaaDoorJ18

section
/- The frame is written: the program's write of a record into a journal of the call's own. Condition: the journal is ok. -/
namespace Go.Proofs.YtjhaanenkeceiaaDoor
open Go.RowKit
set_option linter.unusedVariables false
set_option linter.unusedSimpArgs false
attribute [local go_sem ↓] Go.wp_at_zero Go.wp_at_succ

set_option maxRecDepth 100000 in
set_option maxHeartbeats 8000000 in
theorem jwrite_d (b : Nat) (x y : Value) (d : Dk) (p q : Nat) (vs xs : List Value) (sv : Value) (zs : List Int) (lz hz l h : Nat) (w : World) (v0 : VarJ 30 w b x y (p : Int) (q : Int)) (o1 : OwX w l h x d.1 vs) (o2 : OwY w l h y d.2 xs) (ha : ∀ q, Blk vs q → ¬ Blk xs q) (hh : h ≤ w.heap.size)
    (hlw : l ≤ w.heap.size) (rz : RdB w lz hz sv zs) (hhz : hz ≤ w.heap.size) (hp : p ≤ d.1.length) (hq : q ≤ 60000) (hok : okD d = true) (hfr : q < 60000 ∧ zs.length ≤ 200) (hr1 : (manyN zs.length : Int) ≤ (d.1.length : Int) - (p : Int)) (hr2 : (manyN zs.length : Int) ≤ 2000 - (d.2.length : Int)) :
    Calls Tryd.prog 67 #[.pointer (some ⟨b, 0, none⟩), sv] w (WroteJ w b x d p q zs vs l) := by
  have HFR : Hid _ := implFrame_all (q : Int) sv zs lz hz w rz hhz
  have hsz : d.1.length ≤ 2000 ∧ d.2.length ≤ 2000 := by
    unfold okD at hok
    simp only [Bool.and_eq_true, decide_eq_true_eq] at hok
    exact ⟨hok.1.1.1, hok.1.1.2⟩
  obtain ⟨sa, sn, sc, rfl⟩ := rz.sliced
  have hp9 : p ≤ 2000 := by omega
  obtain ⟨xa, xn, xc, hxe⟩ : ∃ a n c, x = .slice a n c := row_sliced o1.2.1
  obtain ⟨ya, yn, yc, hye⟩ : ∃ a n c, y = .slice a n c := by obtain ⟨C, _, ho, _⟩ := o2; exact row_sliced ho
  subst hxe
  subst hye
  have hxn : xn = d.1.length := by obtain ⟨a', n', c', us, he, hl, _⟩ := o1.bb.rd; simp only [Value.slice.injEq] at he; omega
  have hyn : yn = d.2.length := (o2.ww.rd.len).1
  have HV : Hid (VarJ 30 w b _ _ _ _) := v0
  have c3 := v0.c3
  obtain ⟨hq6, hz2⟩ := hfr
  have hf : frameD (q : Int) zs = frameN q zs := by unfold frameD; rw [if_pos (by omega), Int.toNat_natCast]
  rw [hf] at HFR
  have hm0 := manyN_pos zs.length
  have hm9 := manyN_le zs.length hz2
  have hfl := frameN_len q zs
  generalize hm : manyN zs.length = m at hm0 hm9 hfl hr1 hr2
  have e0 : ((m : Int) == 0) = false := by simp; omega
  have e0b : (m == 0) = false := by simp; omega
  have e0c : decide (m = 0) = false := by simp; omega
  have e0d : ¬ m = 0 := by omega
  have e0e : decide ((m : Int) = 0) = false := by simp; omega
  have e1 : decide ((xn : Int) - (p : Int) < (m : Int)) = false := by simp; omega
  have e2 : decide (2000 - (yn : Int) < (m : Int)) = false := by simp; omega
  have HYES : Hid (zs.length ≤ 200 ∧ roomJ (d, (p : Int), (q : Int)) zs = true) := by
    refine ⟨hz2, ?_⟩
    unfold roomJ
    simp only [Bool.and_eq_true, decide_eq_true_eq, hm]
    omega
  have HO1 : Hid _ := o1
  have HO2 : Hid _ := o2
  have HA : Hid _ := ha
  have HZB : Hid (isBytes zs) := rz.1
  have HM : Hid (manyN zs.length = m) := hm
  have HFL : Hid ((frameN q zs).length = m) := hfl
  have hxm : xn ≤ 2000 := by omega
  have hym : yn ≤ 2000 := by omega
  have hrp : (p : Int) + (m : Int) ≤ (xn : Int) := by omega
  have hry : yn + m ≤ 2000 := by omega
  have HXN : Hid _ := hxn
  have HYN : Hid _ := hyn
  have hwx := wrap_id ((xn : Int) - (p : Int)) (by omega) (by omega)
  have hwy := wrap_id (2000 - (yn : Int)) (by omega) (by omega)
  clear hf v0 o1 o2 ha rz hok hr1 hr2 hm hfl hxn hyn
  go_enter Tryd.func67, Tryd.ntmps67
  go_wp2_with fail
  refine Calls.mono HFR.out ?_
  rintro e w1 ⟨fx, fvs, rfl, hF, b1⟩
  have v1 := VarJ.step HV.out b1
  have s1 := b1.size
  have HB1 : Hid _ := b1
  obtain ⟨fa, fc, hfe⟩ : ∃ a c, fx = .slice (some ⟨a, 0, none⟩) m c := by
    obtain ⟨g, c, u, he, _⟩ := OwX.put (w' := w1) (new := []) hF (j := 0) (by rw [HFL.out]; exact hm0)
    rw [HFL.out] at he
    exact ⟨g, c, he⟩
  subst hfe
  have sm : SameIn l h w w1 := SameIn.ofBelow b1 hh
  have HST : Hid (WLRel w1 b (.slice xa xn xc) d p q (frameN q zs) (.slice (some ⟨fa, 0, none⟩) m fc) fvs vs l w.heap.size w1.heap.size m (.int .i64 0) w1.drew) := by
    refine ⟨0, _, xs, Nat.zero_le _, rfl, v1, (OwX.same (OwX.same HO1.out sm) SameIn.drew).wide (Nat.le_refl _) (by show h ≤ w1.heap.size; omega), ?_, HA.out, hF.same SameIn.drew, fun _ _ _ => rfl, rfl, rfl, rfl, Nat.le_refl _⟩
    have h2 := (OwY.same (OwY.same HO2.out sm) SameIn.drew).wide (Nat.le_refl _) (show h ≤ w1.drew.heap.size by show h ≤ w1.heap.size; omega)
    show OwY _ _ _ _ _ _
    simpa [frameW] using h2
  clear hF b1 sm c3 HO1 HO2 HA HFR HV
  go_wp2
  refine wp_region_noPanic ?_
  refine wp_region_held_drew (S := fun w' => w'.cell? ⟨b, 0, none⟩ = some (.slice xa xn xc) ∧ w'.cell? ⟨b, 1, none⟩ = some (.slice ya yn yc) ∧ w'.cell? ⟨b, 2, none⟩ = some (.int .i64 (p : Int))) (by kernel_rfl) ⟨v1.c0, v1.c1, v1.c2⟩ (fun hHeld => ?_)
  refine wpAnyH_take (i := 0) (v := ?_) rfl (by kernel_rfl) (by kernel_rfl) (by kernel_rfl) (fun _ _ _ h => h) (Or.inl ⟨by rfl, ?_⟩) (by assumption) ?_
  rotate_left
  · (intro w_ hSw_; (try dsimp only at hSw_); go_simp; try with_reducible rfl)
  try simp only [Act.put, List.setIfInBounds_toArray, List.set_cons_zero, List.set_cons_succ, List.getElem_toArray, List.getElem_cons_zero, List.getElem_cons_succ]
  refine wpAnyH_take (i := 1) (v := ?_) rfl (by kernel_rfl) (by kernel_rfl) (by kernel_rfl) (fun _ _ _ h => h) (Or.inl ⟨by rfl, ?_⟩) (by assumption) ?_
  rotate_left
  · (intro w_ hSw_; (try dsimp only at hSw_); go_simp; try with_reducible rfl)
  try simp only [Act.put, List.setIfInBounds_toArray, List.set_cons_zero, List.set_cons_succ, List.getElem_toArray, List.getElem_cons_zero, List.getElem_cons_succ]
  refine wpAnyH_take (i := 2) (v := ?_) rfl (by kernel_rfl) (by kernel_rfl) (by kernel_rfl) (fun _ _ _ h => h) (Or.inl ⟨by rfl, ?_⟩) (by assumption) ?_
  rotate_left
  · (intro w_ hSw_; (try dsimp only at hSw_); go_simp; try with_reducible rfl)
  try simp only [Act.put, List.setIfInBounds_toArray, List.set_cons_zero, List.set_cons_succ, List.getElem_toArray, List.getElem_cons_zero, List.getElem_cons_succ]
  refine wpAnyH_take (i := 3) (v := ?_) rfl (by kernel_rfl) (by kernel_rfl) (by kernel_rfl) (fun _ _ _ h => h) (Or.inl ⟨by rfl, ?_⟩) (by assumption) ?_
  rotate_left
  · (intro w_ hSw_; (try dsimp only at hSw_); go_simp; try with_reducible rfl)
  try simp only [Act.put, List.setIfInBounds_toArray, List.set_cons_zero, List.set_cons_succ, List.getElem_toArray, List.getElem_cons_zero, List.getElem_cons_succ]
  refine wpAnyH_take (i := 4) (v := ?_) rfl (by kernel_rfl) (by kernel_rfl) (by kernel_rfl) (fun _ _ _ h => h) (Or.inl ⟨by rfl, ?_⟩) (by assumption) ?_
  rotate_left
  · (intro w_ hSw_; (try dsimp only at hSw_); go_simp; try with_reducible rfl)
  try simp only [Act.put, List.setIfInBounds_toArray, List.set_cons_zero, List.set_cons_succ, List.getElem_toArray, List.getElem_cons_zero, List.getElem_cons_succ]
  refine wpAnyH_take (i := 5) (v := ?_) rfl (by kernel_rfl) (by kernel_rfl) (by kernel_rfl) (fun _ _ _ h => h) (Or.inl ⟨by rfl, ?_⟩) (by assumption) ?_
  rotate_left
  · (intro w_ hSw_; (try dsimp only at hSw_); go_simp; try with_reducible rfl)
  try simp only [Act.put, List.setIfInBounds_toArray, List.set_cons_zero, List.set_cons_succ, List.getElem_toArray, List.getElem_cons_zero, List.getElem_cons_succ]
  refine wpAnyH_take (i := 6) (v := ?_) rfl (by kernel_rfl) (by kernel_rfl) (by kernel_rfl) (fun _ _ _ h => h) (Or.inl ⟨by rfl, ?_⟩) (by assumption) ?_
  rotate_left
  · (intro w_ hSw_; (try dsimp only at hSw_); go_simp; try with_reducible rfl)
  try simp only [Act.put, List.setIfInBounds_toArray, List.set_cons_zero, List.set_cons_succ, List.getElem_toArray, List.getElem_cons_zero, List.getElem_cons_succ]
  refine wpAnyH_take (i := 7) (v := ?_) rfl (by kernel_rfl) (by kernel_rfl) (by kernel_rfl) (fun _ _ _ h => h) (Or.inl ⟨by rfl, ?_⟩) (by assumption) ?_
  rotate_left
  · (intro w_ hSw_; (try dsimp only at hSw_); go_simp; try with_reducible rfl)
  try simp only [Act.put, List.setIfInBounds_toArray, List.set_cons_zero, List.set_cons_succ, List.getElem_toArray, List.getElem_cons_zero, List.getElem_cons_succ]
  refine wpAnyH_take (i := 8) (v := ?_) rfl (by kernel_rfl) (by kernel_rfl) (by kernel_rfl) (fun _ _ _ h => h) (Or.inl ⟨by rfl, ?_⟩) (by assumption) ?_
  rotate_left
  · (intro w_ hSw_; (try dsimp only at hSw_); go_simp; try with_reducible rfl)
  try simp only [Act.put, List.setIfInBounds_toArray, List.set_cons_zero, List.set_cons_succ, List.getElem_toArray, List.getElem_cons_zero, List.getElem_cons_succ]
  refine wpAnyH_take (i := 9) (v := ?_) rfl (by kernel_rfl) (by kernel_rfl) (by kernel_rfl) (fun _ _ _ h => h) (Or.inl ⟨by rfl, ?_⟩) (by assumption) ?_
  rotate_left
  · (intro w_ hSw_; (try dsimp only at hSw_); go_simp; try with_reducible rfl)
  try simp only [Act.put, List.setIfInBounds_toArray, List.set_cons_zero, List.set_cons_succ, List.getElem_toArray, List.getElem_cons_zero, List.getElem_cons_succ]
  refine wpAnyH_take (i := 10) (v := ?_) rfl (by kernel_rfl) (by kernel_rfl) (by kernel_rfl) (fun _ _ _ h => h) (Or.inl ⟨by rfl, ?_⟩) (by assumption) ?_
  rotate_left
  · (intro w_ hSw_; (try dsimp only at hSw_); go_simp; try with_reducible rfl)
  try simp only [Act.put, List.setIfInBounds_toArray, List.set_cons_zero, List.set_cons_succ, List.getElem_toArray, List.getElem_cons_zero, List.getElem_cons_succ]
  refine wpAnyH_take (i := 11) (v := ?_) rfl (by kernel_rfl) (by kernel_rfl) (by kernel_rfl) (fun _ _ _ h => h) (Or.inl ⟨by rfl, ?_⟩) (by assumption) ?_
  rotate_left
  · (intro w_ hSw_; (try dsimp only at hSw_); go_simp; try with_reducible rfl)
  try simp only [Act.put, List.setIfInBounds_toArray, List.set_cons_zero, List.set_cons_succ, List.getElem_toArray, List.getElem_cons_zero, List.getElem_cons_succ]
  refine wpAnyH_take (i := 12) (v := ?_) rfl (by kernel_rfl) (by kernel_rfl) (by kernel_rfl) (fun _ _ _ h => h) (Or.inl ⟨by rfl, ?_⟩) (by assumption) ?_
  rotate_left
  · (intro w_ hSw_; (try dsimp only at hSw_); go_simp; try with_reducible rfl)
  try simp only [Act.put, List.setIfInBounds_toArray, List.set_cons_zero, List.set_cons_succ, List.getElem_toArray, List.getElem_cons_zero, List.getElem_cons_succ]
  refine wpAnyH_take (i := 13) (v := ?_) rfl (by kernel_rfl) (by kernel_rfl) (by kernel_rfl) (fun _ _ _ h => h) (Or.inl ⟨by rfl, ?_⟩) (by assumption) ?_
  rotate_left
  · (intro w_ hSw_; (try dsimp only at hSw_); go_simp; try with_reducible rfl)
  try simp only [Act.put, List.setIfInBounds_toArray, List.set_cons_zero, List.set_cons_succ, List.getElem_toArray, List.getElem_cons_zero, List.getElem_cons_succ]
  refine wpAnyH_take (i := 14) (v := ?_) rfl (by kernel_rfl) (by kernel_rfl) (by kernel_rfl) (fun _ _ _ h => h) (Or.inl ⟨by rfl, ?_⟩) (by assumption) ?_
  rotate_left
  · (intro w_ hSw_; (try dsimp only at hSw_); go_simp; try with_reducible rfl)
  try simp only [Act.put, List.setIfInBounds_toArray, List.set_cons_zero, List.set_cons_succ, List.getElem_toArray, List.getElem_cons_zero, List.getElem_cons_succ]
  refine wpAnyH_take (i := 15) (v := ?_) rfl (by kernel_rfl) (by kernel_rfl) (by kernel_rfl) (fun _ _ _ h => h) (Or.inl ⟨by rfl, ?_⟩) (by assumption) ?_
  rotate_left
  · (intro w_ hSw_; (try dsimp only at hSw_); go_simp; try with_reducible rfl)
  try simp only [Act.put, List.setIfInBounds_toArray, List.set_cons_zero, List.set_cons_succ, List.getElem_toArray, List.getElem_cons_zero, List.getElem_cons_succ]
  refine wpAnyH_take (i := 16) (v := ?_) rfl (by kernel_rfl) (by kernel_rfl) (by kernel_rfl) (fun _ _ _ h => h) (Or.inl ⟨by rfl, ?_⟩) (by assumption) ?_
  rotate_left
  · (intro w_ hSw_; (try dsimp only at hSw_); go_simp; try with_reducible rfl)
  try simp only [Act.put, List.setIfInBounds_toArray, List.set_cons_zero, List.set_cons_succ, List.getElem_toArray, List.getElem_cons_zero, List.getElem_cons_succ]
  refine wpAnyH_take (i := 17) (v := ?_) rfl (by kernel_rfl) (by kernel_rfl) (by kernel_rfl) (fun _ _ _ h => h) (Or.inl ⟨by rfl, ?_⟩) (by assumption) ?_
  rotate_left
  · (intro w_ hSw_; (try dsimp only at hSw_); go_simp; try with_reducible rfl)
  try simp only [Act.put, List.setIfInBounds_toArray, List.set_cons_zero, List.set_cons_succ, List.getElem_toArray, List.getElem_cons_zero, List.getElem_cons_succ]
  refine wpAnyH_take (i := 18) (v := ?_) rfl (by kernel_rfl) (by kernel_rfl) (by kernel_rfl) (fun _ _ _ h => h) (Or.inl ⟨by rfl, ?_⟩) (by assumption) ?_
  rotate_left
  · (intro w_ hSw_; (try dsimp only at hSw_); go_simp; try with_reducible rfl)
  try simp only [Act.put, List.setIfInBounds_toArray, List.set_cons_zero, List.set_cons_succ, List.getElem_toArray, List.getElem_cons_zero, List.getElem_cons_succ]
  refine wpAnyH_take (i := 19) (v := ?_) rfl (by kernel_rfl) (by kernel_rfl) (by kernel_rfl) (fun _ _ _ h => h) (Or.inl ⟨by rfl, ?_⟩) (by assumption) ?_
  rotate_left
  · (intro w_ hSw_; (try dsimp only at hSw_); go_simp; try with_reducible rfl)
  try simp only [Act.put, List.setIfInBounds_toArray, List.set_cons_zero, List.set_cons_succ, List.getElem_toArray, List.getElem_cons_zero, List.getElem_cons_succ]
  refine wpAnyH_take (i := 20) (v := ?_) rfl (by kernel_rfl) (by kernel_rfl) (by kernel_rfl) (fun _ _ _ h => h) (Or.inl ⟨by rfl, ?_⟩) (by assumption) ?_
  rotate_left
  · (intro w_ hSw_; (try dsimp only at hSw_); go_simp; try with_reducible rfl)
  try simp only [Act.put, List.setIfInBounds_toArray, List.set_cons_zero, List.set_cons_succ, List.getElem_toArray, List.getElem_cons_zero, List.getElem_cons_succ]
  refine wpAnyH_take (i := 21) (v := ?_) rfl (by kernel_rfl) (by kernel_rfl) (by kernel_rfl) (fun _ _ _ h => h) (Or.inl ⟨by rfl, ?_⟩) (by assumption) ?_
  rotate_left
  · (intro w_ hSw_; (try dsimp only at hSw_); go_simp; try with_reducible rfl)
  try simp only [Act.put, List.setIfInBounds_toArray, List.set_cons_zero, List.set_cons_succ, List.getElem_toArray, List.getElem_cons_zero, List.getElem_cons_succ]
  refine wpAnyH_take (i := 22) (v := ?_) rfl (by kernel_rfl) (by kernel_rfl) (by kernel_rfl) (fun _ _ _ h => h) (Or.inl ⟨by rfl, ?_⟩) (by assumption) ?_
  rotate_left
  · (intro w_ hSw_; (try dsimp only at hSw_); go_simp; try with_reducible rfl)
  try simp only [Act.put, List.setIfInBounds_toArray, List.set_cons_zero, List.set_cons_succ, List.getElem_toArray, List.getElem_cons_zero, List.getElem_cons_succ]
  refine wpAnyH_take (i := 23) (v := ?_) rfl (by kernel_rfl) (by kernel_rfl) (by kernel_rfl) (fun _ _ _ h => h) (Or.inl ⟨by rfl, ?_⟩) (by assumption) ?_
  rotate_left
  · (intro w_ hSw_; (try dsimp only at hSw_); go_simp; try with_reducible rfl)
  try simp only [Act.put, List.setIfInBounds_toArray, List.set_cons_zero, List.set_cons_succ, List.getElem_toArray, List.getElem_cons_zero, List.getElem_cons_succ]
  refine wpAnyH_take (i := 24) (v := ?_) rfl (by kernel_rfl) (by kernel_rfl) (by kernel_rfl) (fun _ _ _ h => h) (Or.inl ⟨by rfl, ?_⟩) (by assumption) ?_
  rotate_left
  · (intro w_ hSw_; (try dsimp only at hSw_); go_simp; try with_reducible rfl)
  try simp only [Act.put, List.setIfInBounds_toArray, List.set_cons_zero, List.set_cons_succ, List.getElem_toArray, List.getElem_cons_zero, List.getElem_cons_succ]
  refine wpAnyH_take (i := 25) (v := ?_) rfl (by kernel_rfl) (by kernel_rfl) (by kernel_rfl) (fun _ _ _ h => h) (Or.inl ⟨by rfl, ?_⟩) (by assumption) ?_
  rotate_left
  · (intro w_ hSw_; (try dsimp only at hSw_); go_simp; try with_reducible rfl)
  try simp only [Act.put, List.setIfInBounds_toArray, List.set_cons_zero, List.set_cons_succ, List.getElem_toArray, List.getElem_cons_zero, List.getElem_cons_succ]
  refine wpAnyH_take (i := 26) (v := ?_) rfl (by kernel_rfl) (by kernel_rfl) (by kernel_rfl) (fun _ _ _ h => h) (Or.inl ⟨by rfl, ?_⟩) (by assumption) ?_
  rotate_left
  · (intro w_ hSw_; (try dsimp only at hSw_); go_simp; try with_reducible rfl)
  try simp only [Act.put, List.setIfInBounds_toArray, List.set_cons_zero, List.set_cons_succ, List.getElem_toArray, List.getElem_cons_zero, List.getElem_cons_succ]
  refine wpAnyH_take (i := 27) (v := ?_) rfl (by kernel_rfl) (by kernel_rfl) (by kernel_rfl) (fun _ _ _ h => h) (Or.inl ⟨by rfl, ?_⟩) (by assumption) ?_
  rotate_left
  · (intro w_ hSw_; (try dsimp only at hSw_); go_simp; try with_reducible rfl)
  try simp only [Act.put, List.setIfInBounds_toArray, List.set_cons_zero, List.set_cons_succ, List.getElem_toArray, List.getElem_cons_zero, List.getElem_cons_succ]
  refine wpAnyH_take (i := 28) (v := ?_) rfl (by kernel_rfl) (by kernel_rfl) (by kernel_rfl) (fun _ _ _ h => h) (Or.inl ⟨by rfl, ?_⟩) (by assumption) ?_
  rotate_left
  · (intro w_ hSw_; (try dsimp only at hSw_); go_simp; try with_reducible rfl)
  try simp only [Act.put, List.setIfInBounds_toArray, List.set_cons_zero, List.set_cons_succ, List.getElem_toArray, List.getElem_cons_zero, List.getElem_cons_succ]
  refine wpAnyH_take (i := 29) (v := ?_) rfl (by kernel_rfl) (by kernel_rfl) (by kernel_rfl) (fun _ _ _ h => h) (Or.inl ⟨by rfl, ?_⟩) (by assumption) ?_
  rotate_left
  · (intro w_ hSw_; (try dsimp only at hSw_); go_simp; try with_reducible rfl)
  try simp only [Act.put, List.setIfInBounds_toArray, List.set_cons_zero, List.set_cons_succ, List.getElem_toArray, List.getElem_cons_zero, List.getElem_cons_succ]
  refine wpAnyH_take (i := 30) (v := ?_) rfl (by kernel_rfl) (by kernel_rfl) (by kernel_rfl) (fun _ _ _ h => h) (Or.inl ⟨by rfl, ?_⟩) (by assumption) ?_
  rotate_left
  · (intro w_ hSw_; (try dsimp only at hSw_); go_simp; try with_reducible rfl)
  try simp only [Act.put, List.setIfInBounds_toArray, List.set_cons_zero, List.set_cons_succ, List.getElem_toArray, List.getElem_cons_zero, List.getElem_cons_succ]
  refine wpAnyH_done (by kernel_rfl) (NoPanic.normal ?_) _
  go_wp2
  go_loopw [47] (fun i wr => WLRel w1 b (.slice xa xn xc) d p q (frameN q zs) (.slice (some ⟨fa, 0, none⟩) m fc) fvs vs l w.heap.size w1.heap.size m i wr) (fun i _ => m - (intOf i).toNat)
  case atStart => exact HST.out
  case round =>
    clear HST v1
    obtain ⟨k, y', xs', hk, rfl, HV, HX, HY, HA, HF, HFAR, hw⟩ := hrel
    have HVJ := HV.out
    have c2 := HVJ.c2
    by_cases hlt : k < m
    · have hlt9 : (k : Int) < (m : Int) := by omega
      have hk0 : (0 : Int) ≤ (k : Int) := by omega
      obtain ⟨g9, c9, u, he9, hcell, hue, hub, hpt⟩ := OwX.put (w' := wr) (new := []) HF.out (j := k) (by rw [HFL.out]; exact hlt)
      clear hue hpt
      simp only [Value.slice.injEq, Option.some.injEq, Addr.mk.injEq, and_true] at he9
      obtain ⟨rfl, hmm, rfl⟩ := he9
      clear hmm
      have hrl := hub.rd
      rw [frameN_at q zs k (by rw [HM.out]; exact hlt)] at hrl
      obtain ⟨ua, un, uc, rfl⟩ := hrl.sliced
      have hyl : (d.2 ++ frameW p ((frameN q zs).take k)).length = yn + k := by
        rw [List.length_append, frameW_len, List.length_take, HFL.out, ← HYN.out]; omega
      have hsr : w1.heap.size ≤ wr.heap.size := hw.2.2.2
      obtain ⟨N, hN⟩ : ∃ N, N = p + k := ⟨_, rfl⟩
      have h9 := writeJ_in (p : Int) (q : Int) b N (.slice xa xn xc) y' (d.1, d.2 ++ frameW p ((frameN q zs).take k)) vs xs' l wr.heap.size (.slice ua un uc) (secN q zs k) w.heap.size w1.heap.size wr.drew HVJ (OwX.same HX.out SameIn.drew) (OwY.same HY.out SameIn.drew) HA.out (Nat.le_refl _) (by show l ≤ wr.heap.size; omega) (hrl.same SameIn.drew) hsr (by show N < d.1.length; have := HXN.out; omega) (by show d.1.length ≤ 2000; have := HXN.out; omega) (by show (d.2 ++ frameW p ((frameN q zs).take k)).length < 2000; omega) (secN_length q zs k)
      have hn9 : ((N : Nat) : Int) = (p : Int) + (k : Int) := by omega
      rw [hn9] at h9
      clear hn9
      have HWR : Hid _ := h9
      have HRY : Hid (wr.ownsRow l 75 2 y' (d.2 ++ frameW p ((frameN q zs).take k)).length (Classical.choose (show ∃ C, wr.ownsRow l 75 2 y' (d.2 ++ frameW p ((frameN q zs).take k)).length C from by obtain ⟨C, hl9, ho9, _⟩ := HY.out; exact ⟨C, by rw [← hl9]; exact ho9⟩))) := Classical.choose_spec (show ∃ C, wr.ownsRow l 75 2 y' (d.2 ++ frameW p ((frameN q zs).take k)).length C from by obtain ⟨C, hl9, ho9, _⟩ := HY.out; exact ⟨C, by rw [← hl9]; exact ho9⟩)
      have hpk : (p : Int) + (k : Int) ≤ 2000 := by omega
      have hwk := wrap_id ((p : Int) + (k : Int)) (by omega) (by omega)
      have HNN : Hid (N = p + k) := hN
      clear h9 HVJ hub hrl hyl hN hHeld hwx hwy e0 e0b e0c e0d e0e e1 e2 hpk
      go_wp2
      refine wp_region_noPanic ?_
      refine wp_region_held_drew (S := fun w' => w'.cell? ⟨b, 2, none⟩ = some (.int .i64 (p : Int))) (by kernel_rfl) c2 (fun hHeld => ?_)
      refine wpAnyH_take (i := 0) (v := ?_) rfl (by kernel_rfl) (by kernel_rfl) (by kernel_rfl) (fun _ _ _ h => h) (Or.inl ⟨by rfl, ?_⟩) (by assumption) ?_
      rotate_left
      · (intro w_ hSw_; (try dsimp only at hSw_); go_simp; try with_reducible rfl)
      try simp only [Act.put, List.setIfInBounds_toArray, List.set_cons_zero, List.set_cons_succ, List.getElem_toArray, List.getElem_cons_zero, List.getElem_cons_succ]
      refine wpAnyH_take (i := 1) (v := ?_) rfl (by kernel_rfl) (by kernel_rfl) (by kernel_rfl) (fun _ _ _ h => h) (Or.inl ⟨by rfl, ?_⟩) (by assumption) ?_
      rotate_left
      · (intro w_ hSw_; (try dsimp only at hSw_); go_simp; try with_reducible rfl)
      try simp only [Act.put, List.setIfInBounds_toArray, List.set_cons_zero, List.set_cons_succ, List.getElem_toArray, List.getElem_cons_zero, List.getElem_cons_succ]
      refine wpAnyH_take (i := 2) (v := ?_) rfl (by kernel_rfl) (by kernel_rfl) (by kernel_rfl) (fun _ _ _ h => h) (Or.inl ⟨by rfl, ?_⟩) (by assumption) ?_
      rotate_left
      · (intro w_ hSw_; (try dsimp only at hSw_); go_simp; try with_reducible rfl)
      try simp only [Act.put, List.setIfInBounds_toArray, List.set_cons_zero, List.set_cons_succ, List.getElem_toArray, List.getElem_cons_zero, List.getElem_cons_succ]
      refine wpAnyH_take (i := 3) (v := ?_) rfl (by kernel_rfl) (by kernel_rfl) (by kernel_rfl) (fun _ _ _ h => h) (Or.inl ⟨by rfl, ?_⟩) (by assumption) ?_
      rotate_left
      · (intro w_ hSw_; (try dsimp only at hSw_); go_simp; try with_reducible rfl)
      try simp only [Act.put, List.setIfInBounds_toArray, List.set_cons_zero, List.set_cons_succ, List.getElem_toArray, List.getElem_cons_zero, List.getElem_cons_succ]
      refine wpAnyH_take (i := 4) (v := ?_) rfl (by kernel_rfl) (by kernel_rfl) (by kernel_rfl) (fun _ _ _ h => h) (Or.inl ⟨by rfl, ?_⟩) (by assumption) ?_
      rotate_left
      · (intro w_ hSw_; (try dsimp only at hSw_); go_simp; try with_reducible rfl)
      try simp only [Act.put, List.setIfInBounds_toArray, List.set_cons_zero, List.set_cons_succ, List.getElem_toArray, List.getElem_cons_zero, List.getElem_cons_succ]
      refine wpAnyH_take (i := 5) (v := ?_) rfl (by kernel_rfl) (by kernel_rfl) (by kernel_rfl) (fun _ _ _ h => h) (Or.inl ⟨by rfl, ?_⟩) (by assumption) ?_
      rotate_left
      · (intro w_ hSw_; (try dsimp only at hSw_); go_simp; try with_reducible rfl)
      try simp only [Act.put, List.setIfInBounds_toArray, List.set_cons_zero, List.set_cons_succ, List.getElem_toArray, List.getElem_cons_zero, List.getElem_cons_succ]
      refine wpAnyH_take (i := 6) (v := ?_) rfl (by kernel_rfl) (by kernel_rfl) (by kernel_rfl) (fun _ _ _ h => h) (Or.inl ⟨by rfl, ?_⟩) (by assumption) ?_
      rotate_left
      · (intro w_ hSw_; (try dsimp only at hSw_); go_simp; try with_reducible rfl)
      try simp only [Act.put, List.setIfInBounds_toArray, List.set_cons_zero, List.set_cons_succ, List.getElem_toArray, List.getElem_cons_zero, List.getElem_cons_succ]
      refine wpAnyH_take (i := 7) (v := ?_) rfl (by kernel_rfl) (by kernel_rfl) (by kernel_rfl) (fun _ _ _ h => h) (Or.inl ⟨by rfl, ?_⟩) (by assumption) ?_
      rotate_left
      · (intro w_ hSw_; (try dsimp only at hSw_); go_simp; try with_reducible rfl)
      try simp only [Act.put, List.setIfInBounds_toArray, List.set_cons_zero, List.set_cons_succ, List.getElem_toArray, List.getElem_cons_zero, List.getElem_cons_succ]
      refine wpAnyH_take (i := 8) (v := ?_) rfl (by kernel_rfl) (by kernel_rfl) (by kernel_rfl) (fun _ _ _ h => h) (Or.inl ⟨by rfl, ?_⟩) (by assumption) ?_
      rotate_left
      · (intro w_ hSw_; (try dsimp only at hSw_); go_simp; try with_reducible rfl)
      try simp only [Act.put, List.setIfInBounds_toArray, List.set_cons_zero, List.set_cons_succ, List.getElem_toArray, List.getElem_cons_zero, List.getElem_cons_succ]
      refine wpAnyH_take (i := 9) (v := ?_) rfl (by kernel_rfl) (by kernel_rfl) (by kernel_rfl) (fun _ _ _ h => h) (Or.inl ⟨by rfl, ?_⟩) (by assumption) ?_
      rotate_left
      · (intro w_ hSw_; (try dsimp only at hSw_); go_simp; try with_reducible rfl)
      try simp only [Act.put, List.setIfInBounds_toArray, List.set_cons_zero, List.set_cons_succ, List.getElem_toArray, List.getElem_cons_zero, List.getElem_cons_succ]
      refine wpAnyH_ready (rs := [10]) (by kernel_rfl) (by simp) ?_
      refine AllReadyH.cons rfl (fun K hK => ?_) AllReadyH.nil
      go_simp
      refine Calls.mono HWR.out ?_
      rintro e w5 ⟨rfl, y5, xs5, oX5, oY5, ha5, v5, far5, hw5⟩
      have HR : Hid (WLRel w1 b (.slice xa xn xc) d p q (frameN q zs) (.slice (some ⟨fa, 0, none⟩) m fc) fvs vs l w.heap.size w1.heap.size m (.int .i64 ((k : Int) + 1)) w5) := by
        have hds : wr.drew.heap.size = wr.heap.size := rfl
        refine ⟨k + 1, y5, xs5, by omega, by go_num, v5, oX5, ?_, ha5, ?_, ?_, hw5.1.trans hw.1, hw5.2.1.trans hw.2.1, hw5.2.2.1.trans hw.2.2.1, Nat.le_trans hw.2.2.2 hw5.2.2.2⟩
        · show OwY _ _ _ _ _ _
          rw [frameW_next _ _ _ (by rw [HFL.out]; exact hlt), ← List.append_assoc, frameN_at q zs k (by rw [HM.out]; exact hlt)]
          exact oY5
        · exact OwX.keep HF.out (fun q' hq' => far5 q' (by have := HF.out.2.2.1 q' hq'; omega) (row_ne HV.out HF.out.2.1 (by decide) q' hq') (row_row HF.out.2.1 HRY.out (by decide) q' hq')) (fun q' hq' => by
            obtain ⟨j, hj, hjk⟩ := hq'
            exact far5 q' (by have := (HF.out.2.2.2.1 j hj).2.2 q' hjk; omega) (row_ne HV.out (HF.out.2.2.2.1 j hj).2.1 (by decide) q' hjk) (row_row (HF.out.2.2.2.1 j hj).2.1 HRY.out (by decide) q' hjk))
        · exact fun k' hk' hb' => (far5 k' (by omega) hb' (fun e => by have := (HRY.out.lt k' e).1; omega)).trans (HFAR.out k' hk' hb')
      have c5 := v5.c2
      clear HV HX HY HA HF HFAR HRY oX5 oY5 ha5 v5 far5 hw5 hw HWR
      go_wp2_with fail
      refine hK.out _ _ c5 (fun hHeld => ?_)
      clear hK K
      try simp only [Act.put, List.setIfInBounds_toArray, List.set_cons_zero, List.set_cons_succ, List.getElem_toArray, List.getElem_cons_zero, List.getElem_cons_succ]
      refine wpAnyH_done (by kernel_rfl) (NoPanic.normal ?_) _
      clear c5 c2 hcell
      go_wp2
      refine ⟨?_, by simp [intOf]; omega⟩
      first | exact HR.out | exact ⟨_, HR.out, rfl⟩ | exact ⟨_, _, HR.out, rfl⟩ | exact ⟨_, _, _, HR.out, rfl⟩ | exact ⟨_, _, _, _, HR.out, rfl⟩ | exact ⟨_, _, _, _, _, HR.out, rfl⟩ | exact ⟨_, _, _, _, _, _, HR.out, rfl⟩ | exact ⟨_, _, _, _, _, _, _, HR.out, rfl⟩ | exact ⟨_, _, _, _, _, _, _, _, HR.out, rfl⟩ | exact ⟨_, _, _, _, _, _, _, _, _, HR.out, rfl⟩ | exact ⟨_, _, _, _, _, _, _, _, _, _, HR.out, rfl⟩ | exact ⟨_, _, _, _, _, _, _, _, _, _, _, HR.out, rfl⟩ | exact ⟨_, _, _, _, _, _, _, _, _, _, _, _, HR.out, rfl⟩ | exact ⟨_, _, _, _, _, _, _, _, _, _, _, _, _, HR.out, rfl⟩ | exact ⟨_, _, _, _, _, _, _, _, _, _, _, _, _, _, HR.out, rfl⟩ | exact ⟨_, _, _, _, _, _, _, _, _, _, _, _, _, _, _, HR.out, rfl⟩ | exact ⟨_, _, _, _, _, _, _, _, _, _, _, _, _, _, _, _, HR.out, rfl⟩ | exact ⟨_, _, _, _, _, _, _, _, _, _, _, _, _, _, _, _, _, HR.out, rfl⟩ | exact ⟨_, _, _, _, _, _, _, _, _, _, _, _, _, _, _, _, _, _, HR.out, rfl⟩ | exact ⟨_, _, _, _, _, _, _, _, _, _, _, _, _, _, _, _, _, _, _, HR.out, rfl⟩ | exact ⟨_, _, _, _, _, _, _, _, _, _, _, _, _, _, _, _, _, _, _, _, HR.out, rfl⟩ | exact ⟨_, _, _, _, _, _, _, _, _, _, _, _, _, _, _, _, _, _, _, _, _, HR.out, rfl⟩ | exact ⟨_, _, _, _, _, _, _, _, _, _, _, _, _, _, _, _, _, _, _, _, _, _, HR.out, rfl⟩ | exact ⟨_, _, _, _, _, _, _, _, _, _, _, _, _, _, _, _, _, _, _, _, _, _, _, HR.out, rfl⟩ | exact ⟨_, _, _, _, _, _, _, _, _, _, _, _, _, _, _, _, _, _, _, _, _, _, _, _, HR.out, rfl⟩ | exact ⟨_, _, _, _, _, _, _, _, _, _, _, _, _, _, _, _, _, _, _, _, _, _, _, _, _, HR.out, rfl⟩ | exact ⟨_, _, _, _, _, _, _, _, _, _, _, _, _, _, _, _, _, _, _, _, _, _, _, _, _, _, HR.out, rfl⟩ | exact ⟨_, _, _, _, _, _, _, _, _, _, _, _, _, _, _, _, _, _, _, _, _, _, _, _, _, _, _, HR.out, rfl⟩ | exact ⟨_, _, _, _, _, _, _, _, _, _, _, _, _, _, _, _, _, _, _, _, _, _, _, _, _, _, _, _, HR.out, rfl⟩ | exact ⟨_, _, _, _, _, _, _, _, _, _, _, _, _, _, _, _, _, _, _, _, _, _, _, _, _, _, _, _, _, HR.out, rfl⟩ | exact ⟨_, _, _, _, _, _, _, _, _, _, _, _, _, _, _, _, _, _, _, _, _, _, _, _, _, _, _, _, _, _, HR.out, rfl⟩ | exact ⟨_, _, _, _, _, _, _, _, _, _, _, _, _, _, _, _, _, _, _, _, _, _, _, _, _, _, _, _, _, _, _, HR.out, rfl⟩ | exact ⟨_, _, _, _, _, _, _, _, _, _, _, _, _, _, _, _, _, _, _, _, _, _, _, _, _, _, _, _, _, _, _, _, HR.out, rfl⟩ | exact ⟨_, _, _, _, _, _, _, _, _, _, _, _, _, _, _, _, _, _, _, _, _, _, _, _, _, _, _, _, _, _, _, _, _, HR.out, rfl⟩ | exact ⟨_, _, _, _, _, _, _, _, _, _, _, _, _, _, _, _, _, _, _, _, _, _, _, _, _, _, _, _, _, _, _, _, _, _, HR.out, rfl⟩ | exact ⟨_, _, _, _, _, _, _, _, _, _, _, _, _, _, _, _, _, _, _, _, _, _, _, _, _, _, _, _, _, _, _, _, _, _, _, HR.out, rfl⟩ | exact ⟨_, _, _, _, _, _, _, _, _, _, _, _, _, _, _, _, _, _, _, _, _, _, _, _, _, _, _, _, _, _, _, _, _, _, _, _, HR.out, rfl⟩ | exact ⟨_, _, _, _, _, _, _, _, _, _, _, _, _, _, _, _, _, _, _, _, _, _, _, _, _, _, _, _, _, _, _, _, _, _, _, _, _, HR.out, rfl⟩ | exact ⟨_, _, _, _, _, _, _, _, _, _, _, _, _, _, _, _, _, _, _, _, _, _, _, _, _, _, _, _, _, _, _, _, _, _, _, _, _, _, HR.out, rfl⟩ | exact ⟨_, _, _, _, _, _, _, _, _, _, _, _, _, _, _, _, _, _, _, _, _, _, _, _, _, _, _, _, _, _, _, _, _, _, _, _, _, _, _, HR.out, rfl⟩ | exact ⟨_, _, _, _, _, _, _, _, _, _, _, _, _, _, _, _, _, _, _, _, _, _, _, _, _, _, _, _, _, _, _, _, _, _, _, _, _, _, _, _, HR.out, rfl⟩ | exact ⟨_, _, _, _, _, _, _, _, _, _, _, _, _, _, _, _, _, _, _, _, _, _, _, _, _, _, _, _, _, _, _, _, _, _, _, _, _, _, _, _, _, HR.out, rfl⟩ | exact ⟨_, _, _, _, _, _, _, _, _, _, _, _, _, _, _, _, _, _, _, _, _, _, _, _, _, _, _, _, _, _, _, _, _, _, _, _, _, _, _, _, _, _, HR.out, rfl⟩ | exact ⟨_, _, _, _, _, _, _, _, _, _, _, _, _, _, _, _, _, _, _, _, _, _, _, _, _, _, _, _, _, _, _, _, _, _, _, _, _, _, _, _, _, _, _, HR.out, rfl⟩ | exact ⟨_, _, _, _, _, _, _, _, _, _, _, _, _, _, _, _, _, _, _, _, _, _, _, _, _, _, _, _, _, _, _, _, _, _, _, _, _, _, _, _, _, _, _, _, HR.out, rfl⟩ | exact ⟨_, _, _, _, _, _, _, _, _, _, _, _, _, _, _, _, _, _, _, _, _, _, _, _, _, _, _, _, _, _, _, _, _, _, _, _, _, _, _, _, _, _, _, _, _, HR.out, rfl⟩ | exact ⟨_, _, _, _, _, _, _, _, _, _, _, _, _, _, _, _, _, _, _, _, _, _, _, _, _, _, _, _, _, _, _, _, _, _, _, _, _, _, _, _, _, _, _, _, _, _, HR.out, rfl⟩ | exact ⟨_, _, _, _, _, _, _, _, _, _, _, _, _, _, _, _, _, _, _, _, _, _, _, _, _, _, _, _, _, _, _, _, _, _, _, _, _, _, _, _, _, _, _, _, _, _, _, HR.out, rfl⟩ | exact ⟨_, _, _, _, _, _, _, _, _, _, _, _, _, _, _, _, _, _, _, _, _, _, _, _, _, _, _, _, _, _, _, _, _, _, _, _, _, _, _, _, _, _, _, _, _, _, _, _, HR.out, rfl⟩ | exact ⟨_, _, _, _, _, _, _, _, _, _, _, _, _, _, _, _, _, _, _, _, _, _, _, _, _, _, _, _, _, _, _, _, _, _, _, _, _, _, _, _, _, _, _, _, _, _, _, _, _, HR.out, rfl⟩ | exact ⟨_, _, _, _, _, _, _, _, _, _, _, _, _, _, _, _, _, _, _, _, _, _, _, _, _, _, _, _, _, _, _, _, _, _, _, _, _, _, _, _, _, _, _, _, _, _, _, _, _, _, HR.out, rfl⟩ | exact ⟨_, _, _, _, _, _, _, _, _, _, _, _, _, _, _, _, _, _, _, _, _, _, _, _, _, _, _, _, _, _, _, _, _, _, _, _, _, _, _, _, _, _, _, _, _, _, _, _, _, _, _, HR.out, rfl⟩ | exact ⟨_, _, _, _, _, _, _, _, _, _, _, _, _, _, _, _, _, _, _, _, _, _, _, _, _, _, _, _, _, _, _, _, _, _, _, _, _, _, _, _, _, _, _, _, _, _, _, _, _, _, _, _, HR.out, rfl⟩ | exact ⟨_, _, _, _, _, _, _, _, _, _, _, _, _, _, _, _, _, _, _, _, _, _, _, _, _, _, _, _, _, _, _, _, _, _, _, _, _, _, _, _, _, _, _, _, _, _, _, _, _, _, _, _, _, HR.out, rfl⟩ | exact ⟨_, _, _, _, _, _, _, _, _, _, _, _, _, _, _, _, _, _, _, _, _, _, _, _, _, _, _, _, _, _, _, _, _, _, _, _, _, _, _, _, _, _, _, _, _, _, _, _, _, _, _, _, _, _, HR.out, rfl⟩ | exact ⟨_, _, _, _, _, _, _, _, _, _, _, _, _, _, _, _, _, _, _, _, _, _, _, _, _, _, _, _, _, _, _, _, _, _, _, _, _, _, _, _, _, _, _, _, _, _, _, _, _, _, _, _, _, _, _, HR.out, rfl⟩ | exact ⟨_, _, _, _, _, _, _, _, _, _, _, _, _, _, _, _, _, _, _, _, _, _, _, _, _, _, _, _, _, _, _, _, _, _, _, _, _, _, _, _, _, _, _, _, _, _, _, _, _, _, _, _, _, _, _, _, HR.out, rfl⟩ | exact ⟨_, _, _, _, _, _, _, _, _, _, _, _, _, _, _, _, _, _, _, _, _, _, _, _, _, _, _, _, _, _, _, _, _, _, _, _, _, _, _, _, _, _, _, _, _, _, _, _, _, _, _, _, _, _, _, _, _, HR.out, rfl⟩ | exact ⟨_, _, _, _, _, _, _, _, _, _, _, _, _, _, _, _, _, _, _, _, _, _, _, _, _, _, _, _, _, _, _, _, _, _, _, _, _, _, _, _, _, _, _, _, _, _, _, _, _, _, _, _, _, _, _, _, _, _, HR.out, rfl⟩ | exact ⟨_, _, _, _, _, _, _, _, _, _, _, _, _, _, _, _, _, _, _, _, _, _, _, _, _, _, _, _, _, _, _, _, _, _, _, _, _, _, _, _, _, _, _, _, _, _, _, _, _, _, _, _, _, _, _, _, _, _, _, HR.out, rfl⟩ | exact ⟨_, _, _, _, _, _, _, _, _, _, _, _, _, _, _, _, _, _, _, _, _, _, _, _, _, _, _, _, _, _, _, _, _, _, _, _, _, _, _, _, _, _, _, _, _, _, _, _, _, _, _, _, _, _, _, _, _, _, _, _, HR.out, rfl⟩ | exact ⟨_, _, _, _, _, _, _, _, _, _, _, _, _, _, _, _, _, _, _, _, _, _, _, _, _, _, _, _, _, _, _, _, _, _, _, _, _, _, _, _, _, _, _, _, _, _, _, _, _, _, _, _, _, _, _, _, _, _, _, _, _, HR.out, rfl⟩ | exact ⟨_, _, _, _, _, _, _, _, _, _, _, _, _, _, _, _, _, _, _, _, _, _, _, _, _, _, _, _, _, _, _, _, _, _, _, _, _, _, _, _, _, _, _, _, _, _, _, _, _, _, _, _, _, _, _, _, _, _, _, _, _, _, HR.out, rfl⟩ | exact ⟨_, _, _, _, _, _, _, _, _, _, _, _, _, _, _, _, _, _, _, _, _, _, _, _, _, _, _, _, _, _, _, _, _, _, _, _, _, _, _, _, _, _, _, _, _, _, _, _, _, _, _, _, _, _, _, _, _, _, _, _, _, _, _, HR.out, rfl⟩ | exact ⟨_, _, _, _, _, _, _, _, _, _, _, _, _, _, _, _, _, _, _, _, _, _, _, _, _, _, _, _, _, _, _, _, _, _, _, _, _, _, _, _, _, _, _, _, _, _, _, _, _, _, _, _, _, _, _, _, _, _, _, _, _, _, _, _, HR.out, rfl⟩ | exact ⟨_, _, _, _, _, _, _, _, _, _, _, _, _, _, _, _, _, _, _, _, _, _, _, _, _, _, _, _, _, _, _, _, _, _, _, _, _, _, _, _, _, _, _, _, _, _, _, _, _, _, _, _, _, _, _, _, _, _, _, _, _, _, _, _, _, HR.out, rfl⟩
    · have hkm : k = m := by omega
      have hk9 : ¬ (k : Int) < (m : Int) := by omega
      subst hkm
      have c3 := HVJ.c3
      have f2 := HVJ.f 2
      have f3 := HVJ.f 3
      have hpk : (p : Int) + (k : Int) ≤ 2000 := by omega
      have hwk := wrap_id ((p : Int) + (k : Int)) (by omega) (by omega)
      have V2 := (HVJ.set2 ((p : Int) + (k : Int))).set3 ((q : Int) + 1)
      have htk : (frameN q zs).take k = frameN q zs := List.take_of_length_le (by rw [HFL.out]; exact Nat.le_refl _)
      have HY2 : Hid (OwY wr l wr.heap.size y' (d.2 ++ frameW p (frameN q zs)) xs') := by
        have := HY.out; rw [htk] at this; exact this
      obtain ⟨C, hxl, hoY, _⟩ := HY.out
      have kx : ∀ q', Blk ((.slice xa xn xc) :: vs) q' → q' ≠ b := fun q' hq' => by
        obtain ⟨i, hi, hk'⟩ := hq'
        cases i with
        | zero => exact row_ne HVJ HX.out.2.1 (by decide) q' (by simpa using hk')
        | succ i => exact row_ne HVJ (HX.out.2.2.2.1 i (by simpa using hi)).2.1 (by decide) q' (by simpa using hk')
      have ky : ∀ q', Blk (y' :: xs') q' → q' ≠ b := fun q' hq' => by
        obtain ⟨C, hxl, hoY, hbf, hC, he, hd⟩ := HY2.out
        obtain ⟨i, hi, hk'⟩ := hq'
        cases i with
        | zero => exact row_ne HVJ hoY (by decide) q' (by simpa using hk')
        | succ i => exact row_ne HVJ (he i (by simpa using hi)).2.1 (by decide) q' (by simpa using hk')
      have HKX : Hid _ := kx
      have HKY : Hid _ := ky
      have HV2 : Hid _ := V2
      clear HV HVJ HY kx ky V2 hoY hxl
      go_wp2
      go_ret
      refine .inr ⟨rfl, HYES.out, y', xs', ?_, ?_, ?_, HA.out, ?_, ?_⟩
      · rw [HM.out]; exact HV2.out
      · have h9 := OwX.keep HX.out (w' := (wr.setCell ⟨b, 2, none⟩ (.int .i64 ((p : Int) + (k : Int)))).setCell ⟨b, 3, none⟩ (.int .i64 ((q : Int) + 1))) (fun q' hq' => by rw [heap_setCell_other _ _ _ _ (HKX.out q' ⟨0, by simp, by simpa using hq'⟩), heap_setCell_other _ _ _ _ (HKX.out q' ⟨0, by simp, by simpa using hq'⟩)]) (fun q' hq' => by
          have : Blk ((.slice xa xn xc) :: vs) q' := by obtain ⟨i, hi, hk'⟩ := hq'; exact ⟨i + 1, by simpa using hi, by simpa using hk'⟩
          rw [heap_setCell_other _ _ _ _ (HKX.out q' this), heap_setCell_other _ _ _ _ (HKX.out q' this)])
        simpa using h9
      · have h9 := OwY.keep HY2.out (w' := (wr.setCell ⟨b, 2, none⟩ (.int .i64 ((p : Int) + (k : Int)))).setCell ⟨b, 3, none⟩ (.int .i64 ((q : Int) + 1))) (fun q' hq' => by rw [heap_setCell_other _ _ _ _ (HKY.out q' hq'), heap_setCell_other _ _ _ _ (HKY.out q' hq')])
        simpa using h9
      · intro k' hk' hb'
        rw [heap_setCell_other _ _ _ _ hb', heap_setCell_other _ _ _ _ hb', HFAR.out k' hk' hb']
        exact HB1.out.block k' (by omega)
      · refine ⟨hw.1.trans HB1.out.os, hw.2.1.trans HB1.out.tape, hw.2.2.1.trans HB1.out.output, ?_⟩
        have := hw.2.2.2
        simp; omega

theorem jwriteI_any (b : Nat) (x y : Value) (d : Dk) (p q : Nat) (vs xs : List Value) (sv : Value) (zs : List Int) (lz hz l h : Nat) (w : World) (v0 : VarJ 30 w b x y (p : Int) (q : Int)) (o1 : OwX w l h x d.1 vs) (o2 : OwY w l h y d.2 xs) (ha : ∀ q, Blk vs q → ¬ Blk xs q) (hh : h ≤ w.heap.size)
    (hlw : l ≤ w.heap.size) (rz : RdB w lz hz sv zs) (hhz : hz ≤ w.heap.size) (hp : p ≤ d.1.length) (hq : q ≤ 60000) (hok : okD d = true) :
    Calls Tryd.prog 67 #[.pointer (some ⟨b, 0, none⟩), sv] w (WroteJ w b x d p q zs vs l) := by
  by_cases hfr : q < 60000 ∧ zs.length ≤ 200
  · by_cases hr1 : (manyN zs.length : Int) ≤ (d.1.length : Int) - (p : Int)
    · by_cases hr2 : (manyN zs.length : Int) ≤ 2000 - (d.2.length : Int)
      · exact jwrite_d b x y d p q vs xs sv zs lz hz l h w v0 o1 o2 ha hh hlw rz hhz hp hq hok hfr hr1 hr2
      · exact jwrite_c b x y d p q vs xs sv zs lz hz l h w v0 o1 o2 ha hh hlw rz hhz hp hq hok hfr hr1 hr2
    · exact jwrite_b b x y d p q vs xs sv zs lz hz l h w v0 o1 o2 ha hh hlw rz hhz hp hq hok hfr hr1
  · exact jwrite_a b x y d p q vs xs sv zs lz hz l h w v0 o1 o2 ha hh hlw rz hhz hp hq hok hfr
end Go.Proofs.YtjhaanenkeceiaaDoor
end

section
/- The program's Append as a plain function; it leans on the package's error errNoSector. No condition of ours. -/
namespace Go.Proofs.YtjhaanenkeceiaaDoor
open Go.RowKit
set_option linter.unusedVariables false
set_option linter.unusedSimpArgs false
attribute [local go_sem ↓] Go.wp_at_zero Go.wp_at_succ

theorem four_other {w : World} {b k : Nat} {a c e f : Value} (h : k ≠ b) : ((((w.setCell ⟨b, 0, none⟩ a).setCell ⟨b, 1, none⟩ c).setCell ⟨b, 2, none⟩ e).setCell ⟨b, 3, none⟩ f).heap[k]? = w.heap[k]? := by
  rw [heap_setCell_other _ _ _ _ h, heap_setCell_other _ _ _ _ h, heap_setCell_other _ _ _ _ h, heap_setCell_other _ _ _ _ h]
theorem four_below {w w' : World} {B b : Nat} {a c e f : Value} (h : Below B w w') (hb : B ≤ b) : Below B w ((((w'.setCell ⟨b, 0, none⟩ a).setCell ⟨b, 1, none⟩ c).setCell ⟨b, 2, none⟩ e).setCell ⟨b, 3, none⟩ f) :=
  (((h.setCell hb _).setCell hb _).setCell hb _).setCell hb _
theorem four_size (w : World) (b : Nat) (a c e f : Value) : ((((w.setCell ⟨b, 0, none⟩ a).setCell ⟨b, 1, none⟩ c).setCell ⟨b, 2, none⟩ e).setCell ⟨b, 3, none⟩ f).heap.size = w.heap.size := by simp
theorem four_same {w : World} {l h b : Nat} {a c e f : Value} (hb : b < l) : SameIn l h w ((((w.setCell ⟨b, 0, none⟩ a).setCell ⟨b, 1, none⟩ c).setCell ⟨b, 2, none⟩ e).setCell ⟨b, 3, none⟩ f) :=
  ⟨by rw [four_size]; exact Nat.le_refl _, fun k h1 _ => four_other (by omega)⟩

/-- What add leaves of a journal: the record is there and flushed, or nothing has turned. -/
def AddedJ (w : World) (b : Nat) (x : Value) (d : Dk) (P Q : Nat) (zs : List Int) (vs : List Value) (l : Nat) (e : Ending) (w' : World) : Prop :=
  (e = .returned (.bool false) ∧ ¬ (zs.length ≤ 200 ∧ roomJ (d, (P : Int), (Q : Int)) zs = true) ∧ Below w.heap.size w w') ∨
  (e = .returned (.bool true) ∧ (zs.length ≤ 200 ∧ roomJ (d, (P : Int), (Q : Int)) zs = true) ∧ ∃ H, OwX w' l H x (flushS d.1 (d.2 ++ frameW P (frameN Q zs))) vs ∧ H ≤ w'.heap.size ∧ VarJ 30 w' b x (.slice none 0 0) ((P : Int) + (manyN zs.length : Int)) ((Q : Int) + 1) ∧
    (∀ k, k < l → k ≠ b → w'.heap[k]? = w.heap[k]?) ∧ w'.os = w.os ∧ w'.tape = w.tape ∧ w'.output = w.output ∧ w.heap.size ≤ w'.heap.size)
set_option maxRecDepth 100000 in
set_option maxHeartbeats 4000000 in
theorem addJ_any (b : Nat) (x y : Value) (d : Dk) (P Q : Nat) (vs xs : List Value) (sv : Value) (zs : List Int) (lz hz l h : Nat) (w : World) (v0 : VarJ 30 w b x y (P : Int) (Q : Int)) (o1 : OwX w l h x d.1 vs) (o2 : OwY w l h y d.2 xs) (ha : ∀ q, Blk vs q → ¬ Blk xs q) (hh : h ≤ w.heap.size)
    (hlw : l ≤ w.heap.size) (rz : RdB w lz hz sv zs) (hhz : hz ≤ w.heap.size) (hp : P ≤ d.1.length) (hq : Q ≤ 60000) (hok : okD d = true) :
    Calls Tryd.prog 38 #[.pointer (some ⟨b, 0, none⟩), sv] w (AddedJ w b x d P Q zs vs l) := by
  have HWR : Hid _ := jwriteI_any b x y d P Q vs xs sv zs lz hz l h w v0 o1 o2 ha hh hlw rz hhz hp hq hok
  have HOKF : Hid (roomJ (d, (P : Int), (Q : Int)) zs = true → okD (d.1, d.2 ++ frameW P (frameN Q zs)) = true) := fun h => okD_frame hok h
  obtain ⟨sa, sn, sc, rfl⟩ := rz.sliced
  clear v0 o1 o2 ha rz
  go_enter Tryd.func38, Tryd.ntmps38
  go_wp2_with fail
  refine Calls.mono HWR.out ?_
  rintro e w5 (⟨rfl, hno, b5⟩ | ⟨rfl, hyes, y5, xs5, v5, oX5, oY5, ha5, far5, hos5, htp5, hou5, s5⟩)
  · have HN : Hid _ := hno
    have HB : Hid (Below w.heap.size w w5) := b5
    clear hno b5 HWR
    go_wp2
    go_ret
    exact .inl ⟨rfl, HN.out, HB.out⟩
  · have hbo : ¬ Blk vs b := fun ⟨i, hi, hk⟩ => row_ne v5 (oX5.2.2.2.1 i hi).2.1 (by decide) _ hk rfl
    have HFLU : Hid _ := flushJ_any _ _ b _ y5 (d.1, d.2 ++ frameW P (frameN Q zs)) vs xs5 l w5.heap.size w5 v5 oX5 oY5 ha5 hbo (Nat.le_refl _) (HOKF.out hyes.2)
    have HLX : Hid _ := oX5.lt
    have HY : Hid _ := hyes
    have HF : Hid _ := far5
    have HE : Hid _ := And.intro hos5 (And.intro htp5 (And.intro hou5 s5))
    clear v5 oX5 oY5 ha5 far5 hos5 htp5 hou5 s5 hbo HWR hyes
    go_wp2_with fail
    refine Calls.mono HFLU.out ?_
    rintro e w6 ⟨⟨u6, rfl⟩, oX6, vO6, t6⟩
    have HX6 : Hid _ := oX6
    have HV6 : Hid _ := vO6
    have HT6 : Hid _ := t6
    clear oX6 vO6 t6 HFLU
    go_wp2
    go_ret
    refine .inr ⟨rfl, HY.out, w5.heap.size, HX6.out, HT6.out.size, HV6.out, fun k hk hb => ?_, HT6.out.os.trans HE.out.1, HT6.out.tape.trans HE.out.2.1, HT6.out.output.trans HE.out.2.2.1, Nat.le_trans HE.out.2.2.2 HT6.out.size⟩
    refine (HT6.out.block k (by have := HE.out.2.2.2; omega) (fun hbk => ?_)).trans (HF.out k hk hb)
    obtain ⟨i, hi, hkk⟩ := hbk
    cases i with
    | zero => have := slice_block (show (Value.slice (some ⟨b, 0, none⟩) 0 0).ownBlock = some k by simpa using hkk); simp at this; omega
    | succ i => have := HLX.out k ⟨i, by simpa using hi, by simpa using hkk⟩; omega

set_option maxRecDepth 100000 in
set_option maxHeartbeats 4000000 in
theorem implAppend_all (j : Jn) (zs : List Int) (a : Addr) (w : World) (jv : Value) (l h : Nat) (sv : Value) (lz hz : Nat) (rj : RdJ w l h jv j) (hh : h ≤ w.heap.size) (rz : RdB w lz hz sv zs) (hhz : hz ≤ w.heap.size) (hg : Glob w a) :
    Calls Tryd.prog 8 #[jv, sv] w fun e w' => ∃ x, e = .returned (.tuple #[x, .bool (appendJ j zs).2]) ∧ OwJ2 w' w.heap.size w'.heap.size x (appendJ j zs).1 ∧ Below w.heap.size w w' := by
  obtain ⟨d, p, q⟩ := j
  obtain ⟨xa, xn, xc, ya, yn, yc, rfl, r⟩ := rj.open
  have hlt := hg.lt
  have b0 := Below.new (w := w) (.cells #[.slice xa xn xc, .slice ya yn yc, .int .i64 p, .int .i64 q] 30)
  have v0 := VarJ.new (T := 30) w (.slice xa xn xc) (.slice ya yn yc) p q
  generalize hw0 : w.alloc (.cells #[.slice xa xn xc, .slice ya yn yc, .int .i64 p, .int .i64 q] 30) = w0 at b0 v0
  have s0 : w0.heap.size = w.heap.size + 1 := by rw [← hw0]; simp
  have b1 := Below.new (w := w0) (.cells #[.slice none 0 0, .slice none 0 0, .int .i64 0, .int .i64 0] 30)
  have vR := VarJ.new (T := 30) w0 (.slice none 0 0) (.slice none 0 0) 0 0
  rw [s0] at vR
  have v1 := v0.step b1
  generalize hw1 : w0.alloc (.cells #[.slice none 0 0, .slice none 0 0, .int .i64 0, .int .i64 0] 30) = w1 at b1 vR v1
  have B1 : Below w.heap.size w w1 := b0.trans (b1.mono (by omega))
  have r1 := r.step hh B1
  have sR := vR.lt
  have HOK : Hid _ := jokI_any w.heap.size _ _ p q d l h a w1 v1 r1 (by omega) (hg.step B1 hlt)
  have HW : Hid ((w.alloc (.cells #[.slice xa xn xc, .slice ya yn yc, .int .i64 p, .int .i64 q] 30)).alloc (.cells #[.slice none 0 0, .slice none 0 0, .int .i64 0, .int .i64 0] 30) = w1) := by show _ = _; rw [hw0, hw1]
  have HR1 : Hid (RdD w1 l h _ d) := r1
  have HV1 : Hid (VarJ 30 w1 w.heap.size _ _ _ _) := v1
  have HVR : Hid (VarJ 30 w1 (w.heap.size + 1) _ _ _ _) := vR
  have HB1 : Hid (Below w.heap.size w w1) := B1
  have HZ : Hid (RdB w lz hz sv zs) := rz
  obtain ⟨sa, sn, sc, rfl⟩ := rz.sliced
  clear hw0 hw1 r hg b0 v0 b1 vR v1 r1 B1 s0 rj rz
  by_cases hok : okJ (d, p, q) = true
  case neg =>
    have hok' : okJ (d, p, q) = false := by simpa using hok
    have hfd : appendJ (d, p, q) zs = ((([], []), 0, 0), false) := by unfold appendJ; rw [if_neg hok]
    rw [hok'] at HOK
    rw [hfd]
    clear hok hok' hfd HZ
    go_enter Tryd.func8, Tryd.ntmps8
    go_wp2_with fail
    rw [HW.out]
    refine Calls.mono HOK.out ?_
    rintro e w2 ⟨rfl, b2⟩
    have vR2 := VarJ.step HVR.out b2
    have HB2 : Hid (Below w.heap.size w w2) := HB1.out.trans (b2.mono HB1.out.size)
    have e0 := vR2.c0
    have e1 := vR2.c1
    have e2 := vR2.c2
    have e3 := vR2.c3
    have f0 := vR2.f 0
    have f1 := vR2.f 1
    have f2 := vR2.f 2
    have f3 := vR2.f 3
    clear b2 vR2 HR1 HV1 HVR HB1 HOK
    go_wp2
    refine bodyPost_ret (v := .tuple #[.agg #[.slice none 0 0, .slice none 0 0, .int .i64 0, .int .i64 0], .bool false]) (by simp [results, Tryd.results8, go_sem, e0, e1, e2, e3]) rfl ⟨_, rfl, ⟨_, _, rfl, OwD2_nil _ _ _⟩, four_below HB2.out (Nat.le_succ _)⟩
  have hpar := hok
  unfold okJ at hpar
  simp only [Bool.and_eq_true, decide_eq_true_eq] at hpar
  obtain ⟨⟨⟨⟨hd, hp0⟩, hP⟩, hq0⟩, hQ⟩ := hpar
  obtain ⟨P, rfl⟩ : ∃ P : Nat, p = (P : Int) := ⟨p.toNat, by omega⟩
  obtain ⟨Q, rfl⟩ : ∃ Q : Nat, q = (Q : Int) := ⟨q.toNat, by omega⟩
  replace hP : P ≤ d.1.length := by omega
  replace hQ : Q ≤ 60000 := by omega
  rw [hok] at HOK
  have HOKD : Hid (okD d = true) := hd
  by_cases hyes : zs.length ≤ 200 ∧ roomJ (d, (P : Int), (Q : Int)) zs = true
  case neg =>
    have hfd : appendJ (d, (P : Int), (Q : Int)) zs = ((d, (P : Int), (Q : Int)), false) := by unfold appendJ; rw [if_pos hok, if_neg hyes]
    rw [hfd]
    have HNO : Hid _ := hyes
    clear hok hd hp0 hq0 hyes hfd
    go_enter Tryd.func8, Tryd.ntmps8
    go_wp2_with fail
    rw [HW.out]
    refine Calls.mono HOK.out ?_
    rintro e w2 ⟨rfl, b2⟩
    have v2 := VarJ.step HV1.out b2
    have vR2 := VarJ.step HVR.out b2
    have r2 := RdD.step HR1.out (by omega) b2
    have B2 := HB1.out.trans (b2.mono HB1.out.size)
    have s2 := b2.size
    have hp9 := r2
    obtain ⟨x', y', he, r21, r22⟩ := hp9
    simp only [Value.agg.injEq, Array.mk.injEq, List.cons.injEq, and_true] at he
    obtain ⟨rfl, rfl⟩ := he
    have HCL : Hid _ := jcloneI_any w.heap.size _ _ (P : Int) (Q : Int) d l h w2 v2 r21 r22 (by omega) HOKD.out
    have HVR2 : Hid (VarJ 30 w2 (w.heap.size + 1) _ _ _ _) := vR2
    have HB2 : Hid (Below w.heap.size w w2) := B2
    clear r21 r22 r2 v2 vR2 b2 B2 HR1 HV1 HVR HB1 HOK
    go_wp2_with fail
    refine Calls.mono HCL.out ?_
    rintro e w3 ⟨u, rfl, oJ, b3⟩
    obtain ⟨ux, uy, rfl, oU⟩ := oJ
    obtain ⟨pa, pn, pc, qa, qn, qc, he⟩ := oU.rd.open
    simp only [Value.agg.injEq, Array.mk.injEq, List.cons.injEq, and_true] at he
    obtain ⟨rfl, rfl⟩ := he
    have s3 := b3.size
    have b4 := Below.new (w := w3) (.cells #[.slice pa pn pc, .slice qa qn qc, .int .i64 (P : Int), .int .i64 (Q : Int)] 30)
    have vO := VarJ.new (T := 30) w3 (.slice pa pn pc) (.slice qa qn qc) (P : Int) (Q : Int)
    have vR4 := (VarJ.step HVR2.out b3).step b4
    have oU4 := oU.step (Nat.le_refl _) b4
    have B3 := HB2.out.trans (b3.mono HB2.out.size)
    have B4 := B3.trans (b4.mono B3.size)
    generalize hw4 : w3.alloc (.cells #[.slice pa pn pc, .slice qa qn qc, .int .i64 (P : Int), .int .i64 (Q : Int)] 30) = w4 at b4 vO vR4 oU4 B4
    have HW4 : Hid _ := hw4
    have s4 := vO.lt
    obtain ⟨x', y', vs, xs, he, oX, oY, hap⟩ := oU4
    simp only [Value.agg.injEq, Array.mk.injEq, List.cons.injEq, and_true] at he
    obtain ⟨rfl, rfl⟩ := he
    have HWR : Hid _ := addJ_any w3.heap.size _ _ d P Q vs xs (.slice sa sn sc) zs lz hz w2.heap.size w3.heap.size w4 vO oX oY hap (by omega) (by omega) (HZ.out.same (SameIn.ofBelow B4 hhz)) (by have := B4.size; omega) hP hQ HOKD.out
    have HVR4 : Hid (VarJ 30 w4 (w.heap.size + 1) _ _ _ _) := vR4
    have HVO : Hid (VarJ 30 w4 w3.heap.size _ _ _ _) := vO
    have HB4 : Hid (Below w.heap.size w w4) := B4
    have HX4 : Hid (OwX w4 w2.heap.size w3.heap.size _ d.1 vs) := oX
    have HY4 : Hid (OwY w4 w2.heap.size w3.heap.size _ d.2 xs) := oY
    have HAP : Hid _ := hap
    clear hw4 oX oY hap vO vR4 B3 B4 b4 b3 oU HVR2 HB2 HCL HZ
    go_wp2_with (rw [HW4.out])
    refine Calls.mono HWR.out ?_
    rintro e w5 (⟨rfl, _, b5⟩ | ⟨_, hyes, _⟩)
    case inr => exact absurd hyes HNO.out
    have s5 := b5.size
    have vO5 := VarJ.step HVO.out b5
    have vR5 := VarJ.step HVR4.out b5
    have k0 := vO5.c0
    have k1 := vO5.c1
    have k2 := vO5.c2
    have k3 := vO5.c3
    have e0 := vR5.c0
    have e1 := vR5.c1
    have e2 := vR5.c2
    have e3 := vR5.c3
    have f0 := vR5.f 0
    have f1 := vR5.f 1
    have f2 := vR5.f 2
    have f3 := vR5.f 3
    have HB5 : Hid (Below w.heap.size w w5) := HB4.out.trans (b5.mono HB4.out.size)
    have HX5 : Hid (OwX w5 w2.heap.size w3.heap.size _ d.1 vs) := OwX.same HX4.out (SameIn.ofBelow b5 (by omega))
    have HY5 : Hid (OwY w5 w2.heap.size w3.heap.size _ d.2 xs) := OwY.same HY4.out (SameIn.ofBelow b5 (by omega))
    clear b5 vO5 vR5 HB4 HX4 HY4 HVR4 HVO HWR HNO
    go_wp2
    refine bodyPost_ret (v := .tuple #[.agg #[.slice pa pn pc, .slice qa qn qc, .int .i64 (P : Int), .int .i64 (Q : Int)], .bool false]) (by simp [results, Tryd.results8, go_sem, e0, e1, e2, e3]) rfl ⟨_, rfl, ⟨_, _, rfl, _, _, vs, xs, rfl, (OwX.same HX5.out (four_same (by omega))).wide (by omega) (by rw [four_size]; omega), (OwY.same HY5.out (four_same (by omega))).wide (by omega) (by rw [four_size]; omega), HAP.out⟩, four_below HB5.out (Nat.le_succ _)⟩
  have hfd : appendJ (d, (P : Int), (Q : Int)) zs = (((flushS d.1 (d.2 ++ frameW P (frameN Q zs)), []), (P : Int) + (manyN zs.length : Int), (Q : Int) + 1), true) := by unfold appendJ; rw [if_pos hok, if_pos hyes]; simp
  rw [hfd]
  have HYES : Hid _ := hyes
  have HOKF : Hid (okD (d.1, d.2 ++ frameW P (frameN Q zs)) = true) := okD_frame hd hyes.2
  clear hok hd hp0 hq0 hyes hfd
  go_enter Tryd.func8, Tryd.ntmps8
  go_wp2_with fail
  rw [HW.out]
  refine Calls.mono HOK.out ?_
  rintro e w2 ⟨rfl, b2⟩
  have v2 := VarJ.step HV1.out b2
  have vR2 := VarJ.step HVR.out b2
  have r2 := RdD.step HR1.out (by omega) b2
  have B2 := HB1.out.trans (b2.mono HB1.out.size)
  have s2 := b2.size
  have hp9 := r2
  obtain ⟨x', y', he, r21, r22⟩ := hp9
  simp only [Value.agg.injEq, Array.mk.injEq, List.cons.injEq, and_true] at he
  obtain ⟨rfl, rfl⟩ := he
  have HCL : Hid _ := jcloneI_any w.heap.size _ _ (P : Int) (Q : Int) d l h w2 v2 r21 r22 (by omega) HOKD.out
  have HVR2 : Hid (VarJ 30 w2 (w.heap.size + 1) _ _ _ _) := vR2
  have HB2 : Hid (Below w.heap.size w w2) := B2
  clear r21 r22 r2 v2 vR2 b2 B2 HR1 HV1 HVR HB1 HOK
  go_wp2_with fail
  refine Calls.mono HCL.out ?_
  rintro e w3 ⟨u, rfl, oJ, b3⟩
  obtain ⟨ux, uy, rfl, oU⟩ := oJ
  obtain ⟨pa, pn, pc, qa, qn, qc, he⟩ := oU.rd.open
  simp only [Value.agg.injEq, Array.mk.injEq, List.cons.injEq, and_true] at he
  obtain ⟨rfl, rfl⟩ := he
  have s3 := b3.size
  have b4 := Below.new (w := w3) (.cells #[.slice pa pn pc, .slice qa qn qc, .int .i64 (P : Int), .int .i64 (Q : Int)] 30)
  have vO := VarJ.new (T := 30) w3 (.slice pa pn pc) (.slice qa qn qc) (P : Int) (Q : Int)
  have vR4 := (VarJ.step HVR2.out b3).step b4
  have oU4 := oU.step (Nat.le_refl _) b4
  have B3 := HB2.out.trans (b3.mono HB2.out.size)
  have B4 := B3.trans (b4.mono B3.size)
  generalize hw4 : w3.alloc (.cells #[.slice pa pn pc, .slice qa qn qc, .int .i64 (P : Int), .int .i64 (Q : Int)] 30) = w4 at b4 vO vR4 oU4 B4
  have HW4 : Hid _ := hw4
  have s4 := vO.lt
  obtain ⟨x', y', vs, xs, he, oX, oY, hap⟩ := oU4
  simp only [Value.agg.injEq, Array.mk.injEq, List.cons.injEq, and_true] at he
  obtain ⟨rfl, rfl⟩ := he
  have HWR : Hid _ := addJ_any w3.heap.size _ _ d P Q vs xs (.slice sa sn sc) zs lz hz w2.heap.size w3.heap.size w4 vO oX oY hap (by omega) (by omega) (HZ.out.same (SameIn.ofBelow B4 hhz)) (by have := B4.size; omega) hP hQ HOKD.out
  have HVR4 : Hid (VarJ 30 w4 (w.heap.size + 1) _ _ _ _) := vR4
  have HVO : Hid (VarJ 30 w4 w3.heap.size _ _ _ _) := vO
  have HB4 : Hid (Below w.heap.size w w4) := B4
  have HX4 : Hid (OwX w4 w2.heap.size w3.heap.size _ d.1 vs) := oX
  have HY4 : Hid (OwY w4 w2.heap.size w3.heap.size _ d.2 xs) := oY
  have HAP : Hid _ := hap
  clear hw4 oX oY hap vO vR4 B3 B4 b4 b3 oU HVR2 HB2 HCL HZ
  go_wp2_with (rw [HW4.out])
  refine Calls.mono HWR.out ?_
  rintro e w6 (⟨_, hno, _⟩ | ⟨rfl, _, H6, oX6, hH6, vO6, far6, hos6, htp6, hou6, s6⟩)
  case inl => exact absurd HYES.out hno
  have hrl : w.heap.size + 1 < w2.heap.size := by omega
  have vR6 : VarJ 30 w6 (w.heap.size + 1) (.slice none 0 0) (.slice none 0 0) 0 0 := (far6 _ hrl (by omega)).trans HVR4.out
  have B6 : Below w.heap.size w w6 := ⟨hos6.trans HB4.out.os, htp6.trans HB4.out.tape, hou6.trans HB4.out.output, Nat.le_trans HB4.out.size s6, fun k hk => (far6 k (by omega) (by omega)).trans (HB4.out.block k hk)⟩
  have k0 := vO6.c0
  have k1 := vO6.c1
  have k2 := vO6.c2
  have k3 := vO6.c3
  have e0 := vR6.c0
  have e1 := vR6.c1
  have e2 := vR6.c2
  have e3 := vR6.c3
  have f0 := vR6.f 0
  have f1 := vR6.f 1
  have f2 := vR6.f 2
  have f3 := vR6.f 3
  have HX6 : Hid (OwX w6 w2.heap.size H6 _ (flushS d.1 (d.2 ++ frameW P (frameN Q zs))) vs) := oX6
  have HB6 : Hid (Below w.heap.size w w6) := B6
  clear oX6 B6 far6 hos6 htp6 hou6 vO6 vR6 HB4 HX4 HY4 HVR4 HVO HWR HYES HAP HOKF
  go_wp2
  refine bodyPost_ret (v := .tuple #[.agg #[.slice pa pn pc, .slice none 0 0, .int .i64 ((P : Int) + (manyN zs.length : Int)), .int .i64 ((Q : Int) + 1)], .bool true]) (by simp [results, Tryd.results8, go_sem, e0, e1, e2, e3]) rfl ⟨_, rfl, ⟨_, _, rfl, _, _, vs, [], rfl, (OwX.same HX6.out (four_same (by omega))).wide (by omega) (by rw [four_size]; omega), OwY_nil _ _ _, fun q _ => no_blk q⟩, four_below HB6.out (Nat.le_succ _)⟩
end Go.Proofs.YtjhaanenkeceiaaDoor
end

section
/- The program's Open, whatever disk. -/
namespace Go.Proofs.YtjhaanenkeceiaaDoor
open Go.RowKit
set_option linter.unusedVariables false

theorem implOpen_all (v : Value) (d : Dk) (l h : Nat) (w : World) (r : RdD w l h v d) (hh : h ≤ w.heap.size) (a : Addr) (hg : Glob w a) :
    Calls Tryd.prog 13 #[v] w fun e w' => ∃ X V vs H, e = .returned (.tuple #[X, V, .bool (openOk d)]) ∧ OwJ2 w' w.heap.size H X (openJ d) ∧ OwX w' H w'.heap.size V (openR d) vs ∧ H ≤ w'.heap.size ∧ w.heap.size ≤ H ∧ Below w.heap.size w w' := by
  cases hk : openOk d with
  | false =>
    have h1 : openJ d = (([], []), 0, 0) := by unfold openJ; rw [hk]; rfl
    have h2 : openR d = [] := by unfold openR; rw [hk]; rfl
    rw [h1, h2]
    refine (implOpen_no v d l h w r hh a hg hk).mono ?_
    rintro e w' ⟨rfl, hb⟩
    exact ⟨_, _, [], w.heap.size, rfl, ⟨_, _, rfl, nilD2 _ _ _⟩, ⟨rfl, World.ownsRow_nil _ _ _ _, fun k h => by simp [Value.ownBlock] at h, fun i hi => absurd hi (Nat.not_lt_zero _), fun i j q _ hj => absurd hj (Nat.not_lt_zero _)⟩, hb.size, Nat.le_refl _, hb⟩
  | true =>
    have hk' := hk
    unfold openOk at hk'
    rw [Bool.and_eq_true] at hk'
    have hd : d.2 = [] := by simpa using hk'.2
    have h1 : openJ d = (d, ((openS d.1).1 : Int), ((openS d.1).2.1 : Int)) := by unfold openJ; rw [hk]; rfl
    have h2 : openR d = (openS d.1).2.2 := by unfold openR; rw [hk]; rfl
    rw [h1, h2]
    refine (implOpen_yes v d l h w r hh a hg hk'.1 hd).mono ?_
    rintro e w' ⟨X, V, vs, H, rfl, oJ, oX, hH, hl, hb⟩
    exact ⟨X, V, vs, H, rfl, oJ, oX, hH, hl, hb⟩
end Go.Proofs.YtjhaanenkeceiaaDoor
end
