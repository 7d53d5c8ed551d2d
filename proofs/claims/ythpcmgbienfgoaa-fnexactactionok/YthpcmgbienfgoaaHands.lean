/- Handles: copied, compared, asked whether they may be; no condition. -/
import Derived.Test.YthpcmgbienfgoaaDt
namespace Go.Proofs.Ythpcmgbienfgoaa
open Go.RowKit
set_option linter.unusedVariables false

/-- A handle, as data. -/
abbrev Hd := Int × Int × Bool
abbrev Hd.sh (h : Hd) : Int := h.1
abbrev Hd.ino (h : Hd) : Int := h.2.1
abbrev Hd.dir (h : Hd) : Bool := h.2.2
abbrev Hd.v (h : Hd) : Value := .agg #[.int .i64 h.sh, .int .i64 h.ino, .bool h.dir]

theorem toHandle_any (h : Hd) (w : World) : Calls Try.prog 29 #[h.v] w fun e w' => e = .returned h.v ∧ Below w.heap.size w w' := by
  obtain ⟨s, i, d⟩ := h
  go_enter Try.func29, Try.ntmps29
  go_wp2
  refine bodyPost_ret (v := .agg #[.int .i64 s, .int .i64 i, .bool d]) (by simp [results, Try.results29, go_sem]) rfl ⟨rfl, ?_⟩
  exact ((((Below.refl _ _).alloc (Nat.le_refl _) _).alloc (by simp) _).alloc (by simp; omega) _)

theorem Below.newH {w : World} (o : Obj) : Below w.heap.size w (w.alloc o) := (Below.refl _ _).alloc (Nat.le_refl _) _
theorem Below.newH2 {w : World} (o o' : Obj) : Below w.heap.size w ((w.alloc o).alloc o') := ((Below.refl _ _).alloc (Nat.le_refl _) _).alloc (by simp) _
def HOk (h : Hd) : Bool := decide (0 ≤ h.sh) && (decide (h.sh < 4) && (decide (1 ≤ h.ino) && decide (h.ino ≤ 2147483647)))

theorem specHandleOk_w (h : Hd) (w : World) : Calls Try.prog 26 #[h.v] w fun e w' => e = .returned (.bool (HOk h)) ∧ w' = w.alloc (.cells #[.int .i64 h.sh, .int .i64 h.ino, .bool h.dir] 38) := by
  obtain ⟨s, i, d⟩ := h
  go_enter Try.func26, Try.ntmps26
  go_wp2
  all_goals (go_ret; exact ⟨by first | rfl | (simp_all [HOk] <;> omega), rfl⟩)
theorem specHandleOk_any (h : Hd) (w : World) : Calls Try.prog 26 #[h.v] w fun e w' => e = .returned (.bool (HOk h)) ∧ Below w.heap.size w w' :=
  (specHandleOk_w h w).mono fun e w' ⟨he, hw⟩ => ⟨he, by rw [hw]; exact Below.newH _⟩
theorem implHandleOk_w (h : Hd) (w : World) : Calls Try.prog 31 #[h.v] w fun e w' => e = .returned (.bool (HOk h)) ∧ w' = w.alloc (.cells #[.int .i64 h.sh, .int .i64 h.ino, .bool h.dir] 38) := by
  obtain ⟨s, i, d⟩ := h
  go_enter Try.func31, Try.ntmps31
  go_wp2
  all_goals (go_ret; exact ⟨by first | rfl | (simp_all [HOk] <;> omega), rfl⟩)
theorem implHandleOk_any (h : Hd) (w : World) : Calls Try.prog 31 #[h.v] w fun e w' => e = .returned (.bool (HOk h)) ∧ Below w.heap.size w w' :=
  (implHandleOk_w h w).mono fun e w' ⟨he, hw⟩ => ⟨he, by rw [hw]; exact Below.newH _⟩
theorem eqHandle_same (h : Hd) (w : World) : Calls Try.prog 37 #[h.v, h.v] w fun e w' => e = .returned (.bool true) ∧ Below w.heap.size w w' := by
  obtain ⟨s, i, d⟩ := h
  go_enter Try.func37, Try.ntmps37
  go_wp2
  all_goals (go_ret; exact ⟨by first | rfl | (simp_all [HOk] <;> omega), by first | exact Below.refl _ _ | exact Below.newH _ | exact Below.newH2 _ _⟩)
end Go.Proofs.Ythpcmgbienfgoaa
