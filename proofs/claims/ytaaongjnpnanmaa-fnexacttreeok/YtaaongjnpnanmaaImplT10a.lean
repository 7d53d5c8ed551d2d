/- What the checks ahead give to the checks behind: pure. -/
import Derived.Test.YtaaongjnpnanmaaImplT9
import Derived.Test.YtaaongjnpnanmaaImplT1
namespace Go.Proofs.Ytaaongjnpnanmaa
open Go.RowKit
set_option linter.unusedVariables false
set_option maxRecDepth 100000
set_option linter.unusedSimpArgs false

theorem lessH_trans {a b c : Hd} (h : lessH a b = true) (g : lessH b c = true) : lessH a c = true := by
  simp only [lessH, Bool.or_eq_true, Bool.and_eq_true, decide_eq_true_eq] at *
  omega
theorem lessH_irr (a : Hd) : lessH a a = false := by
  rw [Bool.eq_false_iff]; intro h
  simp only [lessH, Bool.or_eq_true, Bool.and_eq_true, decide_eq_true_eq] at h
  omega
theorem ascL_at {l : List Nd} (h : ascL l = true) {i : Nat} (hi : i + 1 < l.length) : lessH (l[i]?.getD nd0).h (l[i + 1]?.getD nd0).h = true := by
  unfold ascL at h
  rw [List.all_eq_true] at h
  have h1 := h (i + 1) (by simpa using hi)
  simpa [ascAt] using h1
theorem ascL_less {l : List Nd} (h : ascL l = true) (i : Nat) : ∀ d, i + d + 1 < l.length → lessH (l[i]?.getD nd0).h (l[i + d + 1]?.getD nd0).h = true
  | 0, hi => ascL_at h hi
  | d + 1, hi => lessH_trans (ascL_less h i d (by omega)) (ascL_at h (i := i + d + 1) (by omega))
theorem ascL_one {l : List Nd} (h : ascL l = true) : OneH l := by
  intro i j hi hj he
  rcases Nat.lt_trichotomy i j with hij | hij | hij
  · have h1 := ascL_less h i (j - i - 1) (by omega)
    rw [show i + (j - i - 1) + 1 = j by omega, he, lessH_irr] at h1; cases h1
  · exact hij
  · have h1 := ascL_less h j (i - j - 1) (by omega)
    rw [show j + (i - j - 1) + 1 = i by omega, he, lessH_irr] at h1; cases h1
theorem ndI_h {n : Nd} (h : ndI n = true) : HIn n.h := by
  simp only [ndI, Bool.and_eq_true] at h
  exact HOk.inn h.1.1
theorem ndI_par {n : Nd} (h : ndI n = true) : HIn n.par := by
  simp only [ndI, Bool.and_eq_true] at h
  have h2 := h.2
  split at h2
  · simp only [dirOk, Bool.and_eq_true] at h2; exact HOk.inn h2.1.2.2.1
  · simp only [fileOk, Bool.and_eq_true, decide_eq_true_eq] at h2; rw [h2.2.2]; exact hd0_in
theorem ndI_es {n : Nd} (h : ndI n = true) : n.es.length ≤ 12 ∧ ∀ j, j < n.es.length → HIn (n.es[j]?.getD en0).h := by
  simp only [ndI, Bool.and_eq_true] at h
  have h2 := h.2
  split at h2
  · simp only [Bool.and_eq_true, entsI, decide_eq_true_eq, List.all_eq_true] at h2
    refine ⟨h2.2.1, fun j hj => ?_⟩
    have h3 := h2.2.2 j (by simpa using hj)
    simp only [enAt, Bool.and_eq_true] at h3
    exact HOk.inn h3.2.1
  · simp only [fileOk, Bool.and_eq_true, decide_eq_true_eq] at h2
    exact ⟨by omega, fun j hj => by omega⟩
theorem atH_mem {l : List Nd} {k : Nat} {g : Hd} {n : Nd} (h : atH l k g = some n) : n ∈ l := List.mem_of_mem_take (List.mem_of_find?_eq_some h)
theorem atH_par {l : List Nd} (hall : (List.range l.length).all (fun i => ndI (l[i]?.getD nd0)) = true) (g : Hd) (n : Nd) (h : atH l l.length g = some n) : HIn n.par := by
  obtain ⟨i, hi, rfl⟩ := List.getElem_of_mem (atH_mem h)
  rw [List.all_eq_true] at hall
  have h1 := hall i (by simpa using hi)
  rw [List.getElem?_eq_getElem hi] at h1
  exact ndI_par h1
def ndIAt (l : List Nd) (i : Nat) : Bool := ndI (l[i]?.getD nd0)
def treeI (l : List Nd) : Bool := (decide (1 ≤ l.length) && (decide (l.length ≤ 240) && ascL l)) && ((decide ((l[0]?.getD nd0).h = rootH) && decide ((l[0]?.getD nd0).par = rootH)) && ((List.range l.length).all (ndIAt l) && (leadR (atH l l.length) l && (List.range l.length).all (climbAt (atH l l.length) l.length l))))
end Go.Proofs.Ytaaongjnpnanmaa
