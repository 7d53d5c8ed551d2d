/- What an operation leaves and answers: what FnTrees asks; pure. -/
import Derived.Test.YtcicadfhfojdpaaGreatRA06
import Derived.Test.YtcicadfhfojdpaaGreatRA03
namespace Go.Proofs.YtcicadfhfojdpaaGreat
open Go.RowKit
set_option linter.unusedVariables false
set_option linter.unusedSimpArgs false
set_option maxRecDepth 100000

theorem move_same' {l : List Nd} {o : OpD} {d : Nat} (r : List Nd × Int) (hr : moveD l o d = r) (h : r.2 ≠ 0) : r.1 = l := by
 unfold moveD at hr
 repeat' split at hr
 all_goals (subst hr; first | rfl | exact absurd rfl h)
theorem move_same {l : List Nd} {o : OpD} {d : Nat} (h : (moveD l o d).2 ≠ 0) : (moveD l o d).1 = l := move_same' _ rfl h
theorem drop_same' {l : List Nd} {d e : Nat} {x : Hd} (r : List Nd × Int) (hr : dropD l d e x = r) (h : r.2 ≠ 0) : r.1 = l := by
 unfold dropD at hr
 repeat' split at hr
 all_goals (subst hr; first | rfl | exact absurd rfl h)
theorem drop_same {l : List Nd} {d e : Nat} {x : Hd} (h : (dropD l d e x).2 ≠ 0) : (dropD l d e x).1 = l := drop_same' _ rfl h
theorem doD_same {l : List Nd} {o : OpD} {fr : Hd} (h : (doD l o fr).2.code ≠ 0) : (doD l o fr).1 = l := by
 unfold doD at h ⊢
 split
 ·rename_i h1
  rw [if_pos h1] at h
  repeat' split
  all_goals first | rfl | (exfalso; revert h; simp_all [rc])
 ·rename_i h1
  rw [if_neg h1] at h
  split
  ·rfl
  rename_i h2
  rw [if_neg h2] at h
  split
  ·rfl
  rename_i h3
  rw [if_neg h3] at h
  split
  ·rfl
  rename_i h4
  rw [if_neg h4] at h
  split
  ·rename_i h5
   rw [if_pos h5] at h
   exact move_same h
  rename_i h5
  rw [if_neg h5] at h
  split
  ·rename_i h6
   rw [if_pos h6] at h
   split
   ·rfl
   rename_i h7
   rw [if_neg h7] at h
   split
   ·rfl
   rename_i h8
   rw [if_neg h8] at h
   exact drop_same h
  rename_i h6
  rw [if_neg h6] at h
  split
  ·rfl
  rename_i h7
  rw [if_neg h7] at h
  split
  ·rename_i h8
   rw [if_pos h8] at h
   exact absurd rfl h
  rename_i h8
  rw [if_neg h8] at h
  split
  ·rfl
  rename_i h9
  rw [if_neg h9] at h
  split
  ·rfl
  rename_i h10
  rw [if_neg h10] at h
  exact absurd rfl h
theorem doD_read {l : List Nd} {o : OpD} {fr : Hd} (h0 : 0 ≤ o.kind) (h2 : o.kind ≤ 2) : (doD l o fr).1 = l := by
 have hk : o.kind = 0 ∨ o.kind = 1 ∨ o.kind = 2 := by omega
 unfold doD
 rcases hk with hk | hk | hk <;> rw [hk] <;> simp <;> (repeat' split) <;> rfl
theorem okO {o : OpD} (h : OOk o = true) : 0 ≤ o.kind ∧ o.kind ≤ 7 := by
 unfold OOk at h
 simp only [Bool.and_eq_true, decide_eq_true_eq] at h
 exact h.1.1
theorem dO_same {l : List Nd} {o : OpD} {fr : Hd} (ht : (treeOk l && OOk o) = true) (h : (dO l o fr).2.code ≠ 0 ∨ o.kind ≤ 2) : (dO l o fr).1 = l := by
 unfold dO at h ⊢
 rw [if_pos ht] at h ⊢
 split
 ·rfl
 ·rename_i h1
  rw [if_neg h1] at h
  rcases h with h | h
  ·exact doD_same h
  ·exact doD_read (okO (by simp only [Bool.and_eq_true] at ht; exact ht.2)).1 h
theorem dO_bad {l : List Nd} {o : OpD} {fr : Hd} (ht : ¬ (treeOk l && OOk o) = true) : dO l o fr = ([], rc 11) := by unfold dO; rw [if_neg ht]
theorem es_ok {n : Nd} (h : ndOk n = true) : n.es.length ≤ 12 ∧ num n.val = true ∧ ∀ j, j < n.es.length → enOk (n.es[j]?.getD en0) = true := by
 have hs := ndOk_small h
 unfold ndOk at h
 rw [Bool.and_eq_true] at h
 refine ⟨hs.1, ?_, fun j hj => ?_⟩
 ·have h1 := h.1
  unfold baseOk at h1
  simp only [Bool.and_eq_true, decide_eq_true_eq] at h1
  unfold num
  simp only [Bool.and_eq_true, decide_eq_true_eq]
  omega
 ·have h2 := h.2
  split at h2
  ·rw [Bool.and_eq_true] at h2
   have h3 := h2.2
   unfold entsOk at h3
   have h4 := (List.all_eq_true.1 h3) j (by simpa using hj)
   unfold entOk at h4
   simp only [Bool.and_eq_true] at h4
   unfold enOk
   rw [h4.1, h4.2.1]
   rfl
  ·unfold fileOk at h2
   simp only [Bool.and_eq_true, decide_eq_true_eq] at h2
   omega
end Go.Proofs.YtcicadfhfojdpaaGreat
