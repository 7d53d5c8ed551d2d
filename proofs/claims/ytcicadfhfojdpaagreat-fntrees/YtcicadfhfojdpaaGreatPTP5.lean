/- What an operation leaves and answers: what FnTrees asks; pure. -/
import Derived.Test.YtcicadfhfojdpaaGreatPA06
import Derived.Test.YtcicadfhfojdpaaGreatPA03
namespace Go.Proofs.YtcicadfhfojdpaaGreat
open Go.RowKit
set_option linter.unusedVariables false
set_option linter.unusedSimpArgs false
set_option maxRecDepth 100000

theorem move_same' {l : List Nd} {o : OpD} {d : Nat} (r : List Nd × Int) (hr : moveD l o d = r) (h : r.2 ≠ 0) : r.1 = l := by
 unfold moveD at hr
 repeat' split at hr
 all_goals (subst hr; first | rfl | exact absurd rfl h)
theorem move_same {l : List Nd} {o : OpD} {d : Nat} (h : (moveD l o d).2 ≠ 0) : (moveD l o d).1 = l := move_same' _ rfl h
theorem drop_same' {l : List Nd} {d e : Nat} {x : Hd} (r : List Nd × Int) (hr : dropD l d e x = r) (h : r.2 ≠ 0) : r.1 = l := by
 unfold dropD at hr
 repeat' split at hr
 all_goals (subst hr; first | rfl | exact absurd rfl h)
theorem drop_same {l : List Nd} {d e : Nat} {x : Hd} (h : (dropD l d e x).2 ≠ 0) : (dropD l d e x).1 = l := drop_same' _ rfl h
theorem rc_ne {l : List Nd} {c : Int} (hc : c ≠ 0) : ¬ ((l, rc c) : List Nd × RpD).2.code = 0 := hc
theorem doD_same {l : List Nd} {o : OpD} {fr : Hd} (h : (doD l o fr).2.code ≠ 0) : (doD l o fr).1 = l := by
 unfold doD at h ⊢
 split
 ·rename_i h1
  rw [if_pos h1] at h
  repeat' split
  all_goals first | rfl | (exfalso; revert h; simp_all [rc])
 ·rename_i h1
  rw [if_neg h1] at h
  split
  ·rfl
  rename_i h2
  rw [if_neg h2] at h
  split
  ·rfl
  rename_i h3
  rw [if_neg h3] at h
  split
  ·rfl
  rename_i h4
  rw [if_neg h4] at h
  split
  ·rename_i h5
   rw [if_pos h5] at h
   exact move_same h
  rename_i h5
  rw [if_neg h5] at h
  split
  ·rename_i h6
   rw [if_pos h6] at h
   split
   ·rfl
   rename_i h7
   rw [if_neg h7] at h
   split
   ·rfl
   rename_i h8
   rw [if_neg h8] at h
   exact drop_same h
  rename_i h6
  rw [if_neg h6] at h
  split
  ·rfl
  rename_i h7
  rw [if_neg h7] at h
  split
  ·rename_i h8
   rw [if_pos h8] at h
   exact absurd rfl h
  rename_i h8
  rw [if_neg h8] at h
  split
  ·rfl
  rename_i h9
  rw [if_neg h9] at h
  split
  ·rfl
  rename_i h10
  rw [if_neg h10] at h
  exact absurd rfl h
theorem doD_read {l : List Nd} {o : OpD} {fr : Hd} (h0 : 0 ≤ o.kind) (h2 : o.kind ≤ 2) : (doD l o fr).1 = l := by
 have hk : o.kind = 0 ∨ o.kind = 1 ∨ o.kind = 2 := by omega
 unfold doD
 rcases hk with hk | hk | hk <;> rw [hk] <;> simp <;> (repeat' split) <;> rfl
theorem doD_make {l : List Nd} {o : OpD} {fr : Hd} (hk : o.kind = 4) (h : (doD l o fr).2.code = 0) : (doD l o fr).2.h = fr ∧ (doD l o fr).1.length = l.length + 1 := by
 unfold doD at h ⊢
 rw [hk] at h ⊢
 simp only [show ¬ ((4 : Int) = 2 ∨ (4 : Int) = 3) by decide, show ¬ ((4 : Int) = 1) by decide, show ¬ ((4 : Int) = 7) by decide, show ¬ ((4 : Int) = 0 ∨ (4 : Int) = 5) by decide, if_false] at h ⊢
 split
 ·rename_i h1; rw [if_pos h1] at h; exact absurd h (rc_ne (by decide))
 rename_i h1
 rw [if_neg h1] at h
 split
 ·rename_i h2; rw [if_pos h2] at h; exact absurd h (rc_ne (by decide))
 rename_i h2
 rw [if_neg h2] at h
 split
 ·rename_i h3; rw [if_pos h3] at h; exact absurd h h3
 simp only [if_true]
 exact ⟨trivial, by rw [length_insN, length_addN]⟩
theorem okO {o : OpD} (h : OOk o = true) : 0 ≤ o.kind ∧ o.kind ≤ 7 := by
 unfold OOk at h
 simp only [Bool.and_eq_true, decide_eq_true_eq] at h
 exact h.1.1
theorem dO_same {l : List Nd} {o : OpD} {fr : Hd} (ht : (treeOk l && OOk o) = true) (h : (dO l o fr).2.code ≠ 0 ∨ o.kind ≤ 2) : (dO l o fr).1 = l := by
 unfold dO at h ⊢
 rw [if_pos ht] at h ⊢
 split
 ·rfl
 ·rename_i h1
  rw [if_neg h1] at h
  rcases h with h | h
  ·exact doD_same h
  ·exact doD_read (okO (by simp only [Bool.and_eq_true] at ht; exact ht.2)).1 h
theorem dO_make {l : List Nd} {o : OpD} {fr : Hd} (ht : (treeOk l && OOk o) = true) (hk : o.kind = 4) (h : (dO l o fr).2.code = 0) : (dO l o fr).2.h = fr ∧ (dO l o fr).1.length = l.length + 1 := by
 unfold dO at h ⊢
 rw [if_pos ht] at h ⊢
 split
 ·rename_i h1
  rw [if_pos h1] at h
  exact absurd h (rc_ne (by decide))
 ·rename_i h1
  rw [if_neg h1] at h
  exact doD_make hk h
theorem dO_bad {l : List Nd} {o : OpD} {fr : Hd} (ht : ¬ (treeOk l && OOk o) = true) : dO l o fr = ([], rc 11) := by unfold dO; rw [if_neg ht]
theorem es_ok {n : Nd} (h : ndOk n = true) : n.es.length ≤ 12 ∧ num n.val = true ∧ ∀ j, j < n.es.length → enOk (n.es[j]?.getD en0) = true := by
 have hs := ndOk_small h
 unfold ndOk at h
 rw [Bool.and_eq_true] at h
 refine ⟨hs.1, ?_, fun j hj => ?_⟩
 ·have h1 := h.1
  unfold baseOk at h1
  simp only [Bool.and_eq_true, decide_eq_true_eq] at h1
  unfold num
  simp only [Bool.and_eq_true, decide_eq_true_eq]
  omega
 ·have h2 := h.2
  split at h2
  ·rw [Bool.and_eq_true] at h2
   have h3 := h2.2
   unfold entsOk at h3
   have h4 := (List.all_eq_true.1 h3) j (by simpa using hj)
   unfold entOk at h4
   simp only [Bool.and_eq_true] at h4
   unfold enOk
   rw [h4.1, h4.2.1]
   rfl
  ·unfold fileOk at h2
   simp only [Bool.and_eq_true, decide_eq_true_eq] at h2
   omega
theorem rc_ok {c : Int} (h0 : 0 ≤ c) (h1 : c ≤ 11) : ROk (rc c) = true := by
 unfold ROk rc
 simp [num, noneOk, hd0, h0, h1]
theorem refD_code (es : List En) (nm : List Int) : 0 ≤ refD es nm ∧ refD es nm ≤ 11 := by
 unfold refD
 repeat' split
 all_goals omega
theorem move_code {l : List Nd} {o : OpD} {d : Nat} (r : List Nd × Int) (hr : moveD l o d = r) : 0 ≤ r.2 ∧ r.2 ≤ 11 := by
 unfold moveD at hr
 repeat' split at hr
 all_goals (subst hr; first | exact refD_code _ _ | (dsimp only; omega))
theorem drop_code {l : List Nd} {d e : Nat} {x : Hd} (r : List Nd × Int) (hr : dropD l d e x = r) : 0 ≤ r.2 ∧ r.2 ≤ 11 := by
 unfold dropD at hr
 repeat' split at hr
 all_goals (subst hr; dsimp only; omega)
theorem doD_rok {l : List Nd} {o : OpD} {fr : Hd} (ht : treeOk l = true) (hfr : o.kind = 4 → HOk fr = true) (r : List Nd × RpD) (hr : doD l o fr = r) : ROk r.2 = true := by
 have nd : ∀ i, i < l.length → (l[i]?.getD nd0).es.length ≤ 12 ∧ num (l[i]?.getD nd0).val = true ∧ ∀ j, j < (l[i]?.getD nd0).es.length → enOk ((l[i]?.getD nd0).es[j]?.getD en0) = true := fun i hi => es_ok (nodeT_parts (treeOk_at ht hi)).1
 unfold doD at hr
 split at hr
 ·split at hr
  ·subst hr; exact rc_ok (by decide) (by decide)
  split at hr
  ·subst hr; exact rc_ok (by decide) (by decide)
  rename_i h2
  split at hr
  ·subst hr; exact rc_ok (by decide) (by decide)
  ·subst hr
   have hv := (nd _ (Decidable.not_not.1 h2)).2.1
   unfold ROk
   simp [noneOk, hd0, hv]
 ·split at hr
  ·subst hr; exact rc_ok (by decide) (by decide)
  split at hr
  ·subst hr; exact rc_ok (by decide) (by decide)
  rename_i h2
  have hn := nd _ (Decidable.not_not.1 h2)
  split at hr
  ·subst hr
   unfold ROk
   simp only [Bool.and_eq_true, decide_eq_true_eq, List.all_eq_true, List.mem_range]
   exact ⟨⟨⟨by decide, by decide⟩, by decide, by decide, hn.1⟩, fun j hj => hn.2.2 j hj⟩
  split at hr
  ·subst hr
   have := move_code _ (rfl : moveD l o (fi l o.dir) = _)
   exact rc_ok this.1 this.2
  split at hr
  ·split at hr
   ·subst hr; exact rc_ok (by decide) (by decide)
   rename_i h3
   have he := hn.2.2 _ (Decidable.not_not.1 h3)
   split at hr
   ·subst hr
    unfold enOk at he
    rw [Bool.and_eq_true] at he
    unfold ROk
    simp [noneOk, num, he.2]
   ·subst hr
    have := drop_code _ (rfl : dropD l (fi l o.dir) (ei (l[fi l o.dir]?.getD nd0).es o.nm) ((l[fi l o.dir]?.getD nd0).es[ei (l[fi l o.dir]?.getD nd0).es o.nm]?.getD en0).h = _)
    exact rc_ok this.1 this.2
  split at hr
  ·subst hr
   have := refD_code (l[fi l o.dir]?.getD nd0).es o.nm
   exact rc_ok this.1 this.2
  split at hr
  ·rename_i h4
   subst hr
   have := hfr h4
   unfold ROk
   simp [noneOk, num, this]
  split at hr
  ·subst hr; exact rc_ok (by decide) (by decide)
  split at hr
  ·subst hr; exact rc_ok (by decide) (by decide)
  ·subst hr; exact rc_ok (by decide) (by decide)
theorem dO_rok {l : List Nd} {o : OpD} {fr : Hd} (ht : (treeOk l && OOk o) = true) : ROk (dO l o fr).2 = true := by
 unfold dO
 rw [if_pos ht]
 rw [Bool.and_eq_true] at ht
 split
 ·exact rc_ok (by decide) (by decide)
 ·rename_i h1
  refine doD_rok ht.1 (fun hk => ?_) _ rfl
  have h2 : ¬ badFr l o fr = true := fun h => h1 ⟨hk, h⟩
  unfold badFr at h2
  simp only [Bool.or_eq_true, not_or] at h2
  simpa using h2.1
end Go.Proofs.YtcicadfhfojdpaaGreat
