/- What is read of a disk behind a write and behind a flush, as plain functions. -/
import Derived.Test.YtdpigkcdfjnpdaaDoorWrites2
namespace Go.Proofs.YtdpigkcdfjnpdaaDoor
open Go.RowKit
set_option linter.unusedVariables false

theorem backW_ahead (ws r : List Wt) (q : Int) : ∀ k, k ≤ ws.length → backW (ws ++ r) q k = backW ws q k := by
  intro k
  induction k with
  | zero => intro _; rfl
  | succ k ih =>
    intro hk
    unfold backW
    rw [List.getElem?_append_left (by omega), ih (by omega)]
theorem readZ_write (d : Dk) (p : Int) (zs : List Int) (q : Int) : readZ (d.1, d.2 ++ [(p, zs)]) q = if p = q then zs else readZ d q := by
  unfold readZ
  have e : (d.2 ++ [(p, zs)]).length = d.2.length + 1 := by simp
  rw [e]
  have e2 : (d.2 ++ [(p, zs)])[d.2.length]?.getD (0, []) = (p, zs) := by simp
  have e3 : backW (d.2 ++ [(p, zs)]) q (d.2.length + 1) = if ((d.2 ++ [(p, zs)])[d.2.length]?.getD (0, [])).1 = q then some ((d.2 ++ [(p, zs)])[d.2.length]?.getD (0, [])).2 else backW (d.2 ++ [(p, zs)]) q d.2.length := rfl
  rw [e3, e2]
  by_cases h : p = q
  · rw [if_pos h, if_pos h]; rfl
  · rw [if_neg h, if_neg h, backW_ahead _ _ _ _ (Nat.le_refl _)]
theorem flush_read {d : Dk} (h : okD d = true) (i : Nat) (hi : i < d.1.length) : ∀ k, k ≤ d.2.length → (flushS d.1 (d.2.take k))[i]?.getD [] = (backW d.2 i k).getD (d.1[i]?.getD []) := by
  obtain ⟨_, hw, hp⟩ := okD_whole h
  intro k
  induction k with
  | zero => intro _; simp [flushS, backW]
  | succ k ih =>
    intro hk
    have hq := hp k (by omega)
    have hwk := Whole.flush hw (fun i hi => (hp i hi).2.2) k (by omega)
    have hl : (flushS d.1 (d.2.take k)).length = d.1.length := flushS_length _ _
    rw [flushS_next _ _ _ (by omega)]
    unfold stepS backW
    obtain ⟨q, hqq⟩ : ∃ q : Nat, (d.2[k]?.getD (0, [])).1 = (q : Int) := ⟨(d.2[k]?.getD (0, [])).1.toNat, by omega⟩
    rw [hqq, Int.toNat_natCast, mixed_all (hwk q (by omega)) hq.2.2, List.getElem?_set]
    by_cases e : q = i
    · subst e
      rw [if_pos rfl, if_pos (by omega), if_pos rfl]; rfl
    · rw [if_neg e, if_neg (by omega)]
      exact ih (by omega)
theorem flush_readZ {d : Dk} (h : okD d = true) (i : Nat) (hi : i < d.1.length) : (flushS d.1 d.2)[i]?.getD [] = readZ d i := by
  have := flush_read h i hi d.2.length (Nat.le_refl _)
  rw [List.take_length] at this
  rw [this]
  unfold readZ
  rw [Int.toNat_natCast]
theorem okD_of {d : Dk} (h1 : d.1.length ≤ 2000) (h2 : d.2.length ≤ 2000) (hw : Whole d.1) (hp : ∀ i, i < d.2.length → 0 ≤ (d.2[i]?.getD (0, [])).1 ∧ (d.2[i]?.getD (0, [])).1 < (d.1.length : Int) ∧ (d.2[i]?.getD (0, [])).2.length = 32) : okD d = true := by
  unfold okD
  simp only [Bool.and_eq_true, decide_eq_true_eq, List.all_eq_true]
  refine ⟨⟨⟨h1, h2⟩, fun z hz => ?_⟩, fun z hz => ?_⟩
  · obtain ⟨i, hi, rfl⟩ := List.mem_iff_getElem.mp hz
    have := hw i hi
    simp [hi] at this
    simp [secOk, this]
  · obtain ⟨i, hi, rfl⟩ := List.mem_iff_getElem.mp hz
    have := hp i hi
    simp [hi] at this
    simp [waitOk, secOk, this]
theorem okD_write {d : Dk} {p : Int} {zs : List Int} (h : okD d = true) (hb : writeOk d p zs = true) : okD (d.1, d.2 ++ [(p, zs)]) = true := by
  obtain ⟨⟨h1, h2⟩, hw, hp⟩ := okD_whole h
  unfold writeOk at hb
  simp only [Bool.and_eq_true, decide_eq_true_eq] at hb
  refine okD_of h1 (by simp; omega) hw (fun i hi => ?_)
  replace hi : i < d.2.length + 1 := by simpa using hi
  show 0 ≤ ((d.2 ++ [(p, zs)])[i]?.getD (0, [])).1 ∧ ((d.2 ++ [(p, zs)])[i]?.getD (0, [])).1 < (d.1.length : Int) ∧ ((d.2 ++ [(p, zs)])[i]?.getD (0, [])).2.length = 32
  rw [getD_snoc]
  by_cases e : i < d.2.length
  · rw [if_pos e]; exact hp i e
  · rw [if_neg e, if_pos (by omega)]
    exact ⟨by simpa using hb.1.1.1, by simpa using hb.1.1.2, by simpa using hb.1.2⟩
theorem okD_flush {d : Dk} (h : okD d = true) : okD (flushS d.1 d.2, []) = true := by
  obtain ⟨⟨h1, h2⟩, hw, hp⟩ := okD_whole h
  have hf := Whole.flush hw (fun i hi => (hp i hi).2.2) d.2.length (Nat.le_refl _)
  rw [List.take_length] at hf
  exact okD_of (by show (flushS d.1 d.2).length ≤ _; rw [flushS_length]; exact h1) (by simp) hf (fun i hi => absurd hi (Nat.not_lt_zero _))
end Go.Proofs.YtdpigkcdfjnpdaaDoor
