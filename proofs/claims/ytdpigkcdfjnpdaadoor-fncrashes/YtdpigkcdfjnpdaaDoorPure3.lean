/- What a crash leaves in each sector, and that one that keeps all and tears none is a flush: as plain functions. -/
import Derived.Test.YtdpigkcdfjnpdaaDoorCrashes
import Derived.Test.YtdpigkcdfjnpdaaDoorPure2
namespace Go.Proofs.YtdpigkcdfjnpdaaDoor
open Go.RowKit
set_option linter.unusedVariables false

/-- Write number j was kept, is of sector i, and X is what it says, or its first half. -/
def HitJ (d : Dk) (bs : List Bool) (torn : Int) (i : Nat) (X : List Int) (j : Nat) : Prop :=
  (d.2[j]?.getD (0, [])).1 = (i : Int) ∧ keepAt bs j = true ∧ (X = (d.2[j]?.getD (0, [])).2 ∨ (j : Int) = torn ∧ X.take 16 = (d.2[j]?.getD (0, [])).2.take 16)
theorem crash_hit {d : Dk} (h : okD d = true) (bs : List Bool) (torn : Int) (i : Nat) (hi : i < d.1.length) : ∀ k, k ≤ d.2.length → (crashS d.1 d.2 bs torn k)[i]?.getD [] = d.1[i]?.getD [] ∨ ∃ j, j < k ∧ HitJ d bs torn i ((crashS d.1 d.2 bs torn k)[i]?.getD []) j := by
  obtain ⟨_, hw, hp⟩ := okD_whole h
  intro k
  induction k with
  | zero => intro _; exact .inl rfl
  | succ k ih =>
    intro hk
    have hq := hp k (by omega)
    have hwk := Whole.crash (bs := bs) (torn := torn) hw (fun i hi => (hp i hi).2.2) k (by omega)
    have hl : (crashS d.1 d.2 bs torn k).length = d.1.length := crashS_length _ _ _ _ _
    by_cases hkeep : keepAt bs k = true
    · have e1 : crashS d.1 d.2 bs torn (k + 1) = stepS (crashS d.1 d.2 bs torn k) (d.2[k]?.getD (0, [])) (tornAt torn k) := by
        show (if keepAt bs k then _ else _) = _
        rw [if_pos hkeep]
      rw [e1]
      unfold stepS
      obtain ⟨q, hqq⟩ : ∃ q : Nat, (d.2[k]?.getD (0, [])).1 = (q : Int) := ⟨(d.2[k]?.getD (0, [])).1.toNat, by omega⟩
      rw [hqq, Int.toNat_natCast, List.getElem?_set]
      by_cases e : q = i
      · subst e
        rw [if_pos rfl, if_pos (by omega), Option.getD_some]
        refine .inr ⟨k, by omega, hqq, hkeep, ?_⟩
        unfold tornAt
        by_cases ht : (k : Int) = torn
        · rw [if_pos ht]
          refine .inr ⟨ht, ?_⟩
          unfold mixed
          rw [List.take_append_of_le_length (by rw [List.length_take]; omega), List.take_take]
          simp
        · rw [if_neg ht]
          exact .inl (mixed_all (hwk q (by omega)) hq.2.2)
      · rw [if_neg e]
        rcases ih (by omega) with h0 | ⟨j, hj, hh⟩
        · exact .inl h0
        · exact .inr ⟨j, by omega, hh⟩
    · have e1 : crashS d.1 d.2 bs torn (k + 1) = crashS d.1 d.2 bs torn k := by
        show (if keepAt bs k then _ else _) = _
        rw [if_neg hkeep]
      rw [e1]
      rcases ih (by omega) with h0 | ⟨j, hj, hh⟩
      · exact .inl h0
      · exact .inr ⟨j, by omega, hh⟩
theorem crash_all (d : Dk) : crashD d (List.replicate d.2.length true) (-1) = flushD d := by
  have h : ∀ k, k ≤ d.2.length → crashS d.1 d.2 (List.replicate d.2.length true) (-1) k = flushS d.1 (d.2.take k) := by
    intro k
    induction k with
    | zero => intro _; simp [crashS, flushS]
    | succ k ih =>
      intro hk
      have e1 : keepAt (List.replicate d.2.length true) k = true := by unfold keepAt; rw [List.getElem?_replicate, if_pos (by omega)]; rfl
      have e2 : tornAt (-1) k = 32 := by unfold tornAt; rw [if_neg (by omega)]
      show (if keepAt (List.replicate d.2.length true) k then _ else _) = _
      rw [if_pos e1, e2, ih (by omega), flushS_next _ _ _ (by omega)]
  unfold crashD flushD
  rw [h _ (Nat.le_refl _), List.take_length]
theorem RdB.half {w : World} {l h : Nat} {a : Addr} {c : Nat} {zs : List Int} (r : RdB w l h (.slice (some a) 32 c) zs) (h1 : zs.length = 32) : RdB w l h (.slice (some a) 16 c) (zs.take 16) := by
  obtain ⟨hsb, sa, sn, sc, he, hsn, hsh, hsc⟩ := r
  simp only [Value.slice.injEq] at he
  obtain ⟨rfl, rfl, rfl⟩ := he
  obtain ⟨b, o, hb, hsl, hsH, hscell⟩ := hsc.resolve_left (fun e => by rw [e] at h1; simp at h1)
  refine ⟨isBytes_take hsb 16, _, _, _, rfl, by simp; omega, ⟨by have := hsh.1; omega, hsh.2.1, fun e => by cases e⟩, .inr ⟨b, o, hb, hsl, hsH, fun i hi => ?_⟩⟩
  have hi' : i < 16 := by simp at hi; omega
  rw [hscell i (by omega), List.getElem?_take, if_pos hi']
end Go.Proofs.YtdpigkcdfjnpdaaDoor
