/- The specification's copy of a disk. Condition: the disk is of at most 2^21 bytes and writes. -/
import Derived.Test.YtdgeomjciaebdaaApart
import Derived.Test.YtdgeomjciaebdaaWalkBase
import Derived.Deep.DrawnRows
namespace Go.Proofs.Ytdgeomjciaebdaa
open Go.RowKit
set_option linter.unusedVariables false
set_option linter.unusedSimpArgs false
attribute [local go_sem ↓] Go.wp_at_zero Go.wp_at_succ

/-- A list of bytes of the call's own in blocks l .. h-1, no element in the list's own block. -/
def KpBB (w : World) (l h : Nat) (v : Value) (zss : List (List Int)) : Prop :=
  ∃ vs : List Value, vs.length = zss.length ∧ w.ownsRow l 22 1 v zss.length vs ∧ Before v h ∧ ∀ i, i < zss.length → RdB w l h (vs[i]?.getD undef) (zss[i]?.getD []) ∧ ∀ g, (vs[i]?.getD undef).ownBlock = some g → g < h ∧ v.ownBlock ≠ some g
theorem GrBB.kp {w : World} {l : Nat} {v : Value} {zss : List (List Int)} (o : GrBB w l v zss) : KpBB w l w.heap.size v zss := by
  obtain ⟨vs, hl, ho, he⟩ := o
  exact ⟨vs, hl, ho, fun k hk => (ho.lt k hk).2, he⟩
theorem KpBB.same {w w' : World} {l h : Nat} {v : Value} {zss : List (List Int)} (o : KpBB w l h v zss) (t : SameIn l h w w') : KpBB w' l h v zss := by
  obtain ⟨vs, hl, ho, hb, he⟩ := o
  exact ⟨vs, hl, ownsRow_same ho hb t, hb, fun i hi => ⟨(he i hi).1.same t, (he i hi).2⟩⟩
theorem KpBB.wide {w : World} {l h l' : Nat} {v : Value} {zss : List (List Int)} (o : KpBB w l h v zss) (h1 : l' ≤ l) : KpBB w l' h v zss := by
  obtain ⟨vs, hl, ho, hb, he⟩ := o
  refine ⟨vs, hl, ⟨ho.1, ?_⟩, hb, fun i hi => ⟨(he i hi).1.wide h1 (Nat.le_refl _), (he i hi).2⟩⟩
  rcases ho.2 with h0 | ⟨g, c, cur, hv, hg, r⟩
  · exact .inl h0
  · exact .inr ⟨g, c, cur, hv, by omega, r⟩
theorem KpBB.sliced {w : World} {l h : Nat} {v : Value} {zss : List (List Int)} (o : KpBB w l h v zss) : ∃ a c, v = .slice a zss.length c := by
  obtain ⟨vs, hl, ho, _⟩ := o
  rcases ho.2 with ⟨h0, hz⟩ | ⟨g, c, cur, h0, _⟩
  · exact ⟨none, 0, by rw [h0, hz]⟩
  · exact ⟨_, _, h0⟩
theorem KpBB.rd {w : World} {l h : Nat} {v : Value} {zss : List (List Int)} (o : KpBB w l h v zss) : RdBB w l h v zss := by
  obtain ⟨vs, hl, ho, hb, he⟩ := o
  rcases ho.2 with ⟨hv, h0⟩ | ⟨g, c, cur, hv, hg, hh, hnc, hm, _⟩
  · subst hv
    exact ⟨none, 0, 0, fun i => vs[i]?.getD undef, rfl, by omega, ⟨Nat.le_refl _, Nat.zero_le _, fun _ => ⟨rfl, rfl⟩⟩, .inl rfl, fun i hi => absurd hi (Nat.not_lt_zero _)⟩
  · subst hv
    refine ⟨_, zss.length, c, fun i => vs[i]?.getD undef, rfl, rfl, ⟨hnc, hm, fun e => by cases e⟩, .inr ⟨g, 0, rfl, hg, hb g rfl, fun i hi => ?_⟩, fun i hi => (he i hi).1⟩
    rw [Nat.zero_add, World.ownsRow.cellAt ho i (by omega), List.getElem?_eq_getElem (by omega)]
    simp [hl, hi]

end Go.Proofs.Ytdgeomjciaebdaa
