/- The program's copy of a disk that is DiskOk. Condition: that it is. -/
import Derived.Test.YtdgeomjciaebdaaApart
import Derived.Test.YtdgeomjciaebdaaWalkBase
import Derived.Test.YtdgeomjciaebdaaImplSec
import Derived.Deep.CutRange
import Derived.Deep.DrawnRows
import Derived.Stop.LaidErr
namespace Go.Proofs.Ytdgeomjciaebdaa
open Go.RowKit
set_option linter.unusedVariables false
attribute [local go_sem ↓] Go.wp_at_zero Go.wp_at_succ

/-- A list that is being copied into block r, its elements into blocks from H on: k of its n are there. -/
def PartX (w : World) (l r H n : Nat) (zss : List (List Int)) (k : Nat) (vs : List Value) : Prop :=
  vs.length = k ∧ w.ownsRow l 22 1 (.slice (some ⟨r, 0, none⟩) n n) n (vs ++ List.replicate (n - k) (.slice none 0 0)) ∧ (H ≤ w.heap.size ∧ r < H) ∧
    (∀ i, i < k → OwB w H w.heap.size (vs[i]?.getD undef) (zss[i]?.getD [])) ∧ ∀ i j q, i < j → j < k → (vs[i]?.getD undef).ownBlock = some q → (vs[j]?.getD undef).ownBlock ≠ some q
theorem PartX.done {w : World} {l r H n : Nat} {zss : List (List Int)} {vs : List Value} (h : PartX w l r H n zss n vs) (hn : n = zss.length) (hl : l ≤ H) : OwX w l w.heap.size (.slice (some ⟨r, 0, none⟩) n n) zss vs := by
  obtain ⟨hv, ho, hH, he, hd⟩ := h
  rw [Nat.sub_self, List.replicate_zero, List.append_nil] at ho
  subst hv
  exact ⟨hn, ho, fun k hk => by have := slice_block hk; simp at this; omega, fun i hi => (he i hi).wide hl (Nat.le_refl _), hd⟩
theorem PartX.blk {w : World} {l r H n k : Nat} {zss : List (List Int)} {vs : List Value} (h : PartX w l r H n zss k vs) : ∀ q, Blk vs q → H ≤ q ∧ q < w.heap.size := fun q ⟨i, hi, hq⟩ => by
  have := h.2.2.2.1 i (by rw [← h.1]; exact hi)
  exact ⟨(this.2.1.lt q hq).1, this.2.2 q hq⟩
theorem PartX.below {w w' : World} {l r H n k : Nat} {zss : List (List Int)} {vs : List Value} (h : PartX w l r H n zss k vs) (hb : Below w.heap.size w w') : PartX w' l r H n zss k vs := by
  obtain ⟨hv, ho, hH, he, hd⟩ := h
  have hs := hb.size
  exact ⟨hv, ownsRow_kept2 ho (fun q hq => hb.block q (ho.lt q hq).2), ⟨by omega, hH.2⟩, fun i hi => ((he i hi).same (SameIn.ofBelow hb (Nat.le_refl _))).wide (Nat.le_refl _) hs, hd⟩
theorem PartX.set {w : World} {l r H n k b o : Nat} {zss : List (List Int)} {vs : List Value} {u : Value} (h : PartX w l r H n zss k vs) (hb : b < H) (hr : b ≠ r) : PartX (w.setCell ⟨b, o, none⟩ u) l r H n zss k vs := by
  obtain ⟨hv, ho, hH, he, hd⟩ := h
  refine ⟨hv, ownsRow_kept2 ho (fun q hq => heap_setCell_other _ _ _ _ (by have := slice_block hq; simp at this; show q ≠ b; omega)), by simpa using hH, fun i hi => ?_, hd⟩
  have := (he i hi).same (SameIn.set (w := w) (p := ⟨b, o, none⟩) (u := u) (.inl (by show b < H; omega)))
  simpa using this
theorem PartX.next {w w' : World} {l r H n k : Nat} {zss : List (List Int)} {vs : List Value} {u : Value} {zs : List Int} (h : PartX w l r H n zss k vs) (hk : k < n) (hb : Below w.heap.size w w') (hz : isBytes zs) (ho : Owns w' w.heap.size u zs) (hzs : zs = zss[k]?.getD []) :
    PartX (w'.setCell ⟨r, k, none⟩ u) l r H n zss (k + 1) (vs ++ [u]) := by
  have h' := h.below hb
  obtain ⟨hl, hrow, hB, he, hd⟩ := h'
  obtain ⟨_, _, hB0, he0, _⟩ := h
  have hs := hb.size
  have hst := hrow.stored k u
  rw [set_next vs _ u n k hl hk] at hst
  have hsize : (w'.setCell ⟨r, k, none⟩ u).heap.size = w'.heap.size := by simp
  have hu : OwB w' w.heap.size w'.heap.size u zs := OwB.of hz ho
  have same : SameIn H w'.heap.size w' (w'.setCell ⟨r, k, none⟩ u) := SameIn.set (.inl (by show r < H; omega))
  refine ⟨by simp [hl], hst.1, by rw [hsize]; omega, fun i hi => ?_, fun i j q hij hj hq => ?_⟩
  · rw [hsize, getD_snoc]
    by_cases h1 : i < vs.length
    · rw [if_pos h1]
      exact (he i (by omega)).same same
    · have e : i = vs.length := by omega
      rw [if_neg h1, if_pos e, e, hl, ← hzs]
      exact (hu.wide (by omega) (Nat.le_refl _)).same same
  · rw [getD_snoc] at hq ⊢
    rw [if_pos (by omega)] at hq
    by_cases h1 : j < vs.length
    · rw [if_pos h1]; exact hd i j q hij (by omega) hq
    · rw [if_neg h1, if_pos (by omega)]
      intro e
      have a1 := (he0 i (by omega)).2.2 q hq
      have a2 := (ho.lt q e).1
      omega
theorem PartX.slot {w : World} {l r H n k : Nat} {zss : List (List Int)} {vs : List Value} (h : PartX w l r H n zss k vs) (hk : k < n) : (∃ v, w.cell? ⟨r, k, none⟩ = some v) ∧ w.frozen? ⟨r, k, none⟩ = false := by
  obtain ⟨hl, hrow, hB, he, hd⟩ := h
  refine ⟨?_, hrow.frozenAt k⟩
  rw [hrow.cellAt k (by omega)]; exact ⟨_, List.getElem?_eq_getElem (by simp; omega)⟩

theorem rowA_of {wx : World} {l r n : Nat} (hh : wx.heap[r]? = some (.cells (madeCells (Value.slice none 0 0).cells (n * 1)) 22 (0, 0))) (hl : l ≤ r) (hn : n ≤ 2000) :
    wx.ownsRow l 22 1 (.slice (some ⟨r, 0, none⟩) n n) n ([] ++ List.replicate (n - 0) (.slice none 0 0)) := by
  rw [List.nil_append, Nat.sub_zero, ← madeCells_nil]
  exact ⟨by simp [size_madeCells], .inr ⟨r, n, _, rfl, hl, hh, Nat.le_refl _, by unfold maxLen; omega, by simp [size_madeCells], by rw [List.take_of_length_le (by simp [size_madeCells])]⟩⟩
theorem keep3 {w : World} {a : Addr} {v : Value} {x y z : Obj} (h : w.cell? a = some v) : (((w.alloc x).alloc y).alloc z).drew.cell? a = some v := cell?_alloc_old z (cell?_alloc_old y (cell?_alloc_old x h))
theorem keep3' {w : World} {a : Addr} {v : Value} {x y z : Obj} (h : w.cell? a = some v) : (((w.drew.alloc x).alloc y).alloc z).cell? a = some v := cell?_alloc_old z (cell?_alloc_old y (cell?_alloc_old x h))
theorem Below.three {w : World} (a b c : Obj) : Below w.heap.size w (((w.alloc a).alloc b).alloc c).drew := Below.drew ((((Below.refl _ _).alloc (Nat.le_refl _) _).alloc (by simp) _).alloc (by simp; omega) _)

theorem OwX.wide {w : World} {l h l' h' : Nat} {v : Value} {zss : List (List Int)} {vs : List Value} (o : OwX w l h v zss vs) (h1 : l' ≤ l) (h2 : h ≤ h') : OwX w l' h' v zss vs := by
  obtain ⟨hl, ho, hb, he, hd⟩ := o
  refine ⟨hl, ⟨ho.1, ?_⟩, hb.le h2, fun i hi => (he i hi).wide h1 h2, hd⟩
  rcases ho.2 with h0 | ⟨g, c, cur, hv, hg, r⟩
  · exact .inl h0
  · exact .inr ⟨g, c, cur, hv, by omega, r⟩
theorem SameIn.drew {l h : Nat} {w : World} : SameIn l h w w.drew := ⟨Nat.le_refl _, fun _ _ _ => rfl⟩

end Go.Proofs.Ytdgeomjciaebdaa
