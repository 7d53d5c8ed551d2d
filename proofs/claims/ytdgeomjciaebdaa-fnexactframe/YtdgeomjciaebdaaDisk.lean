/- Disks as values: what is read and owned of them, and what the verifier's helpers do with them. Conditions: at most 2^21 of each and of their bytes. -/
import Derived.Test.YtdgeomjciaebdaaWaits3
namespace Go.Proofs.Ytdgeomjciaebdaa
open Go.RowKit
set_option linter.unusedVariables false

abbrev Dk := List (List Int) × List Wt

theorem OwBB.wide {w : World} {l h l' h' : Nat} {v : Value} {zss : List (List Int)} (o : OwBB w l h v zss) (h1 : l' ≤ l) (h2 : h ≤ h') : OwBB w l' h' v zss := by
  obtain ⟨vs, hl, ho, hb, he, hd⟩ := o
  refine ⟨vs, hl, ⟨ho.1, ?_⟩, hb.le h2, fun i hi => (he i hi).wide h1 h2, hd⟩
  rcases ho.2 with h0 | ⟨g, c, cur, hv, hg, r⟩
  · exact .inl h0
  · exact .inr ⟨g, c, cur, hv, by omega, r⟩
theorem SameIn.set {l h : Nat} {w : World} {p : Addr} {u : Value} (hp : p.block < l ∨ h ≤ p.block) : SameIn l h w (w.setCell p u) :=
  ⟨by simp, fun k h1 h2 => heap_setCell_other _ _ _ _ (by omega)⟩

/-- v reads as the disk d; all of it lies in blocks l .. h-1. -/
def RdD (w : World) (l h : Nat) (v : Value) (d : Dk) : Prop := ∃ x y, v = .agg #[x, y] ∧ RdBB w l h x d.1 ∧ RdWs w l h y d.2
theorem RdD.same {w w' : World} {l h : Nat} {v : Value} {d : Dk} (r : RdD w l h v d) (t : SameIn l h w w') : RdD w' l h v d := by
  obtain ⟨x, y, hv, h1, h2⟩ := r
  exact ⟨x, y, hv, h1.same t, h2.same t⟩
theorem RdD.wide {w : World} {l h l' h' : Nat} {v : Value} {d : Dk} (r : RdD w l h v d) (h1 : l' ≤ l) (h2 : h ≤ h') : RdD w l' h' v d := by
  obtain ⟨x, y, hv, r1, r2⟩ := r
  exact ⟨x, y, hv, r1.wide h1 h2, r2.wide h1 h2⟩
theorem SameIn.part {l h l' h' : Nat} {w w' : World} (t : SameIn l h w w') (h1 : l ≤ l') (h2 : h' ≤ h) : SameIn l' h' w w' := ⟨t.1, fun k a b => t.2 k (by omega) (by omega)⟩
theorem RdBB.sliced {w : World} {l h : Nat} {v : Value} {z : List (List Int)} (r : RdBB w l h v z) : ∃ a n c, v = .slice a n c := by
  obtain ⟨a, n, c, _, hv, _⟩ := r; exact ⟨a, n, c, hv⟩
theorem RdWs.sliced {w : World} {l h : Nat} {v : Value} {z : List Wt} (r : RdWs w l h v z) : ∃ a n c, v = .slice a n c := by
  obtain ⟨a, n, c, _, hv, _⟩ := r; exact ⟨a, n, c, hv⟩

/-- What the sizes of a disk must be for the helpers. -/
def Small (d : Dk) : Prop := d.1.length ≤ 2097152 ∧ lenBB d.1 ≤ 2097152 ∧ lenWs d.2 ≤ 2097152
theorem Small.a {d : Dk} (h : Small d) : ∀ i : Nat, (d.1[i]?.getD []).length ≤ 2097152 := fun i => Nat.le_trans (lenBB_at _ _) h.2.1
theorem Small.b {d : Dk} (h : Small d) : ∀ i : Nat, (d.2[i]?.getD (0, [])).2.length ≤ 2097152 := fun i => Nat.le_trans (lenWs_at _ _) h.2.2
theorem Small.c {d : Dk} (h : Small d) : d.2.length ≤ 2097152 := Nat.le_trans (lenWs_len _) h.2.2

theorem heap3 (w : World) (o1 o2 o3 : Obj) : (((w.alloc o1).alloc o2).alloc o3).heap[w.heap.size]? = some o1 ∧ (((w.alloc o1).alloc o2).alloc o3).heap[w.heap.size + 1]? = some o2 ∧ (((w.alloc o1).alloc o2).alloc o3).heap[w.heap.size + 1 + 1]? = some o3 := by
  refine ⟨?_, ?_, ?_⟩
  · show (((w.heap.push o1).push o2).push o3)[w.heap.size]? = _
    rw [Array.getElem?_push, if_neg (by simp; omega), Array.getElem?_push, if_neg (by simp), Array.getElem?_push, if_pos rfl]
  · show (((w.heap.push o1).push o2).push o3)[w.heap.size + 1]? = _
    rw [Array.getElem?_push, if_neg (by simp), Array.getElem?_push, if_pos (by simp)]
  · show (((w.heap.push o1).push o2).push o3)[w.heap.size + 1 + 1]? = _
    rw [Array.getElem?_push, if_pos (by simp)]

theorem pair_beq {α β : Type} [BEq α] [BEq β] [LawfulBEq α] [LawfulBEq β] (a a' : α) (b b' : β) : ((a, b) == (a', b')) = (a == a' && b == b') := rfl

theorem ret_int {k : IntKind} {a b : Int} (h : a = b) : Ending.returned (.int k a) = .returned (.int k b) := by rw [h]
def markD (d : Dk) (k : Nat) : Dk := (markBB d.1 k, markWs d.2 (k + lenBB d.1))
def lenD (d : Dk) : Nat := lenBB d.1 + lenWs d.2

end Go.Proofs.Ytdgeomjciaebdaa
