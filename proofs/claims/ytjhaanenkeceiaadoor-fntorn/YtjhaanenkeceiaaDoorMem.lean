/- Bytes, lists of bytes and what is read and owned of them, by the blocks in which they lie; no condition. -/
import Derived.Test.YtjhaanenkeceiaaDoorOwn
namespace Go.Proofs.YtjhaanenkeceiaaDoor
open Go.RowKit
set_option linter.unusedVariables false

/-- Only blocks in lo .. hi-1, and new ones, have turned. -/
structure Turns (lo hi : Nat) (w w' : World) : Prop where
  os : w'.os = w.os
  tape : w'.tape = w.tape
  output : w'.output = w.output
  size : w.heap.size ≤ w'.heap.size
  block : ∀ k, k < w.heap.size → (k < lo ∨ hi ≤ k) → w'.heap[k]? = w.heap[k]?
theorem Turns.refl (lo hi : Nat) (w : World) : Turns lo hi w w := ⟨rfl, rfl, rfl, Nat.le_refl _, fun _ _ _ => rfl⟩
theorem Turns.trans {lo hi : Nat} {a b c : World} (h : Turns lo hi a b) (k : Turns lo hi b c) : Turns lo hi a c :=
  ⟨k.os.trans h.os, k.tape.trans h.tape, k.output.trans h.output, Nat.le_trans h.size k.size, fun i hi' hr => (k.block i (Nat.lt_of_lt_of_le hi' h.size) hr).trans (h.block i hi' hr)⟩
theorem Turns.wide {lo hi lo' hi' : Nat} {a b : World} (h : Turns lo hi a b) (h1 : lo' ≤ lo) (h2 : hi ≤ hi') : Turns lo' hi' a b :=
  ⟨h.os, h.tape, h.output, h.size, fun i hi hr => h.block i hi (by omega)⟩
theorem Turns.ofBelow {lo hi : Nat} {a b : World} (h : Below a.heap.size a b) : Turns lo hi a b := ⟨h.os, h.tape, h.output, h.size, fun i hi _ => h.block i hi⟩
theorem Turns.ofGrown {lo hi : Nat} {a b : World} {r : Option Nat} (h : a.grownBy b r) (hr : ∀ k, r = some k → lo ≤ k ∧ k < hi) : Turns lo hi a b :=
  ⟨h.os, h.tape, h.output, h.size, fun i hi ho => h.block i hi (fun e => by have := hr i e.symm; omega)⟩
theorem Turns.ofDrew {lo hi : Nat} (a : World) (n : Nat) : Turns lo hi a (a.drewN n) := ⟨rfl, rfl, rfl, Nat.le_refl _, fun _ _ _ => rfl⟩
theorem Turns.toBelow {lo hi B : Nat} {a b c : World} (h : Below B a b) (k : Turns lo hi b c) (hB : B ≤ b.heap.size) (hl : B ≤ lo) : Below B a c :=
  h.trans ⟨k.os, k.tape, k.output, k.size, fun i hi => k.block i (by omega) (.inl (by omega))⟩

/-- Blocks l .. h-1 are as they were. -/
def SameIn (l h : Nat) (w w' : World) : Prop := w.heap.size ≤ w'.heap.size ∧ ∀ k, l ≤ k → k < h → w'.heap[k]? = w.heap[k]?
theorem Turns.same {lo hi l h : Nat} {w w' : World} (t : Turns lo hi w w') (hs : h ≤ w.heap.size) (hd : h ≤ lo ∨ hi ≤ l) : SameIn l h w w' :=
  ⟨t.size, fun k h1 h2 => t.block k (by omega) (by omega)⟩
theorem SameIn.ofBelow {l h : Nat} {w w' : World} (t : Below w.heap.size w w') (hs : h ≤ w.heap.size) : SameIn l h w w' := ⟨t.size, fun k _ h2 => t.block k (by omega)⟩
theorem SameIn.cell {l h : Nat} {w w' : World} (t : SameIn l h w w') {b o : Nat} (h1 : l ≤ b) (h2 : b < h) : w'.cell? ⟨b, o, none⟩ = w.cell? ⟨b, o, none⟩ := World.cell?_of_block (w := w) (t.2 b h1 h2)
theorem SameIn.refl (l h : Nat) (w : World) : SameIn l h w w := ⟨Nat.le_refl _, fun _ _ _ => rfl⟩
theorem SameIn.trans {l h : Nat} {a b c : World} (x : SameIn l h a b) (y : SameIn l h b c) : SameIn l h a c := ⟨Nat.le_trans x.1 y.1, fun k h1 h2 => (y.2 k h1 h2).trans (x.2 k h1 h2)⟩

/-- A slice's head: nil has no length. -/
def Headed (a : Option Addr) (len cap : Nat) : Prop := len ≤ cap ∧ cap ≤ maxLen ∧ (a = none → len = 0 ∧ cap = 0)

/-- v reads as the bytes zs, which lie in blocks l .. h-1. -/
def RdB (w : World) (l h : Nat) (v : Value) (zs : List Int) : Prop :=
  isBytes zs ∧ ∃ a len cap, v = .slice a len cap ∧ len = zs.length ∧ Headed a len cap ∧
    (zs = [] ∨ ∃ b off, a = some ⟨b, off, none⟩ ∧ l ≤ b ∧ b < h ∧ ∀ i, i < zs.length → w.cell? ⟨b, off + i, none⟩ = some (.int .u8 (zs[i]?.getD 0)))
theorem RdB.same {w w' : World} {l h : Nat} {v : Value} {zs : List Int} (r : RdB w l h v zs) (t : SameIn l h w w') : RdB w' l h v zs := by
  obtain ⟨hb, a, len, cap, hv, hl, hh, hc⟩ := r
  refine ⟨hb, a, len, cap, hv, hl, hh, ?_⟩
  rcases hc with h0 | ⟨b, off, ha, h1, h2, hc⟩
  · exact .inl h0
  · exact .inr ⟨b, off, ha, h1, h2, fun i hi => by rw [t.cell h1 h2]; exact hc i hi⟩
theorem RdB.wide {w : World} {l h l' h' : Nat} {v : Value} {zs : List Int} (r : RdB w l h v zs) (h1 : l' ≤ l) (h2 : h ≤ h') : RdB w l' h' v zs := by
  obtain ⟨hb, a, len, cap, hv, hl, hh, hc⟩ := r
  refine ⟨hb, a, len, cap, hv, hl, hh, ?_⟩
  rcases hc with h0 | ⟨b, off, ha, h3, h4, hc⟩
  · exact .inl h0
  · exact .inr ⟨b, off, ha, by omega, by omega, hc⟩
theorem RdB.reads {w : World} {l h : Nat} {v : Value} {zs : List Int} (r : RdB w l h v zs) : isBytes zs ∧ ∃ a len cap, v = .slice a len cap ∧ len = zs.length ∧ Headed a len cap ∧ Reads w a zs := by
  obtain ⟨hb, a, len, cap, hv, hl, hh, hc⟩ := r
  refine ⟨hb, a, len, cap, hv, hl, hh, hb, ?_⟩
  rcases hc with h0 | ⟨b, off, ha, h3, h4, hc⟩
  · exact .inl h0
  · by_cases hz : zs = []
    · exact .inl hz
    · refine .inr ⟨b, off, ha, ?_, hc⟩
      exact block_lt_of_cell (hc 0 (by cases zs with | nil => exact absurd rfl hz | cons x r => simp))

/-- v is the call's own, with the bytes zs, in a block of l .. h-1. -/
def OwB (w : World) (l h : Nat) (v : Value) (zs : List Int) : Prop := isBytes zs ∧ Owns w l v zs ∧ Before v h
theorem OwB.rd {w : World} {l h : Nat} {v : Value} {zs : List Int} (o : OwB w l h v zs) : RdB w l h v zs := by
  obtain ⟨hz, ho, hb⟩ := o
  obtain ⟨a, cap, rfl, h1, h2⟩ := ho.shape
  refine ⟨hz, a, _, cap, rfl, rfl, ⟨h1, h2, ?_⟩, ?_⟩
  · rintro rfl
    rcases ho.2 with ⟨hv, h0⟩ | ⟨g, c, cur, hv, _⟩
    · simp only [Value.slice.injEq, true_and] at hv; omega
    · cases hv
  · rcases (ho.reads hz).2.2 with h0 | ⟨b, off, ha, _, hc⟩
    · exact .inl h0
    · subst ha
      exact .inr ⟨b, off, rfl, (ho.lt b rfl).1, hb b rfl, hc⟩
theorem OwB.same {w w' : World} {l h : Nat} {v : Value} {zs : List Int} (o : OwB w l h v zs) (t : SameIn l h w w') : OwB w' l h v zs := by
  obtain ⟨hz, ⟨h1, h2⟩, hb⟩ := o
  refine ⟨hz, ⟨h1, ?_⟩, hb⟩
  rcases h2 with h2 | ⟨g, c, cur, hv, hg, hh, r⟩
  · exact .inl h2
  · exact .inr ⟨g, c, cur, hv, hg, by rw [t.2 g hg (hb g (by rw [hv]; rfl))]; exact hh, r⟩
theorem OwB.wide {w : World} {l h l' h' : Nat} {v : Value} {zs : List Int} (r : OwB w l h v zs) (h1 : l' ≤ l) (h2 : h ≤ h') : OwB w l' h' v zs := ⟨r.1, r.2.1.base h1, r.2.2.le h2⟩
theorem OwB.of {w : World} {l : Nat} {v : Value} {zs : List Int} (hz : isBytes zs) (o : Owns w l v zs) : OwB w l w.heap.size v zs := ⟨hz, o, o.before⟩

/-- v reads as the list zss of bytes; all of it lies in blocks l .. h-1. -/
def RdBB (w : World) (l h : Nat) (v : Value) (zss : List (List Int)) : Prop :=
  ∃ a len cap, ∃ vs : Nat → Value, v = .slice a len cap ∧ len = zss.length ∧ Headed a len cap ∧
    (len = 0 ∨ ∃ b off, a = some ⟨b, off, none⟩ ∧ l ≤ b ∧ b < h ∧ ∀ i, i < len → w.cell? ⟨b, off + i, none⟩ = some (vs i)) ∧ ∀ i, i < len → RdB w l h (vs i) (zss[i]?.getD [])
theorem RdBB.same {w w' : World} {l h : Nat} {v : Value} {zss : List (List Int)} (r : RdBB w l h v zss) (t : SameIn l h w w') : RdBB w' l h v zss := by
  obtain ⟨a, len, cap, vs, hv, hl, hh, hc, he⟩ := r
  refine ⟨a, len, cap, vs, hv, hl, hh, ?_, fun i hi => (he i hi).same t⟩
  rcases hc with h0 | ⟨b, off, ha, h1, h2, hc⟩
  · exact .inl h0
  · exact .inr ⟨b, off, ha, h1, h2, fun i hi => by rw [t.cell h1 h2]; exact hc i hi⟩
theorem RdBB.wide {w : World} {l h l' h' : Nat} {v : Value} {zss : List (List Int)} (r : RdBB w l h v zss) (h1 : l' ≤ l) (h2 : h ≤ h') : RdBB w l' h' v zss := by
  obtain ⟨a, len, cap, vs, hv, hl, hh, hc, he⟩ := r
  refine ⟨a, len, cap, vs, hv, hl, hh, ?_, fun i hi => (he i hi).wide h1 h2⟩
  rcases hc with h0 | ⟨b, off, ha, h3, h4, hc⟩
  · exact .inl h0
  · exact .inr ⟨b, off, ha, by omega, by omega, hc⟩

/-- v is the call's own, with the list zss of bytes, each in a block of its own, all in blocks l .. h-1. -/
def OwBB (w : World) (l h : Nat) (v : Value) (zss : List (List Int)) : Prop :=
  ∃ vs : List Value, vs.length = zss.length ∧ w.ownsRow l 22 1 v vs.length vs ∧ Before v h ∧ (∀ i, i < vs.length → OwB w l h (vs[i]?.getD undef) (zss[i]?.getD [])) ∧
    ∀ i j k, i < j → j < vs.length → (vs[i]?.getD undef).ownBlock = some k → (vs[j]?.getD undef).ownBlock ≠ some k
theorem OwBB.rd {w : World} {l h : Nat} {v : Value} {zss : List (List Int)} (o : OwBB w l h v zss) : RdBB w l h v zss := by
  obtain ⟨vs, hl, ho, hb, he, hd⟩ := o
  rcases ho.2 with ⟨hv, h0⟩ | ⟨g, c, cur, hv, hg, hh, hnc, hm, _⟩
  · subst hv
    exact ⟨none, 0, 0, fun i => vs[i]?.getD undef, rfl, by omega, ⟨Nat.le_refl _, Nat.zero_le _, fun _ => ⟨rfl, rfl⟩⟩, .inl rfl, fun i hi => absurd hi (Nat.not_lt_zero _)⟩
  · subst hv
    refine ⟨_, vs.length, c, fun i => vs[i]?.getD undef, rfl, hl, ⟨hnc, hm, fun e => by cases e⟩, .inr ⟨g, 0, rfl, hg, hb g rfl, fun i hi => ?_⟩, fun i hi => (he i hi).rd⟩
    rw [Nat.zero_add, World.ownsRow.cellAt ho i (by omega)]
    simp [hi]
theorem ownsRow_same {w w' : World} {l h : Nat} {e : TypeId} {size : Nat} {v : Value} {n : Nat} {xs : List Value} (o : w.ownsRow l e size v n xs) (hb : Before v h) (t : SameIn l h w w') : w'.ownsRow l e size v n xs := by
  obtain ⟨h1, h2⟩ := o
  refine ⟨h1, ?_⟩
  rcases h2 with h2 | ⟨g, c, cur, hv, hg, hh, r⟩
  · exact .inl h2
  · exact .inr ⟨g, c, cur, hv, hg, by rw [t.2 g hg (hb g (by rw [hv]; rfl))]; exact hh, r⟩
theorem OwBB.same {w w' : World} {l h : Nat} {v : Value} {zss : List (List Int)} (o : OwBB w l h v zss) (t : SameIn l h w w') : OwBB w' l h v zss := by
  obtain ⟨vs, hl, ho, hb, he, hd⟩ := o
  exact ⟨vs, hl, ownsRow_same ho hb t, hb, fun i hi => (he i hi).same t, hd⟩
end Go.Proofs.YtjhaanenkeceiaaDoor
