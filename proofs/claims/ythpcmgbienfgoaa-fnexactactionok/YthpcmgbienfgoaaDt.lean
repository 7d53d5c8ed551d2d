/- Data with depth: rows of cells, whatever lies in them, read and owned by the blocks in which they lie; no condition. -/
import Derived.Test.YthpcmgbienfgoaaMem
namespace Go.Proofs.Ythpcmgbienfgoaa
open Go.RowKit
set_option linter.unusedVariables false

/-- Blocks of S are as they were. -/
def Keeps (S : Nat → Prop) (w w' : World) : Prop := w.heap.size ≤ w'.heap.size ∧ ∀ b, S b → b < w.heap.size → w'.heap[b]? = w.heap[b]?
/-- Only blocks of S, and new ones, have turned. -/
structure Turned (S : Nat → Prop) (w w' : World) : Prop where
  os : w'.os = w.os
  tape : w'.tape = w.tape
  output : w'.output = w.output
  size : w.heap.size ≤ w'.heap.size
  block : ∀ k, k < w.heap.size → ¬ S k → w'.heap[k]? = w.heap[k]?
theorem Turned.refl (S : Nat → Prop) (w : World) : Turned S w w := ⟨rfl, rfl, rfl, Nat.le_refl _, fun _ _ _ => rfl⟩
theorem Turned.trans {S : Nat → Prop} {a b c : World} (h : Turned S a b) (k : Turned S b c) : Turned S a c :=
  ⟨k.os.trans h.os, k.tape.trans h.tape, k.output.trans h.output, Nat.le_trans h.size k.size, fun i hi hr => (k.block i (Nat.lt_of_lt_of_le hi h.size) hr).trans (h.block i hi hr)⟩
theorem Turned.wide {S S' : Nat → Prop} {a b : World} (h : Turned S a b) (hs : ∀ k, S k → S' k) : Turned S' a b := ⟨h.os, h.tape, h.output, h.size, fun i hi hr => h.block i hi (fun e => hr (hs i e))⟩
theorem Turned.ofBelow {S : Nat → Prop} {a b : World} (h : Below a.heap.size a b) : Turned S a b := ⟨h.os, h.tape, h.output, h.size, fun i hi _ => h.block i hi⟩
theorem Turned.ofGrown {S : Nat → Prop} {a b : World} {r : Option Nat} (h : a.grownBy b r) (hr : ∀ k, r = some k → S k) : Turned S a b := ⟨h.os, h.tape, h.output, h.size, fun i hi ho => h.block i hi (fun e => ho (hr i e.symm))⟩
theorem Turned.ofDrew {S : Nat → Prop} (a : World) (n : Nat) : Turned S a (a.drewN n) := ⟨rfl, rfl, rfl, Nat.le_refl _, fun _ _ _ => rfl⟩
theorem Turned.set {S : Nat → Prop} {a b : World} (h : Turned S a b) (p : Addr) (u : Value) (hp : S p.block) : Turned S a (b.setCell p u) :=
  h.trans ⟨rfl, rfl, rfl, by simp, fun k _ hr => heap_setCell_other b p k u (fun e => hr (e ▸ hp))⟩
theorem Turned.alloc {S : Nat → Prop} {a b : World} (h : Turned S a b) (o : Obj) : Turned S a (b.alloc o) := h.trans (Turned.ofBelow ((Below.refl _ _).alloc (Nat.le_refl _) _))
theorem Turned.andThen {S : Nat → Prop} {a b c : World} (h : Turned S a b) (hb : Below b.heap.size b c) : Turned S a c := h.trans (Turned.ofBelow hb)
theorem Turned.below {S : Nat → Prop} {B : Nat} {a b c : World} (h : Below B a b) (k : Turned S b c) (hB : B ≤ b.heap.size) (hl : ∀ i, S i → B ≤ i) : Below B a c :=
  h.trans ⟨k.os, k.tape, k.output, k.size, fun i hi => k.block i (by omega) (fun e => by have := hl i e; omega)⟩
theorem Turned.keeps {S T : Nat → Prop} {a b : World} (h : Turned S a b) (hd : ∀ k, T k → ¬ S k) : Keeps T a b := ⟨h.size, fun k hk hlt => h.block k hlt (hd k hk)⟩
theorem Keeps.ofBelow {S : Nat → Prop} {a b : World} (h : Below a.heap.size a b) : Keeps S a b := ⟨h.size, fun k _ hlt => h.block k hlt⟩
theorem Keeps.refl (S : Nat → Prop) (w : World) : Keeps S w w := ⟨Nat.le_refl _, fun _ _ _ => rfl⟩
theorem Keeps.trans {S : Nat → Prop} {a b c : World} (x : Keeps S a b) (y : Keeps S b c) : Keeps S a c := ⟨Nat.le_trans x.1 y.1, fun k hk hlt => (y.2 k hk (Nat.lt_of_lt_of_le hlt x.1)).trans (x.2 k hk hlt)⟩
theorem Keeps.mono {S T : Nat → Prop} {a b : World} (h : Keeps S a b) (hs : ∀ k, T k → S k) : Keeps T a b := ⟨h.1, fun k hk hlt => h.2 k (hs k hk) hlt⟩

/-- v reads as the bytes zs, which lie in a block of S. -/
def RdS (w : World) (S : Nat → Prop) (v : Value) (zs : List Int) : Prop :=
  isBytes zs ∧ ∃ a len cap, v = .slice a len cap ∧ len = zs.length ∧ Headed a len cap ∧
    (zs = [] ∨ ∃ b off, a = some ⟨b, off, none⟩ ∧ S b ∧ b < w.heap.size ∧ ∀ i, i < zs.length → w.cell? ⟨b, off + i, none⟩ = some (.int .u8 (zs[i]?.getD 0)))
theorem RdS.keep {w w' : World} {S : Nat → Prop} {v : Value} {zs : List Int} (r : RdS w S v zs) (t : Keeps S w w') : RdS w' S v zs := by
  obtain ⟨hb, a, len, cap, hv, hl, hh, hc⟩ := r
  refine ⟨hb, a, len, cap, hv, hl, hh, ?_⟩
  rcases hc with h0 | ⟨b, off, ha, h1, h2, hc⟩
  · exact .inl h0
  · exact .inr ⟨b, off, ha, h1, Nat.lt_of_lt_of_le h2 t.1, fun i hi => by rw [World.cell?_of_block (w := w) (t.2 b h1 h2)]; exact hc i hi⟩
theorem RdS.mono {w : World} {S S' : Nat → Prop} {v : Value} {zs : List Int} (r : RdS w S v zs) (t : ∀ b, S b → S' b) : RdS w S' v zs := by
  obtain ⟨hb, a, len, cap, hv, hl, hh, hc⟩ := r
  refine ⟨hb, a, len, cap, hv, hl, hh, ?_⟩
  rcases hc with h0 | ⟨b, off, ha, h1, h2, hc⟩
  · exact .inl h0
  · exact .inr ⟨b, off, ha, t b h1, h2, hc⟩
theorem RdS.reads {w : World} {S : Nat → Prop} {v : Value} {zs : List Int} (r : RdS w S v zs) : ∃ a cap, v = .slice a zs.length cap ∧ Headed a zs.length cap ∧ Reads w a zs := by
  obtain ⟨hb, a, len, cap, hv, hl, hh, hc⟩ := r
  subst hl
  refine ⟨a, cap, hv, hh, hb, ?_⟩
  rcases hc with h0 | ⟨b, off, ha, h3, h4, hc⟩
  · exact .inl h0
  · exact .inr ⟨b, off, ha, h4, hc⟩
theorem RdS.rdB {w : World} {S : Nat → Prop} {v : Value} {zs : List Int} (r : RdS w S v zs) : RdB w 0 w.heap.size v zs := by
  obtain ⟨hb, a, len, cap, hv, hl, hh, hc⟩ := r
  refine ⟨hb, a, len, cap, hv, hl, hh, ?_⟩
  rcases hc with h0 | ⟨b, off, ha, h3, h4, hc⟩
  · exact .inl h0
  · exact .inr ⟨b, off, ha, Nat.zero_le _, h4, hc⟩

theorem ownsRow_base {w : World} {l : Nat} {e : TypeId} {size : Nat} {v : Value} {n : Nat} {xs : List Value} (o : w.ownsRow l e size v n xs) : w.ownsRow 0 e size v n xs :=
  ⟨o.1, o.2.imp id (fun ⟨g, c, cur, hv, _, r⟩ => ⟨g, c, cur, hv, Nat.zero_le _, r⟩)⟩
theorem ownsRow_keep {w w' : World} {l : Nat} {S : Nat → Prop} {e : TypeId} {size : Nat} {v : Value} {n : Nat} {xs : List Value} (o : w.ownsRow l e size v n xs) (hb : ∀ b, v.ownBlock = some b → S b) (t : Keeps S w w') : w'.ownsRow l e size v n xs := by
  obtain ⟨h1, h2⟩ := o
  refine ⟨h1, ?_⟩
  rcases h2 with h2 | ⟨g, c, cur, hv, hg, hh, r⟩
  · exact .inl h2
  · exact .inr ⟨g, c, cur, hv, hg, by rw [t.2 g (hb g (by rw [hv]; rfl)) (lt_of_block hh)]; exact hh, r⟩
theorem rdS_of_owns {w : World} {S : Nat → Prop} {v : Value} {zs : List Int} (hz : isBytes zs) (ho : Owns w 0 v zs) (hs : ∀ b, v.ownBlock = some b → S b) : RdS w S v zs := by
  obtain ⟨a, cap, rfl, h1, h2⟩ := ho.shape
  refine ⟨hz, a, _, cap, rfl, rfl, ⟨h1, h2, ?_⟩, ?_⟩
  · rintro rfl
    rcases ho.2 with ⟨hv, h0⟩ | ⟨g, c, cur, hv, _⟩
    · simp only [Value.slice.injEq, true_and] at hv; omega
    · cases hv
  · rcases (ho.reads hz).2.2 with h0 | ⟨b, off, ha, hb, hc⟩
    · exact .inl h0
    · subst ha
      exact .inr ⟨b, off, rfl, hs b rfl, hb, hc⟩
theorem place_inj {k i j i' j' : Nat} (hj : j < k) (hj' : j' < k) (h : i * k + j = i' * k + j') : i = i' ∧ j = j' := by
  have h1 : (i * k + j) / k = i := by rw [Nat.add_comm, Nat.mul_comm, Nat.add_mul_div_left _ _ (by omega), Nat.div_eq_of_lt hj]; omega
  have h2 : (i' * k + j') / k = i' := by rw [Nat.add_comm, Nat.mul_comm, Nat.add_mul_div_left _ _ (by omega), Nat.div_eq_of_lt hj']; omega
  have h3 : i = i' := by rw [← h1, ← h2, h]
  subst h3
  exact ⟨rfl, by omega⟩
theorem place_lt {k n i j : Nat} (hi : i < n) (hj : j < k) : i * k + j < n * k := by
  have : (i + 1) * k ≤ n * k := Nat.mul_le_mul_right k hi
  rw [Nat.add_mul, Nat.one_mul] at this
  omega

/-- What a cell holds, told by how it is read (rd: all of it in blocks of S) and owned (ow: no block of it outside S, none serving twice). -/
structure Dt where
  rd : World → (Nat → Prop) → Value → Prop
  ow : World → (Nat → Prop) → Value → Prop
  rdKeep : ∀ (w w' : World) (S : Nat → Prop) (v : Value), Keeps S w w' → rd w S v → rd w' S v
  rdMono : ∀ (w : World) (S S' : Nat → Prop) (v : Value), (∀ b, S b → S' b) → rd w S v → rd w S' v
  owKeep : ∀ (w w' : World) (S : Nat → Prop) (v : Value), Keeps S w w' → ow w S v → ow w' S v
  owMono : ∀ (w : World) (S S' : Nat → Prop) (v : Value), (∀ b, S b → S' b) → ow w S v → ow w S' v
  owRd : ∀ (w : World) (S : Nat → Prop) (v : Value), ow w S v → rd w S v
/-- v reads as d, and all of it lies in blocks of S. -/
def RdV (w : World) (S : Nat → Prop) (v : Value) (d : Dt) : Prop := d.rd w S v
/-- v is the call's own and holds d; no block of it lies outside S, none serves twice. -/
def OwV (w : World) (S : Nat → Prop) (v : Value) (d : Dt) : Prop := d.ow w S v
def Dt.int (n : Int) : Dt := ⟨fun _ _ v => v = .int .i64 n, fun _ _ v => v = .int .i64 n, fun _ _ _ _ _ h => h, fun _ _ _ _ _ h => h, fun _ _ _ _ _ h => h, fun _ _ _ _ _ h => h, fun _ _ _ h => h⟩
def Dt.bool (b : Bool) : Dt := ⟨fun _ _ v => v = .bool b, fun _ _ v => v = .bool b, fun _ _ _ _ _ h => h, fun _ _ _ _ _ h => h, fun _ _ _ _ _ h => h, fun _ _ _ _ _ h => h, fun _ _ _ h => h⟩
def Dt.bytes (zs : List Int) : Dt := ⟨fun w S v => RdS w S v zs, fun w S v => isBytes zs ∧ Owns w 0 v zs ∧ ∀ b, v.ownBlock = some b → S b,
  fun _ _ _ _ t h => h.keep t, fun _ _ _ _ t h => h.mono t, fun _ _ _ _ t h => ⟨h.1, ownsRow_keep h.2.1 h.2.2 t, h.2.2⟩, fun _ _ _ _ t h => ⟨h.1, h.2.1, fun b hb => t b (h.2.2 b hb)⟩, fun _ _ _ h => rdS_of_owns h.1 h.2.1 h.2.2⟩
/-- n rows of k cells each, of type t. -/
def RowsRd (k n : Nat) (f : Nat → Nat → Dt) (w : World) (S : Nat → Prop) (v : Value) : Prop :=
  ∃ a cap, ∃ V : Nat → Nat → Value, v = .slice a n cap ∧ Headed a n cap ∧
    (n = 0 ∨ ∃ b off, a = some ⟨b, off, none⟩ ∧ S b ∧ b < w.heap.size ∧ ∀ i j, i < n → j < k → w.cell? ⟨b, off + (i * k + j), none⟩ = some (V i j)) ∧ ∀ i j, i < n → j < k → RdV w S (V i j) (f i j)
def RowsOw (t : TypeId) (k n : Nat) (f : Nat → Nat → Dt) (w : World) (S : Nat → Prop) (v : Value) : Prop :=
  ∃ (V : Nat → Nat → Value) (C : List Value) (Q : Nat → Nat → Nat → Prop), w.ownsRow 0 t k v n C ∧ (∀ b, v.ownBlock = some b → S b) ∧
      (∀ i j, i < n → j < k → C[i * k + j]? = some (V i j)) ∧ (∀ i j, i < n → j < k → OwV w (Q i j) (V i j) (f i j)) ∧ (∀ i j b, i < n → j < k → Q i j b → S b ∧ v.ownBlock ≠ some b) ∧
      (∀ i j i' j' b, i < n → j < k → i' < n → j' < k → Q i j b → Q i' j' b → i = i' ∧ j = j')
theorem RowsRd.keep {k n : Nat} {f : Nat → Nat → Dt} (w w' : World) (S : Nat → Prop) (v : Value) (t : Keeps S w w') (r : RowsRd k n f w S v) : RowsRd k n f w' S v := by
  obtain ⟨a, cap, V, hv, hh, hc, he⟩ := r
  refine ⟨a, cap, V, hv, hh, ?_, fun i j hi hj => (f i j).rdKeep w w' S _ t (he i j hi hj)⟩
  rcases hc with h0 | ⟨b, off, ha, h1, h2, hc⟩
  · exact .inl h0
  · exact .inr ⟨b, off, ha, h1, Nat.lt_of_lt_of_le h2 t.1, fun i j hi hj => by rw [World.cell?_of_block (w := w) (t.2 b h1 h2)]; exact hc i j hi hj⟩
theorem RowsRd.mono {k n : Nat} {f : Nat → Nat → Dt} (w : World) (S S' : Nat → Prop) (v : Value) (t : ∀ b, S b → S' b) (r : RowsRd k n f w S v) : RowsRd k n f w S' v := by
  obtain ⟨a, cap, V, hv, hh, hc, he⟩ := r
  refine ⟨a, cap, V, hv, hh, ?_, fun i j hi hj => (f i j).rdMono w S S' _ t (he i j hi hj)⟩
  rcases hc with h0 | ⟨b, off, ha, h1, h2, hc⟩
  · exact .inl h0
  · exact .inr ⟨b, off, ha, t b h1, h2, hc⟩
theorem RowsOw.keep {t : TypeId} {k n : Nat} {f : Nat → Nat → Dt} (w w' : World) (S : Nat → Prop) (v : Value) (hk : Keeps S w w') (r : RowsOw t k n f w S v) : RowsOw t k n f w' S v := by
  obtain ⟨V, C, Q, h1, h2, h3, h4, h5, h6⟩ := r
  exact ⟨V, C, Q, ownsRow_keep h1 h2 hk, h2, h3, fun i j hi hj => (f i j).owKeep w w' _ _ (hk.mono (fun b hb => (h5 i j b hi hj hb).1)) (h4 i j hi hj), h5, h6⟩
theorem RowsOw.mono {t : TypeId} {k n : Nat} {f : Nat → Nat → Dt} (w : World) (S S' : Nat → Prop) (v : Value) (hs : ∀ b, S b → S' b) (r : RowsOw t k n f w S v) : RowsOw t k n f w S' v := by
  obtain ⟨V, C, Q, h1, h2, h3, h4, h5, h6⟩ := r
  exact ⟨V, C, Q, h1, fun b hb => hs b (h2 b hb), h3, h4, fun i j b hi hj hq => ⟨hs b (h5 i j b hi hj hq).1, (h5 i j b hi hj hq).2⟩, h6⟩
theorem RowsOw.rd {t : TypeId} {k n : Nat} {f : Nat → Nat → Dt} (w : World) (S : Nat → Prop) (v : Value) (r : RowsOw t k n f w S v) : RowsRd k n f w S v := by
  obtain ⟨V, C, Q, h1, h2, h3, h4, h5, h6⟩ := r
  rcases h1.2 with ⟨hv, h0⟩ | ⟨g, c, cur, hv, hg, hh, hnc, hm, _⟩
  · subst hv
    subst h0
    exact ⟨none, 0, V, rfl, ⟨Nat.le_refl _, Nat.zero_le _, fun _ => ⟨rfl, rfl⟩⟩, .inl rfl, fun i j hi => absurd hi (Nat.not_lt_zero _)⟩
  · subst hv
    refine ⟨_, c, V, rfl, ⟨hnc, hm, fun e => by cases e⟩, .inr ⟨g, 0, rfl, h2 g rfl, lt_of_block hh, fun i j hi hj => ?_⟩, fun i j hi hj => (f i j).rdMono w _ S _ (fun b hb => (h5 i j b hi hj hb).1) ((f i j).owRd w _ _ (h4 i j hi hj))⟩
    rw [Nat.zero_add, World.ownsRow.cellAt h1 (i * k + j) (place_lt hi hj)]
    exact h3 i j hi hj
def Dt.rows (t : TypeId) (k n : Nat) (f : Nat → Nat → Dt) : Dt := ⟨RowsRd k n f, RowsOw t k n f, RowsRd.keep, RowsRd.mono, RowsOw.keep, RowsOw.mono, RowsOw.rd⟩
theorem RdV.keep {w w' : World} {S : Nat → Prop} {v : Value} {d : Dt} (t : Keeps S w w') (r : RdV w S v d) : RdV w' S v d := d.rdKeep w w' S v t r
theorem RdV.mono {w : World} {S S' : Nat → Prop} {v : Value} {d : Dt} (t : ∀ b, S b → S' b) (r : RdV w S v d) : RdV w S' v d := d.rdMono w S S' v t r
theorem RdV.step {w w' : World} {S : Nat → Prop} {v : Value} {d : Dt} (r : RdV w S v d) (hb : Below w.heap.size w w') : RdV w' S v d := r.keep (Keeps.ofBelow hb)
theorem RdV.b {w : World} {S : Nat → Prop} {v : Value} {zs : List Int} (r : RdV w S v (.bytes zs)) : RdS w S v zs := r
theorem RdV.sliceB {w : World} {S : Nat → Prop} {v : Value} {zs : List Int} (r : RdV w S v (.bytes zs)) : ∃ a cap, v = .slice a zs.length cap := by obtain ⟨a, cap, h, _⟩ := r.b.reads; exact ⟨a, cap, h⟩
theorem RdV.inv {w : World} {S : Nat → Prop} {v : Value} {t : TypeId} {k n : Nat} {f : Nat → Nat → Dt} (r : RdV w S v (.rows t k n f)) : RowsRd k n f w S v := r
theorem RdV.mkRows {w : World} {S : Nat → Prop} {v : Value} {k n : Nat} {f : Nat → Nat → Dt} (t : TypeId) (r : RowsRd k n f w S v) : RdV w S v (.rows t k n f) := r
/-- Rows, opened. -/
theorem RdV.row {w : World} {S : Nat → Prop} {v : Value} {t : TypeId} {k n : Nat} {f : Nat → Nat → Dt} (r : RdV w S v (.rows t k n f)) :
    ∃ a cap, v = .slice a n cap ∧ Headed a n cap ∧ (n = 0 ∨ ∃ b off, a = some ⟨b, off, none⟩ ∧ b < w.heap.size ∧ S b ∧ ∃ V : Nat → Nat → Value, ∀ i j, i < n → j < k → w.cell? ⟨b, off + (i * k + j), none⟩ = some (V i j) ∧ RdV w S (V i j) (f i j)) := by
  obtain ⟨a, cap, V, rfl, hh, hc, he⟩ := r.inv
  refine ⟨a, cap, rfl, hh, ?_⟩
  rcases hc with h0 | ⟨b, off, ha, h1, h2, hc⟩
  · exact .inl h0
  · exact .inr ⟨b, off, ha, h2, h1, V, fun i j hi hj => ⟨hc i j hi hj, he i j hi hj⟩⟩
theorem RdV.at {w : World} {S : Nat → Prop} {a : Option Addr} {n cap : Nat} {t : TypeId} {k : Nat} {f : Nat → Nat → Dt} (r : RdV w S (.slice a n cap) (.rows t k n f)) {i : Nat} (hi : i < n) :
    ∃ b off, a = some ⟨b, off, none⟩ ∧ b < w.heap.size ∧ S b ∧ ∀ j, j < k → ∃ x, w.cell? ⟨b, off + i * k + j, none⟩ = some x ∧ RdV w S x (f i j) := by
  obtain ⟨a', cap', V, hv, hh, hc, he⟩ := r.inv
  simp only [Value.slice.injEq] at hv
  obtain ⟨rfl, _, rfl⟩ := hv
  rcases hc with h0 | ⟨b, off, ha, h1, h2, hc⟩
  · omega
  · exact ⟨b, off, ha, h2, h1, fun j hj => ⟨V i j, by rw [Nat.add_assoc]; exact hc i j hi hj, he i j hi hj⟩⟩
theorem RdV.sliced {w : World} {S : Nat → Prop} {v : Value} {t : TypeId} {k n : Nat} {f : Nat → Nat → Dt} (r : RdV w S v (.rows t k n f)) : ∃ a cap, v = .slice a n cap ∧ n ≤ maxLen := by
  obtain ⟨a, cap, V, hv, hh, _⟩ := r.inv
  exact ⟨a, cap, hv, Nat.le_trans hh.1 hh.2.1⟩
theorem RdV.congr {w : World} {S : Nat → Prop} {v : Value} {t t' : TypeId} {k n : Nat} {f g : Nat → Nat → Dt} (r : RdV w S v (.rows t k n f)) (h : ∀ i j, i < n → j < k → f i j = g i j) : RdV w S v (.rows t' k n g) := by
  obtain ⟨a, cap, V, rfl, hh, hc, he⟩ := r.inv
  exact ⟨a, cap, V, rfl, hh, hc, fun i j hi hj => h i j hi hj ▸ he i j hi hj⟩
theorem OwV.inv {w : World} {S : Nat → Prop} {v : Value} {t : TypeId} {k n : Nat} {f : Nat → Nat → Dt} (r : OwV w S v (.rows t k n f)) : RowsOw t k n f w S v := r
theorem OwV.mkRows {w : World} {S : Nat → Prop} {v : Value} {t : TypeId} {k n : Nat} {f : Nat → Nat → Dt} (r : RowsOw t k n f w S v) : OwV w S v (.rows t k n f) := r
theorem OwV.mono {w : World} {S S' : Nat → Prop} {v : Value} {d : Dt} (t : ∀ b, S b → S' b) (r : OwV w S v d) : OwV w S' v d := d.owMono w S S' v t r
theorem OwV.rd {w : World} {S : Nat → Prop} {v : Value} {d : Dt} (r : OwV w S v d) : RdV w S v d := d.owRd w S v r
theorem OwV.keep {w w' : World} {S : Nat → Prop} {v : Value} {d : Dt} (t : Keeps S w w') (r : OwV w S v d) : OwV w' S v d := d.owKeep w w' S v t r
theorem OwV.step {w w' : World} {S : Nat → Prop} {v : Value} {d : Dt} (r : OwV w S v d) (hb : Below w.heap.size w w') : OwV w' S v d := r.keep (Keeps.ofBelow hb)
theorem OwV.int {w : World} (S : Nat → Prop) (n : Int) : OwV w S (.int .i64 n) (.int n) := rfl
theorem OwV.bool {w : World} (S : Nat → Prop) (b : Bool) : OwV w S (.bool b) (.bool b) := rfl
theorem RdV.int {w : World} {S : Nat → Prop} (n : Int) : RdV w S (.int .i64 n) (.int n) := rfl
theorem RdV.bool {w : World} {S : Nat → Prop} (b : Bool) : RdV w S (.bool b) (.bool b) := rfl
theorem OwV.congr {w : World} {S : Nat → Prop} {v : Value} {t : TypeId} {k n : Nat} {f g : Nat → Nat → Dt} (r : OwV w S v (.rows t k n f)) (h : ∀ i j, i < n → j < k → f i j = g i j) : OwV w S v (.rows t k n g) := by
  obtain ⟨V, C, Q, h1, h2, h3, h4, h5, h6⟩ := r.inv
  exact ⟨V, C, Q, h1, h2, h3, fun i j hi hj => h i j hi hj ▸ h4 i j hi hj, h5, h6⟩
theorem OwV.b {w : World} {S : Nat → Prop} {v : Value} {zs : List Int} (r : OwV w S v (.bytes zs)) : isBytes zs ∧ Owns w 0 v zs ∧ ∀ b, v.ownBlock = some b → S b := r
theorem OwV.nilB (w : World) (S : Nat → Prop) : OwV w S (.slice none 0 0) (.bytes []) := ⟨isBytes_nil, World.ownsRow_nil _ _ _ _, fun b hb => by cases hb⟩
theorem OwV.nilR (w : World) (S : Nat → Prop) (t : TypeId) (k : Nat) (f : Nat → Nat → Dt) : OwV w S (.slice none 0 0) (.rows t k 0 f) :=
  ⟨fun _ _ => undef, [], fun _ _ _ => False, World.ownsRow_nil _ _ _ _, fun b hb => (by cases hb), fun i j hi => absurd hi (Nat.not_lt_zero _), fun i j hi => absurd hi (Nat.not_lt_zero _), fun i j b hi => absurd hi (Nat.not_lt_zero _), fun i j i' j' b hi => absurd hi (Nat.not_lt_zero _)⟩
theorem OwV.ofOwns {w : World} {B : Nat} {v : Value} {zs : List Int} (hz : isBytes zs) (h : Owns w B v zs) : OwV w (fun b => B ≤ b ∧ b < w.heap.size) v (.bytes zs) := ⟨hz, h.base (Nat.zero_le _), fun b hb => h.lt b hb⟩

/-- f, but d at (i, j). -/
def upd (f : Nat → Nat → Dt) (i j : Nat) (d : Dt) : Nat → Nat → Dt := fun i' j' => if i' = i ∧ j' = j then d else f i' j'
theorem upd_same (f : Nat → Nat → Dt) (i j : Nat) (d : Dt) : upd f i j d i j = d := by simp [upd]
theorem upd_other (f : Nat → Nat → Dt) (i j i' j' : Nat) (d : Dt) (h : ¬ (i' = i ∧ j' = j)) : upd f i j d i' j' = f i' j' := by simp [upd, h]
/-- A value that is laid into a cell of rows, with memory of its own. -/
theorem OwV.put {w : World} {S R : Nat → Prop} {g cap : Nat} {t : TypeId} {k n : Nat} {f : Nat → Nat → Dt} (r : OwV w S (.slice (some ⟨g, 0, none⟩) n cap) (.rows t k n f)) {i j : Nat} (hi : i < n) (hj : j < k) {u : Value} {d : Dt} (hu : OwV w R u d) (hd : ∀ b, R b → ¬ S b) :
    OwV (w.setCell ⟨g, i * k + j, none⟩ u) (fun b => S b ∨ R b) (.slice (some ⟨g, 0, none⟩) n cap) (.rows t k n (upd f i j d)) := by
  obtain ⟨V, C, Q, h1, h2, h3, h4, h5, h6⟩ := r.inv
  have hst := h1.stored (i * k + j) u
  have hCl : C.length = n * k := h1.1
  have hg : S g := h2 g rfl
  have kp : ∀ (T : Nat → Prop), (∀ b, T b → b ≠ g) → Keeps T w (w.setCell ⟨g, i * k + j, none⟩ u) := fun T hT => ⟨by simp, fun b hb _ => heap_setCell_other w _ b u (hT b hb)⟩
  refine OwV.mkRows ⟨fun i' j' => if i' = i ∧ j' = j then u else V i' j', C.set (i * k + j) u, fun i' j' => if i' = i ∧ j' = j then R else Q i' j', hst.1, fun b hb => .inl (h2 b hb), fun i' j' hi' hj' => ?_, fun i' j' hi' hj' => ?_, fun i' j' b hi' hj' hq => ?_, fun i1 j1 i2 j2 b hi1 hj1 hi2 hj2 hq1 hq2 => ?_⟩
  · dsimp only
    rw [List.getElem?_set]
    by_cases he : i' = i ∧ j' = j
    · obtain ⟨rfl, rfl⟩ := he
      rw [if_pos rfl, if_pos (by rw [hCl]; exact place_lt hi hj)]; simp
    · rw [if_neg (fun e => he (by have := place_inj hj hj' e; omega)), if_neg he]; exact h3 i' j' hi' hj'
  · dsimp only
    unfold upd
    by_cases he : i' = i ∧ j' = j
    · simp only [he, and_self, if_true]
      exact hu.keep (kp R (fun b hb e => hd b hb (e ▸ hg)))
    · rw [if_neg he, if_neg he, if_neg he]
      exact (h4 i' j' hi' hj').keep (kp _ (fun b hb e => by subst e; exact (h5 i' j' _ hi' hj' hb).2 rfl))
  · dsimp only at hq
    by_cases he : i' = i ∧ j' = j
    · rw [if_pos he] at hq
      exact ⟨.inr hq, fun e => hd b hq (h2 b e)⟩
    · rw [if_neg he] at hq
      exact ⟨.inl (h5 i' j' b hi' hj' hq).1, (h5 i' j' b hi' hj' hq).2⟩
  · dsimp only at hq1 hq2
    by_cases he1 : i1 = i ∧ j1 = j
    · by_cases he2 : i2 = i ∧ j2 = j
      · omega
      · rw [if_pos he1] at hq1; rw [if_neg he2] at hq2
        exact absurd (h5 i2 j2 b hi2 hj2 hq2).1 (hd b hq1)
    · by_cases he2 : i2 = i ∧ j2 = j
      · rw [if_neg he1] at hq1; rw [if_pos he2] at hq2
        exact absurd (h5 i1 j1 b hi1 hj1 hq1).1 (hd b hq2)
      · rw [if_neg he1] at hq1; rw [if_neg he2] at hq2
        exact h6 i1 j1 i2 j2 b hi1 hj1 hi2 hj2 hq1 hq2
/-- .. a number or a flag. -/
theorem OwV.put0 {w : World} {S : Nat → Prop} {g cap : Nat} {t : TypeId} {k n : Nat} {f : Nat → Nat → Dt} (r : OwV w S (.slice (some ⟨g, 0, none⟩) n cap) (.rows t k n f)) {i j : Nat} (hi : i < n) (hj : j < k) {u : Value} {d : Dt} (hu : OwV w (fun _ => False) u d) :
    OwV (w.setCell ⟨g, i * k + j, none⟩ u) S (.slice (some ⟨g, 0, none⟩) n cap) (.rows t k n (upd f i j d)) :=
  (r.put hi hj hu (fun b hb => hb.elim)).mono (fun b hb => hb.elim id False.elim)
theorem OwV.turned {w : World} {S : Nat → Prop} {g cap : Nat} {t : TypeId} {k n : Nat} {f : Nat → Nat → Dt} (r : OwV w S (.slice (some ⟨g, 0, none⟩) n cap) (.rows t k n f)) (o : Nat) (u : Value) : Turned S w (w.setCell ⟨g, o, none⟩ u) := by
  obtain ⟨V, C, Q, h1, h2, h3, h4, h5, h6⟩ := r.inv
  exact Turned.ofGrown (h1.stored o u).2 (fun k hk => by cases hk; exact h2 g rfl)
/-- What lies in a cell of rows, and the way back. -/
theorem OwV.sub {w : World} {S : Nat → Prop} {v : Value} {t : TypeId} {k n : Nat} {f : Nat → Nat → Dt} (r : OwV w S v (.rows t k n f)) {i j : Nat} (hi : i < n) (hj : j < k) :
    ∃ (Q : Nat → Prop) (x : Value) (g cap : Nat), v = .slice (some ⟨g, 0, none⟩) n cap ∧ w.cell? ⟨g, i * k + j, none⟩ = some x ∧ OwV w Q x (f i j) ∧ (∀ b, Q b → S b ∧ b ≠ g) ∧
      ∀ w' d, Turned Q w w' → OwV w' Q x d → OwV w' S v (.rows t k n (upd f i j d)) := by
  obtain ⟨V, C, Q, h1, h2, h3, h4, h5, h6⟩ := r.inv
  rcases h1.2 with ⟨hv, h0⟩ | ⟨g, c, cur, hv, hg, hh, hnc, hm, _⟩
  · omega
  · subst hv
    refine ⟨Q i j, V i j, g, c, rfl, ?_, h4 i j hi hj, fun b hb => ⟨(h5 i j b hi hj hb).1, fun e => (h5 i j b hi hj hb).2 (by rw [e]; rfl)⟩, fun w' d ht hd => ?_⟩
    · rw [World.ownsRow.cellAt h1 (i * k + j) (place_lt hi hj)]; exact h3 i j hi hj
    · refine OwV.mkRows ⟨V, C, Q, ownsRow_keep (S := fun b => b = g) h1 (fun b hb => by cases hb; rfl) (ht.keeps (fun b hb hq => by subst hb; exact (h5 i j _ hi hj hq).2 rfl)), h2, h3, fun i' j' hi' hj' => ?_, h5, h6⟩
      unfold upd
      by_cases he : i' = i ∧ j' = j
      · obtain ⟨rfl, rfl⟩ := he
        rw [if_pos ⟨rfl, rfl⟩]; exact hd
      · rw [if_neg he]
        exact (h4 i' j' hi' hj').keep (ht.keeps (fun b hb hq => he (h6 i' j' i j b hi' hj' hi hj hb hq)))
/-- The head of rows that are the call's own. -/
theorem OwV.head {w : World} {S : Nat → Prop} {v : Value} {t : TypeId} {k n : Nat} {f : Nat → Nat → Dt} (r : OwV w S v (.rows t k n f)) : (v = .slice none 0 0 ∧ n = 0) ∨ ∃ g cap, v = .slice (some ⟨g, 0, none⟩) n cap ∧ S g ∧ g < w.heap.size ∧ (∀ j, w.frozen? ⟨g, j, none⟩ = false) ∧ ∀ j, j < n * k → ∃ u, w.cell? ⟨g, j, none⟩ = some u := by
  obtain ⟨V, C, Q, h1, h2, h3, h4, h5, h6⟩ := r.inv
  rcases h1.2 with ⟨hv, h0⟩ | ⟨g, c, cur, hv, hg, hh, hnc, hm, _⟩
  · exact .inl ⟨hv, h0⟩
  · subst hv
    exact .inr ⟨g, c, rfl, h2 g rfl, lt_of_block hh, fun j => h1.frozenAt j, fun j hj => by rw [h1.cellAt j hj]; exact ⟨_, List.getElem?_eq_getElem (by rw [h1.1]; exact hj)⟩⟩

/-- A variable of type T that holds the cells cs. -/
def VarA (w : World) (b : Nat) (T : TypeId) (cs : Array Value) : Prop := w.heap[b]? = some (.cells cs T (0, 0))
section
variable {w w' : World} {b : Nat} {T : TypeId} {cs : Array Value}
theorem VarA.c (h : VarA w b T cs) (j : Nat) {u : Value} (hu : cs[j]? = some u) : w.cell? ⟨b, j, none⟩ = some u := by rw [cell_of_row _ _ _ _ _ _ h]; exact hu
theorem VarA.f (h : VarA w b T cs) (j : Nat) : w.frozen? ⟨b, j, none⟩ = false := frozen_of_row _ _ _ _ _ h
theorem VarA.lt (h : VarA w b T cs) : b < w.heap.size := lt_of_block h
theorem VarA.step (h : VarA w b T cs) (hb : Below w.heap.size w w') : VarA w' b T cs := (hb.block b h.lt).trans h
theorem VarA.turn {S : Nat → Prop} (h : VarA w b T cs) (t : Turned S w w') (ho : ¬ S b) : VarA w' b T cs := (t.block b h.lt ho).trans h
theorem VarA.new (w : World) (T : TypeId) (cs : Array Value) : VarA (w.alloc (.cells cs T)) w.heap.size T cs := heap_alloc_new w _
theorem VarA.set (h : VarA w b T cs) (j : Nat) (u : Value) : VarA (w.setCell ⟨b, j, none⟩ u) b T (cs.setIfInBounds j u) := heap_setCell_same w b j cs T u h
theorem VarA.aside (h : VarA w b T cs) {p : Addr} (hp : b ≠ p.block) (u : Value) : VarA (w.setCell p u) b T cs := (heap_setCell_other w p b u hp).trans h
theorem VarA.l1 {x0 : Value} (h : VarA w b T #[x0]) : w.cell? ⟨b, 0, none⟩ = some x0 := h.c 0 rfl
theorem VarA.l2 {x0 x1 : Value} (h : VarA w b T #[x0, x1]) : w.cell? ⟨b, 0, none⟩ = some x0 ∧ w.cell? ⟨b, 1, none⟩ = some x1 := ⟨h.c 0 rfl, h.c 1 rfl⟩
theorem VarA.l3 {x0 x1 x2 : Value} (h : VarA w b T #[x0, x1, x2]) : w.cell? ⟨b, 0, none⟩ = some x0 ∧ w.cell? ⟨b, 1, none⟩ = some x1 ∧ w.cell? ⟨b, 2, none⟩ = some x2 := ⟨h.c 0 rfl, h.c 1 rfl, h.c 2 rfl⟩
theorem VarA.l4 {x0 x1 x2 x3 : Value} (h : VarA w b T #[x0, x1, x2, x3]) : w.cell? ⟨b, 0, none⟩ = some x0 ∧ w.cell? ⟨b, 1, none⟩ = some x1 ∧ w.cell? ⟨b, 2, none⟩ = some x2 ∧ w.cell? ⟨b, 3, none⟩ = some x3 := ⟨h.c 0 rfl, h.c 1 rfl, h.c 2 rfl, h.c 3 rfl⟩
theorem VarA.l9 {x0 x1 x2 x3 x4 x5 x6 x7 x8 : Value} (h : VarA w b T #[x0, x1, x2, x3, x4, x5, x6, x7, x8]) : w.cell? ⟨b, 0, none⟩ = some x0 ∧ w.cell? ⟨b, 1, none⟩ = some x1 ∧ w.cell? ⟨b, 2, none⟩ = some x2 ∧ w.cell? ⟨b, 3, none⟩ = some x3 ∧ w.cell? ⟨b, 4, none⟩ = some x4 ∧ w.cell? ⟨b, 5, none⟩ = some x5 ∧ w.cell? ⟨b, 6, none⟩ = some x6 ∧ w.cell? ⟨b, 7, none⟩ = some x7 ∧ w.cell? ⟨b, 8, none⟩ = some x8 := ⟨h.c 0 rfl, h.c 1 rfl, h.c 2 rfl, h.c 3 rfl, h.c 4 rfl, h.c 5 rfl, h.c 6 rfl, h.c 7 rfl, h.c 8 rfl⟩
theorem VarA.l10 {x0 x1 x2 x3 x4 x5 x6 x7 x8 x9 : Value} (h : VarA w b T #[x0, x1, x2, x3, x4, x5, x6, x7, x8, x9]) : w.cell? ⟨b, 0, none⟩ = some x0 ∧ w.cell? ⟨b, 1, none⟩ = some x1 ∧ w.cell? ⟨b, 2, none⟩ = some x2 ∧ w.cell? ⟨b, 3, none⟩ = some x3 ∧ w.cell? ⟨b, 4, none⟩ = some x4 ∧ w.cell? ⟨b, 5, none⟩ = some x5 ∧ w.cell? ⟨b, 6, none⟩ = some x6 ∧ w.cell? ⟨b, 7, none⟩ = some x7 ∧ w.cell? ⟨b, 8, none⟩ = some x8 ∧ w.cell? ⟨b, 9, none⟩ = some x9 := ⟨h.c 0 rfl, h.c 1 rfl, h.c 2 rfl, h.c 3 rfl, h.c 4 rfl, h.c 5 rfl, h.c 6 rfl, h.c 7 rfl, h.c 8 rfl, h.c 9 rfl⟩
theorem VarA.fz (h : VarA w b T cs) : ∀ j, w.frozen? ⟨b, j, none⟩ = false := fun j => h.f j
theorem VarA.alloc (h : VarA w b T cs) (o : Obj) : VarA (w.alloc o) b T cs := ((World.grownBy_alloc w o none).block b h.lt (by simp)).trans h
end

theorem OwV.lt0 {w : World} {S : Nat → Prop} {g n cap : Nat} {t : TypeId} {k : Nat} {f : Nat → Nat → Dt} (r : OwV w S (.slice (some ⟨g, 0, none⟩) n cap) (.rows t k n f)) {i : Nat} (hi : i < n) : g < w.heap.size := by
  obtain ⟨V, C, Q, h1, _⟩ := r.inv
  exact (h1.lt g rfl).2
theorem made_at (z : Array Value) (n k i j : Nat) (hz : z.size = k) (hi : i < n) (hj : j < k) : (madeCells z (n * k)).toList[i * k + j]? = z[j]? := by
  have h1 := place_lt hi hj
  have h2 : (i * k + j) % k = j := by rw [Nat.add_comm, Nat.mul_comm, Nat.add_mul_mod_self_left, Nat.mod_eq_of_lt hj]
  simp [madeCells, h1, hz, h2, hj]
/-- Rows that 'make' laid. -/
theorem OwV.made {w : World} {B g n cap : Nat} {t : TypeId} {k : Nat} {z : Array Value} (hz : z.size = k) (h : w.ownsRow B t k (.slice (some ⟨g, 0, none⟩) n cap) n (madeCells z (n * k)).toList) (f : Nat → Dt) (hf : ∀ j, j < k → OwV w (fun _ => False) (z[j]?.getD undef) (f j)) :
    OwV w (fun b => B ≤ b ∧ b < w.heap.size) (.slice (some ⟨g, 0, none⟩) n cap) (.rows t k n (fun _ j => f j)) := by
  refine OwV.mkRows ⟨fun _ j => z[j]?.getD undef, _, fun _ _ _ => False, ownsRow_base h, fun b hb => World.ownsRow.lt h b hb, fun i j hi hj => ?_, fun i j hi hj => hf j hj, fun i j b _ _ hq => hq.elim, fun i j i' j' b _ _ _ _ hq => hq.elim⟩
  rw [made_at z n k i j hz hi hj]
  simp [hz, hj]
theorem Below.new1 {w : World} (o : Obj) : Below w.heap.size w (w.alloc o) := (Below.refl _ _).alloc (Nat.le_refl _) _
theorem OwV.fresh {w w' : World} {B : Nat} {v : Value} {d : Dt} (o : OwV w (fun b => B ≤ b ∧ b < w.heap.size) v d) (hb : Below w.heap.size w w') {B' : Nat} (hB : B' ≤ B) : OwV w' (fun b => B' ≤ b ∧ b < w'.heap.size) v d :=
  (o.step hb).mono (fun b h => ⟨Nat.le_trans hB h.1, Nat.lt_of_lt_of_le h.2 hb.size⟩)
/-- What was made since w, once more is laid into variables. -/
theorem OwV.close {w w2 w' : World} {N : Nat} {v : Value} {d : Dt} (B : Below w.heap.size w w2) (o : OwV w2 (fun b => N ≤ b ∧ b < w2.heap.size) v d) (hN : w.heap.size ≤ N) (t : Turned (fun b => w.heap.size ≤ b ∧ b < N) w2 w') :
    OwV w' (fun b => w.heap.size ≤ b ∧ b < w'.heap.size) v d ∧ Below w.heap.size w w' :=
  ⟨(o.keep (t.keeps (fun b hb hs => by omega))).mono (fun b hb => ⟨by omega, Nat.lt_of_lt_of_le hb.2 t.size⟩), Turned.below B t B.size (fun i hi => hi.1)⟩
theorem OwV.close2 {w w2 w' : World} {N M L : Nat} {v v2 : Value} {d d2 : Dt} (B : Below w.heap.size w w2) (o : OwV w2 (fun b => N ≤ b ∧ b < M) v d) (o2 : OwV w2 (fun b => L ≤ b ∧ b < w2.heap.size) v2 d2) (hM : M ≤ L) (hN : w.heap.size ≤ N) (hL : N ≤ L) (t : Turned (fun b => w.heap.size ≤ b ∧ b < N) w2 w') :
    OwV w' (fun b => w.heap.size ≤ b ∧ b < M) v d ∧ OwV w' (fun b => M ≤ b ∧ b < w'.heap.size) v2 d2 ∧ Below w.heap.size w w' :=
  ⟨(o.keep (t.keeps (fun b hb hs => by omega))).mono (fun b hb => ⟨by omega, hb.2⟩), (o2.keep (t.keeps (fun b hb hs => by omega))).mono (fun b hb => ⟨by omega, Nat.lt_of_lt_of_le hb.2 t.size⟩), Turned.below B t B.size (fun i hi => hi.1)⟩
theorem RdV.i {w : World} {S : Nat → Prop} {v : Value} {n : Int} (r : RdV w S v (.int n)) : v = .int .i64 n := r
theorem RdV.o {w : World} {S : Nat → Prop} {v : Value} {b : Bool} (r : RdV w S v (.bool b)) : v = .bool b := r
theorem RdV.old {w : World} {S : Nat → Prop} {v : Value} {d : Dt} (r : RdV w S v d) : ∀ W, Below w.heap.size w W → RdV W S v d := fun W hW => r.step hW
end Go.Proofs.Ythpcmgbienfgoaa
