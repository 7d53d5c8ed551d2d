/- Joined: Dt Hands Ents OpenT Nums. -/
import Derived.Test.YtbnjhjgjmckedaaGreatJ01
import Derived.ProofKit
import Derived.OpenShut
import Derived.Lib.SmallJoins
import Derived.Deep.Slices
import Derived.Deep.Strs

section
/- Data with depth: rows of cells, whatever lies in them, read and owned by the blocks in which they lie; no condition. -/
namespace Go.Proofs.YtbnjhjgjmckedaaGreat
open Go.RowKit
set_option linter.unusedVariables false

/-- Blocks of S are as they were. -/
def Keeps (S : Nat → Prop) (w w' : World) : Prop := w.heap.size ≤ w'.heap.size ∧ ∀ b, S b → b < w.heap.size → w'.heap[b]? = w.heap[b]?
/-- Only blocks of S, and new ones, have turned. -/
structure Turned (S : Nat → Prop) (w w' : World) : Prop where
  os : w'.os = w.os
  tape : w'.tape = w.tape
  output : w'.output = w.output
  size : w.heap.size ≤ w'.heap.size
  block : ∀ k, k < w.heap.size → ¬ S k → w'.heap[k]? = w.heap[k]?
theorem Turned.refl (S : Nat → Prop) (w : World) : Turned S w w := ⟨rfl, rfl, rfl, Nat.le_refl _, fun _ _ _ => rfl⟩
theorem Turned.trans {S : Nat → Prop} {a b c : World} (h : Turned S a b) (k : Turned S b c) : Turned S a c :=
  ⟨k.os.trans h.os, k.tape.trans h.tape, k.output.trans h.output, Nat.le_trans h.size k.size, fun i hi hr => (k.block i (Nat.lt_of_lt_of_le hi h.size) hr).trans (h.block i hi hr)⟩
theorem Turned.wide {S S' : Nat → Prop} {a b : World} (h : Turned S a b) (hs : ∀ k, S k → S' k) : Turned S' a b := ⟨h.os, h.tape, h.output, h.size, fun i hi hr => h.block i hi (fun e => hr (hs i e))⟩
theorem Turned.ofBelow {S : Nat → Prop} {a b : World} (h : Below a.heap.size a b) : Turned S a b := ⟨h.os, h.tape, h.output, h.size, fun i hi _ => h.block i hi⟩
theorem Turned.ofGrown {S : Nat → Prop} {a b : World} {r : Option Nat} (h : a.grownBy b r) (hr : ∀ k, r = some k → S k) : Turned S a b := ⟨h.os, h.tape, h.output, h.size, fun i hi ho => h.block i hi (fun e => ho (hr i e.symm))⟩
theorem Turned.ofDrew {S : Nat → Prop} (a : World) (n : Nat) : Turned S a (a.drewN n) := ⟨rfl, rfl, rfl, Nat.le_refl _, fun _ _ _ => rfl⟩
theorem Turned.set {S : Nat → Prop} {a b : World} (h : Turned S a b) (p : Addr) (u : Value) (hp : S p.block) : Turned S a (b.setCell p u) :=
  h.trans ⟨rfl, rfl, rfl, by simp, fun k _ hr => heap_setCell_other b p k u (fun e => hr (e ▸ hp))⟩
theorem Turned.alloc {S : Nat → Prop} {a b : World} (h : Turned S a b) (o : Obj) : Turned S a (b.alloc o) := h.trans (Turned.ofBelow ((Below.refl _ _).alloc (Nat.le_refl _) _))
theorem Turned.andThen {S : Nat → Prop} {a b c : World} (h : Turned S a b) (hb : Below b.heap.size b c) : Turned S a c := h.trans (Turned.ofBelow hb)
theorem Turned.below {S : Nat → Prop} {B : Nat} {a b c : World} (h : Below B a b) (k : Turned S b c) (hB : B ≤ b.heap.size) (hl : ∀ i, S i → B ≤ i) : Below B a c :=
  h.trans ⟨k.os, k.tape, k.output, k.size, fun i hi => k.block i (by omega) (fun e => by have := hl i e; omega)⟩
theorem Turned.keeps {S T : Nat → Prop} {a b : World} (h : Turned S a b) (hd : ∀ k, T k → ¬ S k) : Keeps T a b := ⟨h.size, fun k hk hlt => h.block k hlt (hd k hk)⟩
theorem Keeps.ofBelow {S : Nat → Prop} {a b : World} (h : Below a.heap.size a b) : Keeps S a b := ⟨h.size, fun k _ hlt => h.block k hlt⟩
theorem Keeps.refl (S : Nat → Prop) (w : World) : Keeps S w w := ⟨Nat.le_refl _, fun _ _ _ => rfl⟩
theorem Keeps.trans {S : Nat → Prop} {a b c : World} (x : Keeps S a b) (y : Keeps S b c) : Keeps S a c := ⟨Nat.le_trans x.1 y.1, fun k hk hlt => (y.2 k hk (Nat.lt_of_lt_of_le hlt x.1)).trans (x.2 k hk hlt)⟩
theorem Keeps.mono {S T : Nat → Prop} {a b : World} (h : Keeps S a b) (hs : ∀ k, T k → S k) : Keeps T a b := ⟨h.1, fun k hk hlt => h.2 k (hs k hk) hlt⟩

/-- v reads as the bytes zs, which lie in a block of S. -/
def RdS (w : World) (S : Nat → Prop) (v : Value) (zs : List Int) : Prop :=
  isBytes zs ∧ ∃ a len cap, v = .slice a len cap ∧ len = zs.length ∧ Headed a len cap ∧
    (zs = [] ∨ ∃ b off, a = some ⟨b, off, none⟩ ∧ S b ∧ b < w.heap.size ∧ ∀ i, i < zs.length → w.cell? ⟨b, off + i, none⟩ = some (.int .u8 (zs[i]?.getD 0)))
theorem RdS.keep {w w' : World} {S : Nat → Prop} {v : Value} {zs : List Int} (r : RdS w S v zs) (t : Keeps S w w') : RdS w' S v zs := by
  obtain ⟨hb, a, len, cap, hv, hl, hh, hc⟩ := r
  refine ⟨hb, a, len, cap, hv, hl, hh, ?_⟩
  rcases hc with h0 | ⟨b, off, ha, h1, h2, hc⟩
  · exact .inl h0
  · exact .inr ⟨b, off, ha, h1, Nat.lt_of_lt_of_le h2 t.1, fun i hi => by rw [World.cell?_of_block (w := w) (t.2 b h1 h2)]; exact hc i hi⟩
theorem RdS.mono {w : World} {S S' : Nat → Prop} {v : Value} {zs : List Int} (r : RdS w S v zs) (t : ∀ b, S b → S' b) : RdS w S' v zs := by
  obtain ⟨hb, a, len, cap, hv, hl, hh, hc⟩ := r
  refine ⟨hb, a, len, cap, hv, hl, hh, ?_⟩
  rcases hc with h0 | ⟨b, off, ha, h1, h2, hc⟩
  · exact .inl h0
  · exact .inr ⟨b, off, ha, t b h1, h2, hc⟩
theorem RdS.reads {w : World} {S : Nat → Prop} {v : Value} {zs : List Int} (r : RdS w S v zs) : ∃ a cap, v = .slice a zs.length cap ∧ Headed a zs.length cap ∧ Reads w a zs := by
  obtain ⟨hb, a, len, cap, hv, hl, hh, hc⟩ := r
  subst hl
  refine ⟨a, cap, hv, hh, hb, ?_⟩
  rcases hc with h0 | ⟨b, off, ha, h3, h4, hc⟩
  · exact .inl h0
  · exact .inr ⟨b, off, ha, h4, hc⟩
theorem RdS.rdB {w : World} {S : Nat → Prop} {v : Value} {zs : List Int} (r : RdS w S v zs) : RdB w 0 w.heap.size v zs := by
  obtain ⟨hb, a, len, cap, hv, hl, hh, hc⟩ := r
  refine ⟨hb, a, len, cap, hv, hl, hh, ?_⟩
  rcases hc with h0 | ⟨b, off, ha, h3, h4, hc⟩
  · exact .inl h0
  · exact .inr ⟨b, off, ha, Nat.zero_le _, h4, hc⟩

theorem ownsRow_base {w : World} {l : Nat} {e : TypeId} {size : Nat} {v : Value} {n : Nat} {xs : List Value} (o : w.ownsRow l e size v n xs) : w.ownsRow 0 e size v n xs :=
  ⟨o.1, o.2.imp id (fun ⟨g, c, cur, hv, _, r⟩ => ⟨g, c, cur, hv, Nat.zero_le _, r⟩)⟩
theorem ownsRow_keep {w w' : World} {l : Nat} {S : Nat → Prop} {e : TypeId} {size : Nat} {v : Value} {n : Nat} {xs : List Value} (o : w.ownsRow l e size v n xs) (hb : ∀ b, v.ownBlock = some b → S b) (t : Keeps S w w') : w'.ownsRow l e size v n xs := by
  obtain ⟨h1, h2⟩ := o
  refine ⟨h1, ?_⟩
  rcases h2 with h2 | ⟨g, c, cur, hv, hg, hh, r⟩
  · exact .inl h2
  · exact .inr ⟨g, c, cur, hv, hg, by rw [t.2 g (hb g (by rw [hv]; rfl)) (lt_of_block hh)]; exact hh, r⟩
theorem rdS_of_owns {w : World} {S : Nat → Prop} {v : Value} {zs : List Int} (hz : isBytes zs) (ho : Owns w 0 v zs) (hs : ∀ b, v.ownBlock = some b → S b) : RdS w S v zs := by
  obtain ⟨a, cap, rfl, h1, h2⟩ := ho.shape
  refine ⟨hz, a, _, cap, rfl, rfl, ⟨h1, h2, ?_⟩, ?_⟩
  · rintro rfl
    rcases ho.2 with ⟨hv, h0⟩ | ⟨g, c, cur, hv, _⟩
    · simp only [Value.slice.injEq, true_and] at hv; omega
    · cases hv
  · rcases (ho.reads hz).2.2 with h0 | ⟨b, off, ha, hb, hc⟩
    · exact .inl h0
    · subst ha
      exact .inr ⟨b, off, rfl, hs b rfl, hb, hc⟩
theorem place_inj {k i j i' j' : Nat} (hj : j < k) (hj' : j' < k) (h : i * k + j = i' * k + j') : i = i' ∧ j = j' := by
  have h1 : (i * k + j) / k = i := by rw [Nat.add_comm, Nat.mul_comm, Nat.add_mul_div_left _ _ (by omega), Nat.div_eq_of_lt hj]; omega
  have h2 : (i' * k + j') / k = i' := by rw [Nat.add_comm, Nat.mul_comm, Nat.add_mul_div_left _ _ (by omega), Nat.div_eq_of_lt hj']; omega
  have h3 : i = i' := by rw [← h1, ← h2, h]
  subst h3
  exact ⟨rfl, by omega⟩
theorem place_lt {k n i j : Nat} (hi : i < n) (hj : j < k) : i * k + j < n * k := by
  have : (i + 1) * k ≤ n * k := Nat.mul_le_mul_right k hi
  rw [Nat.add_mul, Nat.one_mul] at this
  omega

/-- What a cell holds, told by how it is read (rd: all of it in blocks of S) and owned (ow: no block of it outside S, none serving twice). -/
structure Dt where
  rd : World → (Nat → Prop) → Value → Prop
  ow : World → (Nat → Prop) → Value → Prop
  rdKeep : ∀ (w w' : World) (S : Nat → Prop) (v : Value), Keeps S w w' → rd w S v → rd w' S v
  rdMono : ∀ (w : World) (S S' : Nat → Prop) (v : Value), (∀ b, S b → S' b) → rd w S v → rd w S' v
  owKeep : ∀ (w w' : World) (S : Nat → Prop) (v : Value), Keeps S w w' → ow w S v → ow w' S v
  owMono : ∀ (w : World) (S S' : Nat → Prop) (v : Value), (∀ b, S b → S' b) → ow w S v → ow w S' v
  owRd : ∀ (w : World) (S : Nat → Prop) (v : Value), ow w S v → rd w S v
/-- v reads as d, and all of it lies in blocks of S. -/
def RdV (w : World) (S : Nat → Prop) (v : Value) (d : Dt) : Prop := d.rd w S v
/-- v is the call's own and holds d; no block of it lies outside S, none serves twice. -/
def OwV (w : World) (S : Nat → Prop) (v : Value) (d : Dt) : Prop := d.ow w S v
def Dt.int (n : Int) : Dt := ⟨fun _ _ v => v = .int .i64 n, fun _ _ v => v = .int .i64 n, fun _ _ _ _ _ h => h, fun _ _ _ _ _ h => h, fun _ _ _ _ _ h => h, fun _ _ _ _ _ h => h, fun _ _ _ h => h⟩
def Dt.bool (b : Bool) : Dt := ⟨fun _ _ v => v = .bool b, fun _ _ v => v = .bool b, fun _ _ _ _ _ h => h, fun _ _ _ _ _ h => h, fun _ _ _ _ _ h => h, fun _ _ _ _ _ h => h, fun _ _ _ h => h⟩
def Dt.bytes (zs : List Int) : Dt := ⟨fun w S v => RdS w S v zs, fun w S v => isBytes zs ∧ Owns w 0 v zs ∧ ∀ b, v.ownBlock = some b → S b,
  fun _ _ _ _ t h => h.keep t, fun _ _ _ _ t h => h.mono t, fun _ _ _ _ t h => ⟨h.1, ownsRow_keep h.2.1 h.2.2 t, h.2.2⟩, fun _ _ _ _ t h => ⟨h.1, h.2.1, fun b hb => t b (h.2.2 b hb)⟩, fun _ _ _ h => rdS_of_owns h.1 h.2.1 h.2.2⟩
/-- n rows of k cells each, of type t. -/
def RowsRd (k n : Nat) (f : Nat → Nat → Dt) (w : World) (S : Nat → Prop) (v : Value) : Prop :=
  ∃ a cap, ∃ V : Nat → Nat → Value, v = .slice a n cap ∧ Headed a n cap ∧
    (n = 0 ∨ ∃ b off, a = some ⟨b, off, none⟩ ∧ S b ∧ b < w.heap.size ∧ ∀ i j, i < n → j < k → w.cell? ⟨b, off + (i * k + j), none⟩ = some (V i j)) ∧ ∀ i j, i < n → j < k → RdV w S (V i j) (f i j)
def RowsOw (t : TypeId) (k n : Nat) (f : Nat → Nat → Dt) (w : World) (S : Nat → Prop) (v : Value) : Prop :=
  ∃ (V : Nat → Nat → Value) (C : List Value) (Q : Nat → Nat → Nat → Prop), w.ownsRow 0 t k v n C ∧ (∀ b, v.ownBlock = some b → S b) ∧
      (∀ i j, i < n → j < k → C[i * k + j]? = some (V i j)) ∧ (∀ i j, i < n → j < k → OwV w (Q i j) (V i j) (f i j)) ∧ (∀ i j b, i < n → j < k → Q i j b → S b ∧ v.ownBlock ≠ some b) ∧
      (∀ i j i' j' b, i < n → j < k → i' < n → j' < k → Q i j b → Q i' j' b → i = i' ∧ j = j')
theorem RowsRd.keep {k n : Nat} {f : Nat → Nat → Dt} (w w' : World) (S : Nat → Prop) (v : Value) (t : Keeps S w w') (r : RowsRd k n f w S v) : RowsRd k n f w' S v := by
  obtain ⟨a, cap, V, hv, hh, hc, he⟩ := r
  refine ⟨a, cap, V, hv, hh, ?_, fun i j hi hj => (f i j).rdKeep w w' S _ t (he i j hi hj)⟩
  rcases hc with h0 | ⟨b, off, ha, h1, h2, hc⟩
  · exact .inl h0
  · exact .inr ⟨b, off, ha, h1, Nat.lt_of_lt_of_le h2 t.1, fun i j hi hj => by rw [World.cell?_of_block (w := w) (t.2 b h1 h2)]; exact hc i j hi hj⟩
theorem RowsRd.mono {k n : Nat} {f : Nat → Nat → Dt} (w : World) (S S' : Nat → Prop) (v : Value) (t : ∀ b, S b → S' b) (r : RowsRd k n f w S v) : RowsRd k n f w S' v := by
  obtain ⟨a, cap, V, hv, hh, hc, he⟩ := r
  refine ⟨a, cap, V, hv, hh, ?_, fun i j hi hj => (f i j).rdMono w S S' _ t (he i j hi hj)⟩
  rcases hc with h0 | ⟨b, off, ha, h1, h2, hc⟩
  · exact .inl h0
  · exact .inr ⟨b, off, ha, t b h1, h2, hc⟩
theorem RowsOw.keep {t : TypeId} {k n : Nat} {f : Nat → Nat → Dt} (w w' : World) (S : Nat → Prop) (v : Value) (hk : Keeps S w w') (r : RowsOw t k n f w S v) : RowsOw t k n f w' S v := by
  obtain ⟨V, C, Q, h1, h2, h3, h4, h5, h6⟩ := r
  exact ⟨V, C, Q, ownsRow_keep h1 h2 hk, h2, h3, fun i j hi hj => (f i j).owKeep w w' _ _ (hk.mono (fun b hb => (h5 i j b hi hj hb).1)) (h4 i j hi hj), h5, h6⟩
theorem RowsOw.mono {t : TypeId} {k n : Nat} {f : Nat → Nat → Dt} (w : World) (S S' : Nat → Prop) (v : Value) (hs : ∀ b, S b → S' b) (r : RowsOw t k n f w S v) : RowsOw t k n f w S' v := by
  obtain ⟨V, C, Q, h1, h2, h3, h4, h5, h6⟩ := r
  exact ⟨V, C, Q, h1, fun b hb => hs b (h2 b hb), h3, h4, fun i j b hi hj hq => ⟨hs b (h5 i j b hi hj hq).1, (h5 i j b hi hj hq).2⟩, h6⟩
theorem RowsOw.rd {t : TypeId} {k n : Nat} {f : Nat → Nat → Dt} (w : World) (S : Nat → Prop) (v : Value) (r : RowsOw t k n f w S v) : RowsRd k n f w S v := by
  obtain ⟨V, C, Q, h1, h2, h3, h4, h5, h6⟩ := r
  rcases h1.2 with ⟨hv, h0⟩ | ⟨g, c, cur, hv, hg, hh, hnc, hm, _⟩
  · subst hv
    subst h0
    exact ⟨none, 0, V, rfl, ⟨Nat.le_refl _, Nat.zero_le _, fun _ => ⟨rfl, rfl⟩⟩, .inl rfl, fun i j hi => absurd hi (Nat.not_lt_zero _)⟩
  · subst hv
    refine ⟨_, c, V, rfl, ⟨hnc, hm, fun e => by cases e⟩, .inr ⟨g, 0, rfl, h2 g rfl, lt_of_block hh, fun i j hi hj => ?_⟩, fun i j hi hj => (f i j).rdMono w _ S _ (fun b hb => (h5 i j b hi hj hb).1) ((f i j).owRd w _ _ (h4 i j hi hj))⟩
    rw [Nat.zero_add, World.ownsRow.cellAt h1 (i * k + j) (place_lt hi hj)]
    exact h3 i j hi hj
def Dt.rows (t : TypeId) (k n : Nat) (f : Nat → Nat → Dt) : Dt := ⟨RowsRd k n f, RowsOw t k n f, RowsRd.keep, RowsRd.mono, RowsOw.keep, RowsOw.mono, RowsOw.rd⟩
theorem RdV.keep {w w' : World} {S : Nat → Prop} {v : Value} {d : Dt} (t : Keeps S w w') (r : RdV w S v d) : RdV w' S v d := d.rdKeep w w' S v t r
theorem RdV.mono {w : World} {S S' : Nat → Prop} {v : Value} {d : Dt} (t : ∀ b, S b → S' b) (r : RdV w S v d) : RdV w S' v d := d.rdMono w S S' v t r
theorem RdV.step {w w' : World} {S : Nat → Prop} {v : Value} {d : Dt} (r : RdV w S v d) (hb : Below w.heap.size w w') : RdV w' S v d := r.keep (Keeps.ofBelow hb)
theorem RdV.b {w : World} {S : Nat → Prop} {v : Value} {zs : List Int} (r : RdV w S v (.bytes zs)) : RdS w S v zs := r
theorem RdV.sliceB {w : World} {S : Nat → Prop} {v : Value} {zs : List Int} (r : RdV w S v (.bytes zs)) : ∃ a cap, v = .slice a zs.length cap := by obtain ⟨a, cap, h, _⟩ := r.b.reads; exact ⟨a, cap, h⟩
theorem RdV.inv {w : World} {S : Nat → Prop} {v : Value} {t : TypeId} {k n : Nat} {f : Nat → Nat → Dt} (r : RdV w S v (.rows t k n f)) : RowsRd k n f w S v := r
theorem RdV.mkRows {w : World} {S : Nat → Prop} {v : Value} {k n : Nat} {f : Nat → Nat → Dt} (t : TypeId) (r : RowsRd k n f w S v) : RdV w S v (.rows t k n f) := r
/-- Rows, opened. -/
theorem RdV.row {w : World} {S : Nat → Prop} {v : Value} {t : TypeId} {k n : Nat} {f : Nat → Nat → Dt} (r : RdV w S v (.rows t k n f)) :
    ∃ a cap, v = .slice a n cap ∧ Headed a n cap ∧ (n = 0 ∨ ∃ b off, a = some ⟨b, off, none⟩ ∧ b < w.heap.size ∧ S b ∧ ∃ V : Nat → Nat → Value, ∀ i j, i < n → j < k → w.cell? ⟨b, off + (i * k + j), none⟩ = some (V i j) ∧ RdV w S (V i j) (f i j)) := by
  obtain ⟨a, cap, V, rfl, hh, hc, he⟩ := r.inv
  refine ⟨a, cap, rfl, hh, ?_⟩
  rcases hc with h0 | ⟨b, off, ha, h1, h2, hc⟩
  · exact .inl h0
  · exact .inr ⟨b, off, ha, h2, h1, V, fun i j hi hj => ⟨hc i j hi hj, he i j hi hj⟩⟩
theorem RdV.at {w : World} {S : Nat → Prop} {a : Option Addr} {n cap : Nat} {t : TypeId} {k : Nat} {f : Nat → Nat → Dt} (r : RdV w S (.slice a n cap) (.rows t k n f)) {i : Nat} (hi : i < n) :
    ∃ b off, a = some ⟨b, off, none⟩ ∧ b < w.heap.size ∧ S b ∧ ∀ j, j < k → ∃ x, w.cell? ⟨b, off + i * k + j, none⟩ = some x ∧ RdV w S x (f i j) := by
  obtain ⟨a', cap', V, hv, hh, hc, he⟩ := r.inv
  simp only [Value.slice.injEq] at hv
  obtain ⟨rfl, _, rfl⟩ := hv
  rcases hc with h0 | ⟨b, off, ha, h1, h2, hc⟩
  · omega
  · exact ⟨b, off, ha, h2, h1, fun j hj => ⟨V i j, by rw [Nat.add_assoc]; exact hc i j hi hj, he i j hi hj⟩⟩
theorem RdV.sliced {w : World} {S : Nat → Prop} {v : Value} {t : TypeId} {k n : Nat} {f : Nat → Nat → Dt} (r : RdV w S v (.rows t k n f)) : ∃ a cap, v = .slice a n cap ∧ n ≤ maxLen := by
  obtain ⟨a, cap, V, hv, hh, _⟩ := r.inv
  exact ⟨a, cap, hv, Nat.le_trans hh.1 hh.2.1⟩
theorem RdV.congr {w : World} {S : Nat → Prop} {v : Value} {t t' : TypeId} {k n : Nat} {f g : Nat → Nat → Dt} (r : RdV w S v (.rows t k n f)) (h : ∀ i j, i < n → j < k → f i j = g i j) : RdV w S v (.rows t' k n g) := by
  obtain ⟨a, cap, V, rfl, hh, hc, he⟩ := r.inv
  exact ⟨a, cap, V, rfl, hh, hc, fun i j hi hj => h i j hi hj ▸ he i j hi hj⟩
theorem OwV.inv {w : World} {S : Nat → Prop} {v : Value} {t : TypeId} {k n : Nat} {f : Nat → Nat → Dt} (r : OwV w S v (.rows t k n f)) : RowsOw t k n f w S v := r
theorem OwV.mkRows {w : World} {S : Nat → Prop} {v : Value} {t : TypeId} {k n : Nat} {f : Nat → Nat → Dt} (r : RowsOw t k n f w S v) : OwV w S v (.rows t k n f) := r
theorem OwV.mono {w : World} {S S' : Nat → Prop} {v : Value} {d : Dt} (t : ∀ b, S b → S' b) (r : OwV w S v d) : OwV w S' v d := d.owMono w S S' v t r
theorem OwV.rd {w : World} {S : Nat → Prop} {v : Value} {d : Dt} (r : OwV w S v d) : RdV w S v d := d.owRd w S v r
theorem OwV.keep {w w' : World} {S : Nat → Prop} {v : Value} {d : Dt} (t : Keeps S w w') (r : OwV w S v d) : OwV w' S v d := d.owKeep w w' S v t r
theorem OwV.step {w w' : World} {S : Nat → Prop} {v : Value} {d : Dt} (r : OwV w S v d) (hb : Below w.heap.size w w') : OwV w' S v d := r.keep (Keeps.ofBelow hb)
theorem OwV.int {w : World} (S : Nat → Prop) (n : Int) : OwV w S (.int .i64 n) (.int n) := rfl
theorem OwV.bool {w : World} (S : Nat → Prop) (b : Bool) : OwV w S (.bool b) (.bool b) := rfl
theorem RdV.int {w : World} {S : Nat → Prop} (n : Int) : RdV w S (.int .i64 n) (.int n) := rfl
theorem RdV.bool {w : World} {S : Nat → Prop} (b : Bool) : RdV w S (.bool b) (.bool b) := rfl
theorem OwV.congr {w : World} {S : Nat → Prop} {v : Value} {t : TypeId} {k n : Nat} {f g : Nat → Nat → Dt} (r : OwV w S v (.rows t k n f)) (h : ∀ i j, i < n → j < k → f i j = g i j) : OwV w S v (.rows t k n g) := by
  obtain ⟨V, C, Q, h1, h2, h3, h4, h5, h6⟩ := r.inv
  exact ⟨V, C, Q, h1, h2, h3, fun i j hi hj => h i j hi hj ▸ h4 i j hi hj, h5, h6⟩
theorem OwV.b {w : World} {S : Nat → Prop} {v : Value} {zs : List Int} (r : OwV w S v (.bytes zs)) : isBytes zs ∧ Owns w 0 v zs ∧ ∀ b, v.ownBlock = some b → S b := r
theorem OwV.nilB (w : World) (S : Nat → Prop) : OwV w S (.slice none 0 0) (.bytes []) := ⟨isBytes_nil, World.ownsRow_nil _ _ _ _, fun b hb => by cases hb⟩
theorem OwV.nilR (w : World) (S : Nat → Prop) (t : TypeId) (k : Nat) (f : Nat → Nat → Dt) : OwV w S (.slice none 0 0) (.rows t k 0 f) :=
  ⟨fun _ _ => undef, [], fun _ _ _ => False, World.ownsRow_nil _ _ _ _, fun b hb => (by cases hb), fun i j hi => absurd hi (Nat.not_lt_zero _), fun i j hi => absurd hi (Nat.not_lt_zero _), fun i j b hi => absurd hi (Nat.not_lt_zero _), fun i j i' j' b hi => absurd hi (Nat.not_lt_zero _)⟩
theorem OwV.ofOwns {w : World} {B : Nat} {v : Value} {zs : List Int} (hz : isBytes zs) (h : Owns w B v zs) : OwV w (fun b => B ≤ b ∧ b < w.heap.size) v (.bytes zs) := ⟨hz, h.base (Nat.zero_le _), fun b hb => h.lt b hb⟩

/-- f, but d at (i, j). -/
def upd (f : Nat → Nat → Dt) (i j : Nat) (d : Dt) : Nat → Nat → Dt := fun i' j' => if i' = i ∧ j' = j then d else f i' j'
/-- A value that is laid into a cell of rows, with memory of its own. -/
theorem OwV.put {w : World} {S R : Nat → Prop} {g cap : Nat} {t : TypeId} {k n : Nat} {f : Nat → Nat → Dt} (r : OwV w S (.slice (some ⟨g, 0, none⟩) n cap) (.rows t k n f)) {i j : Nat} (hi : i < n) (hj : j < k) {u : Value} {d : Dt} (hu : OwV w R u d) (hd : ∀ b, R b → ¬ S b) :
    OwV (w.setCell ⟨g, i * k + j, none⟩ u) (fun b => S b ∨ R b) (.slice (some ⟨g, 0, none⟩) n cap) (.rows t k n (upd f i j d)) := by
  obtain ⟨V, C, Q, h1, h2, h3, h4, h5, h6⟩ := r.inv
  have hst := h1.stored (i * k + j) u
  have hCl : C.length = n * k := h1.1
  have hg : S g := h2 g rfl
  have kp : ∀ (T : Nat → Prop), (∀ b, T b → b ≠ g) → Keeps T w (w.setCell ⟨g, i * k + j, none⟩ u) := fun T hT => ⟨by simp, fun b hb _ => heap_setCell_other w _ b u (hT b hb)⟩
  refine OwV.mkRows ⟨fun i' j' => if i' = i ∧ j' = j then u else V i' j', C.set (i * k + j) u, fun i' j' => if i' = i ∧ j' = j then R else Q i' j', hst.1, fun b hb => .inl (h2 b hb), fun i' j' hi' hj' => ?_, fun i' j' hi' hj' => ?_, fun i' j' b hi' hj' hq => ?_, fun i1 j1 i2 j2 b hi1 hj1 hi2 hj2 hq1 hq2 => ?_⟩
  · dsimp only
    rw [List.getElem?_set]
    by_cases he : i' = i ∧ j' = j
    · obtain ⟨rfl, rfl⟩ := he
      rw [if_pos rfl, if_pos (by rw [hCl]; exact place_lt hi hj)]; simp
    · rw [if_neg (fun e => he (by have := place_inj hj hj' e; omega)), if_neg he]; exact h3 i' j' hi' hj'
  · dsimp only
    unfold upd
    by_cases he : i' = i ∧ j' = j
    · simp only [he, and_self, if_true]
      exact hu.keep (kp R (fun b hb e => hd b hb (e ▸ hg)))
    · rw [if_neg he, if_neg he, if_neg he]
      exact (h4 i' j' hi' hj').keep (kp _ (fun b hb e => by subst e; exact (h5 i' j' _ hi' hj' hb).2 rfl))
  · dsimp only at hq
    by_cases he : i' = i ∧ j' = j
    · rw [if_pos he] at hq
      exact ⟨.inr hq, fun e => hd b hq (h2 b e)⟩
    · rw [if_neg he] at hq
      exact ⟨.inl (h5 i' j' b hi' hj' hq).1, (h5 i' j' b hi' hj' hq).2⟩
  · dsimp only at hq1 hq2
    by_cases he1 : i1 = i ∧ j1 = j
    · by_cases he2 : i2 = i ∧ j2 = j
      · omega
      · rw [if_pos he1] at hq1; rw [if_neg he2] at hq2
        exact absurd (h5 i2 j2 b hi2 hj2 hq2).1 (hd b hq1)
    · by_cases he2 : i2 = i ∧ j2 = j
      · rw [if_neg he1] at hq1; rw [if_pos he2] at hq2
        exact absurd (h5 i1 j1 b hi1 hj1 hq1).1 (hd b hq2)
      · rw [if_neg he1] at hq1; rw [if_neg he2] at hq2
        exact h6 i1 j1 i2 j2 b hi1 hj1 hi2 hj2 hq1 hq2
/-- .. a number or a flag. -/
theorem OwV.put0 {w : World} {S : Nat → Prop} {g cap : Nat} {t : TypeId} {k n : Nat} {f : Nat → Nat → Dt} (r : OwV w S (.slice (some ⟨g, 0, none⟩) n cap) (.rows t k n f)) {i j : Nat} (hi : i < n) (hj : j < k) {u : Value} {d : Dt} (hu : OwV w (fun _ => False) u d) :
    OwV (w.setCell ⟨g, i * k + j, none⟩ u) S (.slice (some ⟨g, 0, none⟩) n cap) (.rows t k n (upd f i j d)) :=
  (r.put hi hj hu (fun b hb => hb.elim)).mono (fun b hb => hb.elim id False.elim)
theorem OwV.turned {w : World} {S : Nat → Prop} {g cap : Nat} {t : TypeId} {k n : Nat} {f : Nat → Nat → Dt} (r : OwV w S (.slice (some ⟨g, 0, none⟩) n cap) (.rows t k n f)) (o : Nat) (u : Value) : Turned S w (w.setCell ⟨g, o, none⟩ u) := by
  obtain ⟨V, C, Q, h1, h2, h3, h4, h5, h6⟩ := r.inv
  exact Turned.ofGrown (h1.stored o u).2 (fun k hk => by cases hk; exact h2 g rfl)
/-- What lies in a cell of rows, and the way back. -/
theorem OwV.sub {w : World} {S : Nat → Prop} {v : Value} {t : TypeId} {k n : Nat} {f : Nat → Nat → Dt} (r : OwV w S v (.rows t k n f)) {i j : Nat} (hi : i < n) (hj : j < k) :
    ∃ (Q : Nat → Prop) (x : Value) (g cap : Nat), v = .slice (some ⟨g, 0, none⟩) n cap ∧ w.cell? ⟨g, i * k + j, none⟩ = some x ∧ OwV w Q x (f i j) ∧ (∀ b, Q b → S b ∧ b ≠ g) ∧
      ∀ w' d, Turned Q w w' → OwV w' Q x d → OwV w' S v (.rows t k n (upd f i j d)) := by
  obtain ⟨V, C, Q, h1, h2, h3, h4, h5, h6⟩ := r.inv
  rcases h1.2 with ⟨hv, h0⟩ | ⟨g, c, cur, hv, hg, hh, hnc, hm, _⟩
  · omega
  · subst hv
    refine ⟨Q i j, V i j, g, c, rfl, ?_, h4 i j hi hj, fun b hb => ⟨(h5 i j b hi hj hb).1, fun e => (h5 i j b hi hj hb).2 (by rw [e]; rfl)⟩, fun w' d ht hd => ?_⟩
    · rw [World.ownsRow.cellAt h1 (i * k + j) (place_lt hi hj)]; exact h3 i j hi hj
    · refine OwV.mkRows ⟨V, C, Q, ownsRow_keep (S := fun b => b = g) h1 (fun b hb => by cases hb; rfl) (ht.keeps (fun b hb hq => by subst hb; exact (h5 i j _ hi hj hq).2 rfl)), h2, h3, fun i' j' hi' hj' => ?_, h5, h6⟩
      unfold upd
      by_cases he : i' = i ∧ j' = j
      · obtain ⟨rfl, rfl⟩ := he
        rw [if_pos ⟨rfl, rfl⟩]; exact hd
      · rw [if_neg he]
        exact (h4 i' j' hi' hj').keep (ht.keeps (fun b hb hq => he (h6 i' j' i j b hi' hj' hi hj hb hq)))
/-- The head of rows that are the call's own. -/
theorem OwV.head {w : World} {S : Nat → Prop} {v : Value} {t : TypeId} {k n : Nat} {f : Nat → Nat → Dt} (r : OwV w S v (.rows t k n f)) : (v = .slice none 0 0 ∧ n = 0) ∨ ∃ g cap, v = .slice (some ⟨g, 0, none⟩) n cap ∧ S g ∧ g < w.heap.size ∧ (∀ j, w.frozen? ⟨g, j, none⟩ = false) ∧ ∀ j, j < n * k → ∃ u, w.cell? ⟨g, j, none⟩ = some u := by
  obtain ⟨V, C, Q, h1, h2, h3, h4, h5, h6⟩ := r.inv
  rcases h1.2 with ⟨hv, h0⟩ | ⟨g, c, cur, hv, hg, hh, hnc, hm, _⟩
  · exact .inl ⟨hv, h0⟩
  · subst hv
    exact .inr ⟨g, c, rfl, h2 g rfl, lt_of_block hh, fun j => h1.frozenAt j, fun j hj => by rw [h1.cellAt j hj]; exact ⟨_, List.getElem?_eq_getElem (by rw [h1.1]; exact hj)⟩⟩

/-- A variable of type T that holds the cells cs. -/
def VarA (w : World) (b : Nat) (T : TypeId) (cs : Array Value) : Prop := w.heap[b]? = some (.cells cs T (0, 0))
section
variable {w w' : World} {b : Nat} {T : TypeId} {cs : Array Value}
theorem VarA.c (h : VarA w b T cs) (j : Nat) {u : Value} (hu : cs[j]? = some u) : w.cell? ⟨b, j, none⟩ = some u := by rw [cell_of_row _ _ _ _ _ _ h]; exact hu
theorem VarA.f (h : VarA w b T cs) (j : Nat) : w.frozen? ⟨b, j, none⟩ = false := frozen_of_row _ _ _ _ _ h
theorem VarA.lt (h : VarA w b T cs) : b < w.heap.size := lt_of_block h
theorem VarA.step (h : VarA w b T cs) (hb : Below w.heap.size w w') : VarA w' b T cs := (hb.block b h.lt).trans h
theorem VarA.turn {S : Nat → Prop} (h : VarA w b T cs) (t : Turned S w w') (ho : ¬ S b) : VarA w' b T cs := (t.block b h.lt ho).trans h
theorem VarA.new (w : World) (T : TypeId) (cs : Array Value) : VarA (w.alloc (.cells cs T)) w.heap.size T cs := heap_alloc_new w _
theorem VarA.set (h : VarA w b T cs) (j : Nat) (u : Value) : VarA (w.setCell ⟨b, j, none⟩ u) b T (cs.setIfInBounds j u) := heap_setCell_same w b j cs T u h
theorem VarA.aside (h : VarA w b T cs) {p : Addr} (hp : b ≠ p.block) (u : Value) : VarA (w.setCell p u) b T cs := (heap_setCell_other w p b u hp).trans h
theorem VarA.l1 {x0 : Value} (h : VarA w b T #[x0]) : w.cell? ⟨b, 0, none⟩ = some x0 := h.c 0 rfl
theorem VarA.l2 {x0 x1 : Value} (h : VarA w b T #[x0, x1]) : w.cell? ⟨b, 0, none⟩ = some x0 ∧ w.cell? ⟨b, 1, none⟩ = some x1 := ⟨h.c 0 rfl, h.c 1 rfl⟩
theorem VarA.l3 {x0 x1 x2 : Value} (h : VarA w b T #[x0, x1, x2]) : w.cell? ⟨b, 0, none⟩ = some x0 ∧ w.cell? ⟨b, 1, none⟩ = some x1 ∧ w.cell? ⟨b, 2, none⟩ = some x2 := ⟨h.c 0 rfl, h.c 1 rfl, h.c 2 rfl⟩
theorem VarA.l4 {x0 x1 x2 x3 : Value} (h : VarA w b T #[x0, x1, x2, x3]) : w.cell? ⟨b, 0, none⟩ = some x0 ∧ w.cell? ⟨b, 1, none⟩ = some x1 ∧ w.cell? ⟨b, 2, none⟩ = some x2 ∧ w.cell? ⟨b, 3, none⟩ = some x3 := ⟨h.c 0 rfl, h.c 1 rfl, h.c 2 rfl, h.c 3 rfl⟩
theorem VarA.l9 {x0 x1 x2 x3 x4 x5 x6 x7 x8 : Value} (h : VarA w b T #[x0, x1, x2, x3, x4, x5, x6, x7, x8]) : w.cell? ⟨b, 0, none⟩ = some x0 ∧ w.cell? ⟨b, 1, none⟩ = some x1 ∧ w.cell? ⟨b, 2, none⟩ = some x2 ∧ w.cell? ⟨b, 3, none⟩ = some x3 ∧ w.cell? ⟨b, 4, none⟩ = some x4 ∧ w.cell? ⟨b, 5, none⟩ = some x5 ∧ w.cell? ⟨b, 6, none⟩ = some x6 ∧ w.cell? ⟨b, 7, none⟩ = some x7 ∧ w.cell? ⟨b, 8, none⟩ = some x8 := ⟨h.c 0 rfl, h.c 1 rfl, h.c 2 rfl, h.c 3 rfl, h.c 4 rfl, h.c 5 rfl, h.c 6 rfl, h.c 7 rfl, h.c 8 rfl⟩
theorem VarA.l10 {x0 x1 x2 x3 x4 x5 x6 x7 x8 x9 : Value} (h : VarA w b T #[x0, x1, x2, x3, x4, x5, x6, x7, x8, x9]) : w.cell? ⟨b, 0, none⟩ = some x0 ∧ w.cell? ⟨b, 1, none⟩ = some x1 ∧ w.cell? ⟨b, 2, none⟩ = some x2 ∧ w.cell? ⟨b, 3, none⟩ = some x3 ∧ w.cell? ⟨b, 4, none⟩ = some x4 ∧ w.cell? ⟨b, 5, none⟩ = some x5 ∧ w.cell? ⟨b, 6, none⟩ = some x6 ∧ w.cell? ⟨b, 7, none⟩ = some x7 ∧ w.cell? ⟨b, 8, none⟩ = some x8 ∧ w.cell? ⟨b, 9, none⟩ = some x9 := ⟨h.c 0 rfl, h.c 1 rfl, h.c 2 rfl, h.c 3 rfl, h.c 4 rfl, h.c 5 rfl, h.c 6 rfl, h.c 7 rfl, h.c 8 rfl, h.c 9 rfl⟩
theorem VarA.fz (h : VarA w b T cs) : ∀ j, w.frozen? ⟨b, j, none⟩ = false := fun j => h.f j
theorem VarA.alloc (h : VarA w b T cs) (o : Obj) : VarA (w.alloc o) b T cs := ((World.grownBy_alloc w o none).block b h.lt (by simp)).trans h
end

theorem OwV.lt0 {w : World} {S : Nat → Prop} {g n cap : Nat} {t : TypeId} {k : Nat} {f : Nat → Nat → Dt} (r : OwV w S (.slice (some ⟨g, 0, none⟩) n cap) (.rows t k n f)) {i : Nat} (hi : i < n) : g < w.heap.size := by
  obtain ⟨V, C, Q, h1, _⟩ := r.inv
  exact (h1.lt g rfl).2
theorem made_at (z : Array Value) (n k i j : Nat) (hz : z.size = k) (hi : i < n) (hj : j < k) : (madeCells z (n * k)).toList[i * k + j]? = z[j]? := by
  have h1 := place_lt hi hj
  have h2 : (i * k + j) % k = j := by rw [Nat.add_comm, Nat.mul_comm, Nat.add_mul_mod_self_left, Nat.mod_eq_of_lt hj]
  simp [madeCells, h1, hz, h2, hj]
/-- Rows that 'make' laid. -/
theorem OwV.made {w : World} {B g n cap : Nat} {t : TypeId} {k : Nat} {z : Array Value} (hz : z.size = k) (h : w.ownsRow B t k (.slice (some ⟨g, 0, none⟩) n cap) n (madeCells z (n * k)).toList) (f : Nat → Dt) (hf : ∀ j, j < k → OwV w (fun _ => False) (z[j]?.getD undef) (f j)) :
    OwV w (fun b => B ≤ b ∧ b < w.heap.size) (.slice (some ⟨g, 0, none⟩) n cap) (.rows t k n (fun _ j => f j)) := by
  refine OwV.mkRows ⟨fun _ j => z[j]?.getD undef, _, fun _ _ _ => False, ownsRow_base h, fun b hb => World.ownsRow.lt h b hb, fun i j hi hj => ?_, fun i j hi hj => hf j hj, fun i j b _ _ hq => hq.elim, fun i j i' j' b _ _ _ _ hq => hq.elim⟩
  rw [made_at z n k i j hz hi hj]
  simp [hz, hj]
theorem Below.new1 {w : World} (o : Obj) : Below w.heap.size w (w.alloc o) := (Below.refl _ _).alloc (Nat.le_refl _) _
theorem OwV.fresh {w w' : World} {B : Nat} {v : Value} {d : Dt} (o : OwV w (fun b => B ≤ b ∧ b < w.heap.size) v d) (hb : Below w.heap.size w w') {B' : Nat} (hB : B' ≤ B) : OwV w' (fun b => B' ≤ b ∧ b < w'.heap.size) v d :=
  (o.step hb).mono (fun b h => ⟨Nat.le_trans hB h.1, Nat.lt_of_lt_of_le h.2 hb.size⟩)
/-- What was made since w, once more is laid into variables. -/
theorem OwV.close {w w2 w' : World} {N : Nat} {v : Value} {d : Dt} (B : Below w.heap.size w w2) (o : OwV w2 (fun b => N ≤ b ∧ b < w2.heap.size) v d) (hN : w.heap.size ≤ N) (t : Turned (fun b => w.heap.size ≤ b ∧ b < N) w2 w') :
    OwV w' (fun b => w.heap.size ≤ b ∧ b < w'.heap.size) v d ∧ Below w.heap.size w w' :=
  ⟨(o.keep (t.keeps (fun b hb hs => by omega))).mono (fun b hb => ⟨by omega, Nat.lt_of_lt_of_le hb.2 t.size⟩), Turned.below B t B.size (fun i hi => hi.1)⟩
theorem OwV.close2 {w w2 w' : World} {N M L : Nat} {v v2 : Value} {d d2 : Dt} (B : Below w.heap.size w w2) (o : OwV w2 (fun b => N ≤ b ∧ b < M) v d) (o2 : OwV w2 (fun b => L ≤ b ∧ b < w2.heap.size) v2 d2) (hM : M ≤ L) (hN : w.heap.size ≤ N) (hL : N ≤ L) (t : Turned (fun b => w.heap.size ≤ b ∧ b < N) w2 w') :
    OwV w' (fun b => w.heap.size ≤ b ∧ b < M) v d ∧ OwV w' (fun b => M ≤ b ∧ b < w'.heap.size) v2 d2 ∧ Below w.heap.size w w' :=
  ⟨(o.keep (t.keeps (fun b hb hs => by omega))).mono (fun b hb => ⟨by omega, hb.2⟩), (o2.keep (t.keeps (fun b hb hs => by omega))).mono (fun b hb => ⟨by omega, Nat.lt_of_lt_of_le hb.2 t.size⟩), Turned.below B t B.size (fun i hi => hi.1)⟩
theorem RdV.i {w : World} {S : Nat → Prop} {v : Value} {n : Int} (r : RdV w S v (.int n)) : v = .int .i64 n := r
theorem RdV.o {w : World} {S : Nat → Prop} {v : Value} {b : Bool} (r : RdV w S v (.bool b)) : v = .bool b := r
theorem RdV.old {w : World} {S : Nat → Prop} {v : Value} {d : Dt} (r : RdV w S v d) : ∀ W, Below w.heap.size w W → RdV W S v d := fun W hW => r.step hW
end Go.Proofs.YtbnjhjgjmckedaaGreat
end

section
/- Handles: copied, compared, asked whether they may be; no condition. -/
namespace Go.Proofs.YtbnjhjgjmckedaaGreat
open Go.RowKit
set_option linter.unusedVariables false

/-- A handle, as data. -/
abbrev Hd := Int × Int × Bool
abbrev Hd.sh (h : Hd) : Int := h.1
abbrev Hd.ino (h : Hd) : Int := h.2.1
abbrev Hd.dir (h : Hd) : Bool := h.2.2
abbrev Hd.v (h : Hd) : Value := .agg #[.int .i64 h.sh, .int .i64 h.ino, .bool h.dir]

theorem Below.newH {w : World} (o : Obj) : Below w.heap.size w (w.alloc o) := (Below.refl _ _).alloc (Nat.le_refl _) _
theorem Below.newH2 {w : World} (o o' : Obj) : Below w.heap.size w ((w.alloc o).alloc o') := ((Below.refl _ _).alloc (Nat.le_refl _) _).alloc (by simp) _
def HOk (h : Hd) : Bool := decide (0 ≤ h.sh) && (decide (h.sh < 4) && (decide (1 ≤ h.ino) && decide (h.ino ≤ 2147483647)))

theorem specHandleOk_w (h : Hd) (w : World) : Calls Tryz.prog 34 #[h.v] w fun e w' => e = .returned (.bool (HOk h)) ∧ w' = w.alloc (.cells #[.int .i64 h.sh, .int .i64 h.ino, .bool h.dir] 24) := by
  obtain ⟨s, i, d⟩ := h
  go_enter Tryz.func34, Tryz.ntmps34
  go_wp2
  all_goals (go_ret; exact ⟨by first | rfl | (simp_all [HOk] <;> omega), rfl⟩)
theorem specHandleOk_any (h : Hd) (w : World) : Calls Tryz.prog 34 #[h.v] w fun e w' => e = .returned (.bool (HOk h)) ∧ Below w.heap.size w w' :=
  (specHandleOk_w h w).mono fun e w' ⟨he, hw⟩ => ⟨he, by rw [hw]; exact Below.newH _⟩
theorem implHandleOk_w (h : Hd) (w : World) : Calls Tryz.prog 156 #[h.v] w fun e w' => e = .returned (.bool (HOk h)) ∧ w' = w.alloc (.cells #[.int .i64 h.sh, .int .i64 h.ino, .bool h.dir] 24) := by
  obtain ⟨s, i, d⟩ := h
  go_enter Tryz.func156, Tryz.ntmps156
  go_wp2
  all_goals (go_ret; exact ⟨by first | rfl | (simp_all [HOk] <;> omega), rfl⟩)
theorem implHandleOk_any (h : Hd) (w : World) : Calls Tryz.prog 156 #[h.v] w fun e w' => e = .returned (.bool (HOk h)) ∧ Below w.heap.size w w' :=
  (implHandleOk_w h w).mono fun e w' ⟨he, hw⟩ => ⟨he, by rw [hw]; exact Below.newH _⟩
theorem eqHandle_same (h : Hd) (w : World) : Calls Tryz.prog 57 #[h.v, h.v] w fun e w' => e = .returned (.bool true) ∧ Below w.heap.size w w' := by
  obtain ⟨s, i, d⟩ := h
  go_enter Tryz.func57, Tryz.ntmps57
  go_wp2
  all_goals (go_ret; exact ⟨by first | rfl | (simp_all [HOk] <;> omega), by first | exact Below.refl _ _ | exact Below.newH _ | exact Below.newH2 _ _⟩)
end Go.Proofs.YtbnjhjgjmckedaaGreat
end

section
/- Entries, nodes, trees and operations as data; no condition. -/
namespace Go.Proofs.YtbnjhjgjmckedaaGreat
open Go.RowKit
set_option linter.unusedVariables false

structure En where
  nm : List Int
  h : Hd
structure Nd where
  h : Hd
  par : Hd
  links : Int
  val : Int
  es : List En
structure OpD where
  kind : Int
  dir : Hd
  nm : List Int
  to : Hd
  asn : List Int
  val : Int

def hd0 : Hd := (0, 0, false)
def en0 : En := ⟨[], hd0⟩
def nd0 : Nd := ⟨hd0, hd0, 0, 0, []⟩
def enCell (e : En) : Nat → Dt
  | 0 => .bytes e.nm
  | 1 => .int e.h.sh
  | 2 => .int e.h.ino
  | _ => .bool e.h.dir
def ensDt (l : List En) : Dt := .rows 132 4 l.length (fun i j => enCell (l[i]?.getD en0) j)
def ndCell (n : Nd) : Nat → Dt
  | 0 => .int n.h.sh
  | 1 => .int n.h.ino
  | 2 => .bool n.h.dir
  | 3 => .int n.par.sh
  | 4 => .int n.par.ino
  | 5 => .bool n.par.dir
  | 6 => .int n.links
  | 7 => .int n.val
  | _ => ensDt n.es
def ndsDt (l : List Nd) : Dt := .rows 153 9 l.length (fun i j => ndCell (l[i]?.getD nd0) j)

/-- An entry's value, its name's bytes at nm. -/
abbrev enV (nm : Value) (h : Hd) : Value := .agg #[nm, .int .i64 h.sh, .int .i64 h.ino, .bool h.dir]
/-- A node's value, its entries at es. -/
abbrev ndV (n : Nd) (es : Value) : Value := .agg #[.int .i64 n.h.sh, .int .i64 n.h.ino, .bool n.h.dir, .int .i64 n.par.sh, .int .i64 n.par.ino, .bool n.par.dir, .int .i64 n.links, .int .i64 n.val, es]
/-- An operation's value, its texts at x, y. -/
abbrev opV (o : OpD) (x y : Value) : Value := .agg #[.int .i64 o.kind, .int .i64 o.dir.sh, .int .i64 o.dir.ino, .bool o.dir.dir, x, .int .i64 o.to.sh, .int .i64 o.to.ino, .bool o.to.dir, y, .int .i64 o.val]

/-- How much there is of it. -/
def szEns (l : List En) : Nat := l.length + (l.map (fun e => e.nm.length)).sum
def szNds (l : List Nd) : Nat := l.length + (l.map (fun n => szEns n.es)).sum
theorem sum_at {α : Type} (f : α → Nat) : ∀ (l : List α) (i : Nat) (a : α), l[i]? = some a → f a ≤ (l.map f).sum
  | [], i, a, h => by simp at h
  | x :: r, 0, a, h => by simp at h; subst h; simp
  | x :: r, i + 1, a, h => by
    have := sum_at f r i a (by simpa using h)
    simp; omega
theorem szEns_at (l : List En) (i : Nat) : (l[i]?.getD en0).nm.length ≤ szEns l := by
  cases h : l[i]? with
  | none => simp [en0]
  | some a => have := sum_at (fun e : En => e.nm.length) l i a h; simp [szEns]; omega
end Go.Proofs.YtbnjhjgjmckedaaGreat
end

section
/- Handles, entries, nodes, trees and operations that came in as arguments, read as data; no condition. -/
namespace Go.Proofs.YtbnjhjgjmckedaaGreat
open Go.RowKit Go.Deep Go.ChangeShapes Go.WideShapes
set_option linter.unusedVariables false

section
variable {H : Type} {enc : TypeId × Value → H} {w : World} {held : Bool}

theorem spot_noneT {a : Addr} {v : Value} (h : w.cell? a = some v) : ∃ b off, a = ⟨b, off, none⟩ := by
  obtain ⟨b, off, spot⟩ := a
  have : spot = none := by simpa using World.cell?_spot h
  exact ⟨b, off, by rw [this]⟩
theorem add_plainT (b off i : Nat) : (⟨b, off, none⟩ : Addr).add i = ⟨b, off + i, none⟩ := by
  unfold Addr.add
  by_cases hi : i = 0
  · subst hi; simp
  · simp [hi]

abbrev Old (w : World) : Nat → Prop := fun b => b < w.heap.size

theorem open_bytesT {fuel : Nat} {v : Value} {x : DataW H × List MemPlace} (h : DataW.trod enc Tryz.prog w 0 (fun _ => true) held fuel 22 [v] = some x) : ∃ zs, RdS w (Old w) v zs := by
  rcases open_ints Tryz.underlying22 Tryz.underlying5 (by kernel_rfl) h with ⟨hcs, _⟩ | ⟨a, len, cap, zs, hcs, _, hl, hm, hz, _, hcell, hwz⟩
  · simp only [List.cons.injEq, and_true] at hcs
    exact ⟨[], isBytes_nil, none, 0, 0, hcs, rfl, ⟨Nat.le_refl _, Nat.zero_le _, fun _ => ⟨rfl, rfl⟩⟩, .inl rfl⟩
  · simp only [List.cons.injEq, and_true] at hcs
    simp only [if_true] at hz
    refine ⟨zs.take len, ?_, some a, len, cap, hcs, by simp; omega, ⟨hl, hm, fun e => by cases e⟩, ?_⟩
    · intro j
      by_cases hj : j < len
      · rw [List.getElem?_take, if_pos hj]; exact range_u8 hwz j
      · rw [List.getElem?_take, if_neg hj]; simp
    · by_cases h0 : len = 0
      · exact .inl (by simp [h0])
      · obtain ⟨b, off, rfl⟩ := spot_noneT (w := w) (a := a) (v := .int .u8 (zs.getD 0 0)) (by have := hcell 0 (by omega); simpa [Addr.add] using this)
        have hlt : b < w.heap.size := by have := hcell 0 (by omega); rw [add_plainT] at this; exact block_lt_of_cell this
        refine .inr ⟨b, off, rfl, hlt, hlt, fun i hi => ?_⟩
        have hi' : i < len := by simp at hi; omega
        have := hcell i (by omega)
        rw [add_plainT] at this
        rw [this, List.getElem?_take, if_pos hi']
        simp

end
end Go.Proofs.YtbnjhjgjmckedaaGreat
end

section
/- The numbers' bytes as a plain function, and that both the program's and the specification's GetNum compute it. Conditions: at most 2^20 bytes (what both are called with here). -/
namespace Go.Proofs.YtbnjhjgjmckedaaGreat
open Go.RowKit
set_option linter.unusedVariables false

/-- Reads a number from the head of a list of bytes: i bytes were read, n is their sum, sc the next one's weight, f more may come. -/
def getLoop : Nat → List Int → Nat → Int → Int → Option (Int × Nat)
  | 0, _, _, _, _ => none
  | _ + 1, [], _, _, _ => none
  | f + 1, x :: r, i, n, sc =>
    if 128 ≤ x then getLoop f r (i + 1) (n + (x - 128) * sc) (sc * 128)
    else if (0 < i ∧ x = 0) ∨ 2147483647 < n + x * sc then none else some (n + x * sc, i + 1)

def getNum (zs : List Int) (p : Int) : Int × Int :=
  if p < 0 then (0, -1) else match getLoop 5 (zs.drop p.toNat) 0 0 1 with
    | none => (0, -1)
    | some (n, c) => (n, p + c)

theorem getLoop_nil (f i : Nat) (n sc : Int) : getLoop f [] i n sc = none := by cases f <;> rfl
theorem getLoop_more {f : Nat} {x : Int} {r : List Int} {i : Nat} {n sc : Int} (h : 128 ≤ x) : getLoop (f + 1) (x :: r) i n sc = getLoop f r (i + 1) (n + (x - 128) * sc) (sc * 128) := by
  rw [getLoop, if_pos h]
theorem getLoop_bad {f : Nat} {x : Int} {r : List Int} {i : Nat} {n sc : Int} (h : ¬ 128 ≤ x) (h2 : (0 < i ∧ x = 0) ∨ 2147483647 < n + x * sc) : getLoop (f + 1) (x :: r) i n sc = none := by
  rw [getLoop, if_neg h, if_pos h2]
theorem getLoop_end {f : Nat} {x : Int} {r : List Int} {i : Nat} {n sc : Int} (h : ¬ 128 ≤ x) (h2 : ¬ ((0 < i ∧ x = 0) ∨ 2147483647 < n + x * sc)) : getLoop (f + 1) (x :: r) i n sc = some (n + x * sc, i + 1) := by
  rw [getLoop, if_neg h, if_neg h2]
theorem drop_cons (zs : List Int) (k : Nat) (h : k < zs.length) : zs.drop k = zs[k]?.getD 0 :: zs.drop (k + 1) := by
  rw [List.drop_eq_getElem_cons h]; simp [h]
theorem getNum_none {zs : List Int} {p : Nat} (h : getLoop 5 (zs.drop p) 0 0 1 = none) : getNum zs p = (0, -1) := by
  unfold getNum; rw [if_neg (by omega), Int.toNat_natCast, h]
theorem getNum_some {zs : List Int} {p : Nat} {n : Int} {c : Nat} (h : getLoop 5 (zs.drop p) 0 0 1 = some (n, c)) : getNum zs p = (n, (p : Int) + (c : Int)) := by
  unfold getNum; rw [if_neg (by omega), Int.toNat_natCast, h]

/-- The weight behind i bytes. -/
def wt : Nat → Int
  | 0 => 1
  | 1 => 128
  | 2 => 16384
  | 3 => 2097152
  | 4 => 268435456
  | _ => 34359738368
theorem wt_succ (k : Nat) (h : k < 5) : wt k * 128 = wt (k + 1) := by
  rcases (show k = 0 ∨ k = 1 ∨ k = 2 ∨ k = 3 ∨ k = 4 from by omega) with rfl | rfl | rfl | rfl | rfl <;> rfl
theorem wt_bd (k : Nat) (h : k < 5) : 1 ≤ wt k ∧ wt k ≤ 268435456 := by
  rcases (show k = 0 ∨ k = 1 ∨ k = 2 ∨ k = 3 ∨ k = 4 from by omega) with rfl | rfl | rfl | rfl | rfl <;> decide

/-- What holds at the head of round k of both loops. -/
def At (zs : List Int) (p k : Nat) (n : Int) : Prop := 0 ≤ n ∧ n ≤ wt k ∧ getLoop 5 (zs.drop p) 0 0 1 = getLoop (5 - k) (zs.drop (p + k)) k n (wt k)
theorem At.start (zs : List Int) (p : Nat) : At zs p 0 0 := ⟨by decide, by decide, rfl⟩
theorem At.more {zs : List Int} {p k : Nat} {n c : Int} (h : At zs p k n) (hk : k < 5) (hp : p + k < zs.length) (hc : c = zs[p + k]?.getD 0) (h1 : 128 ≤ c) (h2 : c ≤ 255) : At zs p (k + 1) (n + (c - 128) * wt k) := by
  obtain ⟨a, b, e⟩ := h
  have hw := wt_bd k hk
  have hs := wt_succ k hk
  have m0 : 0 ≤ (c - 128) * wt k := Int.mul_nonneg (by omega) (by omega)
  have m1 : (c - 128) * wt k ≤ 127 * wt k := Int.mul_le_mul_of_nonneg_right (by omega) (by omega)
  refine ⟨by omega, by omega, ?_⟩
  rw [e, drop_cons _ _ hp, ← hc, show 5 - k = (5 - (k + 1)) + 1 by omega, getLoop_more h1, hs]
  rfl
theorem At.out {zs : List Int} {p k : Nat} {n : Int} (h : At zs p k n) (hk : ¬ (k < 5 ∧ p + k < zs.length)) : getNum zs p = (0, -1) := by
  obtain ⟨a, b, e⟩ := h
  apply getNum_none
  rw [e]
  by_cases h5 : k < 5
  · rw [List.drop_eq_nil_of_le (by omega), getLoop_nil]
  · rw [show 5 - k = 0 by omega]; rfl
theorem At.bad {zs : List Int} {p k : Nat} {n c : Int} (h : At zs p k n) (hk : k < 5) (hp : p + k < zs.length) (hc : c = zs[p + k]?.getD 0) (h1 : c < 128) (h2 : (0 < k ∧ c = 0) ∨ 2147483647 < n + c * wt k) : getNum zs p = (0, -1) := by
  obtain ⟨a, b, e⟩ := h
  apply getNum_none
  rw [e, drop_cons _ _ hp, ← hc, show 5 - k = (5 - (k + 1)) + 1 by omega, getLoop_bad (by omega) h2]
theorem At.fin {zs : List Int} {p k : Nat} {n c : Int} (h : At zs p k n) (hk : k < 5) (hp : p + k < zs.length) (hc : c = zs[p + k]?.getD 0) (h1 : c < 128) (h2 : ¬ ((0 < k ∧ c = 0) ∨ 2147483647 < n + c * wt k)) : getNum zs p = (n + c * wt k, (p : Int) + k + 1) := by
  obtain ⟨a, b, e⟩ := h
  rw [getNum_some (n := n + c * wt k) (c := k + 1)]
  · simp; omega
  · rw [e, drop_cons _ _ hp, ← hc, show 5 - k = (5 - (k + 1)) + 1 by omega, getLoop_end (by omega) h2]
theorem mul_bd {c s m : Int} (h0 : 0 ≤ c) (h1 : c ≤ m) (h2 : 1 ≤ s) (h3 : s ≤ 268435456) (hm : m ≤ 255) : 0 ≤ c * s ∧ c * s ≤ 68451041280 := by
  have m0 : 0 ≤ c * s := Int.mul_nonneg (by omega) (by omega)
  have m1 : c * s ≤ 255 * s := Int.mul_le_mul_of_nonneg_right (by omega) (by omega)
  omega

/-- The loops' relation: the sum, the weight, the count. -/
def GRel (zs : List Int) (L p : Nat) (q s i : Value) : Prop :=
  ∃ (k : Nat) (n sc : Int), k ≤ 5 ∧ p + k ≤ L ∧ i = .int .i64 k ∧ q = .int .i64 n ∧ s = .int .i64 sc ∧ Hid (sc = wt k) ∧ Hid (At zs p k n)
theorem GRel.next {zs : List Int} {L p k : Nat} {n sc c : Int} (HL : Hid (zs.length = L)) (HS : Hid (sc = wt k)) (HA : Hid (At zs p k n)) (h5 : k < 5) (hpl : p + k < L) (HC : Hid (c = zs[p + k]?.getD 0)) (hge : 128 ≤ c) (h255 : c ≤ 255) :
    GRel zs L p (.int .i64 (n + (c - 128) * sc)) (.int .i64 (sc * 128)) (.int .i64 ((k : Int) + 1)) :=
  ⟨k + 1, _, _, by omega, by omega, by go_num, rfl, rfl, by show _ = _; rw [HS.out, wt_succ k h5], by have := HA.out.more h5 (by rw [HL.out]; exact hpl) HC.out hge h255; rw [← HS.out] at this; exact this⟩

set_option maxHeartbeats 1000000 in
theorem implGet_in (b off : Nat) (zs : List Int) (cap p : Nat) (w : World) (hb : isBytes zs) (hcell : ∀ i, i < zs.length → w.cell? ⟨b, off + i, none⟩ = some (.int .u8 (zs[i]?.getD 0))) (hl : zs.length ≤ 2097152) (hcap : zs.length ≤ cap) (hcm : cap ≤ maxLen) (hp : p < zs.length) :
    Calls Tryz.prog 85 #[.slice (some ⟨b, off, none⟩) zs.length cap, .int .i64 p] w fun e w' => e = .returned (.tuple #[.int .i64 (getNum zs p).1, .int .i64 (getNum zs p).2]) ∧ w' = w := by
  unfold maxLen at hcm
  obtain ⟨L, hL⟩ : ∃ L, zs.length = L := ⟨_, rfl⟩
  have HL : Hid (zs.length = L) := hL
  rw [hL] at hl hcap hp ⊢
  clear hL
  have HC : Hid (∀ i, i < zs.length → w.cell? ⟨b, off + i, none⟩ = some (.int .u8 (zs[i]?.getD 0))) := hcell
  clear hcell
  go_enter Tryz.func85, Tryz.ntmps85
  go_wp2
  go_loop [7, 8, 9] (fun q s i => GRel zs L p q s i) (fun _ _ i => 5 - (intOf i).toNat)
  case atStart => exact ⟨0, 0, 1, by omega, by omega, rfl, rfl, rfl, rfl, At.start _ _⟩
  case round =>
    obtain ⟨k, n, sc, hk, hpk, rfl, rfl, rfl, HS, HA⟩ := hrel
    by_cases hlt : k < 5 ∧ p + k < L
    · obtain ⟨h5, hpl⟩ := hlt
      have hpl' : p + k < zs.length := by rw [HL.out]; exact hpl
      have hc := HC.out (p + k) hpl'
      have hbd := hb (p + k)
      obtain ⟨c, HCc⟩ : ∃ c, Hid (c = zs[p + k]?.getD 0) := ⟨_, rfl⟩
      rw [← HCc.out] at hc hbd
      have hc' : w.cell? ⟨b, off + p + k, none⟩ = some (.int .u8 c) := by rw [Nat.add_assoc]; exact hc
      have hwb := wt_bd k h5
      rw [← HS.out] at hwb
      have hn0 := HA.out.1
      have hn1 := HA.out.2.1
      rw [← HS.out] at hn1
      obtain ⟨hs1, hs2⟩ := hwb
      obtain ⟨hc0, hc255⟩ := hbd
      have HZ : Hid _ := hpl'
      clear hc hpl' hb
      by_cases hge : 128 ≤ c
      · obtain ⟨hm0, hm1⟩ := mul_bd (c := c - 128) (s := sc) (m := 127) (by omega) (by omega) hs1 hs2 (by omega)
        have HR : Hid _ := GRel.next HL HS HA h5 hpl HCc hge hc255
        go_wp2
        refine ⟨?_, by simp [intOf]; omega⟩
        first | exact HR.out | exact ⟨_, _, _, _, _, HR.out, rfl, rfl, rfl, rfl, rfl⟩
      · obtain ⟨hm0, hm1⟩ := mul_bd (c := c) (s := sc) (m := 127) (by omega) (by omega) hs1 hs2 (by omega)
        by_cases hbad : (0 < k ∧ c = 0) ∨ 2147483647 < n + c * sc
        · have HB : Hid (getNum zs p = (0, -1)) := HA.out.bad h5 HZ.out HCc.out (by omega) (by rw [← HS.out]; exact hbad)
          go_wp2
          all_goals go_ret2
          all_goals exact ⟨by rw [HB.out]; rfl, rfl⟩
        · have HB : Hid (getNum zs p = (n + c * sc, (p : Int) + k + 1)) := by
            have := HA.out.fin h5 HZ.out HCc.out (by omega) (by rw [← HS.out]; exact hbad)
            rw [← HS.out] at this; exact this
          have hle : n + c * sc ≤ 2147483647 := by omega
          by_cases hk0 : 0 < k
          · have hcz : (c == 0) = false := beq_eq_false_iff_ne.2 (fun h => hbad (.inl ⟨hk0, h⟩))
            clear hbad
            go_wp2
            go_ret2
            exact ⟨by rw [HB.out]; rfl, rfl⟩
          · clear hbad
            go_wp2
            go_ret2
            exact ⟨by rw [HB.out]; rfl, rfl⟩
    · have HB : Hid (getNum zs p = (0, -1)) := HA.out.out (by rw [HL.out]; exact hlt)
      by_cases h5 : k < 5
      · have : L - p ≤ k := by omega
        go_wp2
        go_ret2
        exact ⟨by rw [HB.out]; rfl, rfl⟩
      · go_wp2
        go_ret2
        exact ⟨by rw [HB.out]; rfl, rfl⟩

set_option maxHeartbeats 400000 in
theorem implGet_out (a : Option Addr) (L cap : Nat) (p : Int) (w : World) (hl : L ≤ 2097152) (hp : p < 0 ∨ (L : Int) ≤ p) :
    Calls Tryz.prog 85 #[.slice a L cap, .int .i64 p] w fun e w' => e = .returned (.tuple #[.int .i64 0, .int .i64 (-1)]) ∧ w' = w := by
  by_cases h0 : p < 0
  · clear hp
    go_enter Tryz.func85, Tryz.ntmps85
    go_wp2
    go_ret2
    exact ⟨rfl, rfl⟩
  · have h1 : (L : Int) ≤ p := by omega
    clear hp
    go_enter Tryz.func85, Tryz.ntmps85
    go_wp2
    go_ret2
    exact ⟨rfl, rfl⟩

theorem getNum_out (zs : List Int) (p : Int) (hp : p < 0 ∨ (zs.length : Int) ≤ p) : getNum zs p = (0, -1) := by
  unfold getNum
  by_cases h0 : p < 0
  · rw [if_pos h0]
  · rw [if_neg h0, List.drop_eq_nil_of_le (by omega), getLoop_nil]

theorem implGet_any (a : Option Addr) (zs : List Int) (cap : Nat) (p : Int) (w : World) (h : Reads w a zs) (hl : zs.length ≤ 2097152) (hcap : zs.length ≤ cap) (hcm : cap ≤ maxLen) :
    Calls Tryz.prog 85 #[.slice a zs.length cap, .int .i64 p] w fun e w' => e = .returned (.tuple #[.int .i64 (getNum zs p).1, .int .i64 (getNum zs p).2]) ∧ w' = w := by
  by_cases hp : p < 0 ∨ (zs.length : Int) ≤ p
  · rw [getNum_out zs p hp]; exact implGet_out a zs.length cap p w hl hp
  · obtain ⟨q, rfl⟩ : ∃ q : Nat, p = (q : Int) := ⟨p.toNat, by omega⟩
    obtain ⟨hb, hc⟩ := h
    rcases hc with rfl | ⟨b, off, rfl, hbl, hcell⟩
    · simp at hp
    · exact implGet_in b off zs cap q w hb hcell hl hcap hcm (by omega)

set_option maxHeartbeats 1000000 in
theorem specGet_any (a : Option Addr) (zs : List Int) (cap : Nat) (p : Int) (w : World) (h : Reads w a zs) (hl : zs.length ≤ 2097152) (hpb : p ≤ 9223372036854775807) :
    Calls Tryz.prog 92 #[.slice a zs.length cap, .int .i64 p] w fun e w' => e = .returned (.tuple #[.int .i64 (getNum zs p).1, .int .i64 (getNum zs p).2]) ∧ w' = w := by
  obtain ⟨hb, hcc⟩ := h
  by_cases h0 : p < 0
  · rw [getNum_out zs p (.inl h0)]
    clear hcc hb
    go_enter Tryz.func92, Tryz.ntmps92
    go_wp2
    go_ret2
    exact ⟨rfl, rfl⟩
  obtain ⟨p, rfl⟩ : ∃ q : Nat, p = (q : Int) := ⟨p.toNat, by omega⟩
  obtain ⟨L, hL⟩ : ∃ L, zs.length = L := ⟨_, rfl⟩
  have HL : Hid (zs.length = L) := hL
  rw [hL] at hl ⊢
  clear hL h0
  by_cases hpL : p ≤ L
  · have HC : Hid (zs = [] ∨ ∃ b off, a = some ⟨b, off, none⟩ ∧ b < w.heap.size ∧ ∀ i, i < zs.length → w.cell? ⟨b, off + i, none⟩ = some (.int .u8 (zs[i]?.getD 0))) := hcc
    clear hcc
    go_enter Tryz.func92, Tryz.ntmps92
    go_wp2
    go_loop [6, 7, 8] (fun q s i => GRel zs L p q s i) (fun _ _ i => 5 - (intOf i).toNat)
    case atStart => exact ⟨0, 0, 1, by omega, by omega, rfl, rfl, rfl, rfl, At.start _ _⟩
    case round =>
      obtain ⟨k, n, sc, hk, hpk, rfl, rfl, rfl, HS, HA⟩ := hrel
      by_cases hlt : k < 5 ∧ p + k < L
      · obtain ⟨h5, hpl⟩ := hlt
        have hpl' : p + k < zs.length := by rw [HL.out]; exact hpl
        rcases HC.out with rfl | ⟨b, off, rfl, hbl, hcell⟩
        · simp at hpl'
        have hc := hcell (p + k) hpl'
        have hbd := hb (p + k)
        obtain ⟨c, HCc⟩ : ∃ c, Hid (c = zs[p + k]?.getD 0) := ⟨_, rfl⟩
        rw [← HCc.out] at hc hbd
        have hwb := wt_bd k h5
        rw [← HS.out] at hwb
        have hn0 := HA.out.1
        have hn1 := HA.out.2.1
        rw [← HS.out] at hn1
        obtain ⟨hs1, hs2⟩ := hwb
        obtain ⟨hc0, hc255⟩ := hbd
        have HZ : Hid _ := hpl'
        clear hpl' hb hcell
        by_cases hge : 128 ≤ c
        · obtain ⟨hm0, hm1⟩ := mul_bd (c := c % 128) (s := sc) (m := 127) (by omega) (by omega) hs1 hs2 (by omega)
          have hcm : c % 128 = c - 128 := by omega
          have HR := GRel.next HL HS HA h5 hpl HCc hge hc255
          rw [← hcm] at HR
          have HR' : Hid _ := HR
          clear HR hcm
          go_wp2
          refine ⟨?_, by simp [intOf]; omega⟩
          first | exact HR'.out | exact ⟨_, _, _, _, _, HR'.out, rfl, rfl, rfl, rfl, rfl⟩
        · have hcm : c % 128 = c := by omega
          obtain ⟨hm0, hm1⟩ := mul_bd (c := c) (s := sc) (m := 127) (by omega) (by omega) hs1 hs2 (by omega)
          by_cases hbad : (0 < k ∧ c = 0) ∨ 2147483647 < n + c * sc
          · have HB : Hid (getNum zs p = (0, -1)) := HA.out.bad h5 HZ.out HCc.out (by omega) (by rw [← HS.out]; exact hbad)
            rcases hbad with ⟨hk0, rfl⟩ | hgt
            · go_wp2
              all_goals go_ret2
              all_goals exact ⟨by rw [HB.out]; rfl, rfl⟩
            · have hcz' : (c == 0) = false := by
                apply beq_eq_false_iff_ne.2
                rintro rfl
                rw [Int.zero_mul] at hgt
                omega
              go_wp2
              all_goals go_ret2
              all_goals exact ⟨by rw [HB.out]; rfl, rfl⟩
          · have HB : Hid (getNum zs p = (n + c * sc, (p : Int) + k + 1)) := by
              have := HA.out.fin h5 HZ.out HCc.out (by omega) (by rw [← HS.out]; exact hbad)
              rw [← HS.out] at this; exact this
            have hle : n + c * sc ≤ 2147483647 := by omega
            by_cases hcz : c = 0
            · have hk0 : ¬ 0 < k := fun h => hbad (.inl ⟨h, hcz⟩)
              clear hbad
              have hcz' : (c == 0) = true := by simp [hcz]
              have HCZ : Hid _ := hcz
              clear hcz
              go_wp2
              go_ret2
              exact ⟨by rw [HB.out]; first | rfl | simp, rfl⟩
            · have hcz' : (c == 0) = false := beq_eq_false_iff_ne.2 hcz
              clear hbad hcz
              go_wp2
              go_ret2
              exact ⟨by rw [HB.out]; rfl, rfl⟩
      · have HB : Hid (getNum zs p = (0, -1)) := HA.out.out (by rw [HL.out]; exact hlt)
        by_cases h5 : k < 5
        · have : (L : Int) - (p : Int) ≤ k := by omega
          go_wp2
          go_ret2
          exact ⟨by rw [HB.out]; rfl, rfl⟩
        · go_wp2
          go_ret2
          exact ⟨by rw [HB.out]; rfl, rfl⟩
  · rw [getNum_out zs p (.inr (by rw [HL.out]; omega))]
    clear hcc hb
    have : (L : Int) - (p : Int) ≤ 0 := by omega
    go_enter Tryz.func92, Tryz.ntmps92
    go_wp2
    refine wp_loop_rounds 1 ?_
    rw [rounds_succ]
    go_wp2
    go_ret2
    exact ⟨rfl, rfl⟩
end Go.Proofs.YtbnjhjgjmckedaaGreat
end
