/- Handles, entries, nodes, trees and operations that came in as arguments, read as data; no condition. -/
import Derived.Test.YthpcmgbienfgoaaEnts
import Derived.ProofKit
import Derived.OpenShut
import Derived.Lib.SmallJoins
import Derived.Deep.Slices
import Derived.Deep.Strs
namespace Go.Proofs.Ythpcmgbienfgoaa
open Go.RowKit Go.Deep Go.ChangeShapes Go.WideShapes
set_option linter.unusedVariables false

section
variable {H : Type} {enc : TypeId × Value → H} {w : World} {held : Bool}

theorem spot_noneT {a : Addr} {v : Value} (h : w.cell? a = some v) : ∃ b off, a = ⟨b, off, none⟩ := by
  obtain ⟨b, off, spot⟩ := a
  have : spot = none := by simpa using World.cell?_spot h
  exact ⟨b, off, by rw [this]⟩
theorem add_plainT (b off i : Nat) : (⟨b, off, none⟩ : Addr).add i = ⟨b, off + i, none⟩ := by
  unfold Addr.add
  by_cases hi : i = 0
  · subst hi; simp
  · simp [hi]

abbrev Old (w : World) : Nat → Prop := fun b => b < w.heap.size

theorem open_bytesT {fuel : Nat} {v : Value} {x : DataW H × List MemPlace} (h : DataW.trod enc Try.prog w 0 (fun _ => true) held fuel 30 [v] = some x) : ∃ zs, RdS w (Old w) v zs := by
  rcases open_ints Try.underlying30 Try.underlying5 (by kernel_rfl) h with ⟨hcs, _⟩ | ⟨a, len, cap, zs, hcs, _, hl, hm, hz, _, hcell, hwz⟩
  · simp only [List.cons.injEq, and_true] at hcs
    exact ⟨[], isBytes_nil, none, 0, 0, hcs, rfl, ⟨Nat.le_refl _, Nat.zero_le _, fun _ => ⟨rfl, rfl⟩⟩, .inl rfl⟩
  · simp only [List.cons.injEq, and_true] at hcs
    simp only [if_true] at hz
    refine ⟨zs.take len, ?_, some a, len, cap, hcs, by simp; omega, ⟨hl, hm, fun e => by cases e⟩, ?_⟩
    · intro j
      by_cases hj : j < len
      · rw [List.getElem?_take, if_pos hj]; exact range_u8 hwz j
      · rw [List.getElem?_take, if_neg hj]; simp
    · by_cases h0 : len = 0
      · exact .inl (by simp [h0])
      · obtain ⟨b, off, rfl⟩ := spot_noneT (w := w) (a := a) (v := .int .u8 (zs.getD 0 0)) (by have := hcell 0 (by omega); simpa [Addr.add] using this)
        have hlt : b < w.heap.size := by have := hcell 0 (by omega); rw [add_plainT] at this; exact block_lt_of_cell this
        refine .inr ⟨b, off, rfl, hlt, hlt, fun i hi => ?_⟩
        have hi' : i < len := by simp at hi; omega
        have := hcell i (by omega)
        rw [add_plainT] at this
        rw [this, List.getElem?_take, if_pos hi']
        simp

/-- A slice of rows, if each row reads. -/
theorem open_rowsT {α : Type} (a0 : α) {T E t : TypeId} {k : Nat} (hT : Try.prog.underlying T = some (.slice E)) (hk : Try.prog.cellsOf E = k) (hk0 : 0 < k) (cell : α → Nat → Dt)
    (hel : ∀ fuel cs x, DataW.trod enc Try.prog w 0 (fun _ => true) held fuel E cs = some x → ∃ a : α, ∀ j, j < k → RdV w (Old w) (cs[j]?.getD undef) (cell a j))
    {fuel : Nat} {v : Value} {x : DataW H × List MemPlace} (h : DataW.trod enc Try.prog w 0 (fun _ => true) held fuel T [v] = some x) : ∃ l : List α, RdV w (Old w) v (.rows t k l.length (fun i j => cell (l[i]?.getD a0) j)) := by
  rcases open_slice hT h with ⟨hcs, _⟩ | ⟨a, len, cap, m, n, D, Pl, hcs, _, hl, hm, hmm, _, hx⟩
  · simp only [List.cons.injEq, and_true] at hcs
    subst hcs
    exact ⟨[], none, 0, fun _ _ => undef, rfl, ⟨Nat.le_refl _, Nat.zero_le _, fun _ => ⟨rfl, rfl⟩⟩, .inl rfl, fun i j hi => absurd hi (Nat.not_lt_zero _)⟩
  · simp only [List.cons.injEq, and_true] at hcs
    subst hcs
    simp only [if_true] at hmm
    subst hmm
    rw [hk] at hx
    haveI : Inhabited α := ⟨a0⟩
    obtain ⟨f, hf⟩ := choose_lt (n := len) (p := fun i (y : α × (Nat → Value)) => ∀ j, j < k → w.cell? (a.add (i * k + j)) = some (y.2 j) ∧ RdV w (Old w) (y.2 j) (cell y.1 j)) (fun i hi => by
      obtain ⟨cs, hc, ht⟩ := hx i (by omega)
      obtain ⟨_, hlen, hcell⟩ := World.cells?_some hc
      obtain ⟨y, hy⟩ := hel n cs _ ht
      refine ⟨(y, fun j => cs[j]?.getD undef), fun j hj => ⟨?_, hy j hj⟩⟩
      have := hcell j (by omega)
      rw [Go.Deep.add_add] at this
      rw [this]
      simp [show j < cs.length by omega])
    refine ⟨(List.range len).map (fun i => (f i).1), ?_⟩
    have hlen : ((List.range len).map (fun i => (f i).1)).length = len := by simp
    rw [hlen]
    refine RdV.mkRows t ⟨some a, _, fun i j => (f i).2 j, rfl, ⟨hl, hm, fun e => by cases e⟩, ?_, fun i j hi hj => by simpa [hi] using (hf i hi j hj).2⟩
    by_cases h0 : len = 0
    · exact .inl h0
    · obtain ⟨b, off, rfl⟩ := spot_noneT (w := w) (a := a) (v := (f 0).2 0) (by have := (hf 0 (by omega) 0 hk0).1; simpa [Addr.add] using this)
      have hlt : b < w.heap.size := by have := (hf 0 (by omega) 0 hk0).1; rw [add_plainT] at this; exact block_lt_of_cell this
      refine .inr ⟨b, off, rfl, hlt, hlt, fun i j hi hj => ?_⟩
      have := (hf i hi j hj).1
      rw [add_plainT] at this
      exact this

set_option maxRecDepth 100000 in
theorem open_handleT {fuel : Nat} {cs : List Value} {x : DataW H × List MemPlace} (h : DataW.trod enc Try.prog w 0 (fun _ => true) held fuel 29 cs = some x) : ∃ h : Hd, cs = [.int .i64 h.sh, .int .i64 h.ino, .bool h.dir] := by
  obtain ⟨y0, y1, y2, n, _, hl, h0, h1, h2⟩ := trod_struct3 Try.underlying29 h
  have k0 : Try.prog.cellsOf 3 = 1 := by kernel_rfl
  have k1 : Try.prog.cellsOf 4 = 1 := by kernel_rfl
  have k2 : Try.prog.cellsOf 29 = 3 := by kernel_rfl
  rw [k2] at hl
  match cs, hl with
  | [c0, c1, c2], _ =>
    simp only [k0, k1, List.drop_zero, List.take_succ_cons, List.take_zero, List.drop_succ_cons] at h0 h1 h2
    obtain ⟨p, e0, _, _⟩ := DataW.trod_int Try.underlying3 h0
    obtain ⟨q, e1, _, _⟩ := DataW.trod_int Try.underlying3 h1
    obtain ⟨b, e2, _⟩ := DataW.trod_bool Try.underlying4 h2
    simp only [List.cons.injEq, and_true] at e0 e1 e2
    subst e0
    subst e1
    subst e2
    exact ⟨⟨p, q, b⟩, rfl⟩
set_option maxRecDepth 100000 in
theorem open_handleA {b0 : Nat} {r : Reach} {v : Value} {x : DataW H} {p : List MemPlace} (hv : Value.okWide Try.prog w r b0 29 v) (h : DataW.Trod enc Try.prog w 0 (fun _ => true) held 29 v x p) : ∃ h : Hd, v = h.v := by
  obtain ⟨cs, rfl, hsz⟩ := okWide_struct Try.underlying29 hv
  obtain ⟨fuel, hf⟩ := h
  obtain ⟨h, e⟩ := open_handleT hf
  refine ⟨h, ?_⟩
  obtain ⟨l⟩ := cs
  have e' : l = _ := e
  subst e'
  rfl

theorem trod_fields1 {t : TypeId} {f0 : Field} {fuel : Nat} {cs : List Value} {x : DataW H × List MemPlace} (ht : Try.prog.underlying t = some (.struct #[f0])) (h : DataW.trod enc Try.prog w 0 (fun _ => true) held fuel t cs = some x) :
    cs.length = Try.prog.cellsOf t ∧ ∃ n, (∃ y, DataW.trod enc Try.prog w 0 (fun _ => true) held n f0.type ((cs.drop f0.offset).take (Try.prog.cellsOf f0.type)) = some y) := by
  obtain ⟨xs, n, _, rfl, hl, hlen, hf⟩ := DataW.trod_struct ht h
  match xs, hlen with
  | [y0], _ => exact ⟨hl, n, ⟨y0, by simpa using hf 0 f0 rfl⟩⟩
theorem trod_fields2 {t : TypeId} {f0 f1 : Field} {fuel : Nat} {cs : List Value} {x : DataW H × List MemPlace} (ht : Try.prog.underlying t = some (.struct #[f0, f1])) (h : DataW.trod enc Try.prog w 0 (fun _ => true) held fuel t cs = some x) :
    cs.length = Try.prog.cellsOf t ∧ ∃ n, (∃ y, DataW.trod enc Try.prog w 0 (fun _ => true) held n f0.type ((cs.drop f0.offset).take (Try.prog.cellsOf f0.type)) = some y) ∧ (∃ y, DataW.trod enc Try.prog w 0 (fun _ => true) held n f1.type ((cs.drop f1.offset).take (Try.prog.cellsOf f1.type)) = some y) := by
  obtain ⟨xs, n, _, rfl, hl, hlen, hf⟩ := DataW.trod_struct ht h
  match xs, hlen with
  | [y0, y1], _ => exact ⟨hl, n, ⟨y0, by simpa using hf 0 f0 rfl⟩, ⟨y1, by simpa using hf 1 f1 rfl⟩⟩
theorem trod_fields5 {t : TypeId} {f0 f1 f2 f3 f4 : Field} {fuel : Nat} {cs : List Value} {x : DataW H × List MemPlace} (ht : Try.prog.underlying t = some (.struct #[f0, f1, f2, f3, f4])) (h : DataW.trod enc Try.prog w 0 (fun _ => true) held fuel t cs = some x) :
    cs.length = Try.prog.cellsOf t ∧ ∃ n, (∃ y, DataW.trod enc Try.prog w 0 (fun _ => true) held n f0.type ((cs.drop f0.offset).take (Try.prog.cellsOf f0.type)) = some y) ∧ (∃ y, DataW.trod enc Try.prog w 0 (fun _ => true) held n f1.type ((cs.drop f1.offset).take (Try.prog.cellsOf f1.type)) = some y) ∧ (∃ y, DataW.trod enc Try.prog w 0 (fun _ => true) held n f2.type ((cs.drop f2.offset).take (Try.prog.cellsOf f2.type)) = some y) ∧ (∃ y, DataW.trod enc Try.prog w 0 (fun _ => true) held n f3.type ((cs.drop f3.offset).take (Try.prog.cellsOf f3.type)) = some y) ∧ (∃ y, DataW.trod enc Try.prog w 0 (fun _ => true) held n f4.type ((cs.drop f4.offset).take (Try.prog.cellsOf f4.type)) = some y) := by
  obtain ⟨xs, n, _, rfl, hl, hlen, hf⟩ := DataW.trod_struct ht h
  match xs, hlen with
  | [y0, y1, y2, y3, y4], _ => exact ⟨hl, n, ⟨y0, by simpa using hf 0 f0 rfl⟩, ⟨y1, by simpa using hf 1 f1 rfl⟩, ⟨y2, by simpa using hf 2 f2 rfl⟩, ⟨y3, by simpa using hf 3 f3 rfl⟩, ⟨y4, by simpa using hf 4 f4 rfl⟩⟩
theorem trod_fields6 {t : TypeId} {f0 f1 f2 f3 f4 f5 : Field} {fuel : Nat} {cs : List Value} {x : DataW H × List MemPlace} (ht : Try.prog.underlying t = some (.struct #[f0, f1, f2, f3, f4, f5])) (h : DataW.trod enc Try.prog w 0 (fun _ => true) held fuel t cs = some x) :
    cs.length = Try.prog.cellsOf t ∧ ∃ n, (∃ y, DataW.trod enc Try.prog w 0 (fun _ => true) held n f0.type ((cs.drop f0.offset).take (Try.prog.cellsOf f0.type)) = some y) ∧ (∃ y, DataW.trod enc Try.prog w 0 (fun _ => true) held n f1.type ((cs.drop f1.offset).take (Try.prog.cellsOf f1.type)) = some y) ∧ (∃ y, DataW.trod enc Try.prog w 0 (fun _ => true) held n f2.type ((cs.drop f2.offset).take (Try.prog.cellsOf f2.type)) = some y) ∧ (∃ y, DataW.trod enc Try.prog w 0 (fun _ => true) held n f3.type ((cs.drop f3.offset).take (Try.prog.cellsOf f3.type)) = some y) ∧ (∃ y, DataW.trod enc Try.prog w 0 (fun _ => true) held n f4.type ((cs.drop f4.offset).take (Try.prog.cellsOf f4.type)) = some y) ∧ (∃ y, DataW.trod enc Try.prog w 0 (fun _ => true) held n f5.type ((cs.drop f5.offset).take (Try.prog.cellsOf f5.type)) = some y) := by
  obtain ⟨xs, n, _, rfl, hl, hlen, hf⟩ := DataW.trod_struct ht h
  match xs, hlen with
  | [y0, y1, y2, y3, y4, y5], _ => exact ⟨hl, n, ⟨y0, by simpa using hf 0 f0 rfl⟩, ⟨y1, by simpa using hf 1 f1 rfl⟩, ⟨y2, by simpa using hf 2 f2 rfl⟩, ⟨y3, by simpa using hf 3 f3 rfl⟩, ⟨y4, by simpa using hf 4 f4 rfl⟩, ⟨y5, by simpa using hf 5 f5 rfl⟩⟩

set_option maxRecDepth 100000 in
theorem open_opT {fuel : Nat} {cs : List Value} {x : DataW H × List MemPlace} (h : DataW.trod enc Try.prog w 0 (fun _ => true) held fuel 32 cs = some x) :
    ∃ (o : OpD) (x y : Value), cs = [.int .i64 o.kind, .int .i64 o.dir.sh, .int .i64 o.dir.ino, .bool o.dir.dir, x, .int .i64 o.to.sh, .int .i64 o.to.ino, .bool o.to.dir, y, .int .i64 o.val] ∧ RdV w (Old w) x (.bytes o.nm) ∧ RdV w (Old w) y (.bytes o.asn) := by
  obtain ⟨hl, n, ⟨y0, h0⟩, ⟨y1, h1⟩, ⟨y2, h2⟩, ⟨y3, h3⟩, ⟨y4, h4⟩, ⟨y5, h5⟩⟩ := trod_fields6 Try.underlying32 h
  have k0 : Try.prog.cellsOf 3 = 1 := by kernel_rfl
  have k1 : Try.prog.cellsOf 29 = 3 := by kernel_rfl
  have k2 : Try.prog.cellsOf 30 = 1 := by kernel_rfl
  have k3 : Try.prog.cellsOf 32 = 10 := by kernel_rfl
  rw [k3] at hl
  match cs, hl with
  | [c0, c1, c2, c3, c4, c5, c6, c7, c8, c9], _ =>
    simp only [k0, k1, k2, List.drop_zero, List.take_succ_cons, List.take_zero, List.drop_succ_cons] at h0 h1 h2 h3 h4 h5
    obtain ⟨p, e0, _, _⟩ := DataW.trod_int Try.underlying3 h0
    obtain ⟨q, e5, _, _⟩ := DataW.trod_int Try.underlying3 h5
    obtain ⟨d, e1⟩ := open_handleT h1
    obtain ⟨t, e3⟩ := open_handleT h3
    obtain ⟨zs, r2⟩ := open_bytesT h2
    obtain ⟨ys, r4⟩ := open_bytesT h4
    simp only [List.cons.injEq, and_true] at e0 e1 e3 e5
    obtain ⟨rfl, rfl, rfl⟩ := e1
    obtain ⟨rfl, rfl, rfl⟩ := e3
    subst e0
    subst e5
    exact ⟨⟨p, d, zs, t, ys, q⟩, c4, c8, rfl, r2, r4⟩
set_option maxRecDepth 100000 in
theorem open_opA {b0 : Nat} {r : Reach} {v : Value} {x : DataW H} {p : List MemPlace} (hv : Value.okWide Try.prog w r b0 32 v) (h : DataW.Trod enc Try.prog w 0 (fun _ => true) held 32 v x p) :
    ∃ o : OpD, ∃ x y, v = opV o x y ∧ RdV w (Old w) x (.bytes o.nm) ∧ RdV w (Old w) y (.bytes o.asn) := by
  obtain ⟨cs, rfl, hsz⟩ := okWide_struct Try.underlying32 hv
  obtain ⟨fuel, hf⟩ := h
  obtain ⟨o, x, y, e, r1, r2⟩ := open_opT hf
  refine ⟨o, x, y, ?_, r1, r2⟩
  obtain ⟨l⟩ := cs
  have e' : l = _ := e
  subst e'
  rfl
end
end Go.Proofs.Ythpcmgbienfgoaa
