/- Handles, entries, nodes, trees and operations that came in as arguments, read as data; no condition. -/
import Derived.Test.YtpilhfkfeghjlaaEnts
import Derived.ProofKit
import Derived.OpenShut
import Derived.Lib.SmallJoins
import Derived.Deep.Slices
import Derived.Deep.Strs
namespace Go.Proofs.Ytpilhfkfeghjlaa
open Go.RowKit Go.Deep Go.ChangeShapes Go.WideShapes
set_option linter.unusedVariables false

section
variable {H : Type} {enc : TypeId × Value → H} {w : World} {held : Bool}

theorem spot_noneT {a : Addr} {v : Value} (h : w.cell? a = some v) : ∃ b off, a = ⟨b, off, none⟩ := by
  obtain ⟨b, off, spot⟩ := a
  have : spot = none := by simpa using World.cell?_spot h
  exact ⟨b, off, by rw [this]⟩
theorem add_plainT (b off i : Nat) : (⟨b, off, none⟩ : Addr).add i = ⟨b, off + i, none⟩ := by
  unfold Addr.add
  by_cases hi : i = 0
  · subst hi; simp
  · simp [hi]

abbrev Old (w : World) : Nat → Prop := fun b => b < w.heap.size

theorem open_bytesT {fuel : Nat} {v : Value} {x : DataW H × List MemPlace} (h : DataW.trod enc Try.prog w 0 (fun _ => true) held fuel 28 [v] = some x) : ∃ zs, RdS w (Old w) v zs := by
  rcases open_ints Try.underlying28 Try.underlying5 (by kernel_rfl) h with ⟨hcs, _⟩ | ⟨a, len, cap, zs, hcs, _, hl, hm, hz, _, hcell, hwz⟩
  · simp only [List.cons.injEq, and_true] at hcs
    exact ⟨[], isBytes_nil, none, 0, 0, hcs, rfl, ⟨Nat.le_refl _, Nat.zero_le _, fun _ => ⟨rfl, rfl⟩⟩, .inl rfl⟩
  · simp only [List.cons.injEq, and_true] at hcs
    simp only [if_true] at hz
    refine ⟨zs.take len, ?_, some a, len, cap, hcs, by simp; omega, ⟨hl, hm, fun e => by cases e⟩, ?_⟩
    · intro j
      by_cases hj : j < len
      · rw [List.getElem?_take, if_pos hj]; exact range_u8 hwz j
      · rw [List.getElem?_take, if_neg hj]; simp
    · by_cases h0 : len = 0
      · exact .inl (by simp [h0])
      · obtain ⟨b, off, rfl⟩ := spot_noneT (w := w) (a := a) (v := .int .u8 (zs.getD 0 0)) (by have := hcell 0 (by omega); simpa [Addr.add] using this)
        have hlt : b < w.heap.size := by have := hcell 0 (by omega); rw [add_plainT] at this; exact block_lt_of_cell this
        refine .inr ⟨b, off, rfl, hlt, hlt, fun i hi => ?_⟩
        have hi' : i < len := by simp at hi; omega
        have := hcell i (by omega)
        rw [add_plainT] at this
        rw [this, List.getElem?_take, if_pos hi']
        simp

/-- A slice of rows, if each row reads. -/
theorem open_rowsT {α : Type} (a0 : α) {T E t : TypeId} {k : Nat} (hT : Try.prog.underlying T = some (.slice E)) (hk : Try.prog.cellsOf E = k) (hk0 : 0 < k) (cell : α → Nat → Dt)
    (hel : ∀ fuel cs x, DataW.trod enc Try.prog w 0 (fun _ => true) held fuel E cs = some x → ∃ a : α, ∀ j, j < k → RdV w (Old w) (cs[j]?.getD undef) (cell a j))
    {fuel : Nat} {v : Value} {x : DataW H × List MemPlace} (h : DataW.trod enc Try.prog w 0 (fun _ => true) held fuel T [v] = some x) : ∃ l : List α, RdV w (Old w) v (.rows t k l.length (fun i j => cell (l[i]?.getD a0) j)) := by
  rcases open_slice hT h with ⟨hcs, _⟩ | ⟨a, len, cap, m, n, D, Pl, hcs, _, hl, hm, hmm, _, hx⟩
  · simp only [List.cons.injEq, and_true] at hcs
    subst hcs
    exact ⟨[], none, 0, fun _ _ => undef, rfl, ⟨Nat.le_refl _, Nat.zero_le _, fun _ => ⟨rfl, rfl⟩⟩, .inl rfl, fun i j hi => absurd hi (Nat.not_lt_zero _)⟩
  · simp only [List.cons.injEq, and_true] at hcs
    subst hcs
    simp only [if_true] at hmm
    subst hmm
    rw [hk] at hx
    haveI : Inhabited α := ⟨a0⟩
    obtain ⟨f, hf⟩ := choose_lt (n := len) (p := fun i (y : α × (Nat → Value)) => ∀ j, j < k → w.cell? (a.add (i * k + j)) = some (y.2 j) ∧ RdV w (Old w) (y.2 j) (cell y.1 j)) (fun i hi => by
      obtain ⟨cs, hc, ht⟩ := hx i (by omega)
      obtain ⟨_, hlen, hcell⟩ := World.cells?_some hc
      obtain ⟨y, hy⟩ := hel n cs _ ht
      refine ⟨(y, fun j => cs[j]?.getD undef), fun j hj => ⟨?_, hy j hj⟩⟩
      have := hcell j (by omega)
      rw [Go.Deep.add_add] at this
      rw [this]
      simp [show j < cs.length by omega])
    refine ⟨(List.range len).map (fun i => (f i).1), ?_⟩
    have hlen : ((List.range len).map (fun i => (f i).1)).length = len := by simp
    rw [hlen]
    refine RdV.mkRows t ⟨some a, _, fun i j => (f i).2 j, rfl, ⟨hl, hm, fun e => by cases e⟩, ?_, fun i j hi hj => by simpa [hi] using (hf i hi j hj).2⟩
    by_cases h0 : len = 0
    · exact .inl h0
    · obtain ⟨b, off, rfl⟩ := spot_noneT (w := w) (a := a) (v := (f 0).2 0) (by have := (hf 0 (by omega) 0 hk0).1; simpa [Addr.add] using this)
      have hlt : b < w.heap.size := by have := (hf 0 (by omega) 0 hk0).1; rw [add_plainT] at this; exact block_lt_of_cell this
      refine .inr ⟨b, off, rfl, hlt, hlt, fun i j hi hj => ?_⟩
      have := (hf i hi j hj).1
      rw [add_plainT] at this
      exact this

set_option maxRecDepth 100000 in
theorem open_handleT {fuel : Nat} {cs : List Value} {x : DataW H × List MemPlace} (h : DataW.trod enc Try.prog w 0 (fun _ => true) held fuel 23 cs = some x) : ∃ h : Hd, cs = [.int .i64 h.sh, .int .i64 h.ino, .bool h.dir] := by
  obtain ⟨y0, y1, y2, n, _, hl, h0, h1, h2⟩ := trod_struct3 Try.underlying23 h
  have k0 : Try.prog.cellsOf 3 = 1 := by kernel_rfl
  have k1 : Try.prog.cellsOf 4 = 1 := by kernel_rfl
  have k2 : Try.prog.cellsOf 23 = 3 := by kernel_rfl
  rw [k2] at hl
  match cs, hl with
  | [c0, c1, c2], _ =>
    simp only [k0, k1, List.drop_zero, List.take_succ_cons, List.take_zero, List.drop_succ_cons] at h0 h1 h2
    obtain ⟨p, e0, _, _⟩ := DataW.trod_int Try.underlying3 h0
    obtain ⟨q, e1, _, _⟩ := DataW.trod_int Try.underlying3 h1
    obtain ⟨b, e2, _⟩ := DataW.trod_bool Try.underlying4 h2
    simp only [List.cons.injEq, and_true] at e0 e1 e2
    subst e0
    subst e1
    subst e2
    exact ⟨⟨p, q, b⟩, rfl⟩
theorem open_handleA {b0 : Nat} {r : Reach} {v : Value} {x : DataW H} {p : List MemPlace} (hv : Value.okWide Try.prog w r b0 23 v) (h : DataW.Trod enc Try.prog w 0 (fun _ => true) held 23 v x p) : ∃ h : Hd, v = h.v := by
  obtain ⟨cs, rfl, hsz⟩ := okWide_struct Try.underlying23 hv
  obtain ⟨fuel, hf⟩ := h
  obtain ⟨h, e⟩ := open_handleT hf
  refine ⟨h, ?_⟩
  obtain ⟨l⟩ := cs
  have e' : l = _ := e
  subst e'
  rfl
end
end Go.Proofs.Ytpilhfkfeghjlaa
