/- A disk that came in as an argument, read as data, is a disk that the walks can read; no condition. -/
import Derived.Test.YtjhaanenkeceiaaDoorDisk
import Derived.ProofKit
import Derived.OpenShut
import Derived.Lib.SmallJoins
import Derived.Deep.Slices
namespace Go.Proofs.YtjhaanenkeceiaaDoor
open Go.RowKit Go.Deep Go.ChangeShapes
set_option linter.unusedVariables false

section
variable {H : Type} {enc : TypeId × Value → H} {w : World} {held : Bool}

theorem spot_none {a : Addr} {v : Value} (h : w.cell? a = some v) : ∃ b off, a = ⟨b, off, none⟩ := by
  obtain ⟨b, off, spot⟩ := a
  have : spot = none := by simpa using World.cell?_spot h
  exact ⟨b, off, by rw [this]⟩
theorem add_plain (b off i : Nat) : (⟨b, off, none⟩ : Addr).add i = ⟨b, off + i, none⟩ := by
  unfold Addr.add
  by_cases hi : i = 0
  · subst hi; simp
  · simp [hi]

theorem open_bytes {fuel : Nat} {v : Value} {x : DataW H × List MemPlace} (h : DataW.trod enc Tryd.prog w 0 (fun _ => true) held fuel 22 [v] = some x) : ∃ zs, RdB w 0 w.heap.size v zs := by
  rcases open_ints Tryd.underlying22 Tryd.underlying5 (by kernel_rfl) h with ⟨hcs, _⟩ | ⟨a, len, cap, zs, hcs, _, hl, hm, hz, _, hcell, hwz⟩
  · simp only [List.cons.injEq, and_true] at hcs
    exact ⟨[], isBytes_nil, none, 0, 0, hcs, rfl, ⟨Nat.le_refl _, Nat.zero_le _, fun _ => ⟨rfl, rfl⟩⟩, .inl rfl⟩
  · simp only [List.cons.injEq, and_true] at hcs
    simp only [if_true] at hz
    refine ⟨zs.take len, ?_, some a, len, cap, hcs, by simp; omega, ⟨hl, hm, fun e => by cases e⟩, ?_⟩
    · intro j
      by_cases hj : j < len
      · rw [List.getElem?_take, if_pos hj]; exact range_u8 hwz j
      · rw [List.getElem?_take, if_neg hj]; simp
    · by_cases h0 : len = 0
      · exact .inl (by simp [h0])
      · obtain ⟨b, off, rfl⟩ := spot_none (w := w) (a := a) (v := .int .u8 (zs.getD 0 0)) (by have := hcell 0 (by omega); simpa [Addr.add] using this)
        refine .inr ⟨b, off, rfl, Nat.zero_le _, ?_, fun i hi => ?_⟩
        · have := hcell 0 (by omega); rw [add_plain] at this; exact block_lt_of_cell this
        · have hi' : i < len := by simp at hi; omega
          have := hcell i (by omega)
          rw [add_plain] at this
          rw [this, List.getElem?_take, if_pos hi']
          simp

theorem open_lists {fuel : Nat} {v : Value} {x : DataW H × List MemPlace} (h : DataW.trod enc Tryd.prog w 0 (fun _ => true) held fuel 23 [v] = some x) : ∃ zss, RdBB w 0 w.heap.size v zss := by
  rcases open_slice1 Tryd.underlying23 (by kernel_rfl) h with ⟨hcs, _⟩ | ⟨a, len, cap, m, n, V, D, Pl, hcs, _, hl, hm, hmm, _, hel⟩
  · simp only [List.cons.injEq, and_true] at hcs
    exact ⟨[], none, 0, 0, fun _ => undef, hcs, rfl, ⟨Nat.le_refl _, Nat.zero_le _, fun _ => ⟨rfl, rfl⟩⟩, .inl rfl, fun i hi => absurd hi (Nat.not_lt_zero _)⟩
  · simp only [List.cons.injEq, and_true] at hcs
    simp only [if_true] at hmm
    subst hmm
    obtain ⟨f, hf⟩ := choose_lt (n := len) (p := fun i zs => RdB w 0 w.heap.size (V i) zs) (fun i hi => open_bytes (hel i (by omega)).2)
    refine ⟨(List.range len).map f, some a, len, m, V, hcs, by simp, ⟨hl, hm, fun e => by cases e⟩, ?_, fun i hi => by simpa [hi] using hf i hi⟩
    by_cases h0 : len = 0
    · exact .inl h0
    · obtain ⟨b, off, rfl⟩ := spot_none (w := w) (a := a) (v := V 0) (by have := (hel 0 (by omega)).1; simpa [Addr.add] using this)
      refine .inr ⟨b, off, rfl, Nat.zero_le _, ?_, fun i hi => ?_⟩
      · have := (hel 0 (by omega)).1; rw [add_plain] at this; exact block_lt_of_cell this
      · have := (hel i (by omega)).1; rw [add_plain] at this; exact this

theorem open_waits {fuel : Nat} {v : Value} {x : DataW H × List MemPlace} (h : DataW.trod enc Tryd.prog w 0 (fun _ => true) held fuel 46 [v] = some x) : ∃ ws, RdWs w 0 w.heap.size v ws := by
  rcases open_slice Tryd.underlying46 h with ⟨hcs, _⟩ | ⟨a, len, cap, m, n, D, Pl, hcs, _, hl, hm, hmm, _, hel⟩
  · simp only [List.cons.injEq, and_true] at hcs
    exact ⟨[], none, 0, 0, fun _ => undef, hcs, rfl, ⟨Nat.le_refl _, Nat.zero_le _, fun _ => ⟨rfl, rfl⟩⟩, .inl rfl, fun i hi => absurd hi (Nat.not_lt_zero _)⟩
  · simp only [List.cons.injEq, and_true] at hcs
    simp only [if_true] at hmm
    subst hmm
    have hcz : Tryd.prog.cellsOf 109 = 2 := by kernel_rfl
    rw [hcz] at hel
    have hone : ∀ i, i < len → ∃ y : Value × Wt, w.cell? (a.add (i * 2)) = some (.int .i64 y.2.1) ∧ w.cell? (a.add (i * 2 + 1)) = some y.1 ∧ RdB w 0 w.heap.size y.1 y.2.2 := fun i hi => by
      obtain ⟨cs, hc, ht⟩ := hel i (by omega)
      obtain ⟨_, hlen, hcell⟩ := World.cells?_some hc
      match cs, hlen with
      | [c0, c1], _ =>
        have h0 := hcell 0 (by omega)
        have h1 := hcell 1 (by omega)
        rw [Go.Deep.add_add] at h0 h1
        obtain ⟨y0, y1, n', _, _, t0, t1⟩ := trod_struct2 Tryd.underlying109 ht
        have k0 : Tryd.prog.cellsOf 3 = 1 := by kernel_rfl
        have k1 : Tryd.prog.cellsOf 22 = 1 := by kernel_rfl
        simp only [k0, k1] at t0 t1
        obtain ⟨p, e0, _, _⟩ := DataW.trod_int Tryd.underlying3 t0
        have e0' : c0 = .int .i64 p := by simpa using e0
        subst e0'
        have t1' : DataW.trod enc Tryd.prog w 0 (fun _ => true) held n' 22 [c1] = some y1 := by simpa using t1
        obtain ⟨zs, hz⟩ := open_bytes t1'
        exact ⟨(c1, (p, zs)), by simpa using h0, by simpa using h1, hz⟩
    obtain ⟨f, hf⟩ := choose_lt (n := len) (p := fun i (y : Value × Wt) => w.cell? (a.add (i * 2)) = some (.int .i64 y.2.1) ∧ w.cell? (a.add (i * 2 + 1)) = some y.1 ∧ RdB w 0 w.heap.size y.1 y.2.2) hone
    refine ⟨(List.range len).map (fun i => (f i).2), some a, len, m, fun i => (f i).1, hcs, by simp, ⟨hl, hm, fun e => by cases e⟩, ?_, fun i hi => by simpa [hi] using (hf i hi).2.2⟩
    by_cases h0 : len = 0
    · exact .inl h0
    · obtain ⟨b, off, rfl⟩ := spot_none (w := w) (a := a) (v := .int .i64 (f 0).2.1) (by have := (hf 0 (by omega)).1; simpa [Addr.add] using this)
      refine .inr ⟨b, off, rfl, Nat.zero_le _, ?_, fun i hi => ?_⟩
      · have := (hf 0 (by omega)).1; rw [add_plain] at this; exact block_lt_of_cell this
      · have h1 := (hf i hi).1
        have h2 := (hf i hi).2.1
        rw [add_plain] at h1 h2
        refine ⟨by simpa [hi] using h1, by simpa [Nat.add_assoc] using h2⟩

set_option maxRecDepth 100000 in
theorem open_disk {b0 : Nat} {r : Reach} {v : Value} {x : DataW H} {p : List MemPlace} (hv : Value.okWide Tryd.prog w r b0 48 v) (h : DataW.Trod enc Tryd.prog w 0 (fun _ => true) held 48 v x p) : ∃ d : Dk, RdD w 0 w.heap.size v d := by
  obtain ⟨c0, c1, y0, y1, n, rfl, _, _, h0, h1⟩ := Go.Joins.open_agg2 Tryd.underlying48 (by kernel_rfl) (by kernel_rfl) hv h
  obtain ⟨zss, hz⟩ := open_lists h0
  obtain ⟨ws, hw⟩ := open_waits h1
  exact ⟨(zss, ws), c0, c1, rfl, hz, hw⟩
end
end Go.Proofs.YtjhaanenkeceiaaDoor
