/- What the verifier's counting of entries, nodes, trees and operations answers; no condition on them. -/
import Derived.Test.YthpcmgbienfgoaaEnts
namespace Go.Proofs.Ythpcmgbienfgoaa
open Go.RowKit
set_option linter.unusedVariables false

def leftT (n s : Nat) : Int := if n ≤ s then (s : Int) - n else -1

/-- f, summed up over the first j. -/
def psum {α : Type} (f : α → Nat) (l : List α) (j : Nat) : Nat := ((l.take j).map f).sum
theorem psum_zero {α : Type} (f : α → Nat) (l : List α) : psum f l 0 = 0 := by simp [psum]
theorem psum_all {α : Type} (f : α → Nat) (l : List α) : psum f l l.length = (l.map f).sum := by simp [psum]
theorem psum_next {α : Type} (f : α → Nat) (l : List α) (d : α) (j : Nat) (h : j < l.length) : psum f l (j + 1) = psum f l j + f (l[j]?.getD d) := by
  unfold psum
  rw [List.take_succ_eq_append_getElem h, List.map_append, List.sum_append]
  simp [h]
theorem psum_le {α : Type} (f : α → Nat) (l : List α) (j : Nat) : psum f l j ≤ (l.map f).sum := by
  have : (l.map f).sum = ((l.take j).map f).sum + ((l.drop j).map f).sum := by rw [← List.sum_append, ← List.map_append, List.take_append_drop]
  unfold psum
  omega

theorem psum_mono0 {α : Type} (f g : α → Nat) (h : ∀ a, f a ≤ g a) (l : List α) : (l.map f).sum ≤ (l.map g).sum := by
  induction l with
  | nil => simp
  | cons x r ih => have := h x; simp; omega

theorem szByteS_d (v : Value) (zs : List Int) (S : Nat → Prop) (s : Nat) (w : World) (r : RdV w S v (.bytes zs)) (hs : s ≤ 1048576) :
    Calls Try.prog 25 #[v, .int .i64 s] w fun e w' => e = .returned (.int .i64 (leftT zs.length s)) ∧ Below w.heap.size w w' := by
  obtain ⟨a, c, rfl, hh, _⟩ := r.b.reads
  have hm : zs.length ≤ 9223372036854775807 := by have := hh.1; have := hh.2.1; unfold maxLen at this; omega
  generalize zs.length = n at hm ⊢
  unfold leftT
  clear hh
  by_cases hle : n ≤ s
  · rw [if_pos hle]
    go_enter Try.func25, Try.ntmps25
    go_wp2
    go_ret
    exact ⟨rfl, Below.refl _ _⟩
  · rw [if_neg hle]
    go_enter Try.func25, Try.ntmps25
    go_wp2
    go_ret
    exact ⟨rfl, Below.refl _ _⟩

set_option maxHeartbeats 2000000 in
theorem szOp_d (x y : Value) (o : OpD) (S : Nat → Prop) (s : Nat) (w : World) (hs : s ≤ 1048576) (r : RdV w S x (.bytes o.nm)) (r2 : RdV w S y (.bytes o.asn)) :
    Calls Try.prog 13 #[opV o x y, .int .i64 s] w fun e w' => e = .returned (.int .i64 (leftT (o.nm.length + o.asn.length) s)) ∧ Below w.heap.size w w' := by
  obtain ⟨a, cap, rfl⟩ := r.sliceB
  obtain ⟨a2, cap2, rfl⟩ := r2.sliceB
  obtain ⟨kd, ⟨p, q, d⟩, nm, ⟨p2, q2, d2⟩, asn, vl⟩ := o
  dsimp only at r r2 ⊢
  have HS : Hid (∀ W, Below w.heap.size w W → _) := fun W hW => szByteS_d _ nm S s W (r.step hW) hs
  have HS2 : Hid (∀ t W, t ≤ 1048576 → Below w.heap.size w W → _) := fun t W ht hW => szByteS_d _ asn S t W (r2.step hW) ht
  clear r r2
  generalize nm.length = n at HS ⊢
  generalize asn.length = m at HS2 ⊢
  by_cases hle : n ≤ s
  · have hl : leftT n s = ((s - n : Nat) : Int) := by unfold leftT; rw [if_pos hle]; omega
    rw [hl] at HS
    have HS3 := HS2.out (s - n)
    generalize hq : s - n = t at HS HS3
    have HQ : Hid _ := hq
    have hts : t ≤ 1048576 := by omega
    clear hl HS2 hq
    by_cases hle2 : m ≤ t
    · have hl : leftT m t = ((t - m : Nat) : Int) := by unfold leftT; rw [if_pos hle2]; omega
      rw [hl] at HS3
      have HF : Hid (leftT (n + m) s = ((t - m : Nat) : Int)) := by have := HQ.out; show _ = _; unfold leftT; rw [if_pos (by omega)]; omega
      have HS4 : Hid _ := HS3
      clear HS3 hl
      generalize t - m = z at HS4 HF
      rw [HF.out]
      go_enter Try.func13, Try.ntmps13
      go_wp2_with fail
      refine Calls.mono (HS.out _ (Below.newH _)) ?_
      rintro e w2 ⟨rfl, b_⟩
      have vA := VarA.step (VarA.new w _ _) b_
      have HB : Hid _ := (Below.newH (w := w) _).trans (b_.mono (by simp))
      clear b_
      obtain ⟨a0_, a1_, a2_, a3_, a4_, a5_, a6_, a7_, a8_, a9_⟩ := vA.l10
      go_wp2_with fail
      refine Calls.mono (HS4.out _ hts HB.out) ?_
      rintro e w3 ⟨rfl, b_⟩
      go_wp2
      go_ret
      exact ⟨rfl, HB.out.trans (b_.mono HB.out.size)⟩
    · have hl : leftT m t = -1 := by unfold leftT; rw [if_neg hle2]
      rw [hl] at HS3
      have HF : Hid (leftT (n + m) s = -1) := by have := HQ.out; show _ = _; unfold leftT; rw [if_neg (by omega)]
      have HS4 : Hid _ := HS3
      clear HS3 hl
      rw [HF.out]
      go_enter Try.func13, Try.ntmps13
      go_wp2_with fail
      refine Calls.mono (HS.out _ (Below.newH _)) ?_
      rintro e w2 ⟨rfl, b_⟩
      have vA := VarA.step (VarA.new w _ _) b_
      have HB : Hid _ := (Below.newH (w := w) _).trans (b_.mono (by simp))
      clear b_
      obtain ⟨a0_, a1_, a2_, a3_, a4_, a5_, a6_, a7_, a8_, a9_⟩ := vA.l10
      go_wp2_with fail
      refine Calls.mono (HS4.out _ hts HB.out) ?_
      rintro e w3 ⟨rfl, b_⟩
      go_wp2
      go_ret
      exact ⟨rfl, HB.out.trans (b_.mono HB.out.size)⟩
  · have hl : leftT n s = -1 := by unfold leftT; rw [if_neg hle]
    rw [hl] at HS
    have HF : Hid (leftT (n + m) s = -1) := by show _ = _; unfold leftT; rw [if_neg (by omega)]
    clear hl HS2
    rw [HF.out]
    go_enter Try.func13, Try.ntmps13
    go_wp2_with fail
    refine Calls.mono (HS.out _ (Below.newH _)) ?_
    rintro e w2 ⟨rfl, b_⟩
    go_wp2
    go_ret
    exact ⟨rfl, (Below.newH (w := w) _).trans (b_.mono (by simp))⟩
end Go.Proofs.Ythpcmgbienfgoaa
