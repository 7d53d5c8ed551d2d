/- What the verifier's counting of actions answers; no condition on them. -/
import Derived.Test.YthpcmgbienfgoaaActs0
namespace Go.Proofs.Ythpcmgbienfgoaa
open Go.RowKit
set_option linter.unusedVariables false
set_option linter.unusedSimpArgs false
set_option maxRecDepth 100000

set_option maxHeartbeats 4000000 in
theorem szAction_d (x y z : Value) (a : AcD) (S : Nat → Prop) (s : Nat) (w : World) (hs : s ≤ 1048576) (r : RdA w S a x y z) :
    Calls Try.prog 8 #[acV a x y z, .int .i64 s] w fun e w' => e = .returned (.int .i64 (leftT (szAc a) s)) ∧ Below w.heap.size w w' := by
  obtain ⟨r1, r2, r3⟩ := r
  obtain ⟨a1, cap1, rfl⟩ := r1.sliceB
  obtain ⟨a2, cap2, rfl⟩ := r2.sliceB
  obtain ⟨a3, cap3, rfl, _⟩ := RdV.sliced r3
  obtain ⟨kd, nd, ii, ⟨ok, ⟨op_, oq, od⟩, nm, ⟨tp, tq, td⟩, asn, ov⟩, kp, tn⟩ := a
  unfold szAc
  dsimp only at r1 r2 r3 ⊢
  have HS : Hid (∀ W, Below w.heap.size w W → _) := fun W hW => szOp_d _ _ ⟨ok, (op_, oq, od), nm, (tp, tq, td), asn, ov⟩ S s W hs (r1.step hW) (r2.step hW)
  have HS2 : Hid (∀ t W, t ≤ 1048576 → Below w.heap.size w W → _) := fun t W ht hW => szBoolS_d _ kp S t W (r3.step hW) ht
  clear r1 r2 r3
  dsimp only at HS HS2 ⊢
  generalize nm.length = n1 at *
  generalize asn.length = n2 at *
  generalize kp.length = m at *
  have hnn : n1 + n2 + m = (n1 + n2) + m := rfl
  by_cases hle : n1 + n2 ≤ s
  · have hl : leftT (n1 + n2) s = ((s - (n1 + n2) : Nat) : Int) := by unfold leftT; rw [if_pos hle]; omega
    rw [hl] at HS
    have HS3 := HS2.out (s - (n1 + n2))
    generalize hq : s - (n1 + n2) = t at HS HS3
    have HQ : Hid _ := hq
    have hts : t ≤ 1048576 := by omega
    clear hl HS2 hq hnn
    by_cases hle2 : m ≤ t
    · have hl : leftT m t = ((t - m : Nat) : Int) := by unfold leftT; rw [if_pos hle2]; omega
      rw [hl] at HS3
      have HF : Hid (leftT (n1 + n2 + m) s = ((t - m : Nat) : Int)) := by have := HQ.out; show _ = _; unfold leftT; rw [if_pos (by omega)]; omega
      have HS4 : Hid _ := HS3
      clear HS3 hl
      generalize t - m = z at HS4 HF
      rw [HF.out]
      go_enter Try.func8, Try.ntmps8
      go_wp2_with fail
      refine Calls.mono (HS.out _ (Below.newH _)) ?_
      rintro e w2 ⟨rfl, b_⟩
      have vA := VarA.step (VarA.new w _ _) b_
      have HB : Hid _ := (Below.newH (w := w) _).trans (b_.mono (by simp))
      clear b_
      obtain ⟨a0_, a1_, a2_, a3_, a4_, a5_, a6_, a7_, a8_, a9_, a10_, a11_, a12_, a13_, a14_⟩ := vA.l15
      go_wp2_with fail
      refine Calls.mono (HS4.out _ hts HB.out) ?_
      rintro e w3 ⟨rfl, b_⟩
      go_wp2
      go_ret
      exact ⟨rfl, HB.out.trans (b_.mono HB.out.size)⟩
    · have hl : leftT m t = -1 := by unfold leftT; rw [if_neg hle2]
      rw [hl] at HS3
      have HF : Hid (leftT (n1 + n2 + m) s = -1) := by have := HQ.out; show _ = _; unfold leftT; rw [if_neg (by omega)]
      have HS4 : Hid _ := HS3
      clear HS3 hl
      rw [HF.out]
      go_enter Try.func8, Try.ntmps8
      go_wp2_with fail
      refine Calls.mono (HS.out _ (Below.newH _)) ?_
      rintro e w2 ⟨rfl, b_⟩
      have vA := VarA.step (VarA.new w _ _) b_
      have HB : Hid _ := (Below.newH (w := w) _).trans (b_.mono (by simp))
      clear b_
      obtain ⟨a0_, a1_, a2_, a3_, a4_, a5_, a6_, a7_, a8_, a9_, a10_, a11_, a12_, a13_, a14_⟩ := vA.l15
      go_wp2_with fail
      refine Calls.mono (HS4.out _ hts HB.out) ?_
      rintro e w3 ⟨rfl, b_⟩
      go_wp2
      go_ret
      exact ⟨rfl, HB.out.trans (b_.mono HB.out.size)⟩
  · have hl : leftT (n1 + n2) s = -1 := by unfold leftT; rw [if_neg hle]
    rw [hl] at HS
    have HF : Hid (leftT (n1 + n2 + m) s = -1) := by show _ = _; unfold leftT; rw [if_neg (by omega)]
    clear hl HS2 hnn
    rw [HF.out]
    go_enter Try.func8, Try.ntmps8
    go_wp2_with fail
    refine Calls.mono (HS.out _ (Below.newH _)) ?_
    rintro e w2 ⟨rfl, b_⟩
    go_wp2
    go_ret
    exact ⟨rfl, (Below.newH (w := w) _).trans (b_.mono (by simp))⟩
end Go.Proofs.Ythpcmgbienfgoaa
