/- May an action be? By the specification and by the program. Condition: no more than 2^21 of all. -/
import Derived.Test.YthpcmgbienfgoaaActs0
import Derived.Test.YthpcmgbienfgoaaWSame
namespace Go.Proofs.Ythpcmgbienfgoaa
open Go.RowKit
set_option linter.unusedVariables false
set_option linter.unusedSimpArgs false
set_option maxRecDepth 100000

set_option maxHeartbeats 4000000 in
theorem specActionOk_any (x y z : Value) (a : AcD) (S : Nat → Prop) (w : World) (r : RdA w S a x y z) (hl : szAc a ≤ 2097152) :
    Calls Try.prog 9 #[acV a x y z] w fun e w' => e = .returned (.bool (AcOk a)) ∧ Below w.heap.size w w' := by
  obtain ⟨r1, r2, r3⟩ := r
  have h1 : a.op.nm.length ≤ 2097152 := by unfold szAc at hl; omega
  have h2 : a.op.asn.length ≤ 2097152 := by unfold szAc at hl; omega
  have HO : Hid (∀ W, Below w.heap.size w W → _) := fun W hW => specOpOk_any x y a.op S W (r1.step hW) (r2.step hW) h1 h2
  have HZ : Hid (∀ W, Below w.heap.size w W → _) := fun W hW => specZOp_any x y a.op S W (r1.step hW) (r2.step hW)
  obtain ⟨a1, cap1, rfl⟩ := r1.sliceB
  obtain ⟨a2, cap2, rfl⟩ := r2.sliceB
  obtain ⟨a3, cap3, rfl, hm⟩ := RdV.sliced r3
  unfold maxLen at hm
  unfold AcOk
  generalize OOk a.op = bo at HO ⊢
  generalize zOp a.op = bz at HZ ⊢
  clear r1 r2 r3 h1 h2 hl
  obtain ⟨kd, nd, ii, ⟨ok, ⟨op_, oq, od⟩, nm, ⟨tp, tq, td⟩, asn, ov⟩, kp, tn⟩ := a
  dsimp only at *
  generalize nm.length = n1 at *
  generalize asn.length = n2 at *
  generalize kp.length = n3 at *
  go_enter Try.func9, Try.ntmps9
  go_wp2_with fail
  all_goals first
    | (refine Calls.mono (HO.out _ (by repeat (first | exact Below.refl _ _ | refine Below.al ?_ _ | refine below_drewN2 ?_ _))) ?_; rintro e w' ⟨rfl, b_⟩; have B_ : Below w.heap.size w w' := (Below.newH (w := w) _).trans (b_.mono (by simp)); go_wp2; all_goals (go_ret; exact ⟨by first | rfl | (simp_all [isEndB, num]; done) | (simp_all [isEndB, num]; omega), B_⟩))
    | (refine Calls.mono (HZ.out _ (by repeat (first | exact Below.refl _ _ | refine Below.al ?_ _ | refine below_drewN2 ?_ _))) ?_; rintro e w' ⟨rfl, b_⟩; have B_ : Below w.heap.size w w' := (Below.newH (w := w) _).trans (b_.mono (by simp)); go_wp2; all_goals (go_ret; exact ⟨by first | rfl | (simp_all [isEndB, num]; done) | (simp_all [isEndB, num]; omega), B_⟩))
    | (go_ret; exact ⟨by first | rfl | (simp_all [isEndB, num]; done) | (simp_all [isEndB, num]; omega), by repeat (first | exact Below.refl _ _ | refine Below.al ?_ _ | refine below_drewN2 ?_ _)⟩)

theorem implEnd_a (n : Int) (w : World) : Calls Try.prog 19 #[.int .i64 n] w fun e w' => e = .returned (.bool (isEndB n)) ∧ w' = w := by
  go_enter Try.func19, Try.ntmps19
  go_wp2
  all_goals (go_ret; exact ⟨by first | rfl | (simp_all [isEndB]; done) | (simp_all [isEndB]; omega), rfl⟩)
set_option maxHeartbeats 4000000 in
theorem implActionOk_any (x y z : Value) (a : AcD) (S : Nat → Prop) (w : World) (r : RdA w S a x y z) (hl : szAc a ≤ 2097152) :
    Calls Try.prog 11 #[acV a x y z] w fun e w' => e = .returned (.bool (AcOk a)) ∧ Below w.heap.size w w' := by
  obtain ⟨r1, r2, r3⟩ := r
  have h1 : a.op.nm.length ≤ 2097152 := by unfold szAc at hl; omega
  have h2 : a.op.asn.length ≤ 2097152 := by unfold szAc at hl; omega
  have HO : Hid (∀ W, Below w.heap.size w W → _) := fun W hW => implOpOk_any x y a.op S W (r1.step hW) (r2.step hW) h1 h2
  have HZ : Hid (∀ W, Below w.heap.size w W → _) := fun W hW => sameOp_zero x y a.op S W (r1.step hW) (r2.step hW)
  have HEN : Hid (∀ (n : Int) (W : World), _) := fun n W => implEnd_a n W
  have HNU : Hid (∀ (n : Int) (W : World), Calls Try.prog 20 #[.int .i64 n] W fun e w' => e = .returned (.bool (num n)) ∧ w' = W) := fun n W => isNumber_any n W
  obtain ⟨a1, cap1, rfl⟩ := r1.sliceB
  obtain ⟨a2, cap2, rfl⟩ := r2.sliceB
  obtain ⟨a3, cap3, rfl, hm⟩ := RdV.sliced r3
  unfold maxLen at hm
  unfold AcOk
  generalize OOk a.op = bo at HO ⊢
  generalize zOp a.op = bz at HZ ⊢
  clear r1 r2 r3 h1 h2 hl
  obtain ⟨kd, nd, ii, ⟨ok, ⟨op_, oq, od⟩, nm, ⟨tp, tq, td⟩, asn, ov⟩, kp, tn⟩ := a
  dsimp only [op0, hd0] at *
  generalize nm.length = n1 at *
  generalize asn.length = n2 at *
  generalize kp.length = n3 at *
  have HE1 : Hid (∀ W : World, _) := fun W => HEN.out nd W
  have HN1 : Hid (∀ W : World, _) := fun W => HNU.out ii W
  generalize isEndB nd = be at HE1 ⊢
  generalize num ii = bn at HN1 ⊢
  clear HEN HNU
  cases be <;> cases bn
  all_goals
    go_enter Try.func11, Try.ntmps11
    go_wp2_with (first | (go_at_call 19; refine Calls.mono (HE1.out _) ?_; rintro e w' ⟨rfl, rfl⟩) | (go_at_call 20; refine Calls.mono (HN1.out _) ?_; rintro e w' ⟨rfl, rfl⟩))
    all_goals first
      | (refine Calls.mono (HO.out _ (by repeat (first | exact Below.refl _ _ | refine Below.al ?_ _ | refine below_drewN2 ?_ _))) ?_; rintro e w' ⟨rfl, b_⟩; have B_ : Below w.heap.size w w' := (Below.newH (w := w) _).trans (b_.mono (by simp)); go_wp2; all_goals (go_ret; exact ⟨by first | rfl | (simp_all; done) | (simp_all; omega), B_⟩))
      | (refine Calls.mono (HZ.out _ (by repeat (first | exact Below.refl _ _ | refine Below.al ?_ _ | refine below_drewN2 ?_ _))) ?_; rintro e w' ⟨rfl, b_⟩; have B_ : Below w.heap.size w w' := (show Below w.heap.size w _ from (by repeat (first | exact Below.refl _ _ | refine Below.al ?_ _ | refine below_drewN2 ?_ _))).trans (b_.mono (by simp; try omega)); go_wp2; all_goals (go_ret; exact ⟨by first | rfl | (simp_all; done) | (simp_all; omega), B_⟩))
      | (go_ret; exact ⟨by first | rfl | (simp_all; done) | (simp_all; omega), (by repeat (first | exact Below.refl _ _ | refine Below.al ?_ _ | refine below_drewN2 ?_ _))⟩)
end Go.Proofs.Ythpcmgbienfgoaa
