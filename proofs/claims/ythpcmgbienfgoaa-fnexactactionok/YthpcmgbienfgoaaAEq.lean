/- Actions that read alike are found so by the verifier's helpers. Condition: no more than 2^21 of all. -/
import Derived.Test.YthpcmgbienfgoaaActs0
import Derived.Test.YthpcmgbienfgoaaWEq
namespace Go.Proofs.Ythpcmgbienfgoaa
open Go.RowKit
set_option linter.unusedVariables false
set_option linter.unusedSimpArgs false
set_option maxRecDepth 100000

set_option maxHeartbeats 4000000 in
theorem eqAction_same (x y z x2 y2 z2 : Value) (a : AcD) (S S2 : Nat → Prop) (w : World) (r : RdA w S a x y z) (r2 : RdA w S2 a x2 y2 z2) (hl : szAc a ≤ 2097152) :
    Calls Try.prog 12 #[acV a x y z, acV a x2 y2 z2] w fun q w' => q = .returned (.bool true) ∧ Below w.heap.size w w' := by
  obtain ⟨r1, r2_, r3⟩ := r
  obtain ⟨s1, s2, s3⟩ := r2
  obtain ⟨a1, cap1, rfl⟩ := r1.sliceB
  obtain ⟨a2, cap2, rfl⟩ := r2_.sliceB
  obtain ⟨a3, cap3, rfl, _⟩ := RdV.sliced r3
  obtain ⟨b1, cbp1, rfl⟩ := s1.sliceB
  obtain ⟨b2, cbp2, rfl⟩ := s2.sliceB
  obtain ⟨b3, cbp3, rfl, _⟩ := RdV.sliced s3
  obtain ⟨kd, nd, ii, ⟨ok, ⟨op_, oq, od⟩, nm, ⟨tp, tq, td⟩, asn, ov⟩, kp, tn⟩ := a
  unfold szAc at hl
  dsimp only at r1 r2_ r3 s1 s2 s3 hl ⊢
  have HC1 : Hid (∀ W, Below w.heap.size w W → _) := fun W hW => eqOp_same _ _ _ _ ⟨ok, (op_, oq, od), nm, (tp, tq, td), asn, ov⟩ S S2 W (r1.step hW) (s1.step hW) (r2_.step hW) (s2.step hW) (by dsimp only; omega) (by dsimp only; omega)
  have HC2 : Hid (∀ W, Below w.heap.size w W → _) := fun W hW => eqBoolS_d _ _ kp S S2 W (r3.step hW) (s3.step hW) (by omega)
  clear r1 r2_ r3 s1 s2 s3 hl
  try dsimp only at HC1 HC2 ⊢
  generalize nm.length = n1 at HC1 ⊢
  generalize asn.length = n2 at HC1 ⊢
  generalize kp.length = n3 at HC2 ⊢
  go_enter Try.func12, Try.ntmps12
  go_wp2_with fail
  refine Calls.mono (HC1.out _ (Below.newH2 _ _)) ?_
  rintro e w2 ⟨rfl, b_⟩
  have vA : VarA w2 w.heap.size 42 #[.int .i64 kd, .int .i64 nd, .int .i64 ii, .int .i64 ok, .int .i64 op_, .int .i64 oq, .bool od, .slice a1 n1 cap1, .int .i64 tp, .int .i64 tq, .bool td, .slice a2 n2 cap2, .int .i64 ov, .slice a3 n3 cap3, .int .i64 tn] := VarA.step ((VarA.new w _ _).alloc _) b_
  have vB : VarA w2 (w.heap.size + 1) 42 #[.int .i64 kd, .int .i64 nd, .int .i64 ii, .int .i64 ok, .int .i64 op_, .int .i64 oq, .bool od, .slice b1 n1 cbp1, .int .i64 tp, .int .i64 tq, .bool td, .slice b2 n2 cbp2, .int .i64 ov, .slice b3 n3 cbp3, .int .i64 tn] := by
    have := VarA.step (VarA.new (w.alloc _) _ _) b_
    simpa using this
  have HB : Hid _ := (Below.newH2 (w := w) _ _).trans (b_.mono (by simp; omega))
  clear b_
  obtain ⟨a0_, a1_, a2_, a3_, a4_, a5_, a6_, a7_, a8_, a9_, a10_, a11_, a12_, a13_, a14_⟩ := vA.l15
  obtain ⟨b0_, b1_, b2_, b3_, b4_, b5_, b6_, b7_, b8_, b9_, b10_, b11_, b12_, b13_, b14_⟩ := vB.l15
  go_wp2_with fail
  refine Calls.mono (HC2.out _ HB.out) ?_
  rintro e w3 ⟨rfl, b_⟩
  have vA_ := vA.step b_
  have vB_ := vB.step b_
  have HB_ : Hid _ := HB.out.trans (b_.mono HB.out.size)
  clear vA vB HB b_ a0_ a1_ a2_ a3_ a4_ a5_ a6_ a7_ a8_ a9_ a10_ a11_ a12_ a13_ a14_ b0_ b1_ b2_ b3_ b4_ b5_ b6_ b7_ b8_ b9_ b10_ b11_ b12_ b13_ b14_
  have vA := vA_
  have vB := vB_
  have HB := HB_
  clear vA_ vB_ HB_
  obtain ⟨a0_, a1_, a2_, a3_, a4_, a5_, a6_, a7_, a8_, a9_, a10_, a11_, a12_, a13_, a14_⟩ := vA.l15
  obtain ⟨b0_, b1_, b2_, b3_, b4_, b5_, b6_, b7_, b8_, b9_, b10_, b11_, b12_, b13_, b14_⟩ := vB.l15
  go_wp2
  go_ret
  exact ⟨rfl, HB.out⟩

end Go.Proofs.Ythpcmgbienfgoaa
