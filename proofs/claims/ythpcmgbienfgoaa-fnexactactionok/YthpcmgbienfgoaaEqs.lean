/- Entries, nodes, trees and operations that read alike are found so by the verifier's helpers. Condition: no more than 2^21 of all. -/
import Derived.Test.YthpcmgbienfgoaaEnts
import Derived.Deep.QuietTactic
import Derived.Deep.RegionHeld3
import Derived.BigQuiet
namespace Go.Proofs.Ythpcmgbienfgoaa
open Go.RowKit
set_option linter.unusedVariables false

theorem eqByteS_same (v u : Value) (zs : List Int) (S S2 : Nat → Prop) (w : World) (r : RdV w S v (.bytes zs)) (r2 : RdV w S2 u (.bytes zs)) (hl : zs.length ≤ 2097152) :
    Calls Try.prog 38 #[v, u] w fun e w' => e = .returned (.bool true) ∧ Below w.heap.size w w' := by
  obtain ⟨a, cap, rfl, hh, hr⟩ := r.b.reads
  obtain ⟨a2, cap2, rfl, hh2, hr2⟩ := r2.b.reads
  refine (eqByteS_any a a2 zs zs cap cap2 w hr hr2 hl hl).mono ?_
  rintro e w' ⟨rfl, n, rfl⟩
  exact ⟨by rw [beq_self_eq_true], below_drewN2 (Below.refl _ _) n⟩

set_option maxHeartbeats 2000000 in
theorem eqOp_same (x y x2 y2 : Value) (o : OpD) (S S2 : Nat → Prop) (w : World) (r : RdV w S x (.bytes o.nm)) (r2 : RdV w S2 x2 (.bytes o.nm)) (s : RdV w S y (.bytes o.asn)) (s2 : RdV w S2 y2 (.bytes o.asn)) (hl : o.nm.length ≤ 2097152) (hl2 : o.asn.length ≤ 2097152) :
    Calls Try.prog 23 #[opV o x y, opV o x2 y2] w fun q w' => q = .returned (.bool true) ∧ Below w.heap.size w w' := by
  obtain ⟨a, cap, rfl⟩ := r.sliceB
  obtain ⟨a2, cap2, rfl⟩ := r2.sliceB
  obtain ⟨b, cbp, rfl⟩ := s.sliceB
  obtain ⟨b2, cbp2, rfl⟩ := s2.sliceB
  obtain ⟨kd, ⟨p, q, d⟩, nm, ⟨p2, q2, d2⟩, asn, vl⟩ := o
  have HR : Hid (∀ W, Below w.heap.size w W → _) := r.old
  have HR2 : Hid (∀ W, Below w.heap.size w W → _) := r2.old
  have HS1 : Hid (∀ W, Below w.heap.size w W → _) := s.old
  have HS2_ : Hid (∀ W, Below w.heap.size w W → _) := s2.old
  have HH : Hid (∀ W, _) := fun W => eqHandle_same (p, q, d) W
  have HH2 : Hid (∀ W, _) := fun W => eqHandle_same (p2, q2, d2) W
  have HL : Hid (nm.length ≤ 2097152) := hl
  have HL2 : Hid (asn.length ≤ 2097152) := hl2
  clear r r2 s s2 hl hl2
  dsimp only at HR HR2 HS1 HS2_ ⊢
  generalize nm.length = n0 at HR HR2
  generalize asn.length = n1 at HS1 HS2_
  go_enter Try.func23, Try.ntmps23
  go_wp2_with fail
  refine Calls.mono (HH.out _) ?_
  rintro e w2 ⟨rfl, b_⟩
  have vA : VarA w2 w.heap.size 40 #[.int .i64 kd, .int .i64 p, .int .i64 q, .bool d, .slice a n0 cap, .int .i64 p2, .int .i64 q2, .bool d2, .slice b n1 cbp, .int .i64 vl] := VarA.step ((VarA.new w _ _).alloc _) b_
  have vB : VarA w2 (w.heap.size + 1) 40 #[.int .i64 kd, .int .i64 p, .int .i64 q, .bool d, .slice a2 n0 cap2, .int .i64 p2, .int .i64 q2, .bool d2, .slice b2 n1 cbp2, .int .i64 vl] := by
    have := VarA.step (VarA.new (w.alloc _) _ _) b_
    simpa using this
  have HB : Hid _ := (Below.newH2 (w := w) _ _).trans (b_.mono (by simp; omega))
  clear b_
  obtain ⟨a0_, a1_, a2_, a3_, a4_, a5_, a6_, a7_, a8_, a9_⟩ := vA.l10
  obtain ⟨b0_, b1_, b2_, b3_, b4_, b5_, b6_, b7_, b8_, b9_⟩ := vB.l10
  go_wp2_with fail
  refine Calls.mono (eqByteS_same _ _ nm S S2 _ (HR.out _ HB.out) (HR2.out _ HB.out) HL.out) ?_
  rintro e w3 ⟨rfl, b_⟩
  have vA_ := vA.step b_
  have vB_ := vB.step b_
  have HB_ : Hid _ := HB.out.trans (b_.mono HB.out.size)
  clear vA vB HB b_ a0_ a1_ a2_ a3_ a4_ a5_ a6_ a7_ a8_ a9_ b0_ b1_ b2_ b3_ b4_ b5_ b6_ b7_ b8_ b9_
  have vA := vA_
  have vB := vB_
  have HB := HB_
  clear vA_ vB_ HB_
  obtain ⟨a0_, a1_, a2_, a3_, a4_, a5_, a6_, a7_, a8_, a9_⟩ := vA.l10
  obtain ⟨b0_, b1_, b2_, b3_, b4_, b5_, b6_, b7_, b8_, b9_⟩ := vB.l10
  go_wp2_with fail
  refine Calls.mono (HH2.out _) ?_
  rintro e w4 ⟨rfl, b_⟩
  have vA_ := vA.step b_
  have vB_ := vB.step b_
  have HB_ : Hid _ := HB.out.trans (b_.mono HB.out.size)
  clear vA vB HB b_ a0_ a1_ a2_ a3_ a4_ a5_ a6_ a7_ a8_ a9_ b0_ b1_ b2_ b3_ b4_ b5_ b6_ b7_ b8_ b9_
  have vA := vA_
  have vB := vB_
  have HB := HB_
  clear vA_ vB_ HB_
  obtain ⟨a0_, a1_, a2_, a3_, a4_, a5_, a6_, a7_, a8_, a9_⟩ := vA.l10
  obtain ⟨b0_, b1_, b2_, b3_, b4_, b5_, b6_, b7_, b8_, b9_⟩ := vB.l10
  go_wp2_with fail
  refine Calls.mono (eqByteS_same _ _ asn S S2 _ (HS1.out _ HB.out) (HS2_.out _ HB.out) HL2.out) ?_
  rintro e w5 ⟨rfl, b_⟩
  have vA_ := vA.step b_
  have vB_ := vB.step b_
  have HB_ : Hid _ := HB.out.trans (b_.mono HB.out.size)
  clear vA vB HB b_ a0_ a1_ a2_ a3_ a4_ a5_ a6_ a7_ a8_ a9_ b0_ b1_ b2_ b3_ b4_ b5_ b6_ b7_ b8_ b9_
  have vA := vA_
  have vB := vB_
  have HB := HB_
  clear vA_ vB_ HB_
  obtain ⟨a0_, a1_, a2_, a3_, a4_, a5_, a6_, a7_, a8_, a9_⟩ := vA.l10
  obtain ⟨b0_, b1_, b2_, b3_, b4_, b5_, b6_, b7_, b8_, b9_⟩ := vB.l10
  go_wp2
  go_ret
  exact ⟨rfl, HB.out⟩

end Go.Proofs.Ythpcmgbienfgoaa
