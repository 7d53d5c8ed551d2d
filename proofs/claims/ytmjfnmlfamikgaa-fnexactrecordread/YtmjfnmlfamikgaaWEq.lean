/- Transactions' numbers, parts and replies that read alike are found so by the verifier's helpers. Condition: no more than 2^21 of all. -/
import Derived.Test.YtmjfnmlfamikgaaWires
import Derived.Test.YtmjfnmlfamikgaaEqs
namespace Go.Proofs.Ytmjfnmlfamikgaa
open Go.RowKit
set_option linter.unusedVariables false
set_option maxRecDepth 100000

theorem eqTx_same (t : TxD) (w : World) : Calls Try.prog 44 #[txV t, txV t] w fun e w' => e = .returned (.bool true) ∧ Below w.heap.size w w' := by
  obtain ⟨s, i, d⟩ := t
  go_enter Try.func44, Try.ntmps44
  go_wp2
  all_goals (go_ret; exact ⟨by first | rfl | (simp_all <;> omega), by first | exact Below.refl _ _ | exact Below.newH _ | exact Below.newH2 _ _⟩)

set_option maxHeartbeats 2000000 in
theorem eqPart_same (x y : Value) (o : PtD) (S S2 : Nat → Prop) (w : World) (r : RdV w S x (.bytes o.asn)) (r2 : RdV w S2 y (.bytes o.asn)) (hl : o.asn.length ≤ 2097152) :
    Calls Try.prog 45 #[ptV o x, ptV o y] w fun q w' => q = .returned (.bool true) ∧ Below w.heap.size w w' := by
  obtain ⟨a, cap, rfl⟩ := r.sliceB
  obtain ⟨a2, cap2, rfl⟩ := r2.sliceB
  obtain ⟨kd, ⟨p, q, d⟩, nm, ⟨p2, q2, d2⟩⟩ := o
  have HR : Hid (∀ W, Below w.heap.size w W → _) := r.old
  have HR2 : Hid (∀ W, Below w.heap.size w W → _) := r2.old
  have HH : Hid (∀ W, _) := fun W => eqHandle_same (p, q, d) W
  have HH2 : Hid (∀ W, _) := fun W => eqHandle_same (p2, q2, d2) W
  have HL : Hid (nm.length ≤ 2097152) := hl
  clear r r2 hl
  dsimp only at HR HR2 ⊢
  generalize nm.length = n0 at HR HR2
  go_enter Try.func45, Try.ntmps45
  go_wp2_with fail
  refine Calls.mono (HH.out _) ?_
  rintro e w2 ⟨rfl, b_⟩
  have vA : VarA w2 w.heap.size 46 #[.int .i64 kd, .int .i64 p, .int .i64 q, .bool d, .slice a n0 cap, .int .i64 p2, .int .i64 q2, .bool d2] := VarA.step ((VarA.new w _ _).alloc _) b_
  have vB : VarA w2 (w.heap.size + 1) 46 #[.int .i64 kd, .int .i64 p, .int .i64 q, .bool d, .slice a2 n0 cap2, .int .i64 p2, .int .i64 q2, .bool d2] := by
    have := VarA.step (VarA.new (w.alloc _) _ _) b_
    simpa using this
  have HB : Hid _ := (Below.newH2 (w := w) _ _).trans (b_.mono (by simp; omega))
  clear b_
  obtain ⟨a0_, a1_, a2_, a3_, a4_, a5_, a6_, a7_⟩ := vA.l8
  obtain ⟨b0_, b1_, b2_, b3_, b4_, b5_, b6_, b7_⟩ := vB.l8
  go_wp2_with fail
  refine Calls.mono (eqByteS_same _ _ nm S S2 _ (HR.out _ HB.out) (HR2.out _ HB.out) HL.out) ?_
  rintro e w3 ⟨rfl, b_⟩
  have vA_ := vA.step b_
  have vB_ := vB.step b_
  have HB_ : Hid _ := HB.out.trans (b_.mono HB.out.size)
  clear vA vB HB b_ a0_ a1_ a2_ a3_ a4_ a5_ a6_ a7_ b0_ b1_ b2_ b3_ b4_ b5_ b6_ b7_
  have vA := vA_
  have vB := vB_
  have HB := HB_
  clear vA_ vB_ HB_
  obtain ⟨a0_, a1_, a2_, a3_, a4_, a5_, a6_, a7_⟩ := vA.l8
  obtain ⟨b0_, b1_, b2_, b3_, b4_, b5_, b6_, b7_⟩ := vB.l8
  go_wp2_with fail
  refine Calls.mono (HH2.out _) ?_
  rintro e w4 ⟨rfl, b_⟩
  have vA_ := vA.step b_
  have vB_ := vB.step b_
  have HB_ : Hid _ := HB.out.trans (b_.mono HB.out.size)
  clear vA vB HB b_ a0_ a1_ a2_ a3_ a4_ a5_ a6_ a7_ b0_ b1_ b2_ b3_ b4_ b5_ b6_ b7_
  have vA := vA_
  have vB := vB_
  have HB := HB_
  clear vA_ vB_ HB_
  obtain ⟨a0_, a1_, a2_, a3_, a4_, a5_, a6_, a7_⟩ := vA.l8
  obtain ⟨b0_, b1_, b2_, b3_, b4_, b5_, b6_, b7_⟩ := vB.l8
  go_wp2
  go_ret
  exact ⟨rfl, HB.out⟩

set_option maxHeartbeats 2000000 in
theorem eqReply_same (x y : Value) (o : RpD) (S S2 : Nat → Prop) (w : World) (r : RdV w S x (ensDt o.list)) (r2 : RdV w S2 y (ensDt o.list)) (hl : szEns o.list ≤ 2097152) :
    Calls Try.prog 43 #[rpV o x, rpV o y] w fun q w' => q = .returned (.bool true) ∧ Below w.heap.size w w' := by
  obtain ⟨a, cap, rfl, _⟩ := RdV.sliced r
  obtain ⟨a2, cap2, rfl, _⟩ := RdV.sliced r2
  obtain ⟨kd, ⟨p, q, d⟩, vl, es⟩ := o
  have HR : Hid (∀ W, Below w.heap.size w W → _) := r.old
  have HR2 : Hid (∀ W, Below w.heap.size w W → _) := r2.old
  have HH : Hid (∀ W, _) := fun W => eqHandle_same (p, q, d) W
  have HL : Hid (szEns es ≤ 2097152) := hl
  clear r r2 hl
  dsimp only at HR HR2 ⊢
  generalize es.length = n0 at HR HR2
  go_enter Try.func43, Try.ntmps43
  go_wp2_with fail
  refine Calls.mono (HH.out _) ?_
  rintro e w2 ⟨rfl, b_⟩
  have vA : VarA w2 w.heap.size 43 #[.int .i64 kd, .int .i64 p, .int .i64 q, .bool d, .int .i64 vl, .slice a n0 cap] := VarA.step ((VarA.new w _ _).alloc _) b_
  have vB : VarA w2 (w.heap.size + 1) 43 #[.int .i64 kd, .int .i64 p, .int .i64 q, .bool d, .int .i64 vl, .slice a2 n0 cap2] := by
    have := VarA.step (VarA.new (w.alloc _) _ _) b_
    simpa using this
  have HB : Hid _ := (Below.newH2 (w := w) _ _).trans (b_.mono (by simp; omega))
  clear b_
  obtain ⟨a0_, a1_, a2_, a3_, a4_, a5_⟩ := vA.l6
  obtain ⟨b0_, b1_, b2_, b3_, b4_, b5_⟩ := vB.l6
  go_wp2_with fail
  refine Calls.mono (eqEntryS_same _ _ es S S2 _ (HR.out _ HB.out) (HR2.out _ HB.out) HL.out) ?_
  rintro e w3 ⟨rfl, b_⟩
  have vA_ := vA.step b_
  have vB_ := vB.step b_
  have HB_ : Hid _ := HB.out.trans (b_.mono HB.out.size)
  clear vA vB HB b_ a0_ a1_ a2_ a3_ a4_ a5_ b0_ b1_ b2_ b3_ b4_ b5_
  have vA := vA_
  have vB := vB_
  have HB := HB_
  clear vA_ vB_ HB_
  obtain ⟨a0_, a1_, a2_, a3_, a4_, a5_⟩ := vA.l6
  obtain ⟨b0_, b1_, b2_, b3_, b4_, b5_⟩ := vB.l6
  go_wp2
  go_ret
  exact ⟨rfl, HB.out⟩

end Go.Proofs.Ytmjfnmlfamikgaa
