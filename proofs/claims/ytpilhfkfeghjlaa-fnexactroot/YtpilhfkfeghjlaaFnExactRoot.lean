/- Proved: the law FnExactRoot returns true. Conditions: none. -/
import Derived.Test.YtpilhfkfeghjlaaRows
import Derived.Test.YtpilhfkfeghjlaaRoots
import Derived.Test.YtpilhfkfeghjlaaEqs
import Derived.Test.YtpilhfkfeghjlaaMks
import Derived.WalkKit
import Derived.ProofKit
import Derived.OpenShut
import Derived.ShutString
import Derived.ChangeOld
import Derived.Below
namespace Go.Proofs.Ytpilhfkfeghjlaa.fnExactRoot
open Go.ChangeShapes Go.WideShapes Go.ChangeAt Go.RowKit
set_option linter.unusedVariables false

theorem own : ownKnob Try.prog.godebug = none := by kernel_rfl
theorem laidOut : laidOutB Try.prog = true := by kernel_rfl

set_option maxHeartbeats 4000000 in
theorem walk (w : World) : Calls Try.prog 5 #[] w fun e w' => e = .returned (.bool true) ∧ Below w.heap.size w w' := by
  have HS : Hid (∀ W, _) := fun W => specRoot_any W
  have HI : Hid (∀ W, _) := fun W => implRoot_any W
  have HE : Hid (∀ x y S S2 W, RdV W S x (ndsDt [rootN]) → RdV W S2 y (ndsDt [rootN]) → _) := fun x y S S2 W r1 r2 => eqTree_same x y [rootN] S S2 W r1 r2 (by simp [szNds, szEns, rootN])
  have HM : Hid (∀ x S W, OwV W S x (ndsDt [rootN]) → (∀ b, S b → b < W.heap.size) → _) := fun x S W o hS => markTree_d x [rootN] 1 S W o hS (by simp [szNds, szEns, rootN]) (by simp [lenNds, psum, lenNd, lenEns, rootN])
  have HH : Hid (∀ x S W, RdV W S x (ndsDt (mkNds [rootN] 1)) → _) := fun x S W r => heldTree_d x [rootN] 1 S W r (by simp [szNds, szEns, rootN]) (by simp [lenNds, psum, lenNd, lenEns, rootN])
  have hl : lenNds [rootN] = 8 := by simp [lenNds, psum, lenNd, lenEns, rootN]
  rw [hl] at HM HH
  clear hl
  generalize ndsDt (mkNds [rootN] 1) = D2 at HM HH
  generalize ndsDt [rootN] = D at HS HI HE HM
  go_enter Try.func5, Try.ntmps5
  go_wp2_with fail
  refine Calls.mono (HS.out _) ?_
  rintro e w1 ⟨xa, xn, xc, rfl, ox, b_⟩
  have HB1 : Hid (Below w.heap.size w w1) := b_
  have HX : Hid (RdV w1 (fun b => w.heap.size ≤ b ∧ b < w1.heap.size) (.slice xa xn xc) D) := OwV.rd ox
  clear b_ ox HS
  go_wp2_with fail
  refine Calls.mono (HI.out _) ?_
  rintro e w2 ⟨ga, gn, gc, rfl, og, b_⟩
  have vW : VarA w2 w1.heap.size 40 #[.slice xa xn xc] := VarA.step (VarA.new w1 _ _) b_
  have b1 : Below w1.heap.size w1 w2 := (Below.newH (w := w1) _).trans (b_.mono (by simp))
  have HB2 : Hid (Below w.heap.size w w2) := HB1.out.trans (b1.mono HB1.out.size)
  have HX2 : Hid (RdV w2 (fun b => w.heap.size ≤ b ∧ b < w1.heap.size) (.slice xa xn xc) D) := RdV.step HX.out b1
  have HG : Hid (OwV w2 (fun b => w1.heap.size + 1 ≤ b ∧ b < w2.heap.size) (.slice ga gn gc) D) := OwV.mono (fun b h => by simpa using h) og
  have hs1 : w1.heap.size + 1 ≤ w2.heap.size := by have := b_.size; simpa using this
  have hs0 : w.heap.size ≤ w1.heap.size := HB1.out.size
  clear b_ og b1 HX HB1
  have c0 := vW.l1
  have hlw := vW.lt
  go_wp2_with fail
  refine Calls.mono (HE.out _ _ _ _ _ (RdV.step (OwV.rd HG.out) (Below.newH _)) (RdV.step HX2.out (Below.newH _))) ?_
  rintro e w4 ⟨rfl, b_⟩
  have b2 : Below w2.heap.size w2 w4 := (Below.newH (w := w2) _).trans (b_.mono (by simp))
  have v0 : VarA w4 w1.heap.size 40 #[.slice xa xn xc] := vW.step b2
  have v1 : VarA w4 w2.heap.size 40 #[.slice ga gn gc] := VarA.step (VarA.new w2 _ _) b_
  have HB4 : Hid (Below w.heap.size w w4) := HB2.out.trans (b2.mono HB2.out.size)
  have HX4 : Hid (RdV w4 (fun b => w.heap.size ≤ b ∧ b < w1.heap.size) (.slice xa xn xc) D) := RdV.step HX2.out b2
  have HG4 : Hid (OwV w4 (fun b => w1.heap.size + 1 ≤ b ∧ b < w2.heap.size) (.slice ga gn gc) D) := OwV.step HG.out b2
  have hs2 := b2.size
  clear b_ b2 vW HB2 HX2 HG c0 hlw
  have c1 := v1.l1
  go_wp2_with fail
  refine Calls.mono (HM.out _ _ _ HG4.out (fun b hb => by omega)) ?_
  rintro e w5 ⟨rfl, o5, t5⟩
  have v0_ : VarA w5 w1.heap.size 40 #[.slice xa xn xc] := v0.turn t5 (by omega)
  have v1_ : VarA w5 w2.heap.size 40 #[.slice ga gn gc] := v1.turn t5 (by omega)
  have HB5 : Hid (Below w.heap.size w w5) := Turned.below HB4.out t5 HB4.out.size (fun i hi => by omega)
  have HX5 : Hid (RdV w5 (fun b => w.heap.size ≤ b ∧ b < w1.heap.size) (.slice xa xn xc) D) := RdV.keep (t5.keeps (fun b hb hs => by omega)) HX4.out
  have HG5 : Hid (RdV w5 (fun b => w1.heap.size + 1 ≤ b ∧ b < w2.heap.size) (.slice ga gn gc) D2) := OwV.rd o5
  have hs5 := t5.size
  clear t5 o5 v0 v1 HB4 HX4 HG4 c1 HM
  have c1 := v1_.l1
  go_wp2_with fail
  refine Calls.mono (HH.out _ _ _ HG5.out) ?_
  rintro e w6 ⟨rfl, b_⟩
  have v0 : VarA w6 w1.heap.size 40 #[.slice xa xn xc] := v0_.step b_
  have v1 : VarA w6 w2.heap.size 40 #[.slice ga gn gc] := v1_.step b_
  have HB6 : Hid (Below w.heap.size w w6) := HB5.out.trans (b_.mono HB5.out.size)
  have HX6 : Hid (RdV w6 (fun b => w.heap.size ≤ b ∧ b < w1.heap.size) (.slice xa xn xc) D) := RdV.step HX5.out b_
  have HG6 : Hid (RdV w6 (fun b => w1.heap.size + 1 ≤ b ∧ b < w2.heap.size) (.slice ga gn gc) D2) := RdV.step HG5.out b_
  clear b_ v0_ v1_ HB5 HX5 HG5 c1
  go_wp2_with fail
  refine Calls.mono (HI.out _) ?_
  rintro e w7 ⟨ha, hn, hc, rfl, oh, b_⟩
  have v0_ : VarA w7 w1.heap.size 40 #[.slice xa xn xc] := v0.step b_
  have v1_ : VarA w7 w2.heap.size 40 #[.slice ga gn gc] := v1.step b_
  have HB7 : Hid (Below w.heap.size w w7) := HB6.out.trans (b_.mono HB6.out.size)
  have HX7 : Hid (RdV w7 (fun b => w.heap.size ≤ b ∧ b < w1.heap.size) (.slice xa xn xc) D) := RdV.step HX6.out b_
  have HG7 : Hid (RdV w7 (fun b => w1.heap.size + 1 ≤ b ∧ b < w2.heap.size) (.slice ga gn gc) D2) := RdV.step HG6.out b_
  have HO7 : Hid (RdV w7 (fun b => w6.heap.size ≤ b ∧ b < w7.heap.size) (.slice ha hn hc) D) := OwV.rd oh
  clear b_ v0 v1 HB6 HX6 HG6 oh
  have c0 := v0_.l1
  have hlw := v0_.lt
  go_wp2_with fail
  refine Calls.mono (HE.out _ _ _ _ _ (RdV.step HO7.out (Below.newH _)) (RdV.step HX7.out (Below.newH _))) ?_
  rintro e w8 ⟨rfl, b_⟩
  have b2 : Below w7.heap.size w7 w8 := (Below.newH (w := w7) _).trans (b_.mono (by simp))
  have v1 : VarA w8 w2.heap.size 40 #[.slice ga gn gc] := v1_.step b2
  have HB8 : Hid (Below w.heap.size w w8) := HB7.out.trans (b2.mono HB7.out.size)
  have HG8 : Hid (RdV w8 (fun b => w1.heap.size + 1 ≤ b ∧ b < w2.heap.size) (.slice ga gn gc) D2) := RdV.step HG7.out b2
  clear b_ b2 v0_ v1_ HB7 HX7 HG7 HO7 c0 hlw
  have c1 := v1.l1
  go_wp2_with fail
  refine Calls.mono (HH.out _ _ _ HG8.out) ?_
  rintro e w9 ⟨rfl, b_⟩
  have HB9 : Hid (Below w.heap.size w w9) := HB8.out.trans (b_.mono HB8.out.size)
  clear b_ v1 HB8 HG8 c1
  go_wp2
  go_ret
  exact ⟨rfl, HB9.out⟩

set_option maxRecDepth 100000 in
theorem lifted (os : Os) (started : os.Started) (H : Type) (enc : TypeId × Value → H) :
    ReturnsInHanded {} Try.checked os 5 .any (Rows.fnExactRootSpec.pre6 enc Try.prog Try.f5 Rows.fnExactRootRow.domain false) (Rows.fnExactRootSpec.post enc Try.prog Try.f5 false true false false) := by
  refine returnsInHanded_of_change (C := Try.checked) own started (by kernel_rfl) Try.func5
    (ChangeSpec.witness6 (enc := enc) (C := Try.checked) false ⟨#[], #[], []⟩ 8 (by kernel_rfl) (by kernel_rfl) (by kernel_rfl) (by kernel_rfl)) ?_
  intro W base args ds gs before hval0 hW hcnd _
  have hval : ∀ (j : Nat) t v, Try.f5.params[j]? = some t → args[j]? = some v → Value.okWide Try.prog W .any base t v := hval0
  have hW' := hW
  obtain ⟨p, q, hA0, hV, rfl, hfz, hnd⟩ := hW
  have hA : DataW.TrodAll enc Try.prog W 0 (fun _ => true) true Try.f5.params.toList args.toList ds p := hA0
  rw [Try.params5] at hA hval
  obtain ⟨hargs, rfl, rfl⟩ := trodAll_nil hA
  obtain rfl : args = #[] := by cases args; simp_all
  obtain ⟨rfl, rfl⟩ := trodVars_none hV
  clear hA0 hval0
  refine (walk  W ).mono fun e W' ⟨he, bel⟩ => ?_
  subst he
  exact ⟨_, rfl, _, _, _, [], _, [], hW', trodAll_mk1 (shut_bool Try.underlying4 _), trodAll_mk0, rfl, bel.frame _, fun h => by cases h⟩

theorem over : Rows.fnExactRootRow.holds Try.pinned (OpenSpec.ofChange Rows.fnExactRootSpec) :=
  OpenClaim.holds_of_wide 5 Try.f5 rfl rfl rfl rfl rfl rfl rfl ⟨rfl, rfl, rfl, rfl, rfl⟩ rfl rfl rfl rfl rfl (by kernel_rfl) Try.func5 (by kernel_rfl)
    (of_decide_eq_true (by kernel_rfl)) (by unfold Func.isWrapper; first | (rw [if_pos (by decide +kernel)]; kernel_rfl) | (rw [if_neg (by decide +kernel)]; exact ⟨rfl, rfl⟩))
    (fun os started H enc _ => lifted os started H enc)
end Go.Proofs.Ytpilhfkfeghjlaa.fnExactRoot

namespace Go.Proofs.Ytpilhfkfeghjlaa
/-- The given statement. -/
theorem fnExactRoot_holds : Rows.FnExactRootSaid := fnExactRoot.over
#print axioms fnExactRoot_holds
end Go.Proofs.Ytpilhfkfeghjlaa
