/- Proved: for every setup that a caller can hand in, the law FnExactSetupOk returns true, and its argument reads as before. Conditions: none. -/
import Derived.Test.YthpcmgbienfgoaaRows
import Derived.Test.YthpcmgbienfgoaaSetups
import Derived.WalkKit
import Derived.ProofKit
import Derived.OpenShut
import Derived.ShutString
import Derived.ChangeOld
import Derived.Below
namespace Go.Proofs.Ythpcmgbienfgoaa.fnExactSetupOk
open Go.ChangeShapes Go.WideShapes Go.ChangeAt Go.RowKit
set_option linter.unusedVariables false
set_option linter.unusedSimpArgs false

theorem own : ownKnob Try.prog.godebug = none := by kernel_rfl
theorem laidOut : laidOutB Try.prog = true := by kernel_rfl

set_option maxHeartbeats 1000000 in
theorem walk (v0 : Value) (s : SuD) (w : World) (e0 : v0 = suV s) :
    Calls Try.prog 3 #[v0] w fun e w' => e = .returned (.bool true) ∧ Below w.heap.size w w' := by
  subst e0
  have HT : Hid (∀ W, _) := fun W => toSetup_any s W
  have HS : Hid (∀ W, _) := fun W => specSetupOk_any s W
  have HI : Hid (∀ W, _) := fun W => implSetupOk_any s W
  generalize SuOk s = b at HS HI
  obtain ⟨x, y, z, d⟩ := s
  dsimp only [suV] at HT HS HI ⊢
  go_enter Try.func3, Try.ntmps3
  go_wp2_with fail
  refine Calls.mono (HT.out _) ?_
  rintro e w1 ⟨rfl, b1⟩
  have v1 := (VarA.new w _ _).step b1
  have B1 := (Below.new1 (w := w) _).trans (b1.mono (by simp))
  clear b1
  go_wp2_with fail
  refine Calls.mono (HS.out _) ?_
  rintro e w2 ⟨rfl, b2⟩
  have v2 := v1.step b2
  have B2 := B1.trans (b2.mono B1.size)
  clear b2 v1 B1
  have c0 := v2.c 0 rfl
  have c1 := v2.c 1 rfl
  have c2 := v2.c 2 rfl
  have c3 := v2.c 3 rfl
  go_wp2_with fail
  refine Calls.mono (HT.out _) ?_
  rintro e w3 ⟨rfl, b3⟩
  have B3 := B2.trans (b3.mono B2.size)
  clear b3 v2 B2 c0 c1 c2 c3
  go_wp2_with fail
  refine Calls.mono (HI.out _) ?_
  rintro e w4 ⟨rfl, b4⟩
  have B4 := B3.trans (b4.mono B3.size)
  clear b4 B3
  have hbb : (b != b) = false := by simp
  go_wp2
  go_ret
  exact ⟨rfl, B4⟩

set_option maxRecDepth 100000 in
theorem lifted (os : Os) (started : os.Started) (H : Type) (enc : TypeId × Value → H) :
    ReturnsInHanded {} Try.checked os 3 .any (Rows.fnExactSetupOkSpec.pre6 enc Try.prog Try.f3 Rows.fnExactSetupOkRow.domain false) (Rows.fnExactSetupOkSpec.post enc Try.prog Try.f3 false true false false) := by
  refine returnsInHanded_of_change (C := Try.checked) own started (by kernel_rfl) Try.func3
    (ChangeSpec.witness6 (enc := enc) (C := Try.checked) false ⟨#[], #[.agg #[.int .i64 0, .int .i64 0, .int .i64 0, .bool false]], []⟩ 8 (by kernel_rfl) (by kernel_rfl) (by kernel_rfl) (by kernel_rfl)) ?_
  intro W base args ds gs before hval0 hW hcnd _
  have hval : ∀ (j : Nat) t v, Try.f3.params[j]? = some t → args[j]? = some v → Value.okWide Try.prog W .any base t v := hval0
  have hW' := hW
  obtain ⟨p, q, hA0, hV, rfl, hfz, hnd⟩ := hW
  have hA : DataW.TrodAll enc Try.prog W 0 (fun _ => true) true Try.f3.params.toList args.toList ds p := hA0
  rw [Try.params3] at hA hval
  obtain ⟨v0, vs0, x0, ds0, p0, q0, hargs, rfl, rfl, h0, r0⟩ := trodAll_cons hA
  obtain ⟨rfl, rfl, rfl⟩ := trodAll_nil r0
  obtain rfl : args = #[v0] := by cases args; simp_all
  obtain ⟨rfl, rfl⟩ := trodVars_none hV
  have k0 := h0
  have lt0 : ∀ x ∈ p0, x.block < W.heap.size := by obtain ⟨m, hm⟩ := k0; exact DataW.trod_lt m _ _ _ hm
  obtain ⟨d0, e0⟩ := open_setupA (hval 0 23 v0 rfl rfl) h0
  clear hA0 hval0
  refine (walk v0 d0 W e0).mono fun e W' ⟨he, bel⟩ => ?_
  subst he
  exact ⟨_, rfl, _, _, _, [], _, [], hW', trodAll_mk1 (shut_bool Try.underlying4 _), (trodAll_cons_mk (Below.trod laidOut (by kernel_rfl) (of_decide_eq_true (by kernel_rfl)) k0 bel lt0) trodAll_mk0), rfl, bel.frame _, fun h => by cases h⟩

theorem over : Rows.fnExactSetupOkRow.holds Try.pinned (OpenSpec.ofChange Rows.fnExactSetupOkSpec) :=
  OpenClaim.holds_of_wide 3 Try.f3 rfl rfl rfl rfl rfl rfl rfl ⟨rfl, rfl, rfl, rfl, rfl⟩ rfl rfl rfl rfl rfl (by kernel_rfl) Try.func3 (by kernel_rfl)
    (of_decide_eq_true (by kernel_rfl)) (by unfold Func.isWrapper; first | (rw [if_pos (by decide +kernel)]; kernel_rfl) | (rw [if_neg (by decide +kernel)]; exact ⟨rfl, rfl⟩))
    (fun os started H enc _ => lifted os started H enc)
end Go.Proofs.Ythpcmgbienfgoaa.fnExactSetupOk

namespace Go.Proofs.Ythpcmgbienfgoaa
/-- The given statement. -/
theorem fnExactSetupOk_holds : Rows.FnExactSetupOkSaid := fnExactSetupOk.over
#print axioms fnExactSetupOk_holds
end Go.Proofs.Ythpcmgbienfgoaa
