/- Proved: for every tree that a caller can hand in, the law FnExactTreeOk returns true, and its argument reads as before. Conditions: none. -/
import Derived.Test.YtaaongjnpnanmaaRows
import Derived.Test.YtaaongjnpnanmaaOpenT2
import Derived.Test.YtaaongjnpnanmaaTreePure
import Derived.Test.YtaaongjnpnanmaaImplT10
import Derived.Test.YtaaongjnpnanmaaNodes2
import Derived.Test.YtaaongjnpnanmaaEqs
import Derived.Test.YtaaongjnpnanmaaSzs
import Derived.WalkKit
import Derived.ProofKit
import Derived.OpenShut
import Derived.ShutString
import Derived.ChangeOld
import Derived.Below
namespace Go.Proofs.Ytaaongjnpnanmaa.fnExactTreeOk
open Go.ChangeShapes Go.WideShapes Go.ChangeAt Go.RowKit
set_option linter.unusedVariables false

theorem own : ownKnob Try.prog.godebug = none := by kernel_rfl
theorem laidOut : laidOutB Try.prog = true := by kernel_rfl

set_option maxHeartbeats 4000000 in
theorem walk (v0 : Value) (l : List Nd) (w : World) (e0 : ∃ x, v0 = .agg #[x] ∧ RdV w (Old w) x (ndsDt l)) :
    Calls Try.prog 3 #[v0] w fun e w' => e = .returned (.bool true) ∧ Below w.heap.size w w' := by
  obtain ⟨x, rfl, r⟩ := e0
  have HZ : Hid (∀ W, Below w.heap.size w W → _) := fun W hW => szTree_d x l (Old w) 1048576 W (Nat.le_refl _) (r.step hW)
  by_cases hsz : szNds l ≤ 1048576
  case neg =>
    have hl : leftT (szNds l) 1048576 = -1 := by unfold leftT; rw [if_neg hsz]
    rw [hl] at HZ
    clear hl
    obtain ⟨a, cap, rfl, _⟩ := RdV.sliced r
    clear r hsz
    generalize l.length = n0 at *
    go_enter Try.func3, Try.ntmps3
    go_wp2_with fail
    refine Calls.mono (HZ.out _ (Below.newH _)) ?_
    rintro e w2 ⟨rfl, b_⟩
    go_wp2
    go_ret
    exact ⟨rfl, (Below.newH (w := w) _).trans (b_.mono (by simp))⟩
  have hl : leftT (szNds l) 1048576 = ((1048576 - szNds l : Nat) : Int) := by unfold leftT; rw [if_pos hsz]; omega
  rw [hl] at HZ
  generalize 1048576 - szNds l = z at HZ
  clear hl
  have h1 : szNds l ≤ 2097152 := by omega
  have h2 : l.length ≤ 2097152 := by have : l.length ≤ szNds l := Nat.le_add_right _ _; omega
  have HT : Hid (∀ W, Below w.heap.size w W → _) := fun W hW => toTree_any x l (Old w) W (r.step hW) h1
  have HS : Hid (∀ u S W, RdV W S u (ndsDt l) → _) := fun u S W q1 => specTree_any u l S W q1 h1
  have HI : Hid (∀ u S W, RdV W S u (ndsDt l) → _) := fun u S W q1 => implTree_any u l S W q1 h1
  rw [show treeOk l = treeI l from tree_same l] at HS
  have HE : Hid (∀ u u2 S S2 W, RdV W S u (ndsDt l) → RdV W S2 u2 (ndsDt l) → _) := fun u u2 S S2 W q1 q2 => eqTree_same u u2 l S S2 W q1 q2 h1
  obtain ⟨a, cap, rfl, _⟩ := RdV.sliced r
  generalize treeI l = b at HS HI
  have hbb : (b != b) = false := by simp
  clear r hsz h1 h2
  generalize hnn : l.length = n0 at *
  clear hnn
  go_enter Try.func3, Try.ntmps3
  go_wp2_with fail
  refine Calls.mono (HZ.out _ (Below.newH _)) ?_
  rintro e w2 ⟨rfl, b_⟩
  have vA := VarA.step (VarA.new w _ _) b_
  have HB : Hid _ := (Below.newH (w := w) _).trans (b_.mono (by simp))
  clear b_ HZ
  have a0_ := vA.l1
  go_wp2_with fail
  refine Calls.mono (HT.out _ HB.out) ?_
  rintro e w3 ⟨ta, tn, tc, rfl, o1, b_⟩
  have vA_ := vA.step b_
  have HB_ : Hid _ := HB.out.trans (b_.mono HB.out.size)
  have q1 := OwV.rd (OwV.mono (S' := fun _ => True) (fun _ _ => trivial) o1)
  have HQ : Hid _ := HS.out _ _ _ q1
  clear vA HB b_ a0_ o1 q1 HS
  go_wp2_with fail
  refine Calls.mono HQ.out ?_
  rintro e w4 ⟨rfl, b_⟩
  have vA := vA_.step b_
  have HB : Hid _ := HB_.out.trans (b_.mono HB_.out.size)
  clear vA_ HB_ b_ HQ
  have a0_ := vA.l1
  go_wp2_with fail
  refine Calls.mono (HT.out _ HB.out) ?_
  rintro e w5 ⟨xa, xn, xc, rfl, o1, b_⟩
  have q1 := OwV.rd (OwV.mono (S' := fun _ => True) (fun _ _ => trivial) o1)
  have vA_ := vA.step b_
  have HB_ : Hid _ := HB.out.trans (b_.mono HB.out.size)
  have HQ : Hid (∀ W, Below w5.heap.size w5 W → RdV W (fun _ => True) (.slice xa xn xc) (ndsDt l)) := fun W hW => q1.step hW
  clear vA HB b_ a0_ o1 q1
  go_wp2_with fail
  refine Calls.mono (HI.out _ _ _ (HQ.out _ (Below.newH _))) ?_
  rintro e w6 ⟨rfl, b_⟩
  have vA := (vA_.alloc _).step b_
  have vX := VarA.step (VarA.new w5 _ _) b_
  have b5 : Below w5.heap.size w5 w6 := (Below.newH (w := w5) _).trans (b_.mono (by simp))
  have HB : Hid _ := HB_.out.trans (b5.mono HB_.out.size)
  have HB5 : Hid _ := b5
  clear vA_ HB_ b_ HI b5
  have x0_ := vX.l1
  have a0_ := vA.l1
  have hx_ := vX.lt
  have hl_ := vA.lt
  go_wp2
  go_region_held3 (fun w' => w'.cell? ⟨w5.heap.size, 0, none⟩ = some (.slice xa xn xc) ∧ w'.cell? ⟨w.heap.size, 0, none⟩ = some (.slice a n0 cap)) (first | go_keep | (refine ⟨?_, ?_⟩ <;> assumption)) (first
    | (go_at_call 11; refine Calls.mono (HT.out w6.drew (HB.out.drew)) ?_; rintro e w7 ⟨za, zn, zc, rfl, o1, b7⟩; have b7' : Below w6.heap.size w6 w7 := (Below.drew (Below.refl _ _)).trans b7; have kx0_ := (vX.step b7').l1; have ka0_ := (vA.step b7').l1)
    | (go_at_call 13; refine Calls.mono (HE.out _ _ _ _ _ (HQ.out _ (HB5.out.trans (b7'.mono HB5.out.size))) (OwV.rd (OwV.mono (S' := fun _ => True) (fun _ _ => trivial) o1))) ?_; rintro e w8 ⟨rfl, b8⟩; have b8' : Below w6.heap.size w6 w8 := b7'.trans (b8.mono b7'.size); have jx0_ := (vX.step b8').l1; have ja0_ := (vA.step b8').l1))
  all_goals
    have B8 := HB.out.trans (b8'.mono HB.out.size)
    clear vX vA
    go_wp2
    go_ret
    exact ⟨rfl, B8⟩

set_option maxRecDepth 100000 in
theorem lifted (os : Os) (started : os.Started) (H : Type) (enc : TypeId × Value → H) :
    ReturnsInHanded {} Try.checked os 3 .any (Rows.fnExactTreeOkSpec.pre6 enc Try.prog Try.f3 Rows.fnExactTreeOkRow.domain false) (Rows.fnExactTreeOkSpec.post enc Try.prog Try.f3 false true false false) := by
  refine returnsInHanded_of_change (C := Try.checked) own started (by kernel_rfl) Try.func3
    (ChangeSpec.witness6 (enc := enc) (C := Try.checked) false ⟨#[], #[.agg #[.slice none 0 0]], []⟩ 8 (by kernel_rfl) (by kernel_rfl) (by kernel_rfl) (by kernel_rfl)) ?_
  intro W base args ds gs before hval0 hW hcnd _
  have hval : ∀ (j : Nat) t v, Try.f3.params[j]? = some t → args[j]? = some v → Value.okWide Try.prog W .any base t v := hval0
  have hW' := hW
  obtain ⟨p, q, hA0, hV, rfl, hfz, hnd⟩ := hW
  have hA : DataW.TrodAll enc Try.prog W 0 (fun _ => true) true Try.f3.params.toList args.toList ds p := hA0
  rw [Try.params3] at hA hval
  obtain ⟨v0, vs0, x0, ds0, p0, q0, hargs, rfl, rfl, h0, r0⟩ := trodAll_cons hA
  obtain ⟨rfl, rfl, rfl⟩ := trodAll_nil r0
  obtain rfl : args = #[v0] := by cases args; simp_all
  obtain ⟨rfl, rfl⟩ := trodVars_none hV
  have k0 := h0
  have lt0 : ∀ x ∈ p0, x.block < W.heap.size := by obtain ⟨m, hm⟩ := k0; exact DataW.trod_lt m _ _ _ hm
  obtain ⟨d0, e0⟩ := open_treeA (hval 0 24 v0 rfl rfl) h0
  clear hA0 hval0
  refine (walk v0 d0 W e0).mono fun e W' ⟨he, bel⟩ => ?_
  subst he
  exact ⟨_, rfl, _, _, _, [], _, [], hW', trodAll_mk1 (shut_bool Try.underlying4 _), (trodAll_cons_mk (Below.trod laidOut (by kernel_rfl) (of_decide_eq_true (by kernel_rfl)) k0 bel lt0) trodAll_mk0), rfl, bel.frame _, fun h => by cases h⟩

theorem over : Rows.fnExactTreeOkRow.holds Try.pinned (OpenSpec.ofChange Rows.fnExactTreeOkSpec) :=
  OpenClaim.holds_of_wide 3 Try.f3 rfl rfl rfl rfl rfl rfl rfl ⟨rfl, rfl, rfl, rfl, rfl⟩ rfl rfl rfl rfl rfl (by kernel_rfl) Try.func3 (by kernel_rfl)
    (of_decide_eq_true (by kernel_rfl)) (by unfold Func.isWrapper; first | (rw [if_pos (by decide +kernel)]; kernel_rfl) | (rw [if_neg (by decide +kernel)]; exact ⟨rfl, rfl⟩))
    (fun os started H enc _ => lifted os started H enc)
end Go.Proofs.Ytaaongjnpnanmaa.fnExactTreeOk

namespace Go.Proofs.Ytaaongjnpnanmaa
/-- The given statement. -/
theorem fnExactTreeOk_holds : Rows.FnExactTreeOkSaid := fnExactTreeOk.over
#print axioms fnExactTreeOk_holds
end Go.Proofs.Ytaaongjnpnanmaa
