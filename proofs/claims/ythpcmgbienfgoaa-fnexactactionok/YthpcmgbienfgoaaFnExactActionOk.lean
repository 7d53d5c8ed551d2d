/- Proved: for every action that a caller can hand in, the law FnExactActionOk returns true, and its argument reads as before. Conditions: none. -/
import Derived.Test.YthpcmgbienfgoaaRows
import Derived.Test.YthpcmgbienfgoaaOpenA
import Derived.Test.YthpcmgbienfgoaaAOk
import Derived.Test.YthpcmgbienfgoaaATo
import Derived.Test.YthpcmgbienfgoaaAEq
import Derived.Test.YthpcmgbienfgoaaASz
import Derived.Test.YthpcmgbienfgoaaVarL
import Derived.WalkKit
import Derived.ProofKit
import Derived.OpenShut
import Derived.ShutString
import Derived.ChangeOld
import Derived.Below
namespace Go.Proofs.Ythpcmgbienfgoaa.fnExactActionOk
open Go.ChangeShapes Go.WideShapes Go.ChangeAt Go.RowKit
set_option linter.unusedVariables false
set_option linter.unusedSimpArgs false

theorem own : ownKnob Try.prog.godebug = none := by kernel_rfl
theorem laidOut : laidOutB Try.prog = true := by kernel_rfl

set_option maxRecDepth 100000 in
set_option maxHeartbeats 8000000 in
theorem walk (v0 : Value) (m : AcD) (w : World) (e0 : ∃ x y z, v0 = acV m x y z ∧ RdA w (Old w) m x y z) :
    Calls Try.prog 4 #[v0] w fun e w' => e = .returned (.bool true) ∧ Below w.heap.size w w' := by
  obtain ⟨x, y, z, rfl, r⟩ := e0
  have HZ : Hid (∀ W, Below w.heap.size w W → _) := fun W hW => szAction_d x y z m (Old w) 1048576 W (Nat.le_refl _) (r.step hW)
  by_cases hsz : szAc m ≤ 1048576
  case neg =>
    have hl : leftT (szAc m) 1048576 = -1 := by unfold leftT; rw [if_neg hsz]
    rw [hl] at HZ
    obtain ⟨a1, cap1, rfl⟩ := r.1.sliceB
    obtain ⟨a2, cap2, rfl⟩ := r.2.1.sliceB
    obtain ⟨a3, cap3, rfl, _⟩ := RdV.sliced r.2.2
    clear r hsz hl
    obtain ⟨kd, nd, ii, ⟨ok, ⟨op_, oq, od⟩, nm, ⟨tp, tq, td⟩, asn, ov⟩, kp, tn⟩ := m
    dsimp only at HZ ⊢
    go_enter Try.func4, Try.ntmps4
    go_wp2_with ((with_reducible refine guardLoad (ty := 35) ?_); refine wpList_loadA (VarA.new w _ _) rfl Try.underlying35 rfl (by kernel_rfl) ?_)
    refine Calls.mono (HZ.out _ (Below.newH _)) ?_
    rintro e w2 ⟨rfl, b_⟩
    go_wp2
    go_ret
    exact ⟨rfl, (Below.newH (w := w) _).trans (b_.mono (by simp))⟩
  have hl : leftT (szAc m) 1048576 = ((1048576 - szAc m : Nat) : Int) := by unfold leftT; rw [if_pos hsz]; omega
  rw [hl] at HZ
  generalize 1048576 - szAc m = zz at HZ
  clear hl
  have h1 : szAc m ≤ 2097152 := by omega
  have HT : Hid (∀ W, Below w.heap.size w W → _) := fun W hW => toAction_any x y z m (Old w) W (r.step hW) h1
  have HS : Hid (∀ x y z S W, RdA W S m x y z → _) := fun x y z S W q1 => specActionOk_any x y z m S W q1 h1
  have HI : Hid (∀ x y z S W, RdA W S m x y z → _) := fun x y z S W q1 => implActionOk_any x y z m S W q1 h1
  have HE : Hid (∀ x y z x2 y2 z2 S S2 W, RdA W S m x y z → RdA W S2 m x2 y2 z2 → _) := fun x y z x2 y2 z2 S S2 W q1 q2 => eqAction_same x y z x2 y2 z2 m S S2 W q1 q2 h1
  obtain ⟨a1, cap1, rfl⟩ := r.1.sliceB
  obtain ⟨a2, cap2, rfl⟩ := r.2.1.sliceB
  obtain ⟨a3, cap3, rfl, _⟩ := RdV.sliced r.2.2
  generalize AcOk m = b at HS HI
  have hbb : (b != b) = false := by simp
  clear r hsz h1
  obtain ⟨kd, nd, ii, ⟨ok, ⟨op_, oq, od⟩, nm, ⟨tp, tq, td⟩, asn, ov⟩, kp, tn⟩ := m
  dsimp only at HZ HT HS HI HE ⊢
  generalize nm.length = n1 at *
  generalize asn.length = n2 at *
  generalize kp.length = n3 at *
  go_enter Try.func4, Try.ntmps4
  go_wp2_with ((with_reducible refine guardLoad (ty := 35) ?_); refine wpList_loadA (VarA.new w _ _) rfl Try.underlying35 rfl (by kernel_rfl) ?_)
  refine Calls.mono (HZ.out _ (Below.newH _)) ?_
  rintro e w2 ⟨rfl, b_⟩
  have vA : VarA w2 w.heap.size 35 #[.int .i64 kd, .int .i64 nd, .int .i64 ii, .int .i64 ok, .int .i64 op_, .int .i64 oq, .bool od, .slice a1 n1 cap1, .int .i64 tp, .int .i64 tq, .bool td, .slice a2 n2 cap2, .int .i64 ov, .slice a3 n3 cap3, .int .i64 tn] := VarA.step (VarA.new w _ _) b_
  have HB : Hid (Below w.heap.size w w2) := (Below.newH (w := w) _).trans (b_.mono (by simp))
  clear b_ HZ
  go_wp2_with ((with_reducible refine guardLoad (ty := 35) ?_); refine wpList_loadA vA rfl Try.underlying35 rfl (by kernel_rfl) ?_)
  refine Calls.mono (HT.out _ HB.out) ?_
  rintro e w3 ⟨p1, q1, s1, p2, q2, s2, p3, q3, s3, rfl, o1, b_⟩
  have vA_ := vA.step b_
  have HB_ : Hid _ := HB.out.trans (b_.mono HB.out.size)
  have HQ : Hid _ := HS.out _ _ _ _ _ o1
  clear vA HB b_ o1 HS
  go_wp2_with fail
  refine Calls.mono HQ.out ?_
  rintro e w4 ⟨rfl, b_⟩
  have vA := vA_.step b_
  have HB : Hid _ := HB_.out.trans (b_.mono HB_.out.size)
  clear vA_ HB_ b_ HQ
  go_wp2_with ((with_reducible refine guardLoad (ty := 35) ?_); refine wpList_loadA vA rfl Try.underlying35 rfl (by kernel_rfl) ?_)
  refine Calls.mono (HT.out _ HB.out) ?_
  rintro e w5 ⟨x1, m1, d1, x2, m2, d2, x3, m3, d3, rfl, o1, b_⟩
  have q1 := RdA.mono (S' := fun _ => True) (fun _ _ => trivial) o1
  have vA_ := vA.step b_
  have HB_ : Hid _ := HB.out.trans (b_.mono HB.out.size)
  have HQ : Hid (∀ W, Below w5.heap.size w5 W → RdA W (fun _ => True) _ (.slice x1 m1 d1) (.slice x2 m2 d2) (.slice x3 m3 d3)) := fun W hW => q1.step hW
  clear vA HB b_ o1 q1
  have vA := vA_
  have HB := HB_
  clear vA_ HB_
  go_wp2_with (first | ((with_reducible refine guardStore (ty := 42) ?_); refine wpList_storeF (VarA.new w5 _ _) rfl rfl (by kernel_rfl) rfl (of_decide_eq_true rfl) rfl ?_; intro w5' vX t_) | ((with_reducible refine guardLoad (ty := 42) ?_); refine wpList_loadA vX rfl Try.underlying42 rfl (by kernel_rfl) ?_))
  have b5 : Below w5.heap.size w5 w5' := Turned.below (Below.newH (w := w5) _) (t_.one (S := fun b => w5.heap.size ≤ b) (by omega)) (by simp) (fun i hi => hi)
  have vX : VarA w5' w5.heap.size 42 #[.int .i64 kd, .int .i64 nd, .int .i64 ii, .int .i64 ok, .int .i64 op_, .int .i64 oq, .bool od, .slice x1 m1 d1, .int .i64 tp, .int .i64 tq, .bool td, .slice x2 m2 d2, .int .i64 ov, .slice x3 m3 d3, .int .i64 tn] := vX
  have vA_ := vA.step b5
  have HB_ : Hid _ := HB.out.trans (b5.mono HB.out.size)
  clear vA HB t_
  refine Calls.mono (HI.out _ _ _ _ _ (HQ.out _ b5)) ?_
  rintro e w6 ⟨rfl, b_⟩
  have vA := vA_.step b_
  have vX_ := vX.step b_
  have HB5 : Hid (Below w5.heap.size w5 w6) := b5.trans (b_.mono b5.size)
  have HB : Hid _ := HB_.out.trans (b_.mono HB_.out.size)
  clear vA_ HB_ b_ HI b5 vX
  have vX := vX_
  clear vX_
  go_wp2_with fail
  refine wp_region_noPanic ?_
  refine wp_region_two (by kernel_rfl) vX vA (fun hHeld => ?_)
  refine wpAnyH_take (i := 0) (v := _) rfl (by kernel_rfl) (by kernel_rfl) (by kernel_rfl) (fun _ _ _ h => h) (Or.inl ⟨by rfl, fun w_ hS_ => loadOp_run hS_.1 rfl Try.underlying42 rfl (by kernel_rfl)⟩) (by assumption) ?_
  try simp only [Act.put, List.setIfInBounds_toArray, List.set_cons_zero, List.set_cons_succ, List.getElem_toArray, List.getElem_cons_zero, List.getElem_cons_succ]
  refine wpAnyH_take (i := 1) (v := _) rfl (by kernel_rfl) (by kernel_rfl) (by kernel_rfl) (fun _ _ _ h => h) (Or.inl ⟨by rfl, fun w_ hS_ => loadOp_run hS_.2 rfl Try.underlying35 rfl (by kernel_rfl)⟩) (by assumption) ?_
  try simp only [Act.put, List.setIfInBounds_toArray, List.set_cons_zero, List.set_cons_succ, List.getElem_toArray, List.getElem_cons_zero, List.getElem_cons_succ]
  refine wpAnyH_ready (rs := [2]) (by kernel_rfl) (by simp) ?_
  refine AllReadyH.cons rfl (fun K hK => ?_) AllReadyH.nil
  go_simp
  refine Calls.mono (HT.out w6.drew (HB.out.drew)) ?_
  rintro e w7 ⟨p1, q1, s1, p2, q2, s2, p3, q3, s3, rfl, o1, b7⟩
  have b7' : Below w6.heap.size w6 w7 := (Below.drew (Below.refl _ _)).trans b7
  refine hK.out _ _ ⟨vX.step b7', vA.step b7'⟩ (fun hHeld => ?_)
  clear hK K
  try simp only [Act.put, List.setIfInBounds_toArray, List.set_cons_zero, List.set_cons_succ, List.getElem_toArray, List.getElem_cons_zero, List.getElem_cons_succ]
  refine wpAnyH_ready (rs := [3]) (by kernel_rfl) (by simp) ?_
  refine AllReadyH.cons rfl (fun K hK => ?_) AllReadyH.nil
  go_simp
  refine Calls.mono (HE.out _ _ _ _ _ _ _ _ _ (HQ.out _ (HB5.out.trans (b7'.mono HB5.out.size))) o1) ?_
  rintro e w8 ⟨rfl, b8⟩
  have b8' : Below w6.heap.size w6 w8 := b7'.trans (b8.mono b7'.size)
  refine hK.out _ _ ⟨vX.step b8', vA.step b8'⟩ (fun hHeld => ?_)
  clear hK K
  try simp only [Act.put, List.setIfInBounds_toArray, List.set_cons_zero, List.set_cons_succ, List.getElem_toArray, List.getElem_cons_zero, List.getElem_cons_succ]
  refine wpAnyH_ready (rs := [4]) (by kernel_rfl) (by simp) ?_
  refine AllReadyH.cons rfl (fun K hK => ?_) AllReadyH.nil
  go_simp
  refine hK.out _ _ ⟨vX.step b8', vA.step b8'⟩ (fun hHeld => ?_)
  clear hK K
  try simp only [Act.put, List.setIfInBounds_toArray, List.set_cons_zero, List.set_cons_succ, List.getElem_toArray, List.getElem_cons_zero, List.getElem_cons_succ]
  refine wpAnyH_done (by kernel_rfl) (NoPanic.normal ?_) _
  have B8 := HB.out.trans (b8'.mono HB.out.size)
  clear vX vA hHeld
  go_wp2
  go_ret
  exact ⟨rfl, B8⟩

set_option maxRecDepth 100000 in
theorem lifted (os : Os) (started : os.Started) (H : Type) (enc : TypeId × Value → H) :
    ReturnsInHanded {} Try.checked os 4 .any (Rows.fnExactActionOkSpec.pre6 enc Try.prog Try.f4 Rows.fnExactActionOkRow.domain false) (Rows.fnExactActionOkSpec.post enc Try.prog Try.f4 false true false false) := by
  refine returnsInHanded_of_change (C := Try.checked) own started (by kernel_rfl) Try.func4
    (ChangeSpec.witness6 (enc := enc) (C := Try.checked) false ⟨#[], #[.agg #[.int .i64 0, .int .i64 0, .int .i64 0, .int .i64 0, .int .i64 0, .int .i64 0, .bool false, .slice none 0 0, .int .i64 0, .int .i64 0, .bool false, .slice none 0 0, .int .i64 0, .slice none 0 0, .int .i64 0]], []⟩ 8 (by kernel_rfl) (by kernel_rfl) (by kernel_rfl) (by kernel_rfl)) ?_
  intro W base args ds gs before hval0 hW hcnd _
  have hval : ∀ (j : Nat) t v, Try.f4.params[j]? = some t → args[j]? = some v → Value.okWide Try.prog W .any base t v := hval0
  have hW' := hW
  obtain ⟨p, q, hA0, hV, rfl, hfz, hnd⟩ := hW
  have hA : DataW.TrodAll enc Try.prog W 0 (fun _ => true) true Try.f4.params.toList args.toList ds p := hA0
  rw [Try.params4] at hA hval
  obtain ⟨v0, vs0, x0, ds0, p0, q0, hargs, rfl, rfl, h0, r0⟩ := trodAll_cons hA
  obtain ⟨rfl, rfl, rfl⟩ := trodAll_nil r0
  obtain rfl : args = #[v0] := by cases args; simp_all
  obtain ⟨rfl, rfl⟩ := trodVars_none hV
  have k0 := h0
  have lt0 : ∀ x ∈ p0, x.block < W.heap.size := by obtain ⟨m, hm⟩ := k0; exact DataW.trod_lt m _ _ _ hm
  obtain ⟨d0, e0⟩ := open_actionA (hval 0 35 v0 rfl rfl) h0
  clear hA0 hval0
  refine (walk v0 d0 W e0).mono fun e W' ⟨he, bel⟩ => ?_
  subst he
  exact ⟨_, rfl, _, _, _, [], _, [], hW', trodAll_mk1 (shut_bool Try.underlying4 _), (trodAll_cons_mk (Below.trod laidOut (by kernel_rfl) (of_decide_eq_true (by kernel_rfl)) k0 bel lt0) trodAll_mk0), rfl, bel.frame _, fun h => by cases h⟩

theorem over : Rows.fnExactActionOkRow.holds Try.pinned (OpenSpec.ofChange Rows.fnExactActionOkSpec) :=
  OpenClaim.holds_of_wide 4 Try.f4 rfl rfl rfl rfl rfl rfl rfl ⟨rfl, rfl, rfl, rfl, rfl⟩ rfl rfl rfl rfl rfl (by kernel_rfl) Try.func4 (by kernel_rfl)
    (of_decide_eq_true (by kernel_rfl)) (by unfold Func.isWrapper; first | (rw [if_pos (by decide +kernel)]; kernel_rfl) | (rw [if_neg (by decide +kernel)]; exact ⟨rfl, rfl⟩))
    (fun os started H enc _ => lifted os started H enc)
end Go.Proofs.Ythpcmgbienfgoaa.fnExactActionOk

namespace Go.Proofs.Ythpcmgbienfgoaa
/-- The given statement. -/
theorem fnExactActionOk_holds : Rows.FnExactActionOkSaid := fnExactActionOk.over
#print axioms fnExactActionOk_holds
end Go.Proofs.Ythpcmgbienfgoaa
