/- Proved: for every reply that a caller can hand in, the law FnExactReplyOk returns true, and its argument reads as before. Conditions: none. -/
import Derived.Test.YtaaongjnpnanmaaRows
import Derived.Test.YtaaongjnpnanmaaOpenW
import Derived.Test.YtaaongjnpnanmaaWOk3
import Derived.Test.YtaaongjnpnanmaaWTo
import Derived.Test.YtaaongjnpnanmaaWEq
import Derived.Test.YtaaongjnpnanmaaWSz
import Derived.WalkKit
import Derived.ProofKit
import Derived.OpenShut
import Derived.ShutString
import Derived.ChangeOld
import Derived.Below
namespace Go.Proofs.Ytaaongjnpnanmaa.fnExactReplyOk
open Go.ChangeShapes Go.WideShapes Go.ChangeAt Go.RowKit
set_option linter.unusedVariables false

theorem own : ownKnob Try.prog.godebug = none := by kernel_rfl
theorem laidOut : laidOutB Try.prog = true := by kernel_rfl

set_option maxRecDepth 100000 in
set_option maxHeartbeats 4000000 in
theorem walk (v0 : Value) (o : RpD) (w : World) (e0 : ∃ u, v0 = rpV o u ∧ RdV w (Old w) u (ensDt o.list)) :
    Calls Try.prog 6 #[v0] w fun e w' => e = .returned (.bool true) ∧ Below w.heap.size w w' := by
  obtain ⟨u, rfl, r⟩ := e0
  have HZ : Hid (∀ W, Below w.heap.size w W → _) := fun W hW => szReply_d u o (Old w) 1048576 W (Nat.le_refl _) (r.step hW)
  by_cases hsz : szEns o.list ≤ 1048576
  case neg =>
    have hl : leftT (szEns o.list) 1048576 = -1 := by unfold leftT; rw [if_neg hsz]
    rw [hl] at HZ
    clear hl
    obtain ⟨a, cap, rfl, _⟩ := RdV.sliced r
    clear r hsz
    obtain ⟨kd, ⟨p, q, d⟩, vl, es⟩ := o
    dsimp only at HZ ⊢
    generalize es.length = n0 at *
    go_enter Try.func6, Try.ntmps6
    go_wp2_with fail
    refine Calls.mono (HZ.out _ (Below.newH _)) ?_
    rintro e w2 ⟨rfl, b_⟩
    go_wp2
    go_ret
    exact ⟨rfl, (Below.newH (w := w) _).trans (b_.mono (by simp))⟩
  have hl : leftT (szEns o.list) 1048576 = ((1048576 - (szEns o.list) : Nat) : Int) := by unfold leftT; rw [if_pos hsz]; omega
  rw [hl] at HZ
  generalize 1048576 - (szEns o.list) = z at HZ
  clear hl
  have h1 : szEns o.list ≤ 2097152 := by omega
  have HT : Hid (∀ W, Below w.heap.size w W → _) := fun W hW => toReply_any u o (Old w) W (r.step hW) h1
  have HS : Hid (∀ u S W, RdV W S u (ensDt o.list) → _) := fun u S W q1 => specReplyOk_any u o S W q1 h1
  have HI : Hid (∀ u S W, RdV W S u (ensDt o.list) → _) := fun u S W q1 => implReplyOk_any u o S W q1 h1
  have HE : Hid (∀ u u2 S S2 W, RdV W S u (ensDt o.list) → RdV W S2 u2 (ensDt o.list) → _) := fun u u2 S S2 W q1 q2 => eqReply_same u u2 o S S2 W q1 q2 h1
  obtain ⟨a, cap, rfl, _⟩ := RdV.sliced r
  generalize ROk o = b at HS HI
  have hbb : (b != b) = false := by simp
  clear r hsz h1
  obtain ⟨kd, ⟨p, q, d⟩, vl, es⟩ := o
  dsimp only at HZ HT HS HI HE ⊢
  generalize es.length = n0 at *
  go_enter Try.func6, Try.ntmps6
  go_wp2_with fail
  refine Calls.mono (HZ.out _ (Below.newH _)) ?_
  rintro e w2 ⟨rfl, b_⟩
  have vA := VarA.step (VarA.new w _ _) b_
  have HB : Hid _ := (Below.newH (w := w) _).trans (b_.mono (by simp))
  clear b_ HZ
  obtain ⟨a0_, a1_, a2_, a3_, a4_, a5_⟩ := vA.l6
  go_wp2_with fail
  refine Calls.mono (HT.out _ HB.out) ?_
  rintro e w3 ⟨ta, tn, tc, rfl, o1, b_⟩
  have vA_ := vA.step b_
  have HB_ : Hid _ := HB.out.trans (b_.mono HB.out.size)
  have q1 := OwV.rd (OwV.mono (S' := fun _ => True) (fun _ _ => trivial) o1)
  have HQ : Hid _ := HS.out _ _ _ q1
  clear vA HB b_ a0_ a1_ a2_ a3_ a4_ a5_ o1 q1 HS
  go_wp2_with fail
  refine Calls.mono HQ.out ?_
  rintro e w4 ⟨rfl, b_⟩
  have vA := vA_.step b_
  have HB : Hid _ := HB_.out.trans (b_.mono HB_.out.size)
  clear vA_ HB_ b_ HQ
  obtain ⟨a0_, a1_, a2_, a3_, a4_, a5_⟩ := vA.l6
  go_wp2_with fail
  refine Calls.mono (HT.out _ HB.out) ?_
  rintro e w5 ⟨xa, xn, xc, rfl, o1, b_⟩
  have q1 := OwV.rd (OwV.mono (S' := fun _ => True) (fun _ _ => trivial) o1)
  have vA_ := vA.step b_
  have HB_ : Hid _ := HB.out.trans (b_.mono HB.out.size)
  have HQ : Hid (∀ W, Below w5.heap.size w5 W → RdV W (fun _ => True) (.slice xa xn xc) _) := fun W hW => q1.step hW
  clear vA HB b_ a0_ a1_ a2_ a3_ a4_ a5_ o1 q1
  go_wp2_with fail
  refine Calls.mono (HI.out _ _ _ (HQ.out _ (Below.newH _))) ?_
  rintro e w6 ⟨rfl, b_⟩
  have vA := (vA_.alloc _).step b_
  have vX := VarA.step (VarA.new w5 _ _) b_
  have b5 : Below w5.heap.size w5 w6 := (Below.newH (w := w5) _).trans (b_.mono (by simp))
  have HB : Hid _ := HB_.out.trans (b5.mono HB_.out.size)
  have HB5 : Hid _ := b5
  clear vA_ HB_ b_ HI b5
  obtain ⟨x0_, x1_, x2_, x3_, x4_, x5_⟩ := vX.l6
  obtain ⟨a0_, a1_, a2_, a3_, a4_, a5_⟩ := vA.l6
  have hx_ := vX.lt
  have hl_ := vA.lt
  go_wp2
  go_region_held3 (fun w' => w'.cell? ⟨w5.heap.size, 0, none⟩ = some (.int .i64 kd) ∧ w'.cell? ⟨w5.heap.size, 1, none⟩ = some (.int .i64 p) ∧ w'.cell? ⟨w5.heap.size, 2, none⟩ = some (.int .i64 q) ∧ w'.cell? ⟨w5.heap.size, 3, none⟩ = some (.bool d) ∧ w'.cell? ⟨w5.heap.size, 4, none⟩ = some (.int .i64 vl) ∧ w'.cell? ⟨w5.heap.size, 5, none⟩ = some (.slice xa xn xc) ∧ w'.cell? ⟨w.heap.size, 0, none⟩ = some (.int .i64 kd) ∧ w'.cell? ⟨w.heap.size, 1, none⟩ = some (.int .i64 p) ∧ w'.cell? ⟨w.heap.size, 2, none⟩ = some (.int .i64 q) ∧ w'.cell? ⟨w.heap.size, 3, none⟩ = some (.bool d) ∧ w'.cell? ⟨w.heap.size, 4, none⟩ = some (.int .i64 vl) ∧ w'.cell? ⟨w.heap.size, 5, none⟩ = some (.slice a n0 cap)) (first | go_keep | (refine ⟨?_, ?_, ?_, ?_, ?_, ?_, ?_, ?_, ?_, ?_, ?_, ?_⟩ <;> assumption)) (first
    | (go_at_call 24; refine Calls.mono (HT.out w6.drew (HB.out.drew)) ?_; rintro e w7 ⟨za, zn, zc, rfl, o1, b7⟩; have b7' : Below w6.heap.size w6 w7 := (Below.drew (Below.refl _ _)).trans b7; obtain ⟨kx0_, kx1_, kx2_, kx3_, kx4_, kx5_⟩ := (vX.step b7').l6; obtain ⟨ka0_, ka1_, ka2_, ka3_, ka4_, ka5_⟩ := (vA.step b7').l6)
    | (go_at_call 26; refine Calls.mono (HE.out _ _ _ _ _ (HQ.out _ (HB5.out.trans (b7'.mono HB5.out.size))) (OwV.rd (OwV.mono (S' := fun _ => True) (fun _ _ => trivial) o1))) ?_; rintro e w8 ⟨rfl, b8⟩; have b8' : Below w6.heap.size w6 w8 := b7'.trans (b8.mono b7'.size); obtain ⟨jx0_, jx1_, jx2_, jx3_, jx4_, jx5_⟩ := (vX.step b8').l6; obtain ⟨ja0_, ja1_, ja2_, ja3_, ja4_, ja5_⟩ := (vA.step b8').l6))
  all_goals
    have B8 := HB.out.trans (b8'.mono HB.out.size)
    clear vX vA
    go_wp2
    go_ret
    exact ⟨rfl, B8⟩

set_option maxRecDepth 100000 in
theorem lifted (os : Os) (started : os.Started) (H : Type) (enc : TypeId × Value → H) :
    ReturnsInHanded {} Try.checked os 6 .any (Rows.fnExactReplyOkSpec.pre6 enc Try.prog Try.f6 Rows.fnExactReplyOkRow.domain false) (Rows.fnExactReplyOkSpec.post enc Try.prog Try.f6 false true false false) := by
  refine returnsInHanded_of_change (C := Try.checked) own started (by kernel_rfl) Try.func6
    (ChangeSpec.witness6 (enc := enc) (C := Try.checked) false ⟨#[], #[.agg #[.int .i64 0, .int .i64 0, .int .i64 0, .bool false, .int .i64 0, .slice none 0 0]], []⟩ 8 (by kernel_rfl) (by kernel_rfl) (by kernel_rfl) (by kernel_rfl)) ?_
  intro W base args ds gs before hval0 hW hcnd _
  have hval : ∀ (j : Nat) t v, Try.f6.params[j]? = some t → args[j]? = some v → Value.okWide Try.prog W .any base t v := hval0
  have hW' := hW
  obtain ⟨p, q, hA0, hV, rfl, hfz, hnd⟩ := hW
  have hA : DataW.TrodAll enc Try.prog W 0 (fun _ => true) true Try.f6.params.toList args.toList ds p := hA0
  rw [Try.params6] at hA hval
  obtain ⟨v0, vs0, x0, ds0, p0, q0, hargs, rfl, rfl, h0, r0⟩ := trodAll_cons hA
  obtain ⟨rfl, rfl, rfl⟩ := trodAll_nil r0
  obtain rfl : args = #[v0] := by cases args; simp_all
  obtain ⟨rfl, rfl⟩ := trodVars_none hV
  have k0 := h0
  have lt0 : ∀ x ∈ p0, x.block < W.heap.size := by obtain ⟨m, hm⟩ := k0; exact DataW.trod_lt m _ _ _ hm
  obtain ⟨d0, e0⟩ := open_replyA (hval 0 54 v0 rfl rfl) h0
  clear hA0 hval0
  refine (walk v0 d0 W e0).mono fun e W' ⟨he, bel⟩ => ?_
  subst he
  exact ⟨_, rfl, _, _, _, [], _, [], hW', trodAll_mk1 (shut_bool Try.underlying4 _), (trodAll_cons_mk (Below.trod laidOut (by kernel_rfl) (of_decide_eq_true (by kernel_rfl)) k0 bel lt0) trodAll_mk0), rfl, bel.frame _, fun h => by cases h⟩

theorem over : Rows.fnExactReplyOkRow.holds Try.pinned (OpenSpec.ofChange Rows.fnExactReplyOkSpec) :=
  OpenClaim.holds_of_wide 6 Try.f6 rfl rfl rfl rfl rfl rfl rfl ⟨rfl, rfl, rfl, rfl, rfl⟩ rfl rfl rfl rfl rfl (by kernel_rfl) Try.func6 (by kernel_rfl)
    (of_decide_eq_true (by kernel_rfl)) (by unfold Func.isWrapper; first | (rw [if_pos (by decide +kernel)]; kernel_rfl) | (rw [if_neg (by decide +kernel)]; exact ⟨rfl, rfl⟩))
    (fun os started H enc _ => lifted os started H enc)
end Go.Proofs.Ytaaongjnpnanmaa.fnExactReplyOk

namespace Go.Proofs.Ytaaongjnpnanmaa
/-- The given statement. -/
theorem fnExactReplyOk_holds : Rows.FnExactReplyOkSaid := fnExactReplyOk.over
#print axioms fnExactReplyOk_holds
end Go.Proofs.Ytaaongjnpnanmaa
