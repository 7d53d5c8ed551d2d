/- Proved: for every list of deeds that a caller can hand in, the law FnExactFollow returns true, and its argument reads as before; tied to the variable errors.errorType as the program's text lays it. Conditions: none of ours. -/
import Derived.Test.YtblahkhniabhiaaGreatDoorRows
import Derived.Test.YtblahkhniabhiaaGreatDoorCards
import Derived.Test.YtblahkhniabhiaaGreatDoorTie
import Derived.Test.YtblahkhniabhiaaGreatDoorFA00
import Derived.Test.YtblahkhniabhiaaGreatDoorFWalkFnExactFollow
import Derived.Test.YtblahkhniabhiaaGreatDoorFA05
import Derived.WalkKit
import Derived.SevenTiedAt
namespace Go.Proofs.YtblahkhniabhiaaGreatDoor.fnExactFollow
open Go.ChangeShapes Go.WideShapes Go.ChangeAt Go.RowKit
set_option linter.unusedVariables false

set_option maxRecDepth 100000 in
theorem lifted (os : Os) (started : os.Started) (H : Type) (enc : TypeId × Value → H) :
    ReturnsInHanded {} Tryz.checked os 3 .any (fun w args => (Rows.fnExactFollowSpec.pre enc Tryz.prog Tryz.f3 Rows.fnExactFollowRow.domain false w args ∧ laidMetH Tryz.prog laidE w) ∧ sizedMet enc Tryz.prog Tryz.f3 (OpenSpec.ofChange Rows.fnExactFollowSpec) false w args)
      (Rows.fnExactFollowSpec.post enc Tryz.prog Tryz.f3 false true false false):=by
  refine returnsInHanded_of_change_and (C:=Tryz.checked) (X:=fun w _ => laidMetH Tryz.prog laidE w) (fun _ _ _ hh h => h.of_heap hh) Tryz.own started (by kernel_rfl) Tryz.func3
    (ChangeSpec.witness_at (enc:=enc) (C:=Tryz.checked) (os:=os) (X:=fun w _ => laidMetH Tryz.prog laidE w) false (laidWorld os) #[.n0] 8 rfl (by kernel_rfl) (by kernel_rfl) (by kernel_rfl) (by kernel_rfl) (by kernel_rfl) (laidWorld_met os _)) ?_
  intro W base args ds gs before hval0 hW _ _ hL _
  have hval : ∀ (j : Nat) t v,Tryz.f3.params[j]? = some t → args[j]? = some v → Value.okWide Tryz.prog W .any base t v:=hval0
  have hW':=hW
  obtain ⟨p,q,hA0,hV0,rfl,hfz,hnd⟩:=hW
  have hA : DataW.TrodAll enc Tryz.prog W 0 (fun _ => true) true Tryz.f3.params.toList args.toList ds p:=hA0
  have hV : DataW.TrodVars enc Tryz.prog W (fun _ => true) [] gs q:=hV0
  rw [Tryz.params3] at hA hval
  obtain ⟨v0,vs0,x0,ds0,p0,q0,hargs,rfl,rfl,h0,r0⟩:=trodAll_cons hA
  obtain ⟨rfl,rfl,rfl⟩:=trodAll_nil r0
  obtain rfl : args = #[v0]:=by cases args; simp_all
  obtain ⟨rfl,rfl⟩:=trodVars_none hV
  have k0:=h0
  have lt0 : ∀ x ∈ p0,x.block < W.heap.size:=by obtain ⟨m,hm⟩:=k0; exact DataW.trod_lt m _ _ _ hm
  obtain ⟨d0,hin0,e0⟩:=open_ddsA (hval 0 22 v0 rfl rfl) h0
  have hg0 : ErrG W:=by
    have hc:=World.var?_cell Tryz.g0 (var_of_laid hL) 0
    have hc2 : W.cell? ⟨0,0,none⟩ = some (.iface 126 (.agg #[hErr])):=hc.trans (by kernel_rfl)
    exact ⟨hc2,block_lt_of_cell (a:=⟨0,0,none⟩) hc2⟩
  clear hA0 hval0 hV0
  refine (walk v0 d0 W hin0 e0 hg0).mono fun e W' ⟨he,bel⟩ => ?_
  subst he
  exact ⟨_,rfl,_,_,_,[],_,[],hW',trodAll_mk1 (shut_bool Tryz.underlying4 _),(trodAll_cons_mk (Below.trod Tryz.laidOut (by kernel_rfl) (of_decide_eq_true (by kernel_rfl)) k0 bel lt0) trodAll_mk0),rfl,bel.frame _,fun h => by cases h⟩

theorem over : Rows.FnExactFollowSaid:=
  OpenClaim.holds_of_wide 3 Tryz.f3 rfl rfl rfl rfl rfl rfl rfl ⟨rfl,rfl,rfl,rfl,rfl⟩ rfl rfl rfl rfl rfl (by kernel_rfl) Tryz.func3 (by kernel_rfl)
    (of_decide_eq_true (by kernel_rfl)) (by unfold Func.isWrapper; first | (rw [if_pos (by decide +kernel)]; kernel_rfl) | (rw [if_neg (by decide +kernel)]; exact ⟨rfl,rfl⟩))
    (fun os started H enc _ => lifted os started H enc)
end Go.Proofs.YtblahkhniabhiaaGreatDoor.fnExactFollow

namespace Go.Proofs.YtblahkhniabhiaaGreatDoor
open Go
set_option maxRecDepth 100000 in
/-- The given statement. -/
theorem fnExactFollow_holds : Rows.FnExactFollowCardSaid:=
  Claim7.holds_tied_plain_at .later [] [.handle] true Rows.fnExactFollowCard.stood.harness true
    fnExactFollow.over (fun _ h => by cases h) (by kernel_rfl) (fun _ h => by cases h) fnExactFollow_row_tie rfl ⟨rfl,rfl⟩ (by kernel_rfl) rfl
    (fun f fn hf hfn => by
      obtain rfl : f = 3 := Option.some.inj ((show Tryz.prog.funcNamed "loop.example/g00341/laws.FnExactFollow" = some 3 by kernel_rfl).symm.trans hf) |>.symm
      obtain rfl : fn = Tryz.f3:=(Option.some.inj (Tryz.func3.symm.trans hfn)).symm
      exact ⟨by kernel_rfl,fun j t ht => by
        rw [Tryz.params3] at ht
        match j,ht with
        | 0, ht => obtain rfl : 22 = t := by simpa using ht
                   exact (show Tryz.prog.wantsStandIn 22 = false by kernel_rfl)
        | j + 1,ht => simp at ht⟩)
    (by kernel_rfl)
#print axioms fnExactFollow_holds
end Go.Proofs.YtblahkhniabhiaaGreatDoor
