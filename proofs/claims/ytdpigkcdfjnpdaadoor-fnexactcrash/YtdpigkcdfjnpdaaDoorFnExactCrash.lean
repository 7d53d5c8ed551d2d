/- Proved: for every disk, every list of flags and every number that a caller can hand in, the law FnExactCrash returns true, and its arguments read as before; tied to the package's variable errNoSector as the program's text lays it. Conditions: none of ours. -/
import Derived.Test.YtdpigkcdfjnpdaaDoorRows
import Derived.Test.YtdpigkcdfjnpdaaDoorCards
import Derived.Test.YtdpigkcdfjnpdaaDoorTie
import Derived.Test.YtdpigkcdfjnpdaaDoorLaid
import Derived.Test.YtdpigkcdfjnpdaaDoorOpenDisk
import Derived.Test.YtdpigkcdfjnpdaaDoorOpenLists
import Derived.Test.YtdpigkcdfjnpdaaDoorWalkFnExactCrash
import Derived.WalkKit
import Derived.SevenTiedAt
namespace Go.Proofs.YtdpigkcdfjnpdaaDoor.fnExactCrash
open Go.ChangeShapes Go.WideShapes Go.ChangeAt Go.RowKit
set_option linter.unusedVariables false

set_option maxRecDepth 100000 in
theorem lifted (os : Os) (started : os.Started) (H : Type) (enc : TypeId × Value → H) :
    ReturnsInHanded {} Tryd.checked os 9 .any (fun w args => (Rows.fnExactCrashSpec.pre enc Tryd.prog Tryd.f9 Rows.fnExactCrashRow.domain false w args ∧ laidMetH Tryd.prog laid1 w) ∧ sizedMet enc Tryd.prog Tryd.f9 (OpenSpec.ofChange Rows.fnExactCrashSpec) false w args)
      (Rows.fnExactCrashSpec.post enc Tryd.prog Tryd.f9 false true false false) := by
  refine returnsInHanded_of_change_and (C := Tryd.checked) (X := fun w _ => laidMetH Tryd.prog laid1 w) (fun _ _ _ hh h => h.of_heap hh) Tryd.own started (by kernel_rfl) Tryd.func9
    (ChangeSpec.witness_shaped (enc := enc) (C := Tryd.checked) (os := os) (X := fun w _ => laidMetH Tryd.prog laid1 w) false (World.laidAll Tryd.prog os laid1) #[.agg #[.slice none 0 0, .slice none 0 0], .slice none 0 0, .int .i64 0] 8 (World.laidAll_os _ _ _) (World.shaped_of_ZipB (by kernel_rfl) (by kernel_rfl)) (by kernel_rfl) (by kernel_rfl) (by kernel_rfl) (laidWorld1_met os _)) ?_
  intro W base args ds gs before hval0 hW _ _ hL _
  have hval : ∀ (j : Nat) t v, Tryd.f9.params[j]? = some t → args[j]? = some v → Value.okWide Tryd.prog W .any base t v := hval0
  have hW' := hW
  obtain ⟨p, q, hA0, hV0, rfl, hfz, hnd⟩ := hW
  have hA : DataW.TrodAll enc Tryd.prog W 0 (fun _ => true) true Tryd.f9.params.toList args.toList ds p := hA0
  have hV : DataW.TrodVars enc Tryd.prog W (fun _ => true) ["loop.example/g00341/impl.errNoSector"] gs q := hV0
  rw [Tryd.params9] at hA hval
  obtain ⟨v0, vs0, x0, ds0, p0, q0, hargs, rfl, rfl, h0, r0⟩ := trodAll_cons hA
  obtain ⟨v1, vs1, x1, ds1, p1, q1, rfl, rfl, rfl, h1, r1⟩ := trodAll_cons r0
  obtain ⟨v2, vs2, x2, ds2, p2, q2, rfl, rfl, rfl, h2, r2⟩ := trodAll_cons r1
  obtain ⟨rfl, rfl, rfl⟩ := trodAll_nil r2
  obtain rfl : args = #[v0, v1, v2] := by cases args; simp_all
  obtain ⟨aE, hv0⟩ := sentinel1 hL
  obtain ⟨rfl, rfl⟩ := hV.unique (vars1 enc hv0 _)
  have k0 := h0
  have lt0 : ∀ x ∈ p0, x.block < W.heap.size := by obtain ⟨m, hm⟩ := k0; exact DataW.trod_lt m _ _ _ hm
  obtain ⟨d0, e0⟩ := open_disk (hval 0 46 v0 rfl rfl) h0
  have k1 := h1
  have lt1 : ∀ x ∈ p1, x.block < W.heap.size := by obtain ⟨m, hm⟩ := k1; exact DataW.trod_lt m _ _ _ hm
  obtain ⟨d1, e1⟩ := open_boolsArg (hval 1 38 v1 rfl rfl) h1
  obtain ⟨a2, rfl, rfl, rfl, w2⟩ := open_int Tryd.underlying3 (hval 2 3 v2 rfl rfl) h2
  clear hA0 hval0 hV0
  refine (walk v0 d0 v1 d1 a2 W e0 e1 w2 aE (glob_of hv0)).mono fun e W' ⟨he, bel⟩ => ?_
  subst he
  exact ⟨_, rfl, _, _, _, [], _, [.cell 0 0], hW', trodAll_mk1 (shut_bool Tryd.underlying4 _), (trodAll_cons_mk (Below.trod Tryd.laidOut (by kernel_rfl) (of_decide_eq_true (by kernel_rfl)) k0 bel lt0) (trodAll_cons_mk (Below.trod Tryd.laidOut (by kernel_rfl) (of_decide_eq_true (by kernel_rfl)) k1 bel lt1) (trodAll_cons_mk (shut_int Tryd.underlying3 w2) trodAll_mk0))), vars1 enc (var?_below Tryd.g0 hv0 bel) _, bel.frame _, fun h => by cases h⟩

theorem over : Rows.FnExactCrashSaid :=
  OpenClaim.holds_of_wide 9 Tryd.f9 rfl rfl rfl rfl rfl rfl rfl ⟨rfl, rfl, rfl, rfl, rfl⟩ rfl rfl rfl rfl rfl (by kernel_rfl) Tryd.func9 (by kernel_rfl)
    (of_decide_eq_true (by kernel_rfl)) (by unfold Func.isWrapper; first | (rw [if_pos (by decide +kernel)]; kernel_rfl) | (rw [if_neg (by decide +kernel)]; exact ⟨rfl, rfl⟩))
    (fun os started H enc _ => lifted os started H enc)
end Go.Proofs.YtdpigkcdfjnpdaaDoor.fnExactCrash

namespace Go.Proofs.YtdpigkcdfjnpdaaDoor
open Go
set_option maxRecDepth 100000 in
/-- The given statement. -/
theorem fnExactCrash_holds : Rows.FnExactCrashCardSaid :=
  Claim7.holds_tied_plain_at .later [] [.sentinel] true Rows.fnExactCrashCard.stood.harness true
    fnExactCrash.over (fun _ h => by cases h) (by kernel_rfl) (fun _ h => by cases h) fnExactCrash_row_tie rfl ⟨rfl, rfl⟩ (by kernel_rfl) rfl
    (fun f fn hf hfn => by
      obtain rfl : f = 9 := Option.some.inj ((show Tryd.prog.funcNamed "loop.example/g00341/laws.FnExactCrash" = some 9 by kernel_rfl).symm.trans hf) |>.symm
      obtain rfl : fn = Tryd.f9 := (Option.some.inj (Tryd.func9.symm.trans hfn)).symm
      exact ⟨by kernel_rfl, fun j t ht => by
        rw [Tryd.params9] at ht
        match j, ht with
        | 0, ht => obtain rfl : 46 = t := by simpa using ht
                   exact (show Tryd.prog.wantsStandIn 46 = false by kernel_rfl)
        | 1, ht => obtain rfl : 38 = t := by simpa using ht
                   exact (show Tryd.prog.wantsStandIn 38 = false by kernel_rfl)
        | 2, ht => obtain rfl : 3 = t := by simpa using ht
                   exact (show Tryd.prog.wantsStandIn 3 = false by kernel_rfl)
        | j + 3, ht => simp at ht⟩)
    (by kernel_rfl)
#print axioms fnExactCrash_holds
end Go.Proofs.YtdpigkcdfjnpdaaDoor
