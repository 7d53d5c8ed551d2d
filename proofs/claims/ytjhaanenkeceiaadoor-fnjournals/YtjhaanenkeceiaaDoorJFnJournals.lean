/- Proved: laws.FnJournals answers true at every list of bytes that a caller can hand in, and its argument reads as before; tied to the package's variables errNoSector, errNotASector and errTooManyWait as the program's text lays them. Conditions: none of ours. -/
import Derived.Test.YtjhaanenkeceiaaDoorRows
import Derived.Test.YtjhaanenkeceiaaDoorCards
import Derived.Test.YtjhaanenkeceiaaDoorTie
import Derived.Test.YtjhaanenkeceiaaDoorJ02
import Derived.Test.YtjhaanenkeceiaaDoorJ25
import Derived.WalkKit
import Derived.SevenTiedAt
namespace Go.Proofs.YtjhaanenkeceiaaDoor.fnJournals
open Go.ChangeShapes Go.WideShapes Go.ChangeAt Go.RowKit
set_option linter.unusedVariables false

set_option maxRecDepth 100000 in
theorem lifted (os : Os) (started : os.Started) (H : Type) (enc : TypeId × Value → H) :
    ReturnsInHanded {} Tryd.checked os 3 .any (fun w args => (Rows.fnJournalsSpec.pre enc Tryd.prog Tryd.f3 Rows.fnJournalsRow.domain false w args ∧ laidMetH Tryd.prog laid3 w) ∧ sizedMet enc Tryd.prog Tryd.f3 (OpenSpec.ofChange Rows.fnJournalsSpec) false w args)
      (Rows.fnJournalsSpec.post enc Tryd.prog Tryd.f3 false true false false) := by
  refine returnsInHanded_of_change_and (C := Tryd.checked) (X := fun w _ => laidMetH Tryd.prog laid3 w) (fun _ _ _ hh h => h.of_heap hh) Tryd.own started (by kernel_rfl) Tryd.func3
    (ChangeSpec.witness_shaped (enc := enc) (C := Tryd.checked) (os := os) (X := fun w _ => laidMetH Tryd.prog laid3 w) false (World.laidAll Tryd.prog os laid3) #[.slice none 0 0] 8 (World.laidAll_os _ _ _) (World.shaped_of_ZipB (by kernel_rfl) (by kernel_rfl)) (by kernel_rfl) (by kernel_rfl) (by kernel_rfl) (laidWorld3_met os _)) ?_
  intro W base args ds gs before hval0 hW _ _ hL _
  have hval : ∀ (j : Nat) t v, Tryd.f3.params[j]? = some t → args[j]? = some v → Value.okWide Tryd.prog W .any base t v := hval0
  have hW' := hW
  obtain ⟨p, q, hA0, hV0, rfl, hfz, hnd⟩ := hW
  have hA : DataW.TrodAll enc Tryd.prog W 0 (fun _ => true) true Tryd.f3.params.toList args.toList ds p := hA0
  have hV : DataW.TrodVars enc Tryd.prog W (fun _ => true) ["loop.example/g00341/impl.errNoSector", "loop.example/g00341/impl.errNotASector", "loop.example/g00341/impl.errTooManyWait"] gs q := hV0
  rw [Tryd.params3] at hA hval
  obtain ⟨v0, vs0, x0, ds0, p0, q0, hargs, rfl, rfl, h0, r0⟩ := trodAll_cons hA
  obtain ⟨rfl, rfl, rfl⟩ := trodAll_nil r0
  obtain rfl : args = #[v0] := by cases args; simp_all
  obtain ⟨aE, bE, cE, hv0, hv1, hv2⟩ := sentinel3 hL
  obtain ⟨rfl, rfl⟩ := hV.unique (vars3 enc hv0 hv1 hv2 _)
  have k0 := h0
  have lt0 : ∀ x ∈ p0, x.block < W.heap.size := by obtain ⟨m, hm⟩ := k0; exact DataW.trod_lt m _ _ _ hm
  obtain ⟨d0, e0⟩ := open_bytesArg (hval 0 22 v0 rfl rfl) h0
  clear hA0 hval0 hV0
  refine (walk v0 d0 W e0 aE (glob_of hv0) bE cE (glob1_of hv1) (glob2_of hv2)).mono fun e W' ⟨he, bel⟩ => ?_
  subst he
  exact ⟨_, rfl, _, _, _, [], _, [.cell 2 0, .cell 0 0, .cell 1 0], hW', trodAll_mk1 (shut_bool Tryd.underlying4 _), (trodAll_cons_mk (Below.trod Tryd.laidOut (by kernel_rfl) (of_decide_eq_true (by kernel_rfl)) k0 bel lt0) trodAll_mk0), vars3 enc (var?_below Tryd.g0 hv0 bel) (var?_below Tryd.g1 hv1 bel) (var?_below Tryd.g2 hv2 bel) _, bel.frame _, fun h => by cases h⟩

theorem over : Rows.FnJournalsSaid :=
  OpenClaim.holds_of_wide 3 Tryd.f3 rfl rfl rfl rfl rfl rfl rfl ⟨rfl, rfl, rfl, rfl, rfl⟩ rfl rfl rfl rfl rfl (by kernel_rfl) Tryd.func3 (by kernel_rfl)
    (of_decide_eq_true (by kernel_rfl)) (by unfold Func.isWrapper; first | (rw [if_pos (by decide +kernel)]; kernel_rfl) | (rw [if_neg (by decide +kernel)]; exact ⟨rfl, rfl⟩))
    (fun os started H enc _ => lifted os started H enc)
end Go.Proofs.YtjhaanenkeceiaaDoor.fnJournals

namespace Go.Proofs.YtjhaanenkeceiaaDoor
open Go
set_option maxRecDepth 100000 in
/-- The given statement. -/
theorem fnJournals_holds : Rows.FnJournalsCardSaid :=
  Claim7.holds_tied_plain_at .later [] [.sentinel, .sentinel, .sentinel] true Rows.fnJournalsCard.stood.harness true
    fnJournals.over (fun _ h => by cases h) (by kernel_rfl) (fun _ h => by cases h) fnJournals_row_tie rfl ⟨rfl, rfl⟩ (by kernel_rfl) rfl
    (fun f fn hf hfn => by
      obtain rfl : f = 3 := Option.some.inj ((show Tryd.prog.funcNamed "loop.example/g00341/laws.FnJournals" = some 3 by kernel_rfl).symm.trans hf) |>.symm
      obtain rfl : fn = Tryd.f3 := (Option.some.inj (Tryd.func3.symm.trans hfn)).symm
      exact ⟨by kernel_rfl, fun j t ht => by
        rw [Tryd.params3] at ht
        match j, ht with
        | 0, ht => obtain rfl : 22 = t := by simpa using ht
                   exact (show Tryd.prog.wantsStandIn 22 = false by kernel_rfl)
        | j + 1, ht => simp at ht⟩)
    (by kernel_rfl)
#print axioms fnJournals_holds
end Go.Proofs.YtjhaanenkeceiaaDoor
