/- Proved: for every disk that a caller can hand in, the law FnExactOpen returns true, and its argument reads as before; tied to the package's variable errNoSector as the program's text lays it. Conditions: none of ours. -/
import Derived.Test.YtjhaanenkeceiaaDoorRows
import Derived.Test.YtjhaanenkeceiaaDoorCards
import Derived.Test.YtjhaanenkeceiaaDoorTie
import Derived.Test.YtjhaanenkeceiaaDoorLaid
import Derived.Test.YtjhaanenkeceiaaDoorOpenDisk
import Derived.Test.YtjhaanenkeceiaaDoorWalkFnExactOpen
import Derived.Test.YtjhaanenkeceiaaDoorImplOpen3
import Derived.WalkKit
import Derived.SevenTiedAt
namespace Go.Proofs.YtjhaanenkeceiaaDoor.fnExactOpen
open Go.ChangeShapes Go.WideShapes Go.ChangeAt Go.RowKit
set_option linter.unusedVariables false

theorem walk (v0 : Value) (d0 : Dk) (w : World) (e0 : RdD w 0 w.heap.size v0 d0) (a : Addr) (hg : Glob w a) :
    Calls Tryd.prog 6 #[v0] w fun e w' => e = .returned (.bool true) ∧ Below w.heap.size w w' :=
  walk_of v0 d0 w e0 a hg (fun W u0 l0 h0 r0 k0 g => implOpen_all u0 d0 l0 h0 W r0 k0 a g)

set_option maxRecDepth 100000 in
theorem lifted (os : Os) (started : os.Started) (H : Type) (enc : TypeId × Value → H) :
    ReturnsInHanded {} Tryd.checked os 6 .any (fun w args => (Rows.fnExactOpenSpec.pre enc Tryd.prog Tryd.f6 Rows.fnExactOpenRow.domain false w args ∧ laidMetH Tryd.prog laid1 w) ∧ sizedMet enc Tryd.prog Tryd.f6 (OpenSpec.ofChange Rows.fnExactOpenSpec) false w args)
      (Rows.fnExactOpenSpec.post enc Tryd.prog Tryd.f6 false true false false) := by
  refine returnsInHanded_of_change_and (C := Tryd.checked) (X := fun w _ => laidMetH Tryd.prog laid1 w) (fun _ _ _ hh h => h.of_heap hh) Tryd.own started (by kernel_rfl) Tryd.func6
    (ChangeSpec.witness_shaped (enc := enc) (C := Tryd.checked) (os := os) (X := fun w _ => laidMetH Tryd.prog laid1 w) false (World.laidAll Tryd.prog os laid1) #[.agg #[.slice none 0 0, .slice none 0 0]] 8 (World.laidAll_os _ _ _) (World.shaped_of_ZipB (by kernel_rfl) (by kernel_rfl)) (by kernel_rfl) (by kernel_rfl) (by kernel_rfl) (laidWorld1_met os _)) ?_
  intro W base args ds gs before hval0 hW _ _ hL _
  have hval : ∀ (j : Nat) t v, Tryd.f6.params[j]? = some t → args[j]? = some v → Value.okWide Tryd.prog W .any base t v := hval0
  have hW' := hW
  obtain ⟨p, q, hA0, hV0, rfl, hfz, hnd⟩ := hW
  have hA : DataW.TrodAll enc Tryd.prog W 0 (fun _ => true) true Tryd.f6.params.toList args.toList ds p := hA0
  have hV : DataW.TrodVars enc Tryd.prog W (fun _ => true) ["loop.example/g00341/impl.errNoSector"] gs q := hV0
  rw [Tryd.params6] at hA hval
  obtain ⟨v0, vs0, x0, ds0, p0, q0, hargs, rfl, rfl, h0, r0⟩ := trodAll_cons hA
  obtain ⟨rfl, rfl, rfl⟩ := trodAll_nil r0
  obtain rfl : args = #[v0] := by cases args; simp_all
  obtain ⟨aE, hv0⟩ := sentinel1 hL
  obtain ⟨rfl, rfl⟩ := hV.unique (vars1 enc hv0 _)
  have k0 := h0
  have lt0 : ∀ x ∈ p0, x.block < W.heap.size := by obtain ⟨m, hm⟩ := k0; exact DataW.trod_lt m _ _ _ hm
  obtain ⟨d0, e0⟩ := open_disk (hval 0 48 v0 rfl rfl) h0
  clear hA0 hval0 hV0
  refine (walk v0 d0 W e0 aE (glob_of hv0)).mono fun e W' ⟨he, bel⟩ => ?_
  subst he
  exact ⟨_, rfl, _, _, _, [], _, [.cell 2 0], hW', trodAll_mk1 (shut_bool Tryd.underlying4 _), (trodAll_cons_mk (Below.trod Tryd.laidOut (by kernel_rfl) (of_decide_eq_true (by kernel_rfl)) k0 bel lt0) trodAll_mk0), vars1 enc (var?_below Tryd.g0 hv0 bel) _, bel.frame _, fun h => by cases h⟩

theorem over : Rows.FnExactOpenSaid :=
  OpenClaim.holds_of_wide 6 Tryd.f6 rfl rfl rfl rfl rfl rfl rfl ⟨rfl, rfl, rfl, rfl, rfl⟩ rfl rfl rfl rfl rfl (by kernel_rfl) Tryd.func6 (by kernel_rfl)
    (of_decide_eq_true (by kernel_rfl)) (by unfold Func.isWrapper; first | (rw [if_pos (by decide +kernel)]; kernel_rfl) | (rw [if_neg (by decide +kernel)]; exact ⟨rfl, rfl⟩))
    (fun os started H enc _ => lifted os started H enc)
end Go.Proofs.YtjhaanenkeceiaaDoor.fnExactOpen

namespace Go.Proofs.YtjhaanenkeceiaaDoor
open Go
set_option maxRecDepth 100000 in
/-- The given statement. -/
theorem fnExactOpen_holds : Rows.FnExactOpenCardSaid :=
  Claim7.holds_tied_plain_at .later [] [.sentinel] true Rows.fnExactOpenCard.stood.harness true
    fnExactOpen.over (fun _ h => by cases h) (by kernel_rfl) (fun _ h => by cases h) fnExactOpen_row_tie rfl ⟨rfl, rfl⟩ (by kernel_rfl) rfl
    (fun f fn hf hfn => by
      obtain rfl : f = 6 := Option.some.inj ((show Tryd.prog.funcNamed "loop.example/g00341/laws.FnExactOpen" = some 6 by kernel_rfl).symm.trans hf) |>.symm
      obtain rfl : fn = Tryd.f6 := (Option.some.inj (Tryd.func6.symm.trans hfn)).symm
      exact ⟨by kernel_rfl, fun j t ht => by
        rw [Tryd.params6] at ht
        match j, ht with
        | 0, ht => obtain rfl : 48 = t := by simpa using ht
                   exact (show Tryd.prog.wantsStandIn 48 = false by kernel_rfl)
        | j + 1, ht => simp at ht⟩)
    (by kernel_rfl)
#print axioms fnExactOpen_holds
end Go.Proofs.YtjhaanenkeceiaaDoor
