/- Proved: laws.FnExactGetText answers true at every input, and leaves its argument as it was: at every bytes and every place the program's GetText answers as the specification's, writes into no argument, and its answer owns its memory; no condition. -/
import Derived.Test.YtglpijcfnapdlaaRows
import Derived.Test.YtglpijcfnapdlaaGetTexts
import Derived.Test.YtglpijcfnapdlaaRows0
import Derived.WalkKit
import Derived.ProofKit
import Derived.OpenShut
import Derived.ShutString
import Derived.ChangeOld
import Derived.Below
namespace Go.Proofs.Ytglpijcfnapdlaa.fnExactGetText
open Go.ChangeShapes Go.WideShapes Go.ChangeAt Go.RowKit
open Go.ChangeMaps (open_string shut_string)
set_option linter.unusedVariables false

theorem own : ownKnob Try.prog.godebug = none := by kernel_rfl
theorem laidOut : laidOutB Try.prog = true := by kernel_rfl

set_option maxHeartbeats 2000000 in
theorem walk (a0 : Option Addr) (len0 cap0 : Nat) (z0 : List Int) (a1 : Int) (w : World) (w0 : IsRow .u8 w a0 len0 cap0 z0) (w1 : (Lit.int .i64 a1).wf = true) :
    Calls Try.prog 7 #[.slice a0 len0 cap0, .int .i64 a1] w fun e w' => e = .returned (.bool true) ∧ Below w.heap.size w w' := by
  obtain ⟨zs, hlen, hr, hcap, hcm⟩ := row_reads w0
  have hz := hr.1
  have hpb := (bounds_i64 w1).2
  clear w0 w1 hcap hcm
  by_cases hbig : len0 ≤ 1048576
  · have hl : zs.length ≤ 2097152 := by omega
    have hl2 : zs.length ≤ 2000000 := by omega
    obtain ⟨Z, hZ⟩ : ∃ Z, Z = (getText zs a1).1 := ⟨_, rfl⟩
    obtain ⟨q, hq⟩ : ∃ q, q = (getText zs a1).2 := ⟨_, rfl⟩
    have hZb : isBytes Z := by rw [hZ]; exact getText_bytes hz a1
    have hZl : Z.length ≤ 2097152 := by rw [hZ]; have := getText_len zs a1; omega
    have HZ : Hid _ := hZ
    have HQ : Hid _ := hq
    have HLEN : Hid _ := hlen
    clear hZ hlen hq
    have HI := fun (v : Value) (base : Nat) (w : World) (h : Owns w base v zs) => implGetText_v v zs base a1 w h hz hl2
    have HS := fun (v : Value) (base : Nat) (w : World) (h : Owns w base v zs) => specGetText_v v zs base a1 w h hz hl2 hpb
    rw [← HZ.out, ← HQ.out] at HI HS
    have HI2 : Hid _ := HI
    have HS2 : Hid _ := HS
    clear HI HS
    go_enter Try.func7, Try.ntmps7
    go_wp2_with fail
    refine (toByteS_v _ zs _ _ _ hr HLEN.out hl).mono ?_
    rintro e wA ⟨tA, rfl, oA, bA⟩
    have B1 := bA
    go_wp2_with fail
    refine Calls.mono (HS2.out tA _ _ oA) ?_
    rintro e wB ⟨vw, rfl, oW, bB⟩
    have B2 := B1.trans (bB.mono B1.size)
    go_wp2_with fail
    refine (toByteS_v _ zs _ _ _ (hr.below B2) HLEN.out hl).mono ?_
    rintro e wC ⟨x, rfl, oX, bC⟩
    have oW1 := oW.step bC
    have B3 := B2.trans (bC.mono B2.size)
    go_wp2_with fail
    refine Calls.mono (HI2.out x _ _ oX) ?_
    rintro e wD ⟨g, rfl, oG, bD⟩
    have oW2 := oW1.step bD
    have oX2 := oX.step bD
    have B4 := B3.trans (bD.mono B3.size)
    go_wp2_with fail
    refine (same_v g vw Z _ _ _ oG oW2 hZb hZl).mono ?_
    rintro e wE ⟨rfl, bE⟩
    have oG3 := oG.step bE
    have oW3 := oW2.step bE
    have oX3 := oX2.step bE
    have B5 := B4.trans (bE.mono B4.size)
    go_wp2_with fail
    refine (toByteS_v _ zs _ _ _ (hr.below B5) HLEN.out hl).mono ?_
    rintro e wF ⟨y, rfl, oY, bF⟩
    have oG4 := oG3.step bF
    have oW4 := oW3.step bF
    have oX4 := oX3.step bF
    have B6 := B5.trans (bF.mono B5.size)
    go_wp2_with fail
    refine (same_v x y zs _ _ _ oX4 oY hz hl).mono ?_
    rintro e wG ⟨rfl, bG⟩
    have oG5 := oG4.step bG
    have oW5 := oW4.step bG
    have oX5 := oX4.step bG
    have B7 := B6.trans (bG.mono B6.size)
    have apW : ∀ k, vw.ownBlock = some k → x.ownBlock ≠ some k := apart oW.before oX.from
    have apG : ∀ k, g.ownBlock = some k → x.ownBlock ≠ some k := apart' oX.before oG.from
    have apV : ∀ k, vw.ownBlock = some k → g.ownBlock ≠ some k := apart (oW1.before) oG.from
    have fX : From x w.heap.size := oX.from.le B2.size
    have fG : From g w.heap.size := oG.from.le B3.size
    have HA : Hid _ := And.intro apW (And.intro apG apV)
    clear apW apG apV oG oG3 oG4 oW oW1 oW2 oW3 oW4 oX oX2 oX3 oX4 oY oA B1 B2 B3 B4 B5 B6 bA bB bC bD bE bF bG
    go_wp2_with fail
    refine (mark_v x zs 1 _ _ oX5 hl (by omega) (by omega)).mono ?_
    rintro e wH ⟨rfl, oX6, gH⟩
    have oG6 := oG5.other gH HA.out.2.1
    have oW6 := oW5.other gH HA.out.1
    have B8 := below_mark B7 gH B7.size fX
    clear gH oX5 oX6 oG5 oW5
    go_wp2_with fail
    refine (same_v g vw Z _ _ _ oG6 oW6 hZb hZl).mono ?_
    rintro e wI ⟨rfl, bI⟩
    have oG7 := oG6.step bI
    have oW7 := oW6.step bI
    have B9 := B8.trans (bI.mono B8.size)
    clear oG6 oW6 bI
    go_wp2_with fail
    refine (mark_v g Z 1 _ _ oG7 hZl (by omega) (by omega)).mono ?_
    rintro e wJ ⟨rfl, oG8, gJ⟩
    have oW8 := oW7.other gJ HA.out.2.2
    have B10 := below_mark B9 gJ B9.size fG
    clear gJ oG7 oW7
    go_wp2_with fail
    refine (held_v g Z.length 1 _ _ oG8 hZl (by omega) (by omega)).mono ?_
    rintro e wK ⟨rfl, bK⟩
    have oG9 := oG8.step bK
    have oW9 := oW8.step bK
    have B11 := B10.trans (bK.mono B10.size)
    clear oG8 oW8 bK
    go_wp2_with fail
    refine (toByteS_v _ zs _ _ _ (hr.below B11) HLEN.out hl).mono ?_
    rintro e wL ⟨t, rfl, oT, bL⟩
    have oG10 := oG9.step bL
    have oW10 := oW9.step bL
    have B12 := B11.trans (bL.mono B11.size)
    clear oG9 oW9 bL
    go_wp2_with fail
    refine Calls.mono (HI2.out t _ _ oT) ?_
    rintro e wM ⟨h0, rfl, oH, bM⟩
    have oG11 := oG10.step bM
    have oW11 := oW10.step bM
    have B13 := B12.trans (bM.mono B12.size)
    clear oG10 oW10 bM
    go_wp2_with fail
    refine (same_v h0 vw Z _ _ _ oH oW11 hZb hZl).mono ?_
    rintro e wN ⟨rfl, bN⟩
    have oG12 := oG11.step bN
    have B14 := B13.trans (bN.mono B13.size)
    go_wp2_with fail
    refine (held_v g Z.length 1 _ _ oG12 hZl (by omega) (by omega)).mono ?_
    rintro e wO ⟨rfl, bO⟩
    have B15 := B14.trans (bO.mono B14.size)
    go_wp2
    go_ret
    exact ⟨rfl, B15⟩
  · have hbig' : 1048576 < len0 := by omega
    go_enter Try.func7, Try.ntmps7
    go_wp2
    go_ret
    exact ⟨rfl, Below.refl _ _⟩

set_option maxRecDepth 100000 in
theorem lifted (os : Os) (started : os.Started) (H : Type) (enc : TypeId × Value → H) :
    ReturnsInHanded {} Try.checked os 7 .any (Rows.fnExactGetTextSpec.pre6 enc Try.prog Try.f7 Rows.fnExactGetTextRow.domain false) (Rows.fnExactGetTextSpec.post enc Try.prog Try.f7 false true false false) := by
  refine returnsInHanded_of_change (C := Try.checked) own started (by kernel_rfl) Try.func7
    (ChangeSpec.witness6 (enc := enc) (C := Try.checked) false ⟨#[], #[.slice none 0 0, .int .i64 0], []⟩ 8 (by kernel_rfl) (by kernel_rfl) (by kernel_rfl) (by kernel_rfl)) ?_
  intro W base args ds gs before hval0 hW hcnd _
  have hval : ∀ (j : Nat) t v, Try.f7.params[j]? = some t → args[j]? = some v → Value.okWide Try.prog W .any base t v := hval0
  have hW' := hW
  obtain ⟨p, q, hA0, hV, rfl, hfz, hnd⟩ := hW
  have hA : DataW.TrodAll enc Try.prog W 0 (fun _ => true) true Try.f7.params.toList args.toList ds p := hA0
  rw [Try.params7] at hA hval
  obtain ⟨v0, vs0, d0, ds0, p0, q0, hargs, rfl, rfl, h0, r0⟩ := trodAll_cons hA
  obtain ⟨v1, vs1, d1, ds1, p1, q1, rfl, rfl, rfl, h1, r1⟩ := trodAll_cons r0
  obtain ⟨rfl, rfl, rfl⟩ := trodAll_nil r1
  obtain rfl : args = #[v0, v1] := by cases args; simp_all
  obtain ⟨rfl, rfl⟩ := trodVars_none hV
  obtain ⟨a0, len0, cap0, rfl⟩ := okWide_slice Try.underlying22 (hval 0 22 v0 rfl rfl)
  have k0 := h0
  have lt0 : ∀ x ∈ p0, x.block < W.heap.size := by obtain ⟨m, hm⟩ := k0; exact DataW.trod_lt m _ _ _ hm
  obtain ⟨z0, w0⟩ : ∃ zs, IsRow .u8 W a0 len0 cap0 zs := by
    obtain ⟨fuel, hf⟩ := h0
    rcases open_ints Try.underlying22 Try.underlying5 (by kernel_rfl) hf with ⟨hcs, _⟩ | ⟨x, l, c, zs, hcs, _, hl, hm, hz, _, hcell, hwz⟩
    · simp [Value.cells] at hcs
      obtain ⟨rfl, rfl, rfl⟩ := hcs
      exact ⟨[], .inl ⟨rfl, rfl, rfl, rfl⟩⟩
    · simp [Value.cells] at hcs
      obtain ⟨rfl, rfl, rfl⟩ := hcs
      exact ⟨zs, .inr ⟨_, rfl, hl, hm, by simpa using hz, hcell, hwz⟩⟩
  obtain ⟨a1, rfl, rfl, rfl, w1⟩ := open_int Try.underlying3 (hval 1 3 v1 rfl rfl) h1
  clear hA0 hval0
  refine (walk a0 len0 cap0 z0 a1 W w0 w1).mono fun e W' ⟨he, bel⟩ => ?_
  subst he
  exact ⟨_, rfl, _, _, _, [], _, [], hW', trodAll_mk1 (shut_bool Try.underlying4 _), (trodAll_cons_mk (Below.trod laidOut (by kernel_rfl) (of_decide_eq_true (by kernel_rfl)) k0 bel lt0) (trodAll_cons_mk (shut_int Try.underlying3 w1) trodAll_mk0)), rfl, bel.frame _, fun h => by cases h⟩

theorem over : Rows.fnExactGetTextRow.holds Try.pinned (OpenSpec.ofChange Rows.fnExactGetTextSpec) :=
  OpenClaim.holds_of_wide 7 Try.f7 rfl rfl rfl rfl rfl rfl rfl ⟨rfl, rfl, rfl, rfl, rfl⟩ rfl rfl rfl rfl rfl (by kernel_rfl) Try.func7 (by kernel_rfl)
    (of_decide_eq_true (by kernel_rfl)) (by unfold Func.isWrapper; first | (rw [if_pos (by decide +kernel)]; kernel_rfl) | (rw [if_neg (by decide +kernel)]; exact ⟨rfl, rfl⟩))
    (fun os started H enc _ => lifted os started H enc)

theorem proved : Rows.FnExactGetTextSaid := over
end Go.Proofs.Ytglpijcfnapdlaa.fnExactGetText

namespace Go.Proofs.Ytglpijcfnapdlaa
/-- The given statement. -/
theorem fnExactGetText_holds : Rows.FnExactGetTextSaid := fnExactGetText.proved
#print axioms fnExactGetText_holds
end Go.Proofs.Ytglpijcfnapdlaa
