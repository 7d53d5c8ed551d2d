/- Proved: laws.FnExactPutText answers true at every input, and leaves its arguments as they were: at every bytes and every text the program's PutText answers as the specification's, writes into no argument, and its answer owns its memory; no condition. -/
import Derived.Test.YtglpijcfnapdlaaRows
import Derived.Test.YtglpijcfnapdlaaGetTexts
import Derived.Test.YtglpijcfnapdlaaRows0
import Derived.WalkKit
import Derived.ProofKit
import Derived.OpenShut
import Derived.ShutString
import Derived.ChangeOld
import Derived.Below
namespace Go.Proofs.Ytglpijcfnapdlaa.fnExactPutText
open Go.ChangeShapes Go.WideShapes Go.ChangeAt Go.RowKit
open Go.ChangeMaps (open_string shut_string)
set_option linter.unusedVariables false

theorem own : ownKnob Try.prog.godebug = none := by kernel_rfl
theorem laidOut : laidOutB Try.prog = true := by kernel_rfl

set_option maxHeartbeats 4000000 in
theorem walk (a0 : Option Addr) (len0 cap0 : Nat) (z0 : List Int) (a1 : Option Addr) (len1 cap1 : Nat) (z1 : List Int) (w : World) (w0 : IsRow .u8 w a0 len0 cap0 z0) (w1 : IsRow .u8 w a1 len1 cap1 z1) :
    Calls Try.prog 6 #[.slice a0 len0 cap0, .slice a1 len1 cap1] w fun e w' => e = .returned (.bool true) ∧ Below w.heap.size w w' := by
  obtain ⟨zs, hlen, hr, hcap, hcm⟩ := row_reads w0
  obtain ⟨ts, tlen, tr, tcap, tcm⟩ := row_reads w1
  have hz := hr.1
  have tz := tr.1
  clear w0 w1 hcap hcm tcap tcm
  by_cases hbig : len0 ≤ 1048576
  · by_cases tbig : len1 ≤ 1048576
    · have hl : zs.length ≤ 2097152 := by omega
      have hl2 : zs.length ≤ 2000000 := by omega
      have tl : ts.length ≤ 2097152 := by omega
      have tl2 : ts.length ≤ 2000000 := by omega
      obtain ⟨Z, hZ⟩ : ∃ Z, Z = zs ++ textB ts := ⟨_, rfl⟩
      have hZb : isBytes Z := by rw [hZ]; exact isBytes_append hz (textB_bytes tz)
      have hZl : Z.length ≤ 2097152 := by rw [hZ, List.length_append]; have := textB_len ts; omega
      have HZ : Hid _ := hZ
      have HLEN : Hid _ := hlen
      have TLEN : Hid _ := tlen
      clear hZ hlen tlen
      have HI := fun (v u : Value) (b c : Nat) (w : World) (h : Owns w b v zs) (k : Owns w c u ts) => implPutText_v v u zs ts b c w h k hz tz hl2 tl2
      have HS := fun (v u : Value) (b c : Nat) (w : World) (h : Owns w b v zs) (k : Owns w c u ts) => specPutText_v v u zs ts b c w h k hz tz hl2 tl2
      rw [← HZ.out] at HI HS
      have HI2 : Hid _ := HI
      have HS2 : Hid _ := HS
      clear HI HS
      go_enter Try.func6, Try.ntmps6
      go_wp2_with fail
      refine (toByteS_v _ zs _ _ _ hr HLEN.out hl).mono ?_
      rintro e wA ⟨tA, rfl, oA, bA⟩
      have B0 := bA
      go_wp2_with fail
      refine (toByteS_v _ ts _ _ _ (tr.below B0) TLEN.out tl).mono ?_
      rintro e wA2 ⟨tA2, rfl, oA2, bA2⟩
      have oA1 := oA.step bA2
      have B1 := B0.trans (bA2.mono B0.size)
      go_wp2_with fail
      refine Calls.mono (HS2.out tA tA2 _ _ _ oA1 oA2) ?_
      rintro e wB ⟨vw, rfl, oW, bB⟩
      have B2 := B1.trans (bB.mono B1.size)
      go_wp2_with fail
      refine (toByteS_v _ zs _ _ _ (hr.below B2) HLEN.out hl).mono ?_
      rintro e wC ⟨x, rfl, oX, bC⟩
      have oW1 := oW.step bC
      have B3 := B2.trans (bC.mono B2.size)
      go_wp2_with fail
      refine (toByteS_v _ ts _ _ _ (tr.below B3) TLEN.out tl).mono ?_
      rintro e wC2 ⟨y, rfl, oY, bC2⟩
      have oW1b := oW1.step bC2
      have oX1 := oX.step bC2
      have B3b := B3.trans (bC2.mono B3.size)
      go_wp2_with fail
      refine Calls.mono (HI2.out x y _ _ _ oX1 oY) ?_
      rintro e wD ⟨g, rfl, oG, bD⟩
      have oW2 := oW1b.step bD
      have oX2 := oX1.step bD
      have oY2 := oY.step bD
      have B4 := B3b.trans (bD.mono B3b.size)
      go_wp2_with fail
      refine (same_v g vw Z _ _ _ oG oW2 hZb hZl).mono ?_
      rintro e wE ⟨rfl, bE⟩
      have oG3 := oG.step bE
      have oW3 := oW2.step bE
      have oX3 := oX2.step bE
      have oY3 := oY2.step bE
      have B5 := B4.trans (bE.mono B4.size)
      go_wp2_with fail
      refine (toByteS_v _ zs _ _ _ (hr.below B5) HLEN.out hl).mono ?_
      rintro e wF ⟨s, rfl, oS, bF⟩
      have oG4 := oG3.step bF
      have oW4 := oW3.step bF
      have oX4 := oX3.step bF
      have oY4 := oY3.step bF
      have B6 := B5.trans (bF.mono B5.size)
      go_wp2_with fail
      refine (same_v x s zs _ _ _ oX4 oS hz hl).mono ?_
      rintro e wG ⟨rfl, bG⟩
      have oG5 := oG4.step bG
      have oW5 := oW4.step bG
      have oX5 := oX4.step bG
      have oY5 := oY4.step bG
      have B7 := B6.trans (bG.mono B6.size)
      go_wp2_with fail
      refine (toByteS_v _ ts _ _ _ (tr.below B7) TLEN.out tl).mono ?_
      rintro e wF2 ⟨s2, rfl, oS2, bF2⟩
      have oG6 := oG5.step bF2
      have oW6 := oW5.step bF2
      have oX6 := oX5.step bF2
      have oY6 := oY5.step bF2
      have B8 := B7.trans (bF2.mono B7.size)
      go_wp2_with fail
      refine (same_v y s2 ts _ _ _ oY6 oS2 tz tl).mono ?_
      rintro e wG2 ⟨rfl, bG2⟩
      have oG7 := oG6.step bG2
      have oW7 := oW6.step bG2
      have oX7 := oX6.step bG2
      have oY7 := oY6.step bG2
      have B9 := B8.trans (bG2.mono B8.size)
      have a1 : ∀ k, vw.ownBlock = some k → x.ownBlock ≠ some k := apart oW.before oX.from
      have a2 : ∀ k, g.ownBlock = some k → x.ownBlock ≠ some k := apart' oX1.before oG.from
      have a3 : ∀ k, y.ownBlock = some k → x.ownBlock ≠ some k := apart' oX.before oY.from
      have a4 : ∀ k, vw.ownBlock = some k → y.ownBlock ≠ some k := apart oW1.before oY.from
      have a5 : ∀ k, g.ownBlock = some k → y.ownBlock ≠ some k := apart' oY.before oG.from
      have a6 : ∀ k, vw.ownBlock = some k → g.ownBlock ≠ some k := apart oW1b.before oG.from
      have fX : From x w.heap.size := oX.from.le B2.size
      have fY : From y w.heap.size := oY.from.le B3.size
      have fG : From g w.heap.size := oG.from.le B3b.size
      have HA : Hid _ := And.intro a1 (And.intro a2 (And.intro a3 (And.intro a4 (And.intro a5 a6))))
      clear a1 a2 a3 a4 a5 a6 oG oG3 oG4 oG5 oG6 oW oW1 oW1b oW2 oW3 oW4 oW5 oW6 oX oX1 oX2 oX3 oX4 oX5 oX6 oY oY2 oY3 oY4 oY5 oY6 oS oS2 oA oA1 oA2 B0 B1 B2 B3 B3b B4 B5 B6 B7 B8 bA bA2 bB bC bC2 bD bE bF bG bF2 bG2
      go_wp2_with fail
      refine (mark_v x zs 1 _ _ oX7 hl (by omega) (by omega)).mono ?_
      rintro e wH ⟨rfl, oX8, gH⟩
      have oG8 := oG7.other gH HA.out.2.1
      have oW8 := oW7.other gH HA.out.1
      have oY8 := oY7.other gH HA.out.2.2.1
      have B10 := below_mark B9 gH B9.size fX
      clear gH oX7 oX8 oG7 oW7 oY7
      go_wp2_with fail
      refine (mark_v y ts (1 + (zs.length : Int)) _ _ oY8 tl (by omega) (by omega)).mono ?_
      rintro e wH2 ⟨rfl, oY9, gH2⟩
      have oG9 := oG8.other gH2 HA.out.2.2.2.2.1
      have oW9 := oW8.other gH2 HA.out.2.2.2.1
      have B11 := below_mark B10 gH2 B10.size fY
      clear gH2 oY8 oY9 oG8 oW8
      go_wp2_with fail
      refine (same_v g vw Z _ _ _ oG9 oW9 hZb hZl).mono ?_
      rintro e wI ⟨rfl, bI⟩
      have oG10 := oG9.step bI
      have oW10 := oW9.step bI
      have B12 := B11.trans (bI.mono B11.size)
      clear oG9 oW9 bI
      go_wp2_with fail
      refine (mark_v g Z 1 _ _ oG10 hZl (by omega) (by omega)).mono ?_
      rintro e wJ ⟨rfl, oG11, gJ⟩
      have oW11 := oW10.other gJ HA.out.2.2.2.2.2
      have B13 := below_mark B12 gJ B12.size fG
      clear gJ oG10 oW10
      go_wp2_with fail
      refine (held_v g Z.length 1 _ _ oG11 hZl (by omega) (by omega)).mono ?_
      rintro e wK ⟨rfl, bK⟩
      have oG12 := oG11.step bK
      have oW12 := oW11.step bK
      have B14 := B13.trans (bK.mono B13.size)
      clear oG11 oW11 bK
      go_wp2_with fail
      refine (toByteS_v _ zs _ _ _ (hr.below B14) HLEN.out hl).mono ?_
      rintro e wL ⟨t, rfl, oT, bL⟩
      have oG13 := oG12.step bL
      have oW13 := oW12.step bL
      have B15 := B14.trans (bL.mono B14.size)
      clear oG12 oW12 bL
      go_wp2_with fail
      refine (toByteS_v _ ts _ _ _ (tr.below B15) TLEN.out tl).mono ?_
      rintro e wL2 ⟨t2, rfl, oT2, bL2⟩
      have oG14 := oG13.step bL2
      have oW14 := oW13.step bL2
      have oT1 := oT.step bL2
      have B16 := B15.trans (bL2.mono B15.size)
      clear oG13 oW13 bL2 oT
      go_wp2_with fail
      refine Calls.mono (HI2.out t t2 _ _ _ oT1 oT2) ?_
      rintro e wM ⟨h0, rfl, oH, bM⟩
      have oG15 := oG14.step bM
      have oW15 := oW14.step bM
      have B17 := B16.trans (bM.mono B16.size)
      clear oG14 oW14 bM
      go_wp2_with fail
      refine (same_v h0 vw Z _ _ _ oH oW15 hZb hZl).mono ?_
      rintro e wN ⟨rfl, bN⟩
      have oG16 := oG15.step bN
      have B18 := B17.trans (bN.mono B17.size)
      go_wp2_with fail
      refine (held_v g Z.length 1 _ _ oG16 hZl (by omega) (by omega)).mono ?_
      rintro e wO ⟨rfl, bO⟩
      have B19 := B18.trans (bO.mono B18.size)
      go_wp2
      go_ret
      exact ⟨rfl, B19⟩
    · have tbig' : 1048576 < len1 := by omega
      go_enter Try.func6, Try.ntmps6
      go_wp2
      go_ret
      exact ⟨rfl, Below.refl _ _⟩
  · have hbig' : 1048576 < len0 := by omega
    go_enter Try.func6, Try.ntmps6
    go_wp2
    go_ret
    exact ⟨rfl, Below.refl _ _⟩

set_option maxRecDepth 100000 in
theorem lifted (os : Os) (started : os.Started) (H : Type) (enc : TypeId × Value → H) :
    ReturnsInHanded {} Try.checked os 6 .any (Rows.fnExactPutTextSpec.pre6 enc Try.prog Try.f6 Rows.fnExactPutTextRow.domain false) (Rows.fnExactPutTextSpec.post enc Try.prog Try.f6 false true false false) := by
  refine returnsInHanded_of_change (C := Try.checked) own started (by kernel_rfl) Try.func6
    (ChangeSpec.witness6 (enc := enc) (C := Try.checked) false ⟨#[], #[.slice none 0 0, .slice none 0 0], []⟩ 8 (by kernel_rfl) (by kernel_rfl) (by kernel_rfl) (by kernel_rfl)) ?_
  intro W base args ds gs before hval0 hW hcnd _
  have hval : ∀ (j : Nat) t v, Try.f6.params[j]? = some t → args[j]? = some v → Value.okWide Try.prog W .any base t v := hval0
  have hW' := hW
  obtain ⟨p, q, hA0, hV, rfl, hfz, hnd⟩ := hW
  have hA : DataW.TrodAll enc Try.prog W 0 (fun _ => true) true Try.f6.params.toList args.toList ds p := hA0
  rw [Try.params6] at hA hval
  obtain ⟨v0, vs0, d0, ds0, p0, q0, hargs, rfl, rfl, h0, r0⟩ := trodAll_cons hA
  obtain ⟨v1, vs1, d1, ds1, p1, q1, rfl, rfl, rfl, h1, r1⟩ := trodAll_cons r0
  obtain ⟨rfl, rfl, rfl⟩ := trodAll_nil r1
  obtain rfl : args = #[v0, v1] := by cases args; simp_all
  obtain ⟨rfl, rfl⟩ := trodVars_none hV
  obtain ⟨a0, len0, cap0, rfl⟩ := okWide_slice Try.underlying22 (hval 0 22 v0 rfl rfl)
  have k0 := h0
  have lt0 : ∀ x ∈ p0, x.block < W.heap.size := by obtain ⟨m, hm⟩ := k0; exact DataW.trod_lt m _ _ _ hm
  obtain ⟨z0, w0⟩ : ∃ zs, IsRow .u8 W a0 len0 cap0 zs := by
    obtain ⟨fuel, hf⟩ := h0
    rcases open_ints Try.underlying22 Try.underlying5 (by kernel_rfl) hf with ⟨hcs, _⟩ | ⟨x, l, c, zs, hcs, _, hl, hm, hz, _, hcell, hwz⟩
    · simp [Value.cells] at hcs
      obtain ⟨rfl, rfl, rfl⟩ := hcs
      exact ⟨[], .inl ⟨rfl, rfl, rfl, rfl⟩⟩
    · simp [Value.cells] at hcs
      obtain ⟨rfl, rfl, rfl⟩ := hcs
      exact ⟨zs, .inr ⟨_, rfl, hl, hm, by simpa using hz, hcell, hwz⟩⟩
  obtain ⟨a1, len1, cap1, rfl⟩ := okWide_slice Try.underlying22 (hval 1 22 v1 rfl rfl)
  have k1 := h1
  have lt1 : ∀ x ∈ p1, x.block < W.heap.size := by obtain ⟨m, hm⟩ := k1; exact DataW.trod_lt m _ _ _ hm
  obtain ⟨z1, w1⟩ : ∃ zs, IsRow .u8 W a1 len1 cap1 zs := by
    obtain ⟨fuel, hf⟩ := h1
    rcases open_ints Try.underlying22 Try.underlying5 (by kernel_rfl) hf with ⟨hcs, _⟩ | ⟨x, l, c, zs, hcs, _, hl, hm, hz, _, hcell, hwz⟩
    · simp [Value.cells] at hcs
      obtain ⟨rfl, rfl, rfl⟩ := hcs
      exact ⟨[], .inl ⟨rfl, rfl, rfl, rfl⟩⟩
    · simp [Value.cells] at hcs
      obtain ⟨rfl, rfl, rfl⟩ := hcs
      exact ⟨zs, .inr ⟨_, rfl, hl, hm, by simpa using hz, hcell, hwz⟩⟩
  clear hA0 hval0
  refine (walk a0 len0 cap0 z0 a1 len1 cap1 z1 W w0 w1).mono fun e W' ⟨he, bel⟩ => ?_
  subst he
  exact ⟨_, rfl, _, _, _, [], _, [], hW', trodAll_mk1 (shut_bool Try.underlying4 _), (trodAll_cons_mk (Below.trod laidOut (by kernel_rfl) (of_decide_eq_true (by kernel_rfl)) k0 bel lt0) (trodAll_cons_mk (Below.trod laidOut (by kernel_rfl) (of_decide_eq_true (by kernel_rfl)) k1 bel lt1) trodAll_mk0)), rfl, bel.frame _, fun h => by cases h⟩

theorem over : Rows.fnExactPutTextRow.holds Try.pinned (OpenSpec.ofChange Rows.fnExactPutTextSpec) :=
  OpenClaim.holds_of_wide 6 Try.f6 rfl rfl rfl rfl rfl rfl rfl ⟨rfl, rfl, rfl, rfl, rfl⟩ rfl rfl rfl rfl rfl (by kernel_rfl) Try.func6 (by kernel_rfl)
    (of_decide_eq_true (by kernel_rfl)) (by unfold Func.isWrapper; first | (rw [if_pos (by decide +kernel)]; kernel_rfl) | (rw [if_neg (by decide +kernel)]; exact ⟨rfl, rfl⟩))
    (fun os started H enc _ => lifted os started H enc)

theorem proved : Rows.FnExactPutTextSaid := over
end Go.Proofs.Ytglpijcfnapdlaa.fnExactPutText

namespace Go.Proofs.Ytglpijcfnapdlaa
/-- The given statement. -/
theorem fnExactPutText_holds : Rows.FnExactPutTextSaid := fnExactPutText.proved
#print axioms fnExactPutText_holds
end Go.Proofs.Ytglpijcfnapdlaa
