/- Proved: for every number that a caller can hand in, the law FnExactDiskNew returns true, and its argument reads as before. Conditions: none. -/
import Derived.Test.YtdpigkcdfjnpdaaRows
import Derived.Test.YtdpigkcdfjnpdaaNews
import Derived.WalkKit
import Derived.ProofKit
import Derived.OpenShut
import Derived.ShutString
import Derived.ChangeOld
import Derived.Below
namespace Go.Proofs.Ytdpigkcdfjnpdaa.fnExactDiskNew
open Go.ChangeShapes Go.WideShapes Go.ChangeAt Go.RowKit
set_option linter.unusedVariables false

theorem own : ownKnob Try.prog.godebug = none := by kernel_rfl
theorem laidOut : laidOutB Try.prog = true := by kernel_rfl

theorem lenBB_rep (n : Nat) (z : List Int) : lenBB (List.replicate n z) = n * z.length := by
  induction n with
  | zero => simp [lenBB]
  | succ n ih => rw [List.replicate_succ, lenBB, ih, Nat.succ_mul]; omega
theorem newD_small (n : Int) : Small (newD n) := by
  unfold newD
  split
  · rename_i h
    have h2 : n ≤ 2000 := by simp [newOk] at h; exact h.2
    refine ⟨?_, ?_, ?_⟩
    · simp; omega
    · rw [lenBB_rep]; simp [zsec]; omega
    · simp [lenWs]
  · exact ⟨by simp, by simp [lenBB], by simp [lenWs]⟩
theorem newD_len (n : Int) : lenD (newD n) ≤ 64000 := by
  unfold newD lenD
  split
  · rename_i h
    have h2 : n ≤ 2000 := by simp [newOk] at h; exact h.2
    rw [lenBB_rep]
    simp [zsec, lenWs]; omega
  · simp [lenBB, lenWs]

set_option maxHeartbeats 2000000 in
theorem walk (a0 : Int) (w : World) (w0 : (Lit.int .i64 a0).wf = true) :
    Calls Try.prog 3 #[.int .i64 a0] w fun e w' => e = .returned (.bool true) ∧ Below w.heap.size w w' := by
  have hs := newD_small a0
  have hll := newD_len a0
  have HI := fun W => implNew_any a0 W
  have HW := fun W => specNew_any a0 W
  generalize newD a0 = D at hs hll HI HW
  generalize newOk a0 = b at HI HW
  have HI2 : Hid _ := HI
  have HW2 : Hid _ := HW
  have HSM : Hid _ := hs
  have hbb : (b != b) = false := by simp
  clear HI HW hs w0
  go_enter Try.func3, Try.ntmps3
  go_wp2_with fail
  refine Calls.mono (HW2.out w) ?_
  rintro e wA ⟨vw, rfl, rW, bA⟩
  obtain ⟨xa, xn, xc, ya, yn, yc, rfl⟩ := rW.open
  have sA := bA.size
  have vW := VarD.new wA (.slice xa xn xc) (.slice ya yn yc)
  have b1 := Below.new (w := wA) (.cells #[.slice xa xn xc, .slice ya yn yc] 25)
  have rW1 := rW.step (Nat.le_refl _) b1
  have B1 := bA.trans (b1.mono sA)
  generalize hw1 : wA.alloc (.cells #[.slice xa xn xc, .slice ya yn yc] 25) = w1 at vW b1 rW1 B1
  have HW1 : Hid _ := hw1
  clear hw1 bA rW
  go_wp2_with fail
  rw [HW1.out]
  refine Calls.mono (HI2.out w1) ?_
  rintro e wB ⟨g, rfl, oG, bB⟩
  obtain ⟨pa, pn, pc, qa, qn, qc, rfl⟩ := oG.rd.open
  have sB := bB.size
  have s1 := vW.lt
  have vW1 := vW.step bB
  have rW2 := rW1.step (Nat.le_of_lt s1) bB
  have b2 := Below.new (w := wB) (.cells #[.slice pa pn pc, .slice qa qn qc] 25)
  have vG := VarD.new wB (.slice pa pn pc) (.slice qa qn qc)
  have oG2 := oG.step (Nat.le_refl _) b2
  have vW2 := vW1.step b2
  have rW3 := rW2.step (by omega) b2
  have B2 := (B1.trans (bB.mono B1.size)).trans (b2.mono (by omega))
  generalize hw2 : wB.alloc (.cells #[.slice pa pn pc, .slice qa qn qc] 25) = w2 at vG oG2 vW2 rW3 B2
  have HW2' : Hid _ := hw2
  have sG := vG.lt
  have c1 := vG.c0
  have c2 := vG.c1
  have c3 := vW2.c0
  have c4 := vW2.c1
  clear hw2 bB oG vW vW1 rW1 rW2 b1 b2 B1
  go_wp2_with (rw [HW2'.out])
  refine Calls.mono (eqDisk_any _ _ D D w1.heap.size wB.heap.size w.heap.size wA.heap.size w2 oG2.rd rW3 (by omega) (by omega) HSM.out HSM.out) ?_
  rintro e w3 ⟨rfl, b3⟩
  rw [beq_self_eq_true]
  have vG3 := vG.step b3
  have vW3 := vW2.step b3
  have oG3 := oG2.step (by omega) b3
  have rW4 := rW3.step (by omega) b3
  have B3 := B2.trans (b3.mono B2.size)
  have s3 := b3.size
  clear c1 c2 c3 c4 vG vW2 oG2 rW3 B2 b3 HW2' HW1
  have c1 := vG3.c0
  have c2 := vG3.c1
  go_wp2_with fail
  refine Calls.mono (markDisk_any _ D w1.heap.size wB.heap.size 1 w3 oG3 (by omega) HSM.out (by omega)) ?_
  rintro e w4 ⟨rfl, oG4, t4⟩
  have vG4 := vG3.turn t4 (.inr (Nat.le_refl _))
  have vW4 := vW3.turn t4 (.inl s1)
  have rW5 := rW4.same (t4.same (by omega) (.inl (by omega)))
  have B4 := t4.toBelow B3 B3.size (by omega)
  have s4 := t4.size
  clear c1 c2 vG3 vW3 oG3 rW4 B3 t4
  have c1 := vG4.c0
  have c2 := vG4.c1
  go_wp2_with fail
  refine Calls.mono (heldDisk_any _ D w1.heap.size wB.heap.size 1 w4 oG4.rd (by omega) HSM.out (by omega)) ?_
  rintro e w5 ⟨rfl, b5⟩
  have vG5 := vG4.step b5
  have vW5 := vW4.step b5
  have oG5 := oG4.step (by omega) b5
  have rW6 := rW5.step (by omega) b5
  have B5 := B4.trans (b5.mono B4.size)
  have s5 := b5.size
  clear c1 c2 vG4 vW4 oG4 rW5 B4 b5
  have hq0 : decide (((1 : Nat) : Int) + (lenD D : Int) < 0) = false := by simp; omega
  have hq1 : ((((1 : Nat) : Int) + (lenD D : Int)) != (((1 : Nat) : Int) + (lenD D : Int))) = false := by simp
  go_wp2_with fail
  refine Calls.mono (HI2.out w5) ?_
  rintro e wH ⟨h, rfl, oH, bH⟩
  obtain ⟨ra, rn, rc, ta, tn, tc, rfl⟩ := oH.rd.open
  have sH := bH.size
  have vG6 := vG5.step bH
  have vW6 := vW5.step bH
  have oG6 := oG5.step (by omega) bH
  have rW7 := rW6.step (by omega) bH
  have b6 := Below.new (w := wH) (.cells #[.slice ra rn rc, .slice ta tn tc] 25)
  have vH := VarD.new wH (.slice ra rn rc) (.slice ta tn tc)
  have oH2 := oH.step (Nat.le_refl _) b6
  have vG7 := vG6.step b6
  have vW7 := vW6.step b6
  have oG7 := oG6.step (by omega) b6
  have rW8 := rW7.step (by omega) b6
  have B6 := (B5.trans (bH.mono B5.size)).trans (b6.mono (by omega))
  generalize hw6 : wH.alloc (.cells #[.slice ra rn rc, .slice ta tn tc] 25) = w6 at vH oH2 vG7 vW7 oG7 rW8 B6
  have HW6 : Hid _ := hw6
  have sH2 := vH.lt
  have c1 := vH.c0
  have c2 := vH.c1
  have c3 := vW7.c0
  have c4 := vW7.c1
  clear hw6 bH oH vG5 vG6 vW5 vW6 oG5 oG6 rW6 rW7 b6 B5
  go_wp2_with (rw [HW6.out])
  refine Calls.mono (eqDisk_any _ _ D D w5.heap.size wH.heap.size w.heap.size wA.heap.size w6 oH2.rd rW8 (by omega) (by omega) HSM.out HSM.out) ?_
  rintro e w7 ⟨rfl, b7⟩
  rw [beq_self_eq_true]
  have vG8 := vG7.step b7
  have oG8 := oG7.step (by omega) b7
  have B7 := B6.trans (b7.mono B6.size)
  have s7 := b7.size
  clear c1 c2 c3 c4 vG7 vW7 oG7 rW8 B6 b7 HW6 oH2 vH
  have c1 := vG8.c0
  have c2 := vG8.c1
  go_wp2_with fail
  refine Calls.mono (heldDisk_any _ D w1.heap.size wB.heap.size 1 w7 oG8.rd (by omega) HSM.out (by omega)) ?_
  rintro e w8 ⟨rfl, b8⟩
  have B8 := B7.trans (b8.mono B7.size)
  clear b8 B7
  go_wp2
  go_ret
  exact ⟨rfl, B8⟩

set_option maxRecDepth 100000 in
theorem lifted (os : Os) (started : os.Started) (H : Type) (enc : TypeId × Value → H) :
    ReturnsInHanded {} Try.checked os 3 .any (Rows.fnExactDiskNewSpec.pre6 enc Try.prog Try.f3 Rows.fnExactDiskNewRow.domain false) (Rows.fnExactDiskNewSpec.post enc Try.prog Try.f3 false true false false) := by
  refine returnsInHanded_of_change (C := Try.checked) own started (by kernel_rfl) Try.func3
    (ChangeSpec.witness6 (enc := enc) (C := Try.checked) false ⟨#[], #[.int .i64 0], []⟩ 8 (by kernel_rfl) (by kernel_rfl) (by kernel_rfl) (by kernel_rfl)) ?_
  intro W base args ds gs before hval0 hW hcnd _
  have hval : ∀ (j : Nat) t v, Try.f3.params[j]? = some t → args[j]? = some v → Value.okWide Try.prog W .any base t v := hval0
  have hW' := hW
  obtain ⟨p, q, hA0, hV, rfl, hfz, hnd⟩ := hW
  have hA : DataW.TrodAll enc Try.prog W 0 (fun _ => true) true Try.f3.params.toList args.toList ds p := hA0
  rw [Try.params3] at hA hval
  obtain ⟨v0, vs0, x0, ds0, p0, q0, hargs, rfl, rfl, h0, r0⟩ := trodAll_cons hA
  obtain ⟨rfl, rfl, rfl⟩ := trodAll_nil r0
  obtain rfl : args = #[v0] := by cases args; simp_all
  obtain ⟨rfl, rfl⟩ := trodVars_none hV
  obtain ⟨a0, rfl, rfl, rfl, w0⟩ := open_int Try.underlying3 (hval 0 3 v0 rfl rfl) h0
  clear hA0 hval0
  refine (walk a0 W w0).mono fun e W' ⟨he, bel⟩ => ?_
  subst he
  exact ⟨_, rfl, _, _, _, [], _, [], hW', trodAll_mk1 (shut_bool Try.underlying4 _), (trodAll_cons_mk (shut_int Try.underlying3 w0) trodAll_mk0), rfl, bel.frame _, fun h => by cases h⟩

theorem over : Rows.fnExactDiskNewRow.holds Try.pinned (OpenSpec.ofChange Rows.fnExactDiskNewSpec) :=
  OpenClaim.holds_of_wide 3 Try.f3 rfl rfl rfl rfl rfl rfl rfl ⟨rfl, rfl, rfl, rfl, rfl⟩ rfl rfl rfl rfl rfl (by kernel_rfl) Try.func3 (by kernel_rfl)
    (of_decide_eq_true (by kernel_rfl)) (by unfold Func.isWrapper; first | (rw [if_pos (by decide +kernel)]; kernel_rfl) | (rw [if_neg (by decide +kernel)]; exact ⟨rfl, rfl⟩))
    (fun os started H enc _ => lifted os started H enc)
end Go.Proofs.Ytdpigkcdfjnpdaa.fnExactDiskNew

namespace Go.Proofs.Ytdpigkcdfjnpdaa
/-- The given statement. -/
theorem fnExactDiskNew_holds : Rows.FnExactDiskNewSaid := fnExactDiskNew.over
#print axioms fnExactDiskNew_holds
end Go.Proofs.Ytdpigkcdfjnpdaa
