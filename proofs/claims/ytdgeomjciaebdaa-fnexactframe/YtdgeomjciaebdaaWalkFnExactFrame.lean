/- The walk of the law FnExactFrame, told what the program's Frame answers. -/
import Derived.Test.YtdgeomjciaebdaaFrames
import Derived.Test.YtdgeomjciaebdaaWalkBase
import Derived.Test.YtdgeomjciaebdaaApart
namespace Go.Proofs.Ytdgeomjciaebdaa.fnExactFrame
open Go.RowKit
set_option linter.unusedVariables false

theorem frameD_len (p : Int) (zs : List Int) : (frameD p zs).length ≤ 9 := by
  unfold frameD
  split
  · rename_i h
    unfold frameN
    rw [List.length_map, List.length_range]
    exact manyN_le _ h.2.2
  · simp
theorem frameD_at (p : Int) (zs : List Int) (i : Nat) : ((frameD p zs)[i]?.getD []).length ≤ 32 := by
  unfold frameD
  split
  · unfold frameN
    by_cases hi : i < manyN zs.length
    · rw [List.getElem?_map, List.getElem?_range hi]
      simp only [Option.map_some, Option.getD_some]
      rw [secN_length]; omega
    · rw [List.getElem?_eq_none (by simp; omega)]; simp
  · simp
theorem lenBB_most32 (s : List (List Int)) (h : ∀ i : Nat, (s[i]?.getD []).length ≤ 32) : lenBB s ≤ 32 * s.length := by
  induction s with
  | nil => simp [lenBB]
  | cons z r ih =>
    have h0 := h 0
    have h1 := ih (fun i => by have := h (i + 1); simpa using this)
    simp only [List.getElem?_cons_zero, Option.getD_some] at h0
    rw [lenBB, List.length_cons]; omega

set_option maxHeartbeats 4000000 in
theorem walk_of (a0 : Int) (v1 : Value) (d1 : List Int) (w : World) (e1 : RdB w 0 w.heap.size v1 d1)
    (HI0 : ∀ (W : World) (u : Value) (l h : Nat), RdB W l h u d1 → h ≤ W.heap.size → Calls Try.prog 6 #[.int .i64 a0, u] W fun e w' => ∃ x vs, e = .returned x ∧ OwX w' W.heap.size w'.heap.size x (frameD a0 d1) vs ∧ Below W.heap.size W w') :
    Calls Try.prog 3 #[.int .i64 a0, v1] w fun e w' => e = .returned (.bool true) ∧ Below w.heap.size w w' := by
  obtain ⟨_, za, zn, zc, rfl, hzn, hzh, _⟩ := e1.reads
  have hzm : zn ≤ 9223372036854775807 := by have := hzh.1; have := hzh.2.1; unfold maxLen at this; omega
  have HZB : Hid (isBytes d1) := e1.1
  have HR : Hid (∀ W, Below w.heap.size w W → RdB W 0 w.heap.size (.slice za zn zc) d1) := fun W hW => e1.same (SameIn.ofBelow hW (Nat.le_refl _))
  have HN : Hid _ := hzn
  clear e1 hzh hzn
  by_cases hbig : zn ≤ 1048576
  case neg =>
    have hb : 1048576 < zn := by omega
    clear hbig HI0
    go_enter Try.func3, Try.ntmps3
    go_wp2
    go_ret
    exact ⟨rfl, Below.refl _ _⟩
  have hdl : d1.length ≤ 2097152 := by have := HN.out; omega
  have HS0 := fun (W : World) (u : Value) (l h : Nat) (r : RdB W l h u d1) (g : h ≤ W.heap.size) => specFrame_all a0 u d1 l h W r g
  have hz1 := frameD_len a0 d1
  have hz2 := frameD_at a0 d1
  generalize frameD a0 d1 = Z at HI0 HS0 hz1 hz2
  have hz3 := lenBB_most32 Z hz2
  have HI : Hid _ := HI0
  have HS : Hid _ := HS0
  have HZ : Hid (∀ i : Nat, (Z[i]?.getD []).length ≤ 2097152) := fun i => Nat.le_trans (hz2 i) (by omega)
  have hzl : Z.length ≤ 2097152 := by omega
  have hzs : lenBB Z ≤ 2097152 := by omega
  have hlz : (lenBB Z : Int) ≤ 288 := by omega
  clear HI0 HS0 hz2 hz3 hz1
  go_enter Try.func3, Try.ntmps3
  have B0 : Below w.heap.size w w := Below.refl _ _
  go_wp2_with fail
  refine Calls.mono (toByteS_r _ d1 0 w.heap.size w (HR.out _ B0) hdl) ?_
  rintro e w1 ⟨A, rfl, oA_, b1⟩
  have oA := OwB.of HZB.out oA_
  have s1 := b1.size
  have B1 := b1
  go_wp2_with fail
  refine Calls.mono (HS.out w1 A w.heap.size w1.heap.size oA.rd (Nat.le_refl _)) ?_
  rintro e w2 ⟨U, rfl, rU, b2⟩
  have s2 := b2.size
  have B2 := B1.trans (b2.mono B1.size)
  clear oA oA_ b1 b2 B0 B1
  obtain ⟨Ua, Un, Uc, rfl⟩ := rU.sliced
  go_wp2_with fail
  refine Calls.mono (toByteS_r _ d1 0 w.heap.size w2 (HR.out _ B2) hdl) ?_
  rintro e w3 ⟨X, rfl, oX_, b3⟩
  have oX := OwB.of HZB.out oX_
  have s3 := b3.size
  have B3 := B2.trans (b3.mono B2.size)
  have rU3 := rU.same (SameIn.ofBelow b3 (Nat.le_refl _))
  clear oX_ b3 B2 rU
  obtain ⟨Xa, Xn, Xc, rfl⟩ := oX.rd.sliced
  go_wp2_with fail
  refine Calls.mono (HI.out w3 _ w2.heap.size w3.heap.size oX.rd (Nat.le_refl _)) ?_
  rintro e w4 ⟨G, vs, rfl, oG, b4⟩
  have s4 := b4.size
  have B4 := B3.trans (b4.mono B3.size)
  have rU4 := rU3.same (SameIn.ofBelow b4 (by omega))
  have oX4 := oX.same (SameIn.ofBelow b4 (Nat.le_refl _))
  clear oX b4 B3 rU3
  obtain ⟨Ga, Gn, Gc, rfl⟩ := oG.bb.rd.sliced
  go_wp2_with fail
  refine Calls.mono (eqByteSS_any _ _ Z Z _ _ _ _ w4 oG.bb.rd rU4 hzl hzl HZ.out HZ.out) ?_
  rintro e w5 ⟨rfl, n4, hw5⟩
  rw [beq_self_eq_true]
  have b5 : Below w4.heap.size w4 w5 := by rw [hw5]; exact below_drewN2 (Below.refl _ _) n4
  clear hw5
  have s5 := b5.size
  have B5 := B4.trans (b5.mono B4.size)
  have rU5 := rU4.same (SameIn.ofBelow b5 (by omega))
  have oX5 := oX4.same (SameIn.ofBelow b5 (by omega))
  have oG5 := oG.same (SameIn.ofBelow b5 (Nat.le_refl _))
  clear oX4 b5 B4 rU4 oG
  go_wp2_with fail
  refine Calls.mono (toByteS_r _ d1 0 w.heap.size w5 (HR.out _ B5) hdl) ?_
  rintro e w6 ⟨Y, rfl, oY_, b6⟩
  have oY := OwB.of HZB.out oY_
  have s6 := b6.size
  have B6 := B5.trans (b6.mono B5.size)
  have rU6 := rU5.same (SameIn.ofBelow b6 (by omega))
  have oX6 := oX5.same (SameIn.ofBelow b6 (by omega))
  have oG6 := oG5.same (SameIn.ofBelow b6 (by omega))
  clear oY_ oX5 b6 B5 rU5 oG5
  go_wp2_with fail
  refine Calls.mono (eqB_same _ _ d1 _ _ _ _ w6 oX6.rd oY.rd hdl) ?_
  rintro e w7 ⟨rfl, b7⟩
  have s7 := b7.size
  have B7 := B6.trans (b7.mono B6.size)
  have rU7 := rU6.same (SameIn.ofBelow b7 (by omega))
  have oX7 := oX6.same (SameIn.ofBelow b7 (by omega))
  have oG7 := oG6.same (SameIn.ofBelow b7 (by omega))
  clear oY oX6 b7 B6 rU6 oG6
  go_wp2_with fail
  refine Calls.mono (markB_any _ d1 1 w2.heap.size w3.heap.size w7 oX7 hdl (by omega)) ?_
  rintro e w8 ⟨rfl, oX8, t8⟩
  have s8 := t8.size
  have B8 := t8.toBelow B7 B7.size (by omega)
  have rU8 := rU7.same (t8.same (by omega) (by omega))
  have oG8 := oG7.same (t8.same (by omega) (by omega))
  clear oX7 oX8 t8 B7 rU7 oG7
  have hq0 : decide (((1 : Nat) : Int) + (d1.length : Int) < 0) = false := by simp; omega
  go_wp2_with fail
  refine Calls.mono (eqByteSS_any _ _ Z Z _ _ _ _ w8 oG8.bb.rd rU8 hzl hzl HZ.out HZ.out) ?_
  rintro e w9 ⟨rfl, n8, hw9⟩
  rw [beq_self_eq_true]
  have b9 : Below w8.heap.size w8 w9 := by rw [hw9]; exact below_drewN2 (Below.refl _ _) n8
  clear hw9
  have s9 := b9.size
  have B9 := B8.trans (b9.mono B8.size)
  have rU9 := rU8.same (SameIn.ofBelow b9 (by omega))
  have oG9 := oG8.same (SameIn.ofBelow b9 (by omega))
  clear b9 B8 rU8 oG8
  go_wp2_with fail
  refine Calls.mono (markByteSS_x _ Z vs 1 _ _ w9 oG9 hzl hzs (by omega)) ?_
  rintro e w10 ⟨rfl, oG10, t10⟩
  have t10t : Turns w3.heap.size w4.heap.size w9 w10 := t10.turns oG9.lt
  have s10 := t10.size
  have B10 := t10t.toBelow B9 B9.size (by omega)
  have rU10 := rU9.same (t10t.same (by omega) (by omega))
  clear t10 t10t oG9 B9 rU9
  have hq1 : decide (((1 : Nat) : Int) + (lenBB Z : Int) < 0) = false := by simp; omega
  have hq2 : ((((1 : Nat) : Int) + (lenBB Z : Int)) != (((1 : Nat) : Int) + (lenBB Z : Int))) = false := by simp
  go_wp2_with fail
  refine Calls.mono (heldByteSS_any _ Z 1 _ _ w10 oG10.bb.rd hzl hzs (by omega)) ?_
  rintro e w10b ⟨rfl, hwb⟩
  subst hwb
  go_wp2_with fail
  refine Calls.mono (toByteS_r _ d1 0 w.heap.size w10b (HR.out _ B10) hdl) ?_
  rintro e w11 ⟨V, rfl, oV_, b11⟩
  have oV := OwB.of HZB.out oV_
  have s11 := b11.size
  have B11 := B10.trans (b11.mono B10.size)
  have rU11 := rU10.same (SameIn.ofBelow b11 (by omega))
  have oG11 := oG10.same (SameIn.ofBelow b11 (by omega))
  clear oV_ b11 B10 rU10 oG10
  go_wp2_with fail
  refine Calls.mono (HI.out w11 _ w10b.heap.size w11.heap.size oV.rd (Nat.le_refl _)) ?_
  rintro e w12 ⟨Hh, vs2, rfl, oH, b12⟩
  have s12 := b12.size
  have B12 := B11.trans (b12.mono B11.size)
  have rU12 := rU11.same (SameIn.ofBelow b12 (by omega))
  have oG12 := oG11.same (SameIn.ofBelow b12 (by omega))
  clear oV b12 B11 rU11 oG11
  go_wp2_with fail
  refine Calls.mono (eqByteSS_any _ _ Z Z _ _ _ _ w12 oH.bb.rd rU12 hzl hzl HZ.out HZ.out) ?_
  rintro e w13 ⟨rfl, n12, hw13⟩
  rw [beq_self_eq_true]
  have b13 : Below w12.heap.size w12 w13 := by rw [hw13]; exact below_drewN2 (Below.refl _ _) n12
  clear hw13
  have B13 := B12.trans (b13.mono B12.size)
  have oG13 := oG12.same (SameIn.ofBelow b13 (by omega))
  clear b13 B12 rU12 oG12 oH
  go_wp2_with fail
  refine Calls.mono (heldByteSS_any _ Z 1 _ _ w13 oG13.bb.rd hzl hzs (by omega)) ?_
  rintro e w13b ⟨rfl, hwb⟩
  subst hwb
  go_wp2
  go_ret
  exact ⟨rfl, B13⟩
end Go.Proofs.Ytdgeomjciaebdaa.fnExactFrame
