/- The walk of the law FnExactOpen, told what the program answers. -/
import Derived.Test.YtjhaanenkeceiaaDoorSpecOpen2
import Derived.Test.YtjhaanenkeceiaaDoorWalkBase
import Derived.Test.YtjhaanenkeceiaaDoorSizes
import Derived.Test.YtjhaanenkeceiaaDoorApart
namespace Go.Proofs.YtjhaanenkeceiaaDoor.fnExactOpen
open Go.RowKit
set_option linter.unusedVariables false

theorem lenBB_most (m : Nat) (s : List (List Int)) (h : ∀ i : Nat, (s[i]?.getD []).length ≤ m) : lenBB s ≤ m * s.length := by
  induction s with
  | nil => simp [lenBB]
  | cons z r ih =>
    have h0 := h 0
    have h1 := ih (fun i => by have := h (i + 1); simpa using this)
    simp only [List.getElem?_cons_zero, Option.getD_some] at h0
    rw [lenBB, List.length_cons, Nat.mul_add]; omega
theorem runN_inv {S : List (List Int)} (hw : ∀ i, i < S.length → (S[i]?.getD []).length = 32) : ∀ (k P q : Nat) (acc : List (List Int)), P ≤ S.length → acc.length ≤ P → (∀ i : Nat, (acc[i]?.getD []).length ≤ 200) → (runN S k (P, q, acc)).2.2.length ≤ S.length ∧ ∀ i : Nat, ((runN S k (P, q, acc)).2.2[i]?.getD []).length ≤ 200 := by
  intro k
  induction k with
  | zero => intro P q acc h1 h2 h3; exact ⟨Nat.le_trans h2 h1, h3⟩
  | succ k ih =>
    intro P q acc h1 h2 h3
    rw [runN]
    split
    · exact ⟨Nat.le_trans h2 h1, h3⟩
    · rename_i r hr
      have hc : r = claimD S P ∧ (q < 60000 ∧ P < S.length ∧ sizeAt S P ≤ 200 ∧ P + manyN (sizeAt S P) ≤ S.length ∧ matchB S P (frameN q (claimD S P)) = true) := by
        unfold readD at hr
        split at hr
        · rename_i hc; simp only [Option.some.injEq] at hr; exact ⟨hr.symm, hc⟩
        · cases hr
      have hlen : r.length = sizeAt S P := by rw [hc.1]; exact claimD_len hw P ⟨hc.2.2.1, hc.2.2.2.2.1⟩
      have hp := manyN_pos r.length
      refine ih _ _ _ (by rw [hlen]; exact hc.2.2.2.2.1) (by simp; omega) (fun i => ?_)
      rw [getD_snoc]
      split
      · exact h3 i
      · split
        · rw [hlen]; exact hc.2.2.2.1
        · simp
theorem open_sizes (d : Dk) (hs : Small d) : Small (openJ d).1 ∧ lenD (openJ d).1 ≤ 64000 ∧ (openR d).length ≤ 2000 ∧ ∀ i : Nat, ((openR d)[i]?.getD []).length ≤ 200 := by
  cases hk : openOk d with
  | false =>
    have h1 : openJ d = (([], []), 0, 0) := by unfold openJ; rw [hk]; rfl
    have h2 : openR d = [] := by unfold openR; rw [hk]; rfl
    rw [h1, h2]
    exact ⟨⟨by simp, by simp [lenBB], by simp [lenWs]⟩, by simp [lenD, lenBB, lenWs], by simp, fun i => by simp⟩
  | true =>
    have hk' := hk
    unfold openOk at hk'
    rw [Bool.and_eq_true] at hk'
    have hd : d.2 = [] := by simpa using hk'.2
    have h1 : openJ d = (d, ((openS d.1).1 : Int), ((openS d.1).2.1 : Int)) := by unfold openJ; rw [hk]; rfl
    have h2 : openR d = (openS d.1).2.2 := by unfold openR; rw [hk]; rfl
    have hpar := hk'.1
    unfold okD at hpar
    simp only [Bool.and_eq_true, decide_eq_true_eq, List.all_eq_true] at hpar
    have hw : ∀ i, i < d.1.length → (d.1[i]?.getD []).length = 32 := fun i hi => by
      have := hpar.1.2 _ (List.getElem_mem hi)
      simp [secOk] at this
      rw [List.getElem?_eq_getElem hi]
      simpa using this
    have hin := runN_inv hw (d.1.length + 1) 0 0 [] (Nat.zero_le _) (Nat.le_refl _) (fun i => by simp)
    have hl := hpar.1.1.1
    have hb := lenBB_most 32 d.1 (fun i => by
      by_cases hi : i < d.1.length
      · exact Nat.le_of_eq (hw i hi)
      · rw [List.getElem?_eq_none (by omega)]; simp)
    rw [h1, h2]
    refine ⟨hs, ?_, Nat.le_trans hin.1 hl, hin.2⟩
    show lenBB d.1 + lenWs d.2 ≤ 64000
    rw [hd]
    simp only [lenWs]
    omega
theorem specOpen_all (v : Value) (d : Dk) (l h : Nat) (w : World) (r : RdD w l h v d) (hh : h ≤ w.heap.size) (hsm : Small d) :
    Calls Tryd.prog 12 #[v] w fun e w' => ∃ X V, e = .returned (.tuple #[X, V, .bool (openOk d)]) ∧ RdJ w' w.heap.size w'.heap.size X (openJ d) ∧ RdBB w' w.heap.size w'.heap.size V (openR d) ∧ Below w.heap.size w w' := by
  cases hk : openOk d with
  | false =>
    have h1 : openJ d = (([], []), 0, 0) := by unfold openJ; rw [hk]; rfl
    have h2 : openR d = [] := by unfold openR; rw [hk]; rfl
    rw [h1, h2]
    refine (specOpen_no v d l h w r hh hk).mono ?_
    rintro e w' ⟨rfl, hb⟩
    exact ⟨_, _, rfl, ⟨_, _, rfl, (nilD2 _ _ _).rd⟩, (GrBB_nil w' w.heap.size).rd, hb⟩
  | true =>
    have hk' := hk
    unfold openOk at hk'
    rw [Bool.and_eq_true] at hk'
    have hd : d.2 = [] := by simpa using hk'.2
    have h1 : openJ d = (d, ((openS d.1).1 : Int), ((openS d.1).2.1 : Int)) := by unfold openJ; rw [hk]; rfl
    have h2 : openR d = (openS d.1).2.2 := by unfold openR; rw [hk]; rfl
    rw [h1, h2]
    exact specOpen_yes v d l h w r hh hk'.1 hd hsm

set_option maxRecDepth 100000 in
set_option maxHeartbeats 4000000 in
theorem walk_of (v0 : Value) (d0 : Dk) (w : World) (e0 : RdD w 0 w.heap.size v0 d0) (a : Addr) (hg : Glob w a)
    (HI0 : ∀ (W : World) (u0 : Value) (l0 h0 : Nat), RdD W l0 h0 u0 d0 → h0 ≤ W.heap.size → Glob W a → Calls Tryd.prog 13 #[u0] W fun e w' => ∃ X V vs H, e = .returned (.tuple #[X, V, .bool (openOk d0)]) ∧ OwJ2 w' W.heap.size H X (openJ d0) ∧ OwX w' H w'.heap.size V (openR d0) vs ∧ H ≤ w'.heap.size ∧ W.heap.size ≤ H ∧ Below W.heap.size W w') :
    Calls Tryd.prog 6 #[v0] w fun e w' => e = .returned (.bool true) ∧ Below w.heap.size w w' := by
  obtain ⟨xa, xn, xc, ya, yn, yc, rfl⟩ := e0.open
  have HR : Hid (∀ W, Below w.heap.size w W → RdD W 0 w.heap.size (.agg #[.slice xa xn xc, .slice ya yn yc]) d0) := fun W hW => e0.step (Nat.le_refl _) hW
  have hlt := hg.lt
  have HG : Hid (∀ W, Below w.heap.size w W → Glob W a) := fun W hW => hg.step hW hlt
  clear e0 hg
  have vL := VarL.new w (.slice xa xn xc) (.slice ya yn yc)
  have B0 := Below.new (w := w) (.cells #[.slice xa xn xc, .slice ya yn yc] 48)
  generalize hw0 : w.alloc (.cells #[.slice xa xn xc, .slice ya yn yc] 48) = w0 at vL B0
  have HW0 : Hid _ := hw0
  have s0 := vL.lt
  clear hw0
  go_enter Tryd.func6, Tryd.ntmps6
  go_wp2_with fail
  rw [HW0.out]
  refine Calls.mono (szDisk_any _ d0 0 w.heap.size w0 (HR.out _ B0) (Nat.le_of_lt s0)) ?_
  rintro e w1 ⟨rfl, b1⟩
  have vL_1 := vL.step b1
  have B_2 := B0.trans (b1.mono B0.size)
  have s_3 := b1.size
  clear vL B0 b1
  by_cases hneg : left (sizeD d0) 1048576 < 0
  case pos =>
    have hd : decide (left (sizeD d0) 1048576 < 0) = true := by simpa using hneg
    generalize left (sizeD d0) 1048576 = q at hd
    clear HI0
    go_wp2
    go_ret
    exact ⟨rfl, B_2⟩
  have hd : decide (left (sizeD d0) 1048576 < 0) = false := by simpa using hneg
  have HSM : Hid _ := sizeD_small hneg
  generalize left (sizeD d0) 1048576 = q at hd
  clear hneg
  have HS0 := fun (W : World) (u0 : Value) (l0 h0 : Nat) (r0 : RdD W l0 h0 u0 d0) (g0 : h0 ≤ W.heap.size) => specOpen_all u0 d0 l0 h0 W r0 g0 HSM.out
  have HLN := open_sizes d0 HSM.out
  generalize openJ d0 = Z at HI0 HS0 HLN
  generalize openR d0 = R at HI0 HS0 HLN
  generalize openOk d0 = k at HI0 HS0
  have hkk : (k != k) = false := by simp
  obtain ⟨hz1, hz2, hz3, hz4⟩ := HLN
  have hz5 := lenBB_most 200 R hz4
  have HZ : Hid _ := hz1
  have HRL : Hid (∀ i : Nat, (R[i]?.getD []).length ≤ 2097152) := fun i => Nat.le_trans (hz4 i) (by omega)
  have hRl : R.length ≤ 2097152 := by omega
  have hRb : lenBB R ≤ 400000 := by omega
  have hZl : lenD Z.1 ≤ 64000 := hz2
  have hDl : (lenD d0 : Int) ≥ 0 := by omega
  have HI : Hid _ := HI0
  have HS : Hid _ := HS0
  clear HI0 HS0 hz1 hz2 hz3 hz4 hz5
  have c_4 := vL_1.c0
  have c_5 := vL_1.c1
  go_wp2_with fail
  refine Calls.mono (toDisk_any _ d0 0 w.heap.size w1 (HR.out _ B_2) (by omega) HSM.out) ?_
  rintro e w2 ⟨tA, rfl, otA, b2⟩
  clear c_4 c_5
  have vL_6 := vL_1.step b2
  have B_7 := B_2.trans (b2.mono B_2.size)
  have s_8 := b2.size
  clear vL_1 B_2 b2
  go_wp2_with fail
  refine Calls.mono (HS.out w2 _ w1.heap.size w2.heap.size otA.rd (by omega)) ?_
  rintro e w3 ⟨u, V, rfl, oU, oV, b3⟩
  have vL_9 := vL_6.step b3
  have tA_10 := otA.step (by omega) b3
  have B_11 := B_7.trans (b3.mono B_7.size)
  have s_12 := b3.size
  clear vL_6 otA B_7 b3
  clear tA_10
  obtain ⟨ua, un, uc, up, uq, ur, rfl, _⟩ := oU.open
  obtain ⟨Va, Vn, Vc, rfl⟩ := oV.sliced
  have b_13 := Below.new (w := w3) (.cells #[.slice ua un uc, .slice up uq ur, .int .i64 Z.2.1, .int .i64 Z.2.2] 30)
  have vU_14 := VarJ.new (T := 30) w3 (.slice ua un uc) (.slice up uq ur) Z.2.1 Z.2.2
  have vL_15 := vL_9.step b_13
  have U_16 := oU.step (by omega) b_13
  have Vf_17 := oV.same (SameIn.ofBelow b_13 (by omega))
  have B_18 := B_11.trans (b_13.mono B_11.size)
  generalize hw_19 : w3.alloc (.cells #[.slice ua un uc, .slice up uq ur, .int .i64 Z.2.1, .int .i64 Z.2.2] 30) = w4 at vL_15 U_16 Vf_17 vU_14 B_18
  have HW_20 : Hid _ := hw_19
  have s_21 := vU_14.lt
  clear hw_19 b_13 vL_9 oU oV B_11
  have c_22 := vL_15.c0
  have c_23 := vL_15.c1
  go_wp2_with (rw [HW_20.out])
  refine Calls.mono (toDisk_any _ d0 0 w.heap.size w4 (HR.out _ B_18) (by omega) HSM.out) ?_
  rintro e w5 ⟨x, rfl, ox, b5⟩
  clear c_22 c_23
  have vL_24 := vL_15.step b5
  have U_25 := U_16.step (by omega) b5
  have Vf_26 := Vf_17.same (SameIn.ofBelow b5 (by omega))
  have vU_27 := vU_14.step b5
  have B_28 := B_18.trans (b5.mono B_18.size)
  have s_29 := b5.size
  clear vL_15 U_16 Vf_17 vU_14 B_18 b5
  obtain ⟨Xa, Xn, Xc, Xp, Xq, Xr, rfl⟩ := ox.rd.open
  clear HW_20
  have b_30 := Below.new (w := w5) (.cells #[.slice Xa Xn Xc, .slice Xp Xq Xr] 26)
  have vX_31 := VarD.new w5 (.slice Xa Xn Xc) (.slice Xp Xq Xr)
  have vL_32 := vL_24.step b_30
  have U_33 := U_25.step (by omega) b_30
  have Vf_34 := Vf_26.same (SameIn.ofBelow b_30 (by omega))
  have vU_35 := vU_27.step b_30
  have x_36 := ox.step (by omega) b_30
  have B_37 := B_28.trans (b_30.mono B_28.size)
  generalize hw_38 : w5.alloc (.cells #[.slice Xa Xn Xc, .slice Xp Xq Xr] 26) = w6 at vL_32 U_33 Vf_34 vU_35 x_36 vX_31 B_37
  have HW_39 : Hid _ := hw_38
  have s_40 := vX_31.lt
  clear hw_38 b_30 vL_24 U_25 Vf_26 vU_27 ox B_28
  have c_41 := vX_31.c0
  have c_42 := vX_31.c1
  go_wp2_with (rw [HW_39.out])
  refine Calls.mono (HI.out w6 _ w4.heap.size w5.heap.size x_36.rd (by omega) (HG.out _ B_37)) ?_
  rintro e w7 ⟨g, gV, vs, H, rfl, oG, oR, hH1, hH2, b7⟩
  clear c_41 c_42
  clear HW_39
  have vL_43 := vL_32.step b7
  have U_44 := U_33.step (by omega) b7
  have Vf_45 := Vf_34.same (SameIn.ofBelow b7 (by omega))
  have vU_46 := vU_35.step b7
  have x_47 := x_36.step (by omega) b7
  have vX_48 := vX_31.step b7
  have B_49 := B_37.trans (b7.mono B_37.size)
  have s_50 := b7.size
  clear vL_32 U_33 Vf_34 vU_35 x_36 vX_31 B_37 b7
  obtain ⟨ga, gn, gc, gp, gq, gr, rfl, _⟩ := oG.rd.open
  obtain ⟨Ra, Rn, Rc, rfl⟩ := oR.bb.rd.sliced
  have b_51 := Below.new (w := w7) (.cells #[.slice ga gn gc, .slice gp gq gr, .int .i64 Z.2.1, .int .i64 Z.2.2] 30)
  have vG_52 := VarJ.new (T := 30) w7 (.slice ga gn gc) (.slice gp gq gr) Z.2.1 Z.2.2
  have vL_53 := vL_43.step b_51
  have U_54 := U_44.step (by omega) b_51
  have Vf_55 := Vf_45.same (SameIn.ofBelow b_51 (by omega))
  have vU_56 := vU_46.step b_51
  have x_57 := x_47.step (by omega) b_51
  have vX_58 := vX_48.step b_51
  have G_59 := oG.step (by omega) b_51
  have R_60 := oR.same (SameIn.ofBelow b_51 (by omega))
  have B_61 := B_49.trans (b_51.mono B_49.size)
  generalize hw_62 : w7.alloc (.cells #[.slice ga gn gc, .slice gp gq gr, .int .i64 Z.2.1, .int .i64 Z.2.2] 30) = w8 at vL_53 U_54 Vf_55 vU_56 x_57 vX_58 G_59 R_60 vG_52 B_61
  have HW_63 : Hid _ := hw_62
  have s_64 := vG_52.lt
  clear hw_62 b_51 vL_43 U_44 Vf_45 vU_46 x_47 vX_48 oG oR B_49
  have c_65 := vG_52.c0
  have c_66 := vG_52.c1
  have c_67 := vG_52.c2
  have c_68 := vG_52.c3
  have c_69 := vU_56.c0
  have c_70 := vU_56.c1
  have c_71 := vU_56.c2
  have c_72 := vU_56.c3
  go_wp2_with (rw [HW_63.out])
  refine Calls.mono (eqJournal_same _ _ Z w6.heap.size H w2.heap.size w3.heap.size w8 G_59.rd U_54 (by omega) (by omega) HZ.out) ?_
  rintro e w9 ⟨rfl, b9⟩
  clear c_65 c_66 c_67 c_68 c_69 c_70 c_71 c_72
  have vL_73 := vL_53.step b9
  have U_74 := U_54.step (by omega) b9
  have Vf_75 := Vf_55.same (SameIn.ofBelow b9 (by omega))
  have vU_76 := vU_56.step b9
  have x_77 := x_57.step (by omega) b9
  have vX_78 := vX_58.step b9
  have G_79 := G_59.step (by omega) b9
  have R_80 := R_60.same (SameIn.ofBelow b9 (by omega))
  have vG_81 := vG_52.step b9
  have B_82 := B_61.trans (b9.mono B_61.size)
  have s_83 := b9.size
  clear vL_53 U_54 Vf_55 vU_56 x_57 vX_58 G_59 R_60 vG_52 B_61 b9
  go_wp2_with fail
  refine Calls.mono (eqByteSS_any _ _ R R H w7.heap.size w2.heap.size w3.heap.size w9 R_80.bb.rd Vf_75 hRl hRl HRL.out HRL.out) ?_
  rintro e w10 ⟨rfl, n10, hw10⟩
  rw [beq_self_eq_true]
  have b10 : Below w9.heap.size w9 w10 := by rw [hw10]; exact below_drewN2 (Below.refl _ _) n10
  clear hw10
  have vL_84 := vL_73.step b10
  have U_85 := U_74.step (by omega) b10
  have Vf_86 := Vf_75.same (SameIn.ofBelow b10 (by omega))
  have vU_87 := vU_76.step b10
  have x_88 := x_77.step (by omega) b10
  have vX_89 := vX_78.step b10
  have G_90 := G_79.step (by omega) b10
  have R_91 := R_80.same (SameIn.ofBelow b10 (by omega))
  have vG_92 := vG_81.step b10
  have B_93 := B_82.trans (b10.mono B_82.size)
  have s_94 := b10.size
  clear vL_73 U_74 Vf_75 vU_76 x_77 vX_78 G_79 R_80 vG_81 B_82 b10
  clear HW_63
  have c_95 := vX_89.c0
  have c_96 := vX_89.c1
  have c_97 := vL_84.c0
  have c_98 := vL_84.c1
  go_wp2
  have hxl_ := vX_89.lt
  have hll_ := vL_84.lt
  go_region_held3 (fun w' => w'.cell? ⟨w5.heap.size, 0, none⟩ = some (.slice Xa Xn Xc) ∧ w'.cell? ⟨w5.heap.size, 1, none⟩ = some (.slice Xp Xq Xr) ∧ w'.cell? ⟨w.heap.size, 0, none⟩ = some (.slice xa xn xc) ∧ w'.cell? ⟨w.heap.size, 1, none⟩ = some (.slice ya yn yc)) (first | go_keep | (refine ⟨?_, ?_, ?_, ?_⟩ <;> assumption)) (first
    | (go_at_call 29; refine Calls.mono (toDisk_any _ d0 0 w.heap.size w10.drew (HR.out _ B_93.drew) (by simp; omega) HSM.out) ?_; rintro e wy ⟨y, rfl, oY, bY⟩; have bY' : Below w10.heap.size w10 wy := (Below.drew (Below.refl _ _)).trans bY; have k1 := (vX_89.step bY').c0; have k2 := (vX_89.step bY').c1; have k3 := (vL_84.step bY').c0; have k4 := (vL_84.step bY').c1)
    | (go_at_call 31; refine Calls.mono (eqDisk_any _ _ d0 d0 w4.heap.size w5.heap.size w10.heap.size wy.heap.size wy (x_88.step (by omega) bY').rd oY.rd (by have := bY'.size; omega) (Nat.le_refl _) HSM.out HSM.out) ?_; rintro e w11 ⟨rfl, bE⟩; rw [beq_self_eq_true]; have b11 : Below w10.heap.size w10 w11 := bY'.trans (bE.mono bY'.size); have j1 := (vX_89.step b11).c0; have j2 := (vX_89.step b11).c1; have j3 := (vL_84.step b11).c0; have j4 := (vL_84.step b11).c1))
  clear k1 k2 k3 k4 j1 j2 j3 j4 bE bY bY' oY hxl_ hll_
  clear c_95 c_96 c_97 c_98
  have vL_99 := vL_84.step b11
  have U_100 := U_85.step (by omega) b11
  have Vf_101 := Vf_86.same (SameIn.ofBelow b11 (by omega))
  have vU_102 := vU_87.step b11
  have x_103 := x_88.step (by omega) b11
  have vX_104 := vX_89.step b11
  have G_105 := G_90.step (by omega) b11
  have R_106 := R_91.same (SameIn.ofBelow b11 (by omega))
  have vG_107 := vG_92.step b11
  have B_108 := B_93.trans (b11.mono B_93.size)
  have s_109 := b11.size
  clear vL_84 U_85 Vf_86 vU_87 x_88 vX_89 G_90 R_91 vG_92 B_93 b11
  have c_110 := vX_104.c0
  have c_111 := vX_104.c1
  go_wp2_with fail
  refine Calls.mono (markDisk_any _ d0 w4.heap.size w5.heap.size 1 w11 x_103 (by omega) HSM.out (by omega)) ?_
  rintro e w12 ⟨rfl, ox2, b12⟩
  clear c_110 c_111
  clear x_103
  clear ox2
  have vL_112 := vL_99.turn b12 (by omega)
  have U_113 := U_100.same (b12.same (by omega) (by omega))
  have Vf_114 := Vf_101.same (b12.same (by omega) (by omega))
  have vU_115 := vU_102.turn b12 (by omega)
  have vX_116 := vX_104.turn b12 (by omega)
  have G_117 := G_105.same (b12.same (by omega) (by omega))
  have R_118 := R_106.same (b12.same (by omega) (by omega))
  have vG_119 := vG_107.turn b12 (by omega)
  have B_120 := b12.toBelow B_108 B_108.size (by omega)
  have s_121 := b12.size
  clear vL_99 U_100 Vf_101 vU_102 vX_104 G_105 R_106 vG_107 B_108 b12
  have hq0 : decide (((1 : Nat) : Int) + (lenD d0 : Int) < 0) = false := by simp; omega
  have c_122 := vG_119.c0
  have c_123 := vG_119.c1
  have c_124 := vG_119.c2
  have c_125 := vG_119.c3
  have c_126 := vU_115.c0
  have c_127 := vU_115.c1
  have c_128 := vU_115.c2
  have c_129 := vU_115.c3
  go_wp2_with fail
  refine Calls.mono (eqJournal_same _ _ Z w6.heap.size H w2.heap.size w3.heap.size w12 G_117.rd U_113 (by omega) (by omega) HZ.out) ?_
  rintro e w13 ⟨rfl, b13⟩
  clear c_122 c_123 c_124 c_125 c_126 c_127 c_128 c_129
  have vL_130 := vL_112.step b13
  have U_131 := U_113.step (by omega) b13
  have Vf_132 := Vf_114.same (SameIn.ofBelow b13 (by omega))
  have vU_133 := vU_115.step b13
  have vX_134 := vX_116.step b13
  have G_135 := G_117.step (by omega) b13
  have R_136 := R_118.same (SameIn.ofBelow b13 (by omega))
  have vG_137 := vG_119.step b13
  have B_138 := B_120.trans (b13.mono B_120.size)
  have s_139 := b13.size
  clear vL_112 U_113 Vf_114 vU_115 vX_116 G_117 R_118 vG_119 B_120 b13
  go_wp2_with fail
  refine Calls.mono (eqByteSS_any _ _ R R H w7.heap.size w2.heap.size w3.heap.size w13 R_136.bb.rd Vf_132 hRl hRl HRL.out HRL.out) ?_
  rintro e w14 ⟨rfl, n14, hw14⟩
  rw [beq_self_eq_true]
  have b14 : Below w13.heap.size w13 w14 := by rw [hw14]; exact below_drewN2 (Below.refl _ _) n14
  clear hw14
  have vL_140 := vL_130.step b14
  have U_141 := U_131.step (by omega) b14
  have Vf_142 := Vf_132.same (SameIn.ofBelow b14 (by omega))
  have vU_143 := vU_133.step b14
  have vX_144 := vX_134.step b14
  have G_145 := G_135.step (by omega) b14
  have R_146 := R_136.same (SameIn.ofBelow b14 (by omega))
  have vG_147 := vG_137.step b14
  have B_148 := B_138.trans (b14.mono B_138.size)
  have s_149 := b14.size
  clear vL_130 U_131 Vf_132 vU_133 vX_134 G_135 R_136 vG_137 B_138 b14
  have c_150 := vG_147.c0
  have c_151 := vG_147.c1
  have c_152 := vG_147.c2
  have c_153 := vG_147.c3
  go_wp2_with fail
  refine Calls.mono (markJournalP_any _ Z w6.heap.size H 1 w14 G_145 (by omega) HZ.out (by omega)) ?_
  rintro e w15 ⟨rfl, oG2, b15⟩
  clear c_150 c_151 c_152 c_153
  clear G_145
  have vL_154 := vL_140.turn b15 (by omega)
  have U_155 := U_141.same (b15.same (by omega) (by omega))
  have Vf_156 := Vf_142.same (b15.same (by omega) (by omega))
  have vU_157 := vU_143.turn b15 (by omega)
  have vX_158 := vX_144.turn b15 (by omega)
  have R_159 := R_146.same (b15.same (by omega) (by omega))
  have vG_160 := vG_147.turn b15 (by omega)
  have B_161 := b15.toBelow B_148 B_148.size (by omega)
  have s_162 := b15.size
  clear vL_140 U_141 Vf_142 vU_143 vX_144 R_146 vG_147 B_148 b15
  obtain ⟨K1, hK1⟩ : ∃ K1 : Nat, K1 = 1 + lenD Z.1 := ⟨_, rfl⟩
  have hK2 : ((1 : Nat) : Int) + (lenD Z.1 : Int) = (K1 : Int) := by omega
  rw [hK2]
  have HK2 : Hid _ := hK2
  have hK3 : K1 ≤ 64001 := by omega
  clear hK1 hK2
  go_wp2_with fail
  refine Calls.mono (markByteSS_x _ R vs K1 H w7.heap.size w15 R_159 hRl (by omega) (by omega)) ?_
  rintro e w16 ⟨rfl, oR2, t16⟩
  have b16 : Turns H w7.heap.size w15 w16 := t16.turns R_159.lt
  clear t16
  clear R_159
  have vL_163 := vL_154.turn b16 (by omega)
  have U_164 := U_155.same (b16.same (by omega) (by omega))
  have Vf_165 := Vf_156.same (b16.same (by omega) (by omega))
  have vU_166 := vU_157.turn b16 (by omega)
  have vX_167 := vX_158.turn b16 (by omega)
  have vG_168 := vG_160.turn b16 (by omega)
  have G_169 := oG2.same (b16.same (by omega) (by omega))
  have B_170 := b16.toBelow B_161 B_161.size (by omega)
  have s_171 := b16.size
  clear vL_154 U_155 Vf_156 vU_157 vX_158 vG_160 oG2 B_161 b16
  have c_172 := vG_168.c0
  have c_173 := vG_168.c1
  have c_174 := vG_168.c2
  have c_175 := vG_168.c3
  go_wp2_with fail
  refine Calls.mono (heldJournal_any _ Z w6.heap.size H 1 w16 G_169.rd (by omega) HZ.out (by omega)) ?_
  rintro e w17 ⟨rfl, b17⟩
  clear c_172 c_173 c_174 c_175
  rw [HK2.out]
  have vL_176 := vL_163.step b17
  have U_177 := U_164.step (by omega) b17
  have Vf_178 := Vf_165.same (SameIn.ofBelow b17 (by omega))
  have vU_179 := vU_166.step b17
  have vX_180 := vX_167.step b17
  have vG_181 := vG_168.step b17
  have G_182 := G_169.step (by omega) b17
  have R_183 := oR2.same (SameIn.ofBelow b17 (by omega))
  have B_184 := B_170.trans (b17.mono B_170.size)
  have s_185 := b17.size
  clear vL_163 U_164 Vf_165 vU_166 vX_167 vG_168 G_169 oR2 B_170 b17
  have hqa : decide ((K1 : Int) < 0) = false := by simp
  go_wp2_with fail
  refine Calls.mono (heldByteSS_any _ R K1 H w7.heap.size w17 R_183.bb.rd hRl (by omega) (by omega)) ?_
  rintro e w18 ⟨rfl, hw18⟩
  have b18 : Below w17.heap.size w17 w18 := by rw [hw18]; exact Below.refl _ _
  clear hw18 hqa
  have vL_186 := vL_176.step b18
  have U_187 := U_177.step (by omega) b18
  have Vf_188 := Vf_178.same (SameIn.ofBelow b18 (by omega))
  have vU_189 := vU_179.step b18
  have vX_190 := vX_180.step b18
  have vG_191 := vG_181.step b18
  have G_192 := G_182.step (by omega) b18
  have R_193 := R_183.same (SameIn.ofBelow b18 (by omega))
  have B_194 := B_184.trans (b18.mono B_184.size)
  have s_195 := b18.size
  clear vL_176 U_177 Vf_178 vU_179 vX_180 vG_181 G_182 R_183 B_184 b18
  have hqb : decide ((K1 : Int) + (lenBB R : Int) < 0) = false := by simp; omega
  have hqc : (((K1 : Int) + (lenBB R : Int)) != ((K1 : Int) + (lenBB R : Int))) = false := by simp
  have c_196 := vL_186.c0
  have c_197 := vL_186.c1
  go_wp2_with fail
  refine Calls.mono (toDisk_any _ d0 0 w.heap.size w18 (HR.out _ B_194) (by omega) HSM.out) ?_
  rintro e w19 ⟨tB, rfl, otB, b19⟩
  clear c_196 c_197
  have vL_198 := vL_186.step b19
  have U_199 := U_187.step (by omega) b19
  have Vf_200 := Vf_188.same (SameIn.ofBelow b19 (by omega))
  have vU_201 := vU_189.step b19
  have vX_202 := vX_190.step b19
  have vG_203 := vG_191.step b19
  have G_204 := G_192.step (by omega) b19
  have R_205 := R_193.same (SameIn.ofBelow b19 (by omega))
  have B_206 := B_194.trans (b19.mono B_194.size)
  have s_207 := b19.size
  clear vL_186 U_187 Vf_188 vU_189 vX_190 vG_191 G_192 R_193 B_194 b19
  go_wp2_with fail
  refine Calls.mono (HI.out w19 _ w18.heap.size w19.heap.size otB.rd (by omega) (HG.out _ B_206)) ?_
  rintro e w20 ⟨h, hV, hvs, H2, rfl, oH, oS, hH3, hH4, b20⟩
  have vL_208 := vL_198.step b20
  have U_209 := U_199.step (by omega) b20
  have Vf_210 := Vf_200.same (SameIn.ofBelow b20 (by omega))
  have vU_211 := vU_201.step b20
  have vX_212 := vX_202.step b20
  have vG_213 := vG_203.step b20
  have G_214 := G_204.step (by omega) b20
  have R_215 := R_205.same (SameIn.ofBelow b20 (by omega))
  have tB_216 := otB.step (by omega) b20
  have B_217 := B_206.trans (b20.mono B_206.size)
  have s_218 := b20.size
  clear vL_198 U_199 Vf_200 vU_201 vX_202 vG_203 G_204 R_205 otB B_206 b20
  clear tB_216
  obtain ⟨ha, hn, hc, hp, hq, hr, rfl, _⟩ := oH.rd.open
  obtain ⟨Sa, Sn, Sc, rfl⟩ := oS.bb.rd.sliced
  have b_219 := Below.new (w := w20) (.cells #[.slice ha hn hc, .slice hp hq hr, .int .i64 Z.2.1, .int .i64 Z.2.2] 30)
  have vH_220 := VarJ.new (T := 30) w20 (.slice ha hn hc) (.slice hp hq hr) Z.2.1 Z.2.2
  have vL_221 := vL_208.step b_219
  have U_222 := U_209.step (by omega) b_219
  have Vf_223 := Vf_210.same (SameIn.ofBelow b_219 (by omega))
  have vU_224 := vU_211.step b_219
  have vX_225 := vX_212.step b_219
  have vG_226 := vG_213.step b_219
  have G_227 := G_214.step (by omega) b_219
  have R_228 := R_215.same (SameIn.ofBelow b_219 (by omega))
  have Hh_229 := oH.step (by omega) b_219
  have Sf_230 := oS.same (SameIn.ofBelow b_219 (by omega))
  have B_231 := B_217.trans (b_219.mono B_217.size)
  generalize hw_232 : w20.alloc (.cells #[.slice ha hn hc, .slice hp hq hr, .int .i64 Z.2.1, .int .i64 Z.2.2] 30) = w21 at vL_221 U_222 Vf_223 vU_224 vX_225 vG_226 G_227 R_228 Hh_229 Sf_230 vH_220 B_231
  have HW_233 : Hid _ := hw_232
  have s_234 := vH_220.lt
  clear hw_232 b_219 vL_208 U_209 Vf_210 vU_211 vX_212 vG_213 G_214 R_215 oH oS B_217
  have c_235 := vH_220.c0
  have c_236 := vH_220.c1
  have c_237 := vH_220.c2
  have c_238 := vH_220.c3
  have c_239 := vU_224.c0
  have c_240 := vU_224.c1
  have c_241 := vU_224.c2
  have c_242 := vU_224.c3
  go_wp2_with (rw [HW_233.out])
  refine Calls.mono (eqJournal_same _ _ Z w19.heap.size H2 w2.heap.size w3.heap.size w21 Hh_229.rd U_222 (by omega) (by omega) HZ.out) ?_
  rintro e w22 ⟨rfl, b22⟩
  clear c_235 c_236 c_237 c_238 c_239 c_240 c_241 c_242
  have vL_243 := vL_221.step b22
  have U_244 := U_222.step (by omega) b22
  have Vf_245 := Vf_223.same (SameIn.ofBelow b22 (by omega))
  have vU_246 := vU_224.step b22
  have vX_247 := vX_225.step b22
  have vG_248 := vG_226.step b22
  have G_249 := G_227.step (by omega) b22
  have R_250 := R_228.same (SameIn.ofBelow b22 (by omega))
  have Hh_251 := Hh_229.step (by omega) b22
  have Sf_252 := Sf_230.same (SameIn.ofBelow b22 (by omega))
  have vH_253 := vH_220.step b22
  have B_254 := B_231.trans (b22.mono B_231.size)
  have s_255 := b22.size
  clear vL_221 U_222 Vf_223 vU_224 vX_225 vG_226 G_227 R_228 Hh_229 Sf_230 vH_220 B_231 b22
  go_wp2_with fail
  refine Calls.mono (eqByteSS_any _ _ R R H2 w20.heap.size w2.heap.size w3.heap.size w22 Sf_252.bb.rd Vf_245 hRl hRl HRL.out HRL.out) ?_
  rintro e w23 ⟨rfl, n23, hw23⟩
  rw [beq_self_eq_true]
  have b23 : Below w22.heap.size w22 w23 := by rw [hw23]; exact below_drewN2 (Below.refl _ _) n23
  clear hw23
  have vL_256 := vL_243.step b23
  have U_257 := U_244.step (by omega) b23
  have Vf_258 := Vf_245.same (SameIn.ofBelow b23 (by omega))
  have vU_259 := vU_246.step b23
  have vX_260 := vX_247.step b23
  have vG_261 := vG_248.step b23
  have G_262 := G_249.step (by omega) b23
  have R_263 := R_250.same (SameIn.ofBelow b23 (by omega))
  have Hh_264 := Hh_251.step (by omega) b23
  have Sf_265 := Sf_252.same (SameIn.ofBelow b23 (by omega))
  have vH_266 := vH_253.step b23
  have B_267 := B_254.trans (b23.mono B_254.size)
  have s_268 := b23.size
  clear vL_243 U_244 Vf_245 vU_246 vX_247 vG_248 G_249 R_250 Hh_251 Sf_252 vH_253 B_254 b23
  clear HW_233
  clear Hh_264 Sf_265 vH_266 U_257 Vf_258 vU_259
  have c_269 := vG_261.c0
  have c_270 := vG_261.c1
  have c_271 := vG_261.c2
  have c_272 := vG_261.c3
  go_wp2_with fail
  refine Calls.mono (heldJournal_any _ Z w6.heap.size H 1 w23 G_262.rd (by omega) HZ.out (by omega)) ?_
  rintro e w24 ⟨rfl, b24⟩
  clear c_269 c_270 c_271 c_272
  rw [HK2.out]
  have vL_273 := vL_256.step b24
  have vX_274 := vX_260.step b24
  have vG_275 := vG_261.step b24
  have G_276 := G_262.step (by omega) b24
  have R_277 := R_263.same (SameIn.ofBelow b24 (by omega))
  have B_278 := B_267.trans (b24.mono B_267.size)
  have s_279 := b24.size
  clear vL_256 vX_260 vG_261 G_262 R_263 B_267 b24
  have hqa : decide ((K1 : Int) < 0) = false := by simp
  go_wp2_with fail
  refine Calls.mono (heldByteSS_any _ R K1 H w7.heap.size w24 R_277.bb.rd hRl (by omega) (by omega)) ?_
  rintro e w25 ⟨rfl, hw25⟩
  have b25 : Below w24.heap.size w24 w25 := by rw [hw25]; exact Below.refl _ _
  clear hw25 hqa
  have vL_280 := vL_273.step b25
  have vX_281 := vX_274.step b25
  have vG_282 := vG_275.step b25
  have G_283 := G_276.step (by omega) b25
  have R_284 := R_277.same (SameIn.ofBelow b25 (by omega))
  have B_285 := B_278.trans (b25.mono B_278.size)
  have s_286 := b25.size
  clear vL_273 vX_274 vG_275 G_276 R_277 B_278 b25
  go_wp2
  go_ret
  exact ⟨rfl, B_285⟩
end Go.Proofs.YtjhaanenkeceiaaDoor.fnExactOpen
