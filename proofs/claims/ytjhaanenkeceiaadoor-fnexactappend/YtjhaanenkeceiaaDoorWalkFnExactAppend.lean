/- The walk of the law FnExactAppend; no condition on its arguments. -/
import Derived.Test.YtjhaanenkeceiaaDoorAppends2
namespace Go.Proofs.YtjhaanenkeceiaaDoor.fnExactAppend
open Go.RowKit
set_option linter.unusedVariables false

set_option maxHeartbeats 4000000 in
theorem walk_of (v0 : Value) (d0 : Jn) (v1 : Value) (d1 : List Int) (w : World) (e0 : RdJ w 0 w.heap.size v0 d0) (e1 : RdB w 0 w.heap.size v1 d1) (a : Addr) (hg : Glob w a)
    (HI0 : ∀ (W : World) (u0 : Value) (l0 h0 : Nat) (u1 : Value) (l1 h1 : Nat), RdJ W l0 h0 u0 d0 → h0 ≤ W.heap.size → RdB W l1 h1 u1 d1 → h1 ≤ W.heap.size → Glob W a → Calls Tryd.prog 8 #[u0, u1] W fun e w' => ∃ x, e = .returned (.tuple #[x, .bool (appendJ d0 d1).2]) ∧ OwJ2 w' W.heap.size w'.heap.size x (appendJ d0 d1).1 ∧ Below W.heap.size W w') :
    Calls Tryd.prog 5 #[v0, v1] w fun e w' => e = .returned (.bool true) ∧ Below w.heap.size w w' := by
  obtain ⟨xa, xn, xc, ya, yn, yc, rfl, _⟩ := e0.open
  have HR : Hid (∀ W, Below w.heap.size w W → RdJ W 0 w.heap.size (.agg #[.slice xa xn xc, .slice ya yn yc, .int .i64 d0.2.1, .int .i64 d0.2.2]) d0) := fun W hW => e0.step (Nat.le_refl _) hW
  have hlt := hg.lt
  have HG : Hid (∀ W, Below w.heap.size w W → Glob W a) := fun W hW => hg.step hW hlt
  obtain ⟨z1a, z1n, z1c, rfl⟩ := e1.sliced
  have HR1 : Hid (∀ W, Below w.heap.size w W → RdB W 0 w.heap.size (.slice z1a z1n z1c) d1) := fun W hW => e1.same (SameIn.ofBelow hW (Nat.le_refl _))
  have hz1 : z1n = d1.length := e1.len
  have HZ1 : Hid _ := hz1
  have hzm1 : z1n ≤ 9223372036854775807 := e1.most
  clear e0 hg e1 hz1
  by_cases hbig1 : z1n ≤ 1048576
  case neg =>
    have hb1 : 1048576 < z1n := by omega
    clear hbig1
    go_enter Tryd.func5, Tryd.ntmps5
    go_wp2
    go_ret
    exact ⟨rfl, Below.new _⟩
  have hdl1 : d1.length ≤ 2097152 := by have := HZ1.out; omega
  have vL := VarJ.new (T := 50) w (.slice xa xn xc) (.slice ya yn yc) d0.2.1 d0.2.2
  have B0 := Below.new (w := w) (.cells #[.slice xa xn xc, .slice ya yn yc, .int .i64 d0.2.1, .int .i64 d0.2.2] 50)
  generalize hw0 : w.alloc (.cells #[.slice xa xn xc, .slice ya yn yc, .int .i64 d0.2.1, .int .i64 d0.2.2] 50) = w0 at vL B0
  have HW0 : Hid _ := hw0
  have s0 := vL.lt
  clear hw0
  go_enter Tryd.func5, Tryd.ntmps5
  go_wp2_with fail
  rw [HW0.out]
  refine Calls.mono (szJournal_any _ d0 0 w.heap.size w0 (HR.out _ B0) (Nat.le_of_lt s0)) ?_
  rintro e w1 ⟨rfl, b1⟩
  have vL_1 := vL.step b1
  have B_2 := B0.trans (b1.mono B0.size)
  have s_3 := b1.size
  clear vL B0 b1
  by_cases hneg : left (sizeD d0.1) 1048576 < 0
  case pos =>
    have hd : decide (left (sizeD d0.1) 1048576 < 0) = true := by simpa using hneg
    generalize left (sizeD d0.1) 1048576 = q at hd
    go_wp2
    go_ret
    exact ⟨rfl, B_2⟩
  have hd : decide (left (sizeD d0.1) 1048576 < 0) = false := by simpa using hneg
  have HSM : Hid _ := sizeD_small hneg
  generalize left (sizeD d0.1) 1048576 = q at hd
  clear hneg
  have HS0 := fun (W : World) (u0 : Value) (l0 h0 : Nat) (u1 : Value) (l1 h1 : Nat) (r0 : RdJ W l0 h0 u0 d0) (g0 : h0 ≤ W.heap.size) (r1 : RdB W l1 h1 u1 d1) (g1 : h1 ≤ W.heap.size) => specAppend_all u0 d0 l0 h0 u1 d1 l1 h1 W r0 g0 r1 g1 HSM.out
  have HLN := (appendJ_small HSM.out d1)
  generalize (appendJ d0 d1).1 = Z at HI0 HS0 HLN
  generalize (appendJ d0 d1).2 = k at HI0 HS0
  have hkk : (k != k) = false := by simp
  have HI : Hid _ := HI0
  have HS : Hid _ := HS0
  have HZ : Hid _ := HLN
  clear HI0 HS0 HLN
  have c_4 := vL_1.c0
  have c_5 := vL_1.c1
  have c_6 := vL_1.c2
  have c_7 := vL_1.c3
  go_wp2_with fail
  refine Calls.mono (toJournal_any _ d0 0 w.heap.size w1 (HR.out _ B_2) (by omega) HSM.out) ?_
  rintro e w2 ⟨tA, rfl, otA, b2⟩
  clear c_4 c_5 c_6 c_7
  have vL_8 := vL_1.step b2
  have B_9 := B_2.trans (b2.mono B_2.size)
  have s_10 := b2.size
  clear vL_1 B_2 b2
  go_wp2_with fail
  refine Calls.mono (toByteS_r _ d1 0 w.heap.size w2 (HR1.out _ B_9) hdl1) ?_
  rintro e w3 ⟨y1A, rfl, oy1A_, b3⟩
  have oy1A := OwB.of (HR1.out w (Below.refl _ _)).1 oy1A_
  clear oy1A_
  have vL_11 := vL_8.step b3
  have tA_12 := otA.step (by omega) b3
  have B_13 := B_9.trans (b3.mono B_9.size)
  have s_14 := b3.size
  clear vL_8 otA B_9 b3
  go_wp2_with fail
  refine Calls.mono (HS.out w3 _ w1.heap.size w2.heap.size _ w2.heap.size w3.heap.size tA_12.rd (by omega) oy1A.rd (by omega)) ?_
  rintro e w4 ⟨u, rfl, ou, b4⟩
  have vL_15 := vL_11.step b4
  have tA_16 := tA_12.step (by omega) b4
  have y1A_17 := oy1A.same (SameIn.ofBelow b4 (by omega))
  have B_18 := B_13.trans (b4.mono B_13.size)
  have s_19 := b4.size
  clear vL_11 tA_12 oy1A B_13 b4
  obtain ⟨ua, un, uc, up, uq, ur, rfl, _⟩ := ou.open
  clear tA_16 y1A_17
  have b_20 := Below.new (w := w4) (.cells #[.slice ua un uc, .slice up uq ur, .int .i64 Z.2.1, .int .i64 Z.2.2] 30)
  have vU_21 := VarJ.new (T := 30) w4 (.slice ua un uc) (.slice up uq ur) Z.2.1 Z.2.2
  have vL_22 := vL_15.step b_20
  have u_23 := ou.step (by omega) b_20
  have B_24 := B_18.trans (b_20.mono B_18.size)
  generalize hw_25 : w4.alloc (.cells #[.slice ua un uc, .slice up uq ur, .int .i64 Z.2.1, .int .i64 Z.2.2] 30) = w5 at vL_22 u_23 vU_21 B_24
  have HW_26 : Hid _ := hw_25
  have s_27 := vU_21.lt
  clear hw_25 vL_15 ou B_18 b_20
  have c_28 := vL_22.c0
  have c_29 := vL_22.c1
  have c_30 := vL_22.c2
  have c_31 := vL_22.c3
  go_wp2_with (rw [HW_26.out])
  refine Calls.mono (toJournal_any _ d0 0 w.heap.size w5 (HR.out _ B_24) (by omega) HSM.out) ?_
  rintro e w6 ⟨x, rfl, ox, b6⟩
  clear c_28 c_29 c_30 c_31
  have vL_32 := vL_22.step b6
  have u_33 := u_23.step (by omega) b6
  have vU_34 := vU_21.step b6
  have B_35 := B_24.trans (b6.mono B_24.size)
  have s_36 := b6.size
  clear vL_22 u_23 vU_21 B_24 b6
  obtain ⟨Xa, Xn, Xc, Xp, Xq, Xr, rfl, _⟩ := ox.rd.open
  clear HW_26
  have b_37 := Below.new (w := w6) (.cells #[.slice Xa Xn Xc, .slice Xp Xq Xr, .int .i64 d0.2.1, .int .i64 d0.2.2] 30)
  have vX_38 := VarJ.new (T := 30) w6 (.slice Xa Xn Xc) (.slice Xp Xq Xr) d0.2.1 d0.2.2
  have vL_39 := vL_32.step b_37
  have u_40 := u_33.step (by omega) b_37
  have vU_41 := vU_34.step b_37
  have x_42 := ox.step (by omega) b_37
  have B_43 := B_35.trans (b_37.mono B_35.size)
  generalize hw_44 : w6.alloc (.cells #[.slice Xa Xn Xc, .slice Xp Xq Xr, .int .i64 d0.2.1, .int .i64 d0.2.2] 30) = w7 at vL_39 u_40 vU_41 x_42 vX_38 B_43
  have HW_45 : Hid _ := hw_44
  have s_46 := vX_38.lt
  clear hw_44 vL_32 u_33 vU_34 ox B_35 b_37
  go_wp2_with (rw [HW_45.out])
  refine Calls.mono (toByteS_r _ d1 0 w.heap.size w7 (HR1.out _ B_43) hdl1) ?_
  rintro e w8 ⟨X1, rfl, oX1_, b8⟩
  have oX1 := OwB.of (HR1.out w (Below.refl _ _)).1 oX1_
  clear oX1_
  have vL_47 := vL_39.step b8
  have u_48 := u_40.step (by omega) b8
  have vU_49 := vU_41.step b8
  have x_50 := x_42.step (by omega) b8
  have vX_51 := vX_38.step b8
  have B_52 := B_43.trans (b8.mono B_43.size)
  have s_53 := b8.size
  clear vL_39 u_40 vU_41 x_42 vX_38 B_43 b8
  obtain ⟨X1a, X1n, X1c, rfl⟩ := oX1.rd.sliced
  clear HW_45
  have c_54 := vX_51.c0
  have c_55 := vX_51.c1
  have c_56 := vX_51.c2
  have c_57 := vX_51.c3
  go_wp2_with fail
  refine Calls.mono (HI.out w8 _ w5.heap.size w6.heap.size _ w7.heap.size w8.heap.size x_50.rd (by omega) oX1.rd (by omega) (HG.out _ B_52)) ?_
  rintro e w9 ⟨g, rfl, og, b9⟩
  clear c_54 c_55 c_56 c_57
  have vL_58 := vL_47.step b9
  have u_59 := u_48.step (by omega) b9
  have vU_60 := vU_49.step b9
  have x_61 := x_50.step (by omega) b9
  have vX_62 := vX_51.step b9
  have x1_63 := oX1.same (SameIn.ofBelow b9 (by omega))
  have B_64 := B_52.trans (b9.mono B_52.size)
  have s_65 := b9.size
  clear vL_47 u_48 vU_49 x_50 vX_51 oX1 B_52 b9
  obtain ⟨ga, gn, gc, gp, gq, gr, rfl, _⟩ := og.rd.open
  have b_66 := Below.new (w := w9) (.cells #[.slice ga gn gc, .slice gp gq gr, .int .i64 Z.2.1, .int .i64 Z.2.2] 30)
  have vG_67 := VarJ.new (T := 30) w9 (.slice ga gn gc) (.slice gp gq gr) Z.2.1 Z.2.2
  have vL_68 := vL_58.step b_66
  have u_69 := u_59.step (by omega) b_66
  have vU_70 := vU_60.step b_66
  have x_71 := x_61.step (by omega) b_66
  have vX_72 := vX_62.step b_66
  have x1_73 := x1_63.same (SameIn.ofBelow b_66 (by omega))
  have g_74 := og.step (by omega) b_66
  have B_75 := B_64.trans (b_66.mono B_64.size)
  generalize hw_76 : w9.alloc (.cells #[.slice ga gn gc, .slice gp gq gr, .int .i64 Z.2.1, .int .i64 Z.2.2] 30) = w10 at vL_68 u_69 vU_70 x_71 vX_72 x1_73 g_74 vG_67 B_75
  have HW_77 : Hid _ := hw_76
  have s_78 := vG_67.lt
  clear hw_76 vL_58 u_59 vU_60 x_61 vX_62 x1_63 og B_64 b_66
  have c_79 := vG_67.c0
  have c_80 := vG_67.c1
  have c_81 := vG_67.c2
  have c_82 := vG_67.c3
  have c_83 := vU_70.c0
  have c_84 := vU_70.c1
  have c_85 := vU_70.c2
  have c_86 := vU_70.c3
  go_wp2_with (rw [HW_77.out])
  refine Calls.mono (eqJournal_same _ _ Z w8.heap.size w9.heap.size w3.heap.size w4.heap.size w10 g_74.rd u_69 (by omega) (by omega) HZ.out) ?_
  rintro e w11 ⟨rfl, b11⟩
  clear c_79 c_80 c_81 c_82 c_83 c_84 c_85 c_86
  have vL_87 := vL_68.step b11
  have u_88 := u_69.step (by omega) b11
  have vU_89 := vU_70.step b11
  have x_90 := x_71.step (by omega) b11
  have vX_91 := vX_72.step b11
  have x1_92 := x1_73.same (SameIn.ofBelow b11 (by omega))
  have g_93 := g_74.step (by omega) b11
  have vG_94 := vG_67.step b11
  have B_95 := B_75.trans (b11.mono B_75.size)
  have s_96 := b11.size
  clear vL_68 u_69 vU_70 x_71 vX_72 x1_73 g_74 vG_67 B_75 b11
  clear HW_77
  have c_97 := vX_91.c0
  have c_98 := vX_91.c1
  have c_99 := vX_91.c2
  have c_100 := vX_91.c3
  have c_101 := vL_87.c0
  have c_102 := vL_87.c1
  have c_103 := vL_87.c2
  have c_104 := vL_87.c3
  go_wp2
  have hxl_ := vX_91.lt
  have hll_ := vL_87.lt
  go_region_held3 (fun w' => w'.cell? ⟨w6.heap.size, 0, none⟩ = some (.slice Xa Xn Xc) ∧ w'.cell? ⟨w6.heap.size, 1, none⟩ = some (.slice Xp Xq Xr) ∧ w'.cell? ⟨w6.heap.size, 2, none⟩ = some (.int .i64 d0.2.1) ∧ w'.cell? ⟨w6.heap.size, 3, none⟩ = some (.int .i64 d0.2.2) ∧ w'.cell? ⟨w.heap.size, 0, none⟩ = some (.slice xa xn xc) ∧ w'.cell? ⟨w.heap.size, 1, none⟩ = some (.slice ya yn yc) ∧ w'.cell? ⟨w.heap.size, 2, none⟩ = some (.int .i64 d0.2.1) ∧ w'.cell? ⟨w.heap.size, 3, none⟩ = some (.int .i64 d0.2.2)) (first | go_keep | (refine ⟨?_, ?_, ?_, ?_, ?_, ?_, ?_, ?_⟩ <;> assumption)) (first
    | (go_at_call 21; refine Calls.mono (toJournal_any _ d0 0 w.heap.size w11.drew (HR.out _ B_95.drew) (by simp; omega) HSM.out) ?_; rintro e wy ⟨y, rfl, oY, bY⟩; have bY' : Below w11.heap.size w11 wy := (Below.drew (Below.refl _ _)).trans bY; have k1 := (vX_91.step bY').c0; have k2 := (vX_91.step bY').c1; have k3 := (vL_87.step bY').c0; have k4 := (vL_87.step bY').c1; have k5 := (vX_91.step bY').c2; have k6 := (vX_91.step bY').c3; have k7 := (vL_87.step bY').c2; have k8 := (vL_87.step bY').c3)
    | (go_at_call 23; refine Calls.mono (eqJournal_same _ _ d0 w5.heap.size w6.heap.size w11.heap.size wy.heap.size wy (x_90.step (by omega) bY').rd oY.rd (by have := bY'.size; omega) (Nat.le_refl _) HSM.out) ?_; rintro e w12 ⟨rfl, bE⟩; have b12 : Below w11.heap.size w11 w12 := bY'.trans (bE.mono bY'.size); have j1 := (vX_91.step b12).c0; have j2 := (vX_91.step b12).c1; have j3 := (vL_87.step b12).c0; have j4 := (vL_87.step b12).c1; have j5 := (vX_91.step b12).c2; have j6 := (vX_91.step b12).c3; have j7 := (vL_87.step b12).c2; have j8 := (vL_87.step b12).c3))
  clear k1 k2 k3 k4 k5 k6 k7 k8 j1 j2 j3 j4 j5 j6 j7 j8 bE bY bY' oY hxl_ hll_
  clear c_97 c_98 c_99 c_100 c_101 c_102 c_103 c_104
  have hHeld : True := trivial
  have vL_105 := vL_87.step b12
  have u_106 := u_88.step (by omega) b12
  have vU_107 := vU_89.step b12
  have x_108 := x_90.step (by omega) b12
  have vX_109 := vX_91.step b12
  have x1_110 := x1_92.same (SameIn.ofBelow b12 (by omega))
  have g_111 := g_93.step (by omega) b12
  have vG_112 := vG_94.step b12
  have B_113 := B_95.trans (b12.mono B_95.size)
  have s_114 := b12.size
  clear vL_87 u_88 vU_89 x_90 vX_91 x1_92 g_93 vG_94 B_95 b12
  go_wp2_with fail
  refine Calls.mono (toByteS_r _ d1 0 w.heap.size w12 (HR1.out _ B_113) hdl1) ?_
  rintro e w13 ⟨q1, rfl, oq1_, b13⟩
  have oq1 := OwB.of (HR1.out w (Below.refl _ _)).1 oq1_
  clear oq1_
  have vL_115 := vL_105.step b13
  have u_116 := u_106.step (by omega) b13
  have vU_117 := vU_107.step b13
  have x_118 := x_108.step (by omega) b13
  have vX_119 := vX_109.step b13
  have x1_120 := x1_110.same (SameIn.ofBelow b13 (by omega))
  have g_121 := g_111.step (by omega) b13
  have vG_122 := vG_112.step b13
  have B_123 := B_113.trans (b13.mono B_113.size)
  have s_124 := b13.size
  clear vL_105 u_106 vU_107 x_108 vX_109 x1_110 g_111 vG_112 B_113 b13
  go_wp2_with fail
  refine Calls.mono (eqB_same _ _ d1 w7.heap.size w8.heap.size w12.heap.size w13.heap.size w13 x1_120.rd oq1.rd hdl1) ?_
  rintro e w14 ⟨rfl, b14⟩
  have vL_125 := vL_115.step b14
  have u_126 := u_116.step (by omega) b14
  have vU_127 := vU_117.step b14
  have x_128 := x_118.step (by omega) b14
  have vX_129 := vX_119.step b14
  have x1_130 := x1_120.same (SameIn.ofBelow b14 (by omega))
  have g_131 := g_121.step (by omega) b14
  have vG_132 := vG_122.step b14
  have q1_133 := oq1.same (SameIn.ofBelow b14 (by omega))
  have B_134 := B_123.trans (b14.mono B_123.size)
  have s_135 := b14.size
  clear vL_115 u_116 vU_117 x_118 vX_119 x1_120 g_121 vG_122 oq1 B_123 b14
  clear q1_133
  have c_136 := vX_129.c0
  have c_137 := vX_129.c1
  have c_138 := vX_129.c2
  have c_139 := vX_129.c3
  go_wp2_with fail
  refine Calls.mono (markJournal_any _ d0 w5.heap.size w6.heap.size 1 w14 x_128 (by omega) HSM.out (by omega)) ?_
  rintro e w15 ⟨rfl, ox15, b15⟩
  clear c_136 c_137 c_138 c_139
  clear x_128
  clear ox15
  have vL_140 := vL_125.turn b15 (by omega)
  have u_141 := u_126.same (b15.same (by omega) (by omega))
  have vU_142 := vU_127.turn b15 (by omega)
  have vX_143 := vX_129.turn b15 (by omega)
  have x1_144 := x1_130.same (b15.same (by omega) (by omega))
  have g_145 := g_131.same (b15.same (by omega) (by omega))
  have vG_146 := vG_132.turn b15 (by omega)
  have B_147 := b15.toBelow B_134 B_134.size (by omega)
  have s_148 := b15.size
  clear vL_125 u_126 vU_127 vX_129 x1_130 g_131 vG_132 B_134 b15
  clear vX_143
  have hlD : (lenD d0.1 : Int) ≤ 4194304 := by have h1 := HSM.out.2.1; have h2 := HSM.out.2.2; unfold lenD; omega
  have hk1_ : ((1 : Nat) : Int) + (lenD d0.1 : Int) = ((1 + lenD d0.1 : Nat) : Int) := by omega
  have HM1 : Hid _ := markB_more _ d1 (1 + lenD d0.1) w7.heap.size w8.heap.size w15 x1_144 hdl1 (by omega)
  rw [← hk1_] at HM1
  have HK1 : Hid _ := hk1_
  clear hk1_
  go_wp2_with fail
  refine Calls.mono (HM1.out) ?_
  rintro e w16 ⟨rfl, ox16, b16⟩
  clear x1_144
  clear ox16
  have vL_149 := vL_140.turn b16 (by omega)
  have u_150 := u_141.same (b16.same (by omega) (by omega))
  have vU_151 := vU_142.turn b16 (by omega)
  have g_152 := g_145.same (b16.same (by omega) (by omega))
  have vG_153 := vG_146.turn b16 (by omega)
  have B_154 := b16.toBelow B_147 B_147.size (by omega)
  have s_155 := b16.size
  clear vL_140 u_141 vU_142 g_145 vG_146 B_147 b16
  have hq0 : decide (((1 : Nat) : Int) + (lenD d0.1 : Int) + (d1.length : Int) < 0) = false := by simp; omega
  have c_156 := vG_153.c0
  have c_157 := vG_153.c1
  have c_158 := vG_153.c2
  have c_159 := vG_153.c3
  have c_160 := vU_151.c0
  have c_161 := vU_151.c1
  have c_162 := vU_151.c2
  have c_163 := vU_151.c3
  go_wp2_with fail
  refine Calls.mono (eqJournal_same _ _ Z w8.heap.size w9.heap.size w3.heap.size w4.heap.size w16 g_152.rd u_150 (by omega) (by omega) HZ.out) ?_
  rintro e w17 ⟨rfl, b17⟩
  clear c_156 c_157 c_158 c_159 c_160 c_161 c_162 c_163
  have vL_164 := vL_149.step b17
  have u_165 := u_150.step (by omega) b17
  have vU_166 := vU_151.step b17
  have g_167 := g_152.step (by omega) b17
  have vG_168 := vG_153.step b17
  have B_169 := B_154.trans (b17.mono B_154.size)
  have s_170 := b17.size
  clear vL_149 u_150 vU_151 g_152 vG_153 B_154 b17
  have c_171 := vG_168.c0
  have c_172 := vG_168.c1
  have c_173 := vG_168.c2
  have c_174 := vG_168.c3
  go_wp2_with fail
  refine Calls.mono (markJournalP_any _ Z w8.heap.size w9.heap.size 1 w17 g_167 (by omega) HZ.out (by omega)) ?_
  rintro e w18 ⟨rfl, og2, b18⟩
  clear c_171 c_172 c_173 c_174
  clear g_167
  have vL_175 := vL_164.turn b18 (by omega)
  have u_176 := u_165.same (b18.same (by omega) (by omega))
  have vU_177 := vU_166.turn b18 (by omega)
  have vG_178 := vG_168.turn b18 (by omega)
  have B_179 := b18.toBelow B_169 B_169.size (by omega)
  have s_180 := b18.size
  clear vL_164 u_165 vU_166 vG_168 B_169 b18
  have hlZ : (lenD Z.1 : Int) ≤ 4194304 := by have h1 := HZ.out.2.1; have h2 := HZ.out.2.2; unfold lenD; omega
  have hq1 : decide (((1 : Nat) : Int) + (lenD Z.1 : Int) < 0) = false := by simp; omega
  have hq2 : ((((1 : Nat) : Int) + (lenD Z.1 : Int)) != (((1 : Nat) : Int) + (lenD Z.1 : Int))) = false := by simp
  have c_181 := vG_178.c0
  have c_182 := vG_178.c1
  have c_183 := vG_178.c2
  have c_184 := vG_178.c3
  go_wp2_with fail
  refine Calls.mono (heldJournal_any _ Z w8.heap.size w9.heap.size 1 w18 og2.rd (by omega) HZ.out (by omega)) ?_
  rintro e w19 ⟨rfl, b19⟩
  clear c_181 c_182 c_183 c_184
  have vL_185 := vL_175.step b19
  have u_186 := u_176.step (by omega) b19
  have vU_187 := vU_177.step b19
  have vG_188 := vG_178.step b19
  have g_189 := og2.step (by omega) b19
  have B_190 := B_179.trans (b19.mono B_179.size)
  have s_191 := b19.size
  clear vL_175 u_176 vU_177 vG_178 og2 B_179 b19
  have c_192 := vL_185.c0
  have c_193 := vL_185.c1
  have c_194 := vL_185.c2
  have c_195 := vL_185.c3
  go_wp2_with fail
  refine Calls.mono (toJournal_any _ d0 0 w.heap.size w19 (HR.out _ B_190) (by omega) HSM.out) ?_
  rintro e w20 ⟨tH, rfl, otH, b20⟩
  clear c_192 c_193 c_194 c_195
  have vL_196 := vL_185.step b20
  have u_197 := u_186.step (by omega) b20
  have vU_198 := vU_187.step b20
  have vG_199 := vG_188.step b20
  have g_200 := g_189.step (by omega) b20
  have B_201 := B_190.trans (b20.mono B_190.size)
  have s_202 := b20.size
  clear vL_185 u_186 vU_187 vG_188 g_189 B_190 b20
  go_wp2_with fail
  refine Calls.mono (toByteS_r _ d1 0 w.heap.size w20 (HR1.out _ B_201) hdl1) ?_
  rintro e w21 ⟨y1H, rfl, oy1H_, b21⟩
  have oy1H := OwB.of (HR1.out w (Below.refl _ _)).1 oy1H_
  clear oy1H_
  have vL_203 := vL_196.step b21
  have u_204 := u_197.step (by omega) b21
  have vU_205 := vU_198.step b21
  have vG_206 := vG_199.step b21
  have g_207 := g_200.step (by omega) b21
  have tH_208 := otH.step (by omega) b21
  have B_209 := B_201.trans (b21.mono B_201.size)
  have s_210 := b21.size
  clear vL_196 u_197 vU_198 vG_199 g_200 otH B_201 b21
  go_wp2_with fail
  refine Calls.mono (HI.out w21 _ w19.heap.size w20.heap.size _ w20.heap.size w21.heap.size tH_208.rd (by omega) oy1H.rd (by omega) (HG.out _ B_209)) ?_
  rintro e w22 ⟨h, rfl, oh, b22⟩
  have vL_211 := vL_203.step b22
  have u_212 := u_204.step (by omega) b22
  have vU_213 := vU_205.step b22
  have vG_214 := vG_206.step b22
  have g_215 := g_207.step (by omega) b22
  have tH_216 := tH_208.step (by omega) b22
  have y1H_217 := oy1H.same (SameIn.ofBelow b22 (by omega))
  have B_218 := B_209.trans (b22.mono B_209.size)
  have s_219 := b22.size
  clear vL_203 u_204 vU_205 vG_206 g_207 tH_208 oy1H B_209 b22
  obtain ⟨ha, hn, hc, hp, hq, hr, rfl, _⟩ := oh.rd.open
  clear tH_216 y1H_217
  have b_220 := Below.new (w := w22) (.cells #[.slice ha hn hc, .slice hp hq hr, .int .i64 Z.2.1, .int .i64 Z.2.2] 30)
  have vH_221 := VarJ.new (T := 30) w22 (.slice ha hn hc) (.slice hp hq hr) Z.2.1 Z.2.2
  have vL_222 := vL_211.step b_220
  have u_223 := u_212.step (by omega) b_220
  have vU_224 := vU_213.step b_220
  have vG_225 := vG_214.step b_220
  have g_226 := g_215.step (by omega) b_220
  have h_227 := oh.step (by omega) b_220
  have B_228 := B_218.trans (b_220.mono B_218.size)
  generalize hw_229 : w22.alloc (.cells #[.slice ha hn hc, .slice hp hq hr, .int .i64 Z.2.1, .int .i64 Z.2.2] 30) = w23 at vL_222 u_223 vU_224 vG_225 g_226 h_227 vH_221 B_228
  have HW_230 : Hid _ := hw_229
  have s_231 := vH_221.lt
  clear hw_229 vL_211 u_212 vU_213 vG_214 g_215 oh B_218 b_220
  have c_232 := vH_221.c0
  have c_233 := vH_221.c1
  have c_234 := vH_221.c2
  have c_235 := vH_221.c3
  have c_236 := vU_224.c0
  have c_237 := vU_224.c1
  have c_238 := vU_224.c2
  have c_239 := vU_224.c3
  go_wp2_with (rw [HW_230.out])
  refine Calls.mono (eqJournal_same _ _ Z w21.heap.size w22.heap.size w3.heap.size w4.heap.size w23 h_227.rd u_223 (by omega) (by omega) HZ.out) ?_
  rintro e w24 ⟨rfl, b24⟩
  clear c_232 c_233 c_234 c_235 c_236 c_237 c_238 c_239
  have vL_240 := vL_222.step b24
  have u_241 := u_223.step (by omega) b24
  have vU_242 := vU_224.step b24
  have vG_243 := vG_225.step b24
  have g_244 := g_226.step (by omega) b24
  have h_245 := h_227.step (by omega) b24
  have vH_246 := vH_221.step b24
  have B_247 := B_228.trans (b24.mono B_228.size)
  have s_248 := b24.size
  clear vL_222 u_223 vU_224 vG_225 g_226 h_227 vH_221 B_228 b24
  clear HW_230
  clear h_245 vH_246
  have c_249 := vG_243.c0
  have c_250 := vG_243.c1
  have c_251 := vG_243.c2
  have c_252 := vG_243.c3
  go_wp2_with fail
  refine Calls.mono (heldJournal_any _ Z w8.heap.size w9.heap.size 1 w24 g_244.rd (by omega) HZ.out (by omega)) ?_
  rintro e w25 ⟨rfl, b25⟩
  clear c_249 c_250 c_251 c_252
  have vL_253 := vL_240.step b25
  have u_254 := u_241.step (by omega) b25
  have vU_255 := vU_242.step b25
  have vG_256 := vG_243.step b25
  have g_257 := g_244.step (by omega) b25
  have B_258 := B_247.trans (b25.mono B_247.size)
  have s_259 := b25.size
  clear vL_240 u_241 vU_242 vG_243 g_244 B_247 b25
  go_wp2
  go_ret
  exact ⟨rfl, B_258⟩
end Go.Proofs.YtjhaanenkeceiaaDoor.fnExactAppend
