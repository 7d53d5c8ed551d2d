/- The walk of the law FnExactCrash; no condition on its arguments. -/
import Derived.Test.YtdpigkcdfjnpdaaDoorCrashes
namespace Go.Proofs.YtdpigkcdfjnpdaaDoor.fnExactCrash
open Go.RowKit
set_option linter.unusedVariables false

set_option maxHeartbeats 4000000 in
theorem walk (v0 : Value) (d0 : Dk) (v1 : Value) (d1 : List Bool) (a2 : Int) (w : World) (e0 : RdD w 0 w.heap.size v0 d0) (e1 : RdF w 0 w.heap.size v1 d1) (w2_ : (Lit.int .i64 a2).wf = true) (a : Addr) (hg : Glob w a) :
    Calls Tryd.prog 9 #[v0, v1, .int .i64 a2] w fun e w' => e = .returned (.bool true) ∧ Below w.heap.size w w' := by
  obtain ⟨xa, xn, xc, ya, yn, yc, rfl⟩ := e0.open
  have HR : Hid (∀ W, Below w.heap.size w W → RdD W 0 w.heap.size (.agg #[.slice xa xn xc, .slice ya yn yc]) d0) := fun W hW => e0.step (Nat.le_refl _) hW
  have hlt := hg.lt
  have HG : Hid (∀ W, Below w.heap.size w W → Glob W a) := fun W hW => hg.step hW hlt
  obtain ⟨z1a, z1n, z1c, rfl⟩ := e1.sliced
  have HR1 : Hid (∀ W, Below w.heap.size w W → RdF W 0 w.heap.size (.slice z1a z1n z1c) d1) := fun W hW => e1.same (SameIn.ofBelow hW (Nat.le_refl _))
  have hz1 : z1n = d1.length := e1.len
  have HZ1 : Hid _ := hz1
  have hzm1 : z1n ≤ 9223372036854775807 := e1.most
  clear e0 hg e1 hz1
  by_cases hbig1 : z1n ≤ 1048576
  case neg =>
    have hb1 : 1048576 < z1n := by omega
    clear hbig1
    go_enter Tryd.func9, Tryd.ntmps9
    go_wp2
    go_ret
    exact ⟨rfl, Below.new _⟩
  have hdl1 : d1.length ≤ 2097152 := by have := HZ1.out; omega
  have vL := VarL.new w (.slice xa xn xc) (.slice ya yn yc)
  have B0 := Below.new (w := w) (.cells #[.slice xa xn xc, .slice ya yn yc] 46)
  generalize hw0 : w.alloc (.cells #[.slice xa xn xc, .slice ya yn yc] 46) = w0 at vL B0
  have HW0 : Hid _ := hw0
  have s0 := vL.lt
  clear hw0
  go_enter Tryd.func9, Tryd.ntmps9
  go_wp2_with fail
  rw [HW0.out]
  refine Calls.mono (szDisk_any _ d0 0 w.heap.size w0 (HR.out _ B0) (Nat.le_of_lt s0)) ?_
  rintro e w1 ⟨rfl, b1⟩
  have vL_1 := vL.step b1
  have B_2 := B0.trans (b1.mono B0.size)
  have s_3 := b1.size
  clear vL B0 b1
  by_cases hneg : left (sizeD d0) 1048576 < 0
  case pos =>
    have hd : decide (left (sizeD d0) 1048576 < 0) = true := by simpa using hneg
    generalize left (sizeD d0) 1048576 = q at hd
    go_wp2
    go_ret
    exact ⟨rfl, B_2⟩
  have hd : decide (left (sizeD d0) 1048576 < 0) = false := by simpa using hneg
  have HSM : Hid _ := sizeD_small hneg
  generalize left (sizeD d0) 1048576 = q at hd
  clear hneg
  have HI0 := fun (W : World) (u0 : Value) (l0 h0 : Nat) (u1 : Value) (l1 h1 : Nat) (r0 : RdD W l0 h0 u0 d0) (g0 : h0 ≤ W.heap.size) (r1 : RdF W l1 h1 u1 d1) (g1 : h1 ≤ W.heap.size) (hG : Glob W a) => implCrash_all u0 d0 l0 h0 u1 d1 l1 h1 a2 W r0 g0 r1 g1 a hG
  have HS0 := fun (W : World) (u0 : Value) (l0 h0 : Nat) (u1 : Value) (l1 h1 : Nat) (r0 : RdD W l0 h0 u0 d0) (g0 : h0 ≤ W.heap.size) (r1 : RdF W l1 h1 u1 d1) (g1 : h1 ≤ W.heap.size) => specCrash_all u0 d0 l0 h0 u1 d1 l1 h1 a2 W r0 g0 r1 g1 HSM.out
  have HLN := (crashD_small HSM.out d1 a2)
  generalize crashD d0 d1 a2 = Z at HI0 HS0 HLN
  have HI : Hid _ := HI0
  have HS : Hid _ := HS0
  have HZ : Hid _ := HLN
  clear HI0 HS0 HLN
  have c_4 := vL_1.c0
  have c_5 := vL_1.c1
  go_wp2_with fail
  refine Calls.mono (toDisk_any _ d0 0 w.heap.size w1 (HR.out _ B_2) (by omega) HSM.out) ?_
  rintro e w2 ⟨tA, rfl, otA, b2⟩
  clear c_4 c_5
  have vL_6 := vL_1.step b2
  have B_7 := B_2.trans (b2.mono B_2.size)
  have s_8 := b2.size
  clear vL_1 B_2 b2
  go_wp2_with fail
  refine Calls.mono (toBoolS_any _ d1 0 w.heap.size w2 (HR1.out _ B_7) (by omega) hdl1) ?_
  rintro e w3 ⟨y1A, rfl, oy1A, b3⟩
  have vL_9 := vL_6.step b3
  have tA_10 := otA.step (by omega) b3
  have B_11 := B_7.trans (b3.mono B_7.size)
  have s_12 := b3.size
  clear vL_6 otA B_7 b3
  go_wp2_with fail
  refine Calls.mono (HS.out w3 _ w1.heap.size w2.heap.size _ w2.heap.size w3.heap.size tA_10.rd (by omega) oy1A.rd (by omega)) ?_
  rintro e w4 ⟨u, rfl, ou, b4⟩
  have vL_13 := vL_9.step b4
  have tA_14 := tA_10.step (by omega) b4
  have y1A_15 := oy1A.same (SameIn.ofBelow b4 (by omega))
  have B_16 := B_11.trans (b4.mono B_11.size)
  have s_17 := b4.size
  clear vL_9 tA_10 oy1A B_11 b4
  obtain ⟨ua, un, uc, up, uq, ur, rfl⟩ := ou.open
  clear tA_14 y1A_15
  have b_18 := Below.new (w := w4) (.cells #[.slice ua un uc, .slice up uq ur] 26)
  have vU_19 := VarD.new w4 (.slice ua un uc) (.slice up uq ur)
  have vL_20 := vL_13.step b_18
  have u_21 := ou.step (by omega) b_18
  have B_22 := B_16.trans (b_18.mono B_16.size)
  generalize hw_23 : w4.alloc (.cells #[.slice ua un uc, .slice up uq ur] 26) = w5 at vL_20 u_21 vU_19 B_22
  have HW_24 : Hid _ := hw_23
  have s_25 := vU_19.lt
  clear hw_23 vL_13 ou B_16 b_18
  have c_26 := vL_20.c0
  have c_27 := vL_20.c1
  go_wp2_with (rw [HW_24.out])
  refine Calls.mono (toDisk_any _ d0 0 w.heap.size w5 (HR.out _ B_22) (by omega) HSM.out) ?_
  rintro e w6 ⟨x, rfl, ox, b6⟩
  clear c_26 c_27
  have vL_28 := vL_20.step b6
  have u_29 := u_21.step (by omega) b6
  have vU_30 := vU_19.step b6
  have B_31 := B_22.trans (b6.mono B_22.size)
  have s_32 := b6.size
  clear vL_20 u_21 vU_19 B_22 b6
  obtain ⟨Xa, Xn, Xc, Xp, Xq, Xr, rfl⟩ := ox.rd.open
  clear HW_24
  have b_33 := Below.new (w := w6) (.cells #[.slice Xa Xn Xc, .slice Xp Xq Xr] 26)
  have vX_34 := VarD.new w6 (.slice Xa Xn Xc) (.slice Xp Xq Xr)
  have vL_35 := vL_28.step b_33
  have u_36 := u_29.step (by omega) b_33
  have vU_37 := vU_30.step b_33
  have x_38 := ox.step (by omega) b_33
  have B_39 := B_31.trans (b_33.mono B_31.size)
  generalize hw_40 : w6.alloc (.cells #[.slice Xa Xn Xc, .slice Xp Xq Xr] 26) = w7 at vL_35 u_36 vU_37 x_38 vX_34 B_39
  have HW_41 : Hid _ := hw_40
  have s_42 := vX_34.lt
  clear hw_40 vL_28 u_29 vU_30 ox B_31 b_33
  go_wp2_with (rw [HW_41.out])
  refine Calls.mono (toBoolS_any _ d1 0 w.heap.size w7 (HR1.out _ B_39) (by omega) hdl1) ?_
  rintro e w8 ⟨X1, rfl, oX1, b8⟩
  have vL_43 := vL_35.step b8
  have u_44 := u_36.step (by omega) b8
  have vU_45 := vU_37.step b8
  have x_46 := x_38.step (by omega) b8
  have vX_47 := vX_34.step b8
  have B_48 := B_39.trans (b8.mono B_39.size)
  have s_49 := b8.size
  clear vL_35 u_36 vU_37 x_38 vX_34 B_39 b8
  obtain ⟨X1a, X1n, X1c, rfl⟩ := oX1.rd.sliced
  clear HW_41
  have c_50 := vX_47.c0
  have c_51 := vX_47.c1
  go_wp2_with fail
  refine Calls.mono (HI.out w8 _ w5.heap.size w6.heap.size _ w7.heap.size w8.heap.size x_46.rd (by omega) oX1.rd (by omega) (HG.out _ B_48)) ?_
  rintro e w9 ⟨g, rfl, og, b9⟩
  clear c_50 c_51
  have vL_52 := vL_43.step b9
  have u_53 := u_44.step (by omega) b9
  have vU_54 := vU_45.step b9
  have x_55 := x_46.step (by omega) b9
  have vX_56 := vX_47.step b9
  have x1_57 := oX1.same (SameIn.ofBelow b9 (by omega))
  have B_58 := B_48.trans (b9.mono B_48.size)
  have s_59 := b9.size
  clear vL_43 u_44 vU_45 x_46 vX_47 oX1 B_48 b9
  obtain ⟨ga, gn, gc, gp, gq, gr, rfl⟩ := og.rd.open
  have b_60 := Below.new (w := w9) (.cells #[.slice ga gn gc, .slice gp gq gr] 26)
  have vG_61 := VarD.new w9 (.slice ga gn gc) (.slice gp gq gr)
  have vL_62 := vL_52.step b_60
  have u_63 := u_53.step (by omega) b_60
  have vU_64 := vU_54.step b_60
  have x_65 := x_55.step (by omega) b_60
  have vX_66 := vX_56.step b_60
  have x1_67 := x1_57.same (SameIn.ofBelow b_60 (by omega))
  have g_68 := og.step (by omega) b_60
  have B_69 := B_58.trans (b_60.mono B_58.size)
  generalize hw_70 : w9.alloc (.cells #[.slice ga gn gc, .slice gp gq gr] 26) = w10 at vL_62 u_63 vU_64 x_65 vX_66 x1_67 g_68 vG_61 B_69
  have HW_71 : Hid _ := hw_70
  have s_72 := vG_61.lt
  clear hw_70 vL_52 u_53 vU_54 x_55 vX_56 x1_57 og B_58 b_60
  have c_73 := vG_61.c0
  have c_74 := vG_61.c1
  have c_75 := vU_64.c0
  have c_76 := vU_64.c1
  go_wp2_with (rw [HW_71.out])
  refine Calls.mono (eqDisk_any _ _ Z Z w8.heap.size w9.heap.size w3.heap.size w4.heap.size w10 g_68.rd u_63 (by omega) (by omega) HZ.out HZ.out) ?_
  rintro e w11 ⟨rfl, b11⟩
  clear c_73 c_74 c_75 c_76
  rw [beq_self_eq_true]
  have vL_77 := vL_62.step b11
  have u_78 := u_63.step (by omega) b11
  have vU_79 := vU_64.step b11
  have x_80 := x_65.step (by omega) b11
  have vX_81 := vX_66.step b11
  have x1_82 := x1_67.same (SameIn.ofBelow b11 (by omega))
  have g_83 := g_68.step (by omega) b11
  have vG_84 := vG_61.step b11
  have B_85 := B_69.trans (b11.mono B_69.size)
  have s_86 := b11.size
  clear vL_62 u_63 vU_64 x_65 vX_66 x1_67 g_68 vG_61 B_69 b11
  clear HW_71
  have c_87 := vX_81.c0
  have c_88 := vX_81.c1
  have c_89 := vL_77.c0
  have c_90 := vL_77.c1
  go_wp2
  have hxl_ := vX_81.lt
  have hll_ := vL_77.lt
  go_region_held3 (fun w' => w'.cell? ⟨w6.heap.size, 0, none⟩ = some (.slice Xa Xn Xc) ∧ w'.cell? ⟨w6.heap.size, 1, none⟩ = some (.slice Xp Xq Xr) ∧ w'.cell? ⟨w.heap.size, 0, none⟩ = some (.slice xa xn xc) ∧ w'.cell? ⟨w.heap.size, 1, none⟩ = some (.slice ya yn yc)) (first | go_keep | (refine ⟨?_, ?_, ?_, ?_⟩ <;> assumption)) (first
    | (go_at_call 22; refine Calls.mono (toDisk_any _ d0 0 w.heap.size w11.drew (HR.out _ B_85.drew) (by simp; omega) HSM.out) ?_; rintro e wy ⟨y, rfl, oY, bY⟩; have bY' : Below w11.heap.size w11 wy := (Below.drew (Below.refl _ _)).trans bY; have k1 := (vX_81.step bY').c0; have k2 := (vX_81.step bY').c1; have k3 := (vL_77.step bY').c0; have k4 := (vL_77.step bY').c1)
    | (go_at_call 23; refine Calls.mono (eqDisk_any _ _ d0 d0 w5.heap.size w6.heap.size w11.heap.size wy.heap.size wy (x_80.step (by omega) bY').rd oY.rd (by have := bY'.size; omega) (Nat.le_refl _) HSM.out HSM.out) ?_; rintro e w12 ⟨rfl, bE⟩; rw [beq_self_eq_true]; have b12 : Below w11.heap.size w11 w12 := bY'.trans (bE.mono bY'.size); have j1 := (vX_81.step b12).c0; have j2 := (vX_81.step b12).c1; have j3 := (vL_77.step b12).c0; have j4 := (vL_77.step b12).c1))
  clear k1 k2 k3 k4 j1 j2 j3 j4 bE bY bY' oY hxl_ hll_
  clear c_87 c_88 c_89 c_90
  have hHeld : True := trivial
  have vL_91 := vL_77.step b12
  have u_92 := u_78.step (by omega) b12
  have vU_93 := vU_79.step b12
  have x_94 := x_80.step (by omega) b12
  have vX_95 := vX_81.step b12
  have x1_96 := x1_82.same (SameIn.ofBelow b12 (by omega))
  have g_97 := g_83.step (by omega) b12
  have vG_98 := vG_84.step b12
  have B_99 := B_85.trans (b12.mono B_85.size)
  have s_100 := b12.size
  clear vL_77 u_78 vU_79 x_80 vX_81 x1_82 g_83 vG_84 B_85 b12
  go_wp2_with fail
  refine Calls.mono (toBoolS_any _ d1 0 w.heap.size w12 (HR1.out _ B_99) (by omega) hdl1) ?_
  rintro e w13 ⟨q1, rfl, oq1, b13⟩
  have vL_101 := vL_91.step b13
  have u_102 := u_92.step (by omega) b13
  have vU_103 := vU_93.step b13
  have x_104 := x_94.step (by omega) b13
  have vX_105 := vX_95.step b13
  have x1_106 := x1_96.same (SameIn.ofBelow b13 (by omega))
  have g_107 := g_97.step (by omega) b13
  have vG_108 := vG_98.step b13
  have B_109 := B_99.trans (b13.mono B_99.size)
  have s_110 := b13.size
  clear vL_91 u_92 vU_93 x_94 vX_95 x1_96 g_97 vG_98 B_99 b13
  go_wp2_with fail
  refine Calls.mono (eqBoolS_same _ _ d1 w7.heap.size w8.heap.size w12.heap.size w13.heap.size w13 x1_106.rd oq1.rd hdl1) ?_
  rintro e w14 ⟨rfl, b14⟩
  have vL_111 := vL_101.step b14
  have u_112 := u_102.step (by omega) b14
  have vU_113 := vU_103.step b14
  have x_114 := x_104.step (by omega) b14
  have vX_115 := vX_105.step b14
  have x1_116 := x1_106.same (SameIn.ofBelow b14 (by omega))
  have g_117 := g_107.step (by omega) b14
  have vG_118 := vG_108.step b14
  have q1_119 := oq1.same (SameIn.ofBelow b14 (by omega))
  have B_120 := B_109.trans (b14.mono B_109.size)
  have s_121 := b14.size
  clear vL_101 u_102 vU_103 x_104 vX_105 x1_106 g_107 vG_108 oq1 B_109 b14
  clear q1_119
  have c_122 := vX_115.c0
  have c_123 := vX_115.c1
  go_wp2_with fail
  refine Calls.mono (markDisk_any _ d0 w5.heap.size w6.heap.size 1 w14 x_114 (by omega) HSM.out (by omega)) ?_
  rintro e w15 ⟨rfl, ox15, b15⟩
  clear c_122 c_123
  clear x_114
  clear ox15
  have vL_124 := vL_111.turn b15 (by omega)
  have u_125 := u_112.same (b15.same (by omega) (by omega))
  have vU_126 := vU_113.turn b15 (by omega)
  have vX_127 := vX_115.turn b15 (by omega)
  have x1_128 := x1_116.same (b15.same (by omega) (by omega))
  have g_129 := g_117.same (b15.same (by omega) (by omega))
  have vG_130 := vG_118.turn b15 (by omega)
  have B_131 := b15.toBelow B_120 B_120.size (by omega)
  have s_132 := b15.size
  clear vL_111 u_112 vU_113 vX_115 x1_116 g_117 vG_118 B_120 b15
  clear vX_127
  have hlD : (lenD d0 : Int) ≤ 4194304 := by have h1 := HSM.out.2.1; have h2 := HSM.out.2.2; unfold lenD; omega
  have hk1_ : ((1 : Nat) : Int) + (lenD d0 : Int) = ((1 + lenD d0 : Nat) : Int) := by omega
  have HM1 : Hid _ := markF_any _ d1 (1 + lenD d0) w7.heap.size w8.heap.size w15 x1_128 hdl1 (by omega)
  rw [← hk1_] at HM1
  have HK1 : Hid _ := hk1_
  clear hk1_
  go_wp2_with fail
  refine Calls.mono (HM1.out) ?_
  rintro e w16 ⟨rfl, ox16, b16⟩
  clear x1_128
  clear ox16
  have vL_133 := vL_124.turn b16 (by omega)
  have u_134 := u_125.same (b16.same (by omega) (by omega))
  have vU_135 := vU_126.turn b16 (by omega)
  have g_136 := g_129.same (b16.same (by omega) (by omega))
  have vG_137 := vG_130.turn b16 (by omega)
  have B_138 := b16.toBelow B_131 B_131.size (by omega)
  have s_139 := b16.size
  clear vL_124 u_125 vU_126 g_129 vG_130 B_131 b16
  have hq0 : decide (((1 : Nat) : Int) + (lenD d0 : Int) + (d1.length : Int) < 0) = false := by simp; omega
  have c_140 := vG_137.c0
  have c_141 := vG_137.c1
  have c_142 := vU_135.c0
  have c_143 := vU_135.c1
  go_wp2_with fail
  refine Calls.mono (eqDisk_any _ _ Z Z w8.heap.size w9.heap.size w3.heap.size w4.heap.size w16 g_136.rd u_134 (by omega) (by omega) HZ.out HZ.out) ?_
  rintro e w17 ⟨rfl, b17⟩
  clear c_140 c_141 c_142 c_143
  rw [beq_self_eq_true]
  have vL_144 := vL_133.step b17
  have u_145 := u_134.step (by omega) b17
  have vU_146 := vU_135.step b17
  have g_147 := g_136.step (by omega) b17
  have vG_148 := vG_137.step b17
  have B_149 := B_138.trans (b17.mono B_138.size)
  have s_150 := b17.size
  clear vL_133 u_134 vU_135 g_136 vG_137 B_138 b17
  have c_151 := vG_148.c0
  have c_152 := vG_148.c1
  go_wp2_with fail
  refine Calls.mono (markDiskP_any _ Z w8.heap.size w9.heap.size 1 w17 g_147 (by omega) HZ.out (by omega)) ?_
  rintro e w18 ⟨rfl, og2, b18⟩
  clear c_151 c_152
  clear g_147
  have vL_153 := vL_144.turn b18 (by omega)
  have u_154 := u_145.same (b18.same (by omega) (by omega))
  have vU_155 := vU_146.turn b18 (by omega)
  have vG_156 := vG_148.turn b18 (by omega)
  have B_157 := b18.toBelow B_149 B_149.size (by omega)
  have s_158 := b18.size
  clear vL_144 u_145 vU_146 vG_148 B_149 b18
  have hlZ : (lenD Z : Int) ≤ 4194304 := by have h1 := HZ.out.2.1; have h2 := HZ.out.2.2; unfold lenD; omega
  have hq1 : decide (((1 : Nat) : Int) + (lenD Z : Int) < 0) = false := by simp; omega
  have hq2 : ((((1 : Nat) : Int) + (lenD Z : Int)) != (((1 : Nat) : Int) + (lenD Z : Int))) = false := by simp
  have c_159 := vG_156.c0
  have c_160 := vG_156.c1
  go_wp2_with fail
  refine Calls.mono (heldDisk_any _ Z w8.heap.size w9.heap.size 1 w18 og2.rd (by omega) HZ.out (by omega)) ?_
  rintro e w19 ⟨rfl, b19⟩
  clear c_159 c_160
  have vL_161 := vL_153.step b19
  have u_162 := u_154.step (by omega) b19
  have vU_163 := vU_155.step b19
  have vG_164 := vG_156.step b19
  have g_165 := og2.step (by omega) b19
  have B_166 := B_157.trans (b19.mono B_157.size)
  have s_167 := b19.size
  clear vL_153 u_154 vU_155 vG_156 og2 B_157 b19
  have c_168 := vL_161.c0
  have c_169 := vL_161.c1
  go_wp2_with fail
  refine Calls.mono (toDisk_any _ d0 0 w.heap.size w19 (HR.out _ B_166) (by omega) HSM.out) ?_
  rintro e w20 ⟨tH, rfl, otH, b20⟩
  clear c_168 c_169
  have vL_170 := vL_161.step b20
  have u_171 := u_162.step (by omega) b20
  have vU_172 := vU_163.step b20
  have vG_173 := vG_164.step b20
  have g_174 := g_165.step (by omega) b20
  have B_175 := B_166.trans (b20.mono B_166.size)
  have s_176 := b20.size
  clear vL_161 u_162 vU_163 vG_164 g_165 B_166 b20
  go_wp2_with fail
  refine Calls.mono (toBoolS_any _ d1 0 w.heap.size w20 (HR1.out _ B_175) (by omega) hdl1) ?_
  rintro e w21 ⟨y1H, rfl, oy1H, b21⟩
  have vL_177 := vL_170.step b21
  have u_178 := u_171.step (by omega) b21
  have vU_179 := vU_172.step b21
  have vG_180 := vG_173.step b21
  have g_181 := g_174.step (by omega) b21
  have tH_182 := otH.step (by omega) b21
  have B_183 := B_175.trans (b21.mono B_175.size)
  have s_184 := b21.size
  clear vL_170 u_171 vU_172 vG_173 g_174 otH B_175 b21
  go_wp2_with fail
  refine Calls.mono (HI.out w21 _ w19.heap.size w20.heap.size _ w20.heap.size w21.heap.size tH_182.rd (by omega) oy1H.rd (by omega) (HG.out _ B_183)) ?_
  rintro e w22 ⟨h, rfl, oh, b22⟩
  have vL_185 := vL_177.step b22
  have u_186 := u_178.step (by omega) b22
  have vU_187 := vU_179.step b22
  have vG_188 := vG_180.step b22
  have g_189 := g_181.step (by omega) b22
  have tH_190 := tH_182.step (by omega) b22
  have y1H_191 := oy1H.same (SameIn.ofBelow b22 (by omega))
  have B_192 := B_183.trans (b22.mono B_183.size)
  have s_193 := b22.size
  clear vL_177 u_178 vU_179 vG_180 g_181 tH_182 oy1H B_183 b22
  obtain ⟨ha, hn, hc, hp, hq, hr, rfl⟩ := oh.rd.open
  clear tH_190 y1H_191
  have b_194 := Below.new (w := w22) (.cells #[.slice ha hn hc, .slice hp hq hr] 26)
  have vH_195 := VarD.new w22 (.slice ha hn hc) (.slice hp hq hr)
  have vL_196 := vL_185.step b_194
  have u_197 := u_186.step (by omega) b_194
  have vU_198 := vU_187.step b_194
  have vG_199 := vG_188.step b_194
  have g_200 := g_189.step (by omega) b_194
  have h_201 := oh.step (by omega) b_194
  have B_202 := B_192.trans (b_194.mono B_192.size)
  generalize hw_203 : w22.alloc (.cells #[.slice ha hn hc, .slice hp hq hr] 26) = w23 at vL_196 u_197 vU_198 vG_199 g_200 h_201 vH_195 B_202
  have HW_204 : Hid _ := hw_203
  have s_205 := vH_195.lt
  clear hw_203 vL_185 u_186 vU_187 vG_188 g_189 oh B_192 b_194
  have c_206 := vH_195.c0
  have c_207 := vH_195.c1
  have c_208 := vU_198.c0
  have c_209 := vU_198.c1
  go_wp2_with (rw [HW_204.out])
  refine Calls.mono (eqDisk_any _ _ Z Z w21.heap.size w22.heap.size w3.heap.size w4.heap.size w23 h_201.rd u_197 (by omega) (by omega) HZ.out HZ.out) ?_
  rintro e w24 ⟨rfl, b24⟩
  clear c_206 c_207 c_208 c_209
  rw [beq_self_eq_true]
  have vL_210 := vL_196.step b24
  have u_211 := u_197.step (by omega) b24
  have vU_212 := vU_198.step b24
  have vG_213 := vG_199.step b24
  have g_214 := g_200.step (by omega) b24
  have h_215 := h_201.step (by omega) b24
  have vH_216 := vH_195.step b24
  have B_217 := B_202.trans (b24.mono B_202.size)
  have s_218 := b24.size
  clear vL_196 u_197 vU_198 vG_199 g_200 h_201 vH_195 B_202 b24
  clear HW_204
  clear h_215 vH_216
  have c_219 := vG_213.c0
  have c_220 := vG_213.c1
  go_wp2_with fail
  refine Calls.mono (heldDisk_any _ Z w8.heap.size w9.heap.size 1 w24 g_214.rd (by omega) HZ.out (by omega)) ?_
  rintro e w25 ⟨rfl, b25⟩
  clear c_219 c_220
  have vL_221 := vL_210.step b25
  have u_222 := u_211.step (by omega) b25
  have vU_223 := vU_212.step b25
  have vG_224 := vG_213.step b25
  have g_225 := g_214.step (by omega) b25
  have B_226 := B_217.trans (b25.mono B_217.size)
  have s_227 := b25.size
  clear vL_210 u_211 vU_212 vG_213 g_214 B_217 b25
  go_wp2
  go_ret
  exact ⟨rfl, B_226⟩
end Go.Proofs.YtdpigkcdfjnpdaaDoor.fnExactCrash
