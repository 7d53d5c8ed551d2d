/- The walk of the law FnExactFlush; no condition on its arguments. -/
import Derived.Test.YtdpigkcdfjnpdaaDoorFlushes
namespace Go.Proofs.YtdpigkcdfjnpdaaDoor.fnExactFlush
open Go.RowKit
set_option linter.unusedVariables false

set_option maxHeartbeats 4000000 in
theorem walk (v0 : Value) (d0 : Dk) (w : World) (e0 : RdD w 0 w.heap.size v0 d0) (a : Addr) (hg : Glob w a) :
    Calls Tryd.prog 8 #[v0] w fun e w' => e = .returned (.bool true) ∧ Below w.heap.size w w' := by
  obtain ⟨xa, xn, xc, ya, yn, yc, rfl⟩ := e0.open
  have HR : Hid (∀ W, Below w.heap.size w W → RdD W 0 w.heap.size (.agg #[.slice xa xn xc, .slice ya yn yc]) d0) := fun W hW => e0.step (Nat.le_refl _) hW
  have hlt := hg.lt
  have HG : Hid (∀ W, Below w.heap.size w W → Glob W a) := fun W hW => hg.step hW hlt
  clear e0 hg
  have vL := VarL.new w (.slice xa xn xc) (.slice ya yn yc)
  have B0 := Below.new (w := w) (.cells #[.slice xa xn xc, .slice ya yn yc] 46)
  generalize hw0 : w.alloc (.cells #[.slice xa xn xc, .slice ya yn yc] 46) = w0 at vL B0
  have HW0 : Hid _ := hw0
  have s0 := vL.lt
  clear hw0
  go_enter Tryd.func8, Tryd.ntmps8
  go_wp2_with fail
  rw [HW0.out]
  refine Calls.mono (szDisk_any _ d0 0 w.heap.size w0 (HR.out _ B0) (Nat.le_of_lt s0)) ?_
  rintro e w1 ⟨rfl, b1⟩
  have vL_1 := vL.step b1
  have B_2 := B0.trans (b1.mono B0.size)
  have s_3 := b1.size
  clear vL B0 b1
  by_cases hneg : left (sizeD d0) 1048576 < 0
  case pos =>
    have hd : decide (left (sizeD d0) 1048576 < 0) = true := by simpa using hneg
    generalize left (sizeD d0) 1048576 = q at hd
    go_wp2
    go_ret
    exact ⟨rfl, B_2⟩
  have hd : decide (left (sizeD d0) 1048576 < 0) = false := by simpa using hneg
  have HSM : Hid _ := sizeD_small hneg
  generalize left (sizeD d0) 1048576 = q at hd
  clear hneg
  have HI0 := fun (W : World) (u0 : Value) (l0 h0 : Nat) (r0 : RdD W l0 h0 u0 d0) (g0 : h0 ≤ W.heap.size) (hG : Glob W a) => implFlush_all u0 d0 l0 h0 W r0 g0 a hG
  have HS0 := fun (W : World) (u0 : Value) (l0 h0 : Nat) (r0 : RdD W l0 h0 u0 d0) (g0 : h0 ≤ W.heap.size) => specFlush_all u0 d0 l0 h0 W r0 g0 HSM.out
  have HLN := (flushD_small HSM.out)
  generalize flushD d0 = Z at HI0 HS0 HLN
  have HI : Hid _ := HI0
  have HS : Hid _ := HS0
  have HZ : Hid _ := HLN
  clear HI0 HS0 HLN
  have c_4 := vL_1.c0
  have c_5 := vL_1.c1
  go_wp2_with fail
  refine Calls.mono (toDisk_any _ d0 0 w.heap.size w1 (HR.out _ B_2) (by omega) HSM.out) ?_
  rintro e w2 ⟨tA, rfl, otA, b2⟩
  clear c_4 c_5
  have vL_6 := vL_1.step b2
  have B_7 := B_2.trans (b2.mono B_2.size)
  have s_8 := b2.size
  clear vL_1 B_2 b2
  go_wp2_with fail
  refine Calls.mono (HS.out w2 _ w1.heap.size w2.heap.size otA.rd (by omega)) ?_
  rintro e w3 ⟨u, rfl, ou, b3⟩
  have vL_9 := vL_6.step b3
  have tA_10 := otA.step (by omega) b3
  have B_11 := B_7.trans (b3.mono B_7.size)
  have s_12 := b3.size
  clear vL_6 otA B_7 b3
  obtain ⟨ua, un, uc, up, uq, ur, rfl⟩ := ou.open
  clear tA_10
  have b_13 := Below.new (w := w3) (.cells #[.slice ua un uc, .slice up uq ur] 26)
  have vU_14 := VarD.new w3 (.slice ua un uc) (.slice up uq ur)
  have vL_15 := vL_9.step b_13
  have u_16 := ou.step (by omega) b_13
  have B_17 := B_11.trans (b_13.mono B_11.size)
  generalize hw_18 : w3.alloc (.cells #[.slice ua un uc, .slice up uq ur] 26) = w4 at vL_15 u_16 vU_14 B_17
  have HW_19 : Hid _ := hw_18
  have s_20 := vU_14.lt
  clear hw_18 vL_9 ou B_11 b_13
  have c_21 := vL_15.c0
  have c_22 := vL_15.c1
  go_wp2_with (rw [HW_19.out])
  refine Calls.mono (toDisk_any _ d0 0 w.heap.size w4 (HR.out _ B_17) (by omega) HSM.out) ?_
  rintro e w5 ⟨x, rfl, ox, b5⟩
  clear c_21 c_22
  have vL_23 := vL_15.step b5
  have u_24 := u_16.step (by omega) b5
  have vU_25 := vU_14.step b5
  have B_26 := B_17.trans (b5.mono B_17.size)
  have s_27 := b5.size
  clear vL_15 u_16 vU_14 B_17 b5
  obtain ⟨Xa, Xn, Xc, Xp, Xq, Xr, rfl⟩ := ox.rd.open
  clear HW_19
  have b_28 := Below.new (w := w5) (.cells #[.slice Xa Xn Xc, .slice Xp Xq Xr] 26)
  have vX_29 := VarD.new w5 (.slice Xa Xn Xc) (.slice Xp Xq Xr)
  have vL_30 := vL_23.step b_28
  have u_31 := u_24.step (by omega) b_28
  have vU_32 := vU_25.step b_28
  have x_33 := ox.step (by omega) b_28
  have B_34 := B_26.trans (b_28.mono B_26.size)
  generalize hw_35 : w5.alloc (.cells #[.slice Xa Xn Xc, .slice Xp Xq Xr] 26) = w6 at vL_30 u_31 vU_32 x_33 vX_29 B_34
  have HW_36 : Hid _ := hw_35
  have s_37 := vX_29.lt
  clear hw_35 vL_23 u_24 vU_25 ox B_26 b_28
  have c_38 := vX_29.c0
  have c_39 := vX_29.c1
  go_wp2_with (rw [HW_36.out])
  refine Calls.mono (HI.out w6 _ w4.heap.size w5.heap.size x_33.rd (by omega) (HG.out _ B_34)) ?_
  rintro e w7 ⟨g, rfl, og, b7⟩
  clear c_38 c_39
  clear HW_36
  have vL_40 := vL_30.step b7
  have u_41 := u_31.step (by omega) b7
  have vU_42 := vU_32.step b7
  have x_43 := x_33.step (by omega) b7
  have vX_44 := vX_29.step b7
  have B_45 := B_34.trans (b7.mono B_34.size)
  have s_46 := b7.size
  clear vL_30 u_31 vU_32 x_33 vX_29 B_34 b7
  obtain ⟨ga, gn, gc, gp, gq, gr, rfl⟩ := og.rd.open
  have b_47 := Below.new (w := w7) (.cells #[.slice ga gn gc, .slice gp gq gr] 26)
  have vG_48 := VarD.new w7 (.slice ga gn gc) (.slice gp gq gr)
  have vL_49 := vL_40.step b_47
  have u_50 := u_41.step (by omega) b_47
  have vU_51 := vU_42.step b_47
  have x_52 := x_43.step (by omega) b_47
  have vX_53 := vX_44.step b_47
  have g_54 := og.step (by omega) b_47
  have B_55 := B_45.trans (b_47.mono B_45.size)
  generalize hw_56 : w7.alloc (.cells #[.slice ga gn gc, .slice gp gq gr] 26) = w8 at vL_49 u_50 vU_51 x_52 vX_53 g_54 vG_48 B_55
  have HW_57 : Hid _ := hw_56
  have s_58 := vG_48.lt
  clear hw_56 vL_40 u_41 vU_42 x_43 vX_44 og B_45 b_47
  have c_59 := vG_48.c0
  have c_60 := vG_48.c1
  have c_61 := vU_51.c0
  have c_62 := vU_51.c1
  go_wp2_with (rw [HW_57.out])
  refine Calls.mono (eqDisk_any _ _ Z Z w6.heap.size w7.heap.size w2.heap.size w3.heap.size w8 g_54.rd u_50 (by omega) (by omega) HZ.out HZ.out) ?_
  rintro e w9 ⟨rfl, b9⟩
  clear c_59 c_60 c_61 c_62
  rw [beq_self_eq_true]
  have vL_63 := vL_49.step b9
  have u_64 := u_50.step (by omega) b9
  have vU_65 := vU_51.step b9
  have x_66 := x_52.step (by omega) b9
  have vX_67 := vX_53.step b9
  have g_68 := g_54.step (by omega) b9
  have vG_69 := vG_48.step b9
  have B_70 := B_55.trans (b9.mono B_55.size)
  have s_71 := b9.size
  clear vL_49 u_50 vU_51 x_52 vX_53 g_54 vG_48 B_55 b9
  clear HW_57
  have c_72 := vX_67.c0
  have c_73 := vX_67.c1
  have c_74 := vL_63.c0
  have c_75 := vL_63.c1
  go_wp2
  have hxl_ := vX_67.lt
  have hll_ := vL_63.lt
  go_region_held3 (fun w' => w'.cell? ⟨w5.heap.size, 0, none⟩ = some (.slice Xa Xn Xc) ∧ w'.cell? ⟨w5.heap.size, 1, none⟩ = some (.slice Xp Xq Xr) ∧ w'.cell? ⟨w.heap.size, 0, none⟩ = some (.slice xa xn xc) ∧ w'.cell? ⟨w.heap.size, 1, none⟩ = some (.slice ya yn yc)) (first | go_keep | (refine ⟨?_, ?_, ?_, ?_⟩ <;> assumption)) (first
    | (go_at_call 22; refine Calls.mono (toDisk_any _ d0 0 w.heap.size w9.drew (HR.out _ B_70.drew) (by simp; omega) HSM.out) ?_; rintro e wy ⟨y, rfl, oY, bY⟩; have bY' : Below w9.heap.size w9 wy := (Below.drew (Below.refl _ _)).trans bY; have k1 := (vX_67.step bY').c0; have k2 := (vX_67.step bY').c1; have k3 := (vL_63.step bY').c0; have k4 := (vL_63.step bY').c1)
    | (go_at_call 23; refine Calls.mono (eqDisk_any _ _ d0 d0 w4.heap.size w5.heap.size w9.heap.size wy.heap.size wy (x_66.step (by omega) bY').rd oY.rd (by have := bY'.size; omega) (Nat.le_refl _) HSM.out HSM.out) ?_; rintro e w10 ⟨rfl, bE⟩; rw [beq_self_eq_true]; have b10 : Below w9.heap.size w9 w10 := bY'.trans (bE.mono bY'.size); have j1 := (vX_67.step b10).c0; have j2 := (vX_67.step b10).c1; have j3 := (vL_63.step b10).c0; have j4 := (vL_63.step b10).c1))
  clear k1 k2 k3 k4 j1 j2 j3 j4 bE bY bY' oY hxl_ hll_
  clear c_72 c_73 c_74 c_75
  have hHeld : True := trivial
  have vL_76 := vL_63.step b10
  have u_77 := u_64.step (by omega) b10
  have vU_78 := vU_65.step b10
  have x_79 := x_66.step (by omega) b10
  have vX_80 := vX_67.step b10
  have g_81 := g_68.step (by omega) b10
  have vG_82 := vG_69.step b10
  have B_83 := B_70.trans (b10.mono B_70.size)
  have s_84 := b10.size
  clear vL_63 u_64 vU_65 x_66 vX_67 g_68 vG_69 B_70 b10
  have c_85 := vX_80.c0
  have c_86 := vX_80.c1
  go_wp2_with fail
  refine Calls.mono (markDisk_any _ d0 w4.heap.size w5.heap.size 1 w10 x_79 (by omega) HSM.out (by omega)) ?_
  rintro e w11 ⟨rfl, ox11, b11⟩
  clear c_85 c_86
  clear x_79
  clear ox11
  have vL_87 := vL_76.turn b11 (by omega)
  have u_88 := u_77.same (b11.same (by omega) (by omega))
  have vU_89 := vU_78.turn b11 (by omega)
  have vX_90 := vX_80.turn b11 (by omega)
  have g_91 := g_81.same (b11.same (by omega) (by omega))
  have vG_92 := vG_82.turn b11 (by omega)
  have B_93 := b11.toBelow B_83 B_83.size (by omega)
  have s_94 := b11.size
  clear vL_76 u_77 vU_78 vX_80 g_81 vG_82 B_83 b11
  clear vX_90
  have hlD : (lenD d0 : Int) ≤ 4194304 := by have h1 := HSM.out.2.1; have h2 := HSM.out.2.2; unfold lenD; omega
  have hq0 : decide (((1 : Nat) : Int) + (lenD d0 : Int) < 0) = false := by simp; omega
  have c_95 := vG_92.c0
  have c_96 := vG_92.c1
  have c_97 := vU_89.c0
  have c_98 := vU_89.c1
  go_wp2_with fail
  refine Calls.mono (eqDisk_any _ _ Z Z w6.heap.size w7.heap.size w2.heap.size w3.heap.size w11 g_91.rd u_88 (by omega) (by omega) HZ.out HZ.out) ?_
  rintro e w12 ⟨rfl, b12⟩
  clear c_95 c_96 c_97 c_98
  rw [beq_self_eq_true]
  have vL_99 := vL_87.step b12
  have u_100 := u_88.step (by omega) b12
  have vU_101 := vU_89.step b12
  have g_102 := g_91.step (by omega) b12
  have vG_103 := vG_92.step b12
  have B_104 := B_93.trans (b12.mono B_93.size)
  have s_105 := b12.size
  clear vL_87 u_88 vU_89 g_91 vG_92 B_93 b12
  have c_106 := vG_103.c0
  have c_107 := vG_103.c1
  go_wp2_with fail
  refine Calls.mono (markDiskP_any _ Z w6.heap.size w7.heap.size 1 w12 g_102 (by omega) HZ.out (by omega)) ?_
  rintro e w13 ⟨rfl, og2, b13⟩
  clear c_106 c_107
  clear g_102
  have vL_108 := vL_99.turn b13 (by omega)
  have u_109 := u_100.same (b13.same (by omega) (by omega))
  have vU_110 := vU_101.turn b13 (by omega)
  have vG_111 := vG_103.turn b13 (by omega)
  have B_112 := b13.toBelow B_104 B_104.size (by omega)
  have s_113 := b13.size
  clear vL_99 u_100 vU_101 vG_103 B_104 b13
  have hlZ : (lenD Z : Int) ≤ 4194304 := by have h1 := HZ.out.2.1; have h2 := HZ.out.2.2; unfold lenD; omega
  have hq1 : decide (((1 : Nat) : Int) + (lenD Z : Int) < 0) = false := by simp; omega
  have hq2 : ((((1 : Nat) : Int) + (lenD Z : Int)) != (((1 : Nat) : Int) + (lenD Z : Int))) = false := by simp
  have c_114 := vG_111.c0
  have c_115 := vG_111.c1
  go_wp2_with fail
  refine Calls.mono (heldDisk_any _ Z w6.heap.size w7.heap.size 1 w13 og2.rd (by omega) HZ.out (by omega)) ?_
  rintro e w14 ⟨rfl, b14⟩
  clear c_114 c_115
  have vL_116 := vL_108.step b14
  have u_117 := u_109.step (by omega) b14
  have vU_118 := vU_110.step b14
  have vG_119 := vG_111.step b14
  have g_120 := og2.step (by omega) b14
  have B_121 := B_112.trans (b14.mono B_112.size)
  have s_122 := b14.size
  clear vL_108 u_109 vU_110 vG_111 og2 B_112 b14
  have c_123 := vL_116.c0
  have c_124 := vL_116.c1
  go_wp2_with fail
  refine Calls.mono (toDisk_any _ d0 0 w.heap.size w14 (HR.out _ B_121) (by omega) HSM.out) ?_
  rintro e w15 ⟨tH, rfl, otH, b15⟩
  clear c_123 c_124
  have vL_125 := vL_116.step b15
  have u_126 := u_117.step (by omega) b15
  have vU_127 := vU_118.step b15
  have vG_128 := vG_119.step b15
  have g_129 := g_120.step (by omega) b15
  have B_130 := B_121.trans (b15.mono B_121.size)
  have s_131 := b15.size
  clear vL_116 u_117 vU_118 vG_119 g_120 B_121 b15
  go_wp2_with fail
  refine Calls.mono (HI.out w15 _ w14.heap.size w15.heap.size otH.rd (by omega) (HG.out _ B_130)) ?_
  rintro e w16 ⟨h, rfl, oh, b16⟩
  have vL_132 := vL_125.step b16
  have u_133 := u_126.step (by omega) b16
  have vU_134 := vU_127.step b16
  have vG_135 := vG_128.step b16
  have g_136 := g_129.step (by omega) b16
  have tH_137 := otH.step (by omega) b16
  have B_138 := B_130.trans (b16.mono B_130.size)
  have s_139 := b16.size
  clear vL_125 u_126 vU_127 vG_128 g_129 otH B_130 b16
  obtain ⟨ha, hn, hc, hp, hq, hr, rfl⟩ := oh.rd.open
  clear tH_137
  have b_140 := Below.new (w := w16) (.cells #[.slice ha hn hc, .slice hp hq hr] 26)
  have vH_141 := VarD.new w16 (.slice ha hn hc) (.slice hp hq hr)
  have vL_142 := vL_132.step b_140
  have u_143 := u_133.step (by omega) b_140
  have vU_144 := vU_134.step b_140
  have vG_145 := vG_135.step b_140
  have g_146 := g_136.step (by omega) b_140
  have h_147 := oh.step (by omega) b_140
  have B_148 := B_138.trans (b_140.mono B_138.size)
  generalize hw_149 : w16.alloc (.cells #[.slice ha hn hc, .slice hp hq hr] 26) = w17 at vL_142 u_143 vU_144 vG_145 g_146 h_147 vH_141 B_148
  have HW_150 : Hid _ := hw_149
  have s_151 := vH_141.lt
  clear hw_149 vL_132 u_133 vU_134 vG_135 g_136 oh B_138 b_140
  have c_152 := vH_141.c0
  have c_153 := vH_141.c1
  have c_154 := vU_144.c0
  have c_155 := vU_144.c1
  go_wp2_with (rw [HW_150.out])
  refine Calls.mono (eqDisk_any _ _ Z Z w15.heap.size w16.heap.size w2.heap.size w3.heap.size w17 h_147.rd u_143 (by omega) (by omega) HZ.out HZ.out) ?_
  rintro e w18 ⟨rfl, b18⟩
  clear c_152 c_153 c_154 c_155
  rw [beq_self_eq_true]
  have vL_156 := vL_142.step b18
  have u_157 := u_143.step (by omega) b18
  have vU_158 := vU_144.step b18
  have vG_159 := vG_145.step b18
  have g_160 := g_146.step (by omega) b18
  have h_161 := h_147.step (by omega) b18
  have vH_162 := vH_141.step b18
  have B_163 := B_148.trans (b18.mono B_148.size)
  have s_164 := b18.size
  clear vL_142 u_143 vU_144 vG_145 g_146 h_147 vH_141 B_148 b18
  clear HW_150
  clear h_161 vH_162
  have c_165 := vG_159.c0
  have c_166 := vG_159.c1
  go_wp2_with fail
  refine Calls.mono (heldDisk_any _ Z w6.heap.size w7.heap.size 1 w18 g_160.rd (by omega) HZ.out (by omega)) ?_
  rintro e w19 ⟨rfl, b19⟩
  clear c_165 c_166
  have vL_167 := vL_156.step b19
  have u_168 := u_157.step (by omega) b19
  have vU_169 := vU_158.step b19
  have vG_170 := vG_159.step b19
  have g_171 := g_160.step (by omega) b19
  have B_172 := B_163.trans (b19.mono B_163.size)
  have s_173 := b19.size
  clear vL_156 u_157 vU_158 vG_159 g_160 B_163 b19
  go_wp2
  go_ret
  exact ⟨rfl, B_172⟩
end Go.Proofs.YtdpigkcdfjnpdaaDoor.fnExactFlush
