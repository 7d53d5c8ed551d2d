/- The walk of the law FnExactReadSector; no condition on its arguments. -/
import Derived.Test.YtdpigkcdfjnpdaaDoorReads2
namespace Go.Proofs.YtdpigkcdfjnpdaaDoor.fnExactReadSector
open Go.RowKit
set_option linter.unusedVariables false

set_option maxHeartbeats 4000000 in
theorem walk (v0 : Value) (d0 : Dk) (a1 : Int) (w : World) (e0 : RdD w 0 w.heap.size v0 d0) (w1_ : (Lit.int .i64 a1).wf = true) (a : Addr) (hg : Glob w a) :
    Calls Tryd.prog 6 #[v0, .int .i64 a1] w fun e w' => e = .returned (.bool true) ∧ Below w.heap.size w w' := by
  obtain ⟨xa, xn, xc, ya, yn, yc, rfl⟩ := e0.open
  have HR : Hid (∀ W, Below w.heap.size w W → RdD W 0 w.heap.size (.agg #[.slice xa xn xc, .slice ya yn yc]) d0) := fun W hW => e0.step (Nat.le_refl _) hW
  have hlt := hg.lt
  have HG : Hid (∀ W, Below w.heap.size w W → Glob W a) := fun W hW => hg.step hW hlt
  clear e0 hg
  have vL := VarL.new w (.slice xa xn xc) (.slice ya yn yc)
  have B0 := Below.new (w := w) (.cells #[.slice xa xn xc, .slice ya yn yc] 46)
  generalize hw0 : w.alloc (.cells #[.slice xa xn xc, .slice ya yn yc] 46) = w0 at vL B0
  have HW0 : Hid _ := hw0
  have s0 := vL.lt
  clear hw0
  go_enter Tryd.func6, Tryd.ntmps6
  go_wp2_with fail
  rw [HW0.out]
  refine Calls.mono (szDisk_any _ d0 0 w.heap.size w0 (HR.out _ B0) (Nat.le_of_lt s0)) ?_
  rintro e w1 ⟨rfl, b1⟩
  have vL_1 := vL.step b1
  have B_2 := B0.trans (b1.mono B0.size)
  have s_3 := b1.size
  clear vL B0 b1
  by_cases hneg : left (sizeD d0) 1048576 < 0
  case pos =>
    have hd : decide (left (sizeD d0) 1048576 < 0) = true := by simpa using hneg
    generalize left (sizeD d0) 1048576 = q at hd
    go_wp2
    go_ret
    exact ⟨rfl, B_2⟩
  have hd : decide (left (sizeD d0) 1048576 < 0) = false := by simpa using hneg
  have HSM : Hid _ := sizeD_small hneg
  generalize left (sizeD d0) 1048576 = q at hd
  clear hneg
  have HI0 := fun (W : World) (u0 : Value) (l0 h0 : Nat) (r0 : RdD W l0 h0 u0 d0) (g0 : h0 ≤ W.heap.size) (hG : Glob W a) => implReadSector_all u0 d0 l0 h0 a1 W r0 g0 a hG
  have HS0 := fun (W : World) (u0 : Value) (l0 h0 : Nat) (r0 : RdD W l0 h0 u0 d0) (g0 : h0 ≤ W.heap.size) => specReadSector_all u0 d0 l0 h0 a1 W r0 g0
  have HLN := (readD_small d0 a1)
  generalize readD d0 a1 = Z at HI0 HS0 HLN
  generalize readOk d0 a1 = k at HI0 HS0
  have hkk : (k != k) = false := by simp
  have HI : Hid _ := HI0
  have HS : Hid _ := HS0
  have HZ : Hid _ := HLN
  clear HI0 HS0 HLN
  have c_4 := vL_1.c0
  have c_5 := vL_1.c1
  go_wp2_with fail
  refine Calls.mono (toDisk_any _ d0 0 w.heap.size w1 (HR.out _ B_2) (by omega) HSM.out) ?_
  rintro e w2 ⟨tA, rfl, otA, b2⟩
  clear c_4 c_5
  have vL_6 := vL_1.step b2
  have B_7 := B_2.trans (b2.mono B_2.size)
  have s_8 := b2.size
  clear vL_1 B_2 b2
  go_wp2_with fail
  refine Calls.mono (HS.out w2 _ w1.heap.size w2.heap.size otA.rd (by omega)) ?_
  rintro e w3 ⟨u, rfl, ou, b3⟩
  have vL_9 := vL_6.step b3
  have tA_10 := otA.step (by omega) b3
  have B_11 := B_7.trans (b3.mono B_7.size)
  have s_12 := b3.size
  clear vL_6 otA B_7 b3
  obtain ⟨ua, un, uc, rfl⟩ := ou.rd.sliced
  clear tA_10
  have c_13 := vL_9.c0
  have c_14 := vL_9.c1
  go_wp2_with fail
  refine Calls.mono (toDisk_any _ d0 0 w.heap.size w3 (HR.out _ B_11) (by omega) HSM.out) ?_
  rintro e w4 ⟨x, rfl, ox, b4⟩
  clear c_13 c_14
  have vL_15 := vL_9.step b4
  have u_16 := ou.same (SameIn.ofBelow b4 (by omega))
  have B_17 := B_11.trans (b4.mono B_11.size)
  have s_18 := b4.size
  clear vL_9 ou B_11 b4
  obtain ⟨Xa, Xn, Xc, Xp, Xq, Xr, rfl⟩ := ox.rd.open
  have b_19 := Below.new (w := w4) (.cells #[.slice Xa Xn Xc, .slice Xp Xq Xr] 26)
  have vX_20 := VarD.new w4 (.slice Xa Xn Xc) (.slice Xp Xq Xr)
  have vL_21 := vL_15.step b_19
  have u_22 := u_16.same (SameIn.ofBelow b_19 (by omega))
  have x_23 := ox.step (by omega) b_19
  have B_24 := B_17.trans (b_19.mono B_17.size)
  generalize hw_25 : w4.alloc (.cells #[.slice Xa Xn Xc, .slice Xp Xq Xr] 26) = w5 at vL_21 u_22 x_23 vX_20 B_24
  have HW_26 : Hid _ := hw_25
  have s_27 := vX_20.lt
  clear hw_25 vL_15 u_16 ox B_17 b_19
  have c_28 := vX_20.c0
  have c_29 := vX_20.c1
  go_wp2_with (rw [HW_26.out])
  refine Calls.mono (HI.out w5 _ w3.heap.size w4.heap.size x_23.rd (by omega) (HG.out _ B_24)) ?_
  rintro e w6 ⟨g, rfl, og, b6⟩
  clear c_28 c_29
  clear HW_26
  have vL_30 := vL_21.step b6
  have u_31 := u_22.same (SameIn.ofBelow b6 (by omega))
  have x_32 := x_23.step (by omega) b6
  have vX_33 := vX_20.step b6
  have B_34 := B_24.trans (b6.mono B_24.size)
  have s_35 := b6.size
  clear vL_21 u_22 x_23 vX_20 B_24 b6
  obtain ⟨ga, gn, gc, rfl⟩ := og.rd.sliced
  go_wp2_with fail
  refine Calls.mono (eqB_same _ _ Z w5.heap.size w6.heap.size w2.heap.size w3.heap.size w6 og.rd u_31.rd HZ.out) ?_
  rintro e w7 ⟨rfl, b7⟩
  have vL_36 := vL_30.step b7
  have u_37 := u_31.same (SameIn.ofBelow b7 (by omega))
  have x_38 := x_32.step (by omega) b7
  have vX_39 := vX_33.step b7
  have g_40 := og.same (SameIn.ofBelow b7 (by omega))
  have B_41 := B_34.trans (b7.mono B_34.size)
  have s_42 := b7.size
  clear vL_30 u_31 x_32 vX_33 og B_34 b7
  have c_43 := vX_39.c0
  have c_44 := vX_39.c1
  have c_45 := vL_36.c0
  have c_46 := vL_36.c1
  go_wp2
  have hxl_ := vX_39.lt
  have hll_ := vL_36.lt
  go_region_held3 (fun w' => w'.cell? ⟨w4.heap.size, 0, none⟩ = some (.slice Xa Xn Xc) ∧ w'.cell? ⟨w4.heap.size, 1, none⟩ = some (.slice Xp Xq Xr) ∧ w'.cell? ⟨w.heap.size, 0, none⟩ = some (.slice xa xn xc) ∧ w'.cell? ⟨w.heap.size, 1, none⟩ = some (.slice ya yn yc)) (first | go_keep | (refine ⟨?_, ?_, ?_, ?_⟩ <;> assumption)) (first
    | (go_at_call 22; refine Calls.mono (toDisk_any _ d0 0 w.heap.size w7.drew (HR.out _ B_41.drew) (by simp; omega) HSM.out) ?_; rintro e wy ⟨y, rfl, oY, bY⟩; have bY' : Below w7.heap.size w7 wy := (Below.drew (Below.refl _ _)).trans bY; have k1 := (vX_39.step bY').c0; have k2 := (vX_39.step bY').c1; have k3 := (vL_36.step bY').c0; have k4 := (vL_36.step bY').c1)
    | (go_at_call 23; refine Calls.mono (eqDisk_any _ _ d0 d0 w3.heap.size w4.heap.size w7.heap.size wy.heap.size wy (x_38.step (by omega) bY').rd oY.rd (by have := bY'.size; omega) (Nat.le_refl _) HSM.out HSM.out) ?_; rintro e w8 ⟨rfl, bE⟩; rw [beq_self_eq_true]; have b8 : Below w7.heap.size w7 w8 := bY'.trans (bE.mono bY'.size); have j1 := (vX_39.step b8).c0; have j2 := (vX_39.step b8).c1; have j3 := (vL_36.step b8).c0; have j4 := (vL_36.step b8).c1))
  clear k1 k2 k3 k4 j1 j2 j3 j4 bE bY bY' oY hxl_ hll_
  clear c_43 c_44 c_45 c_46
  have hHeld : True := trivial
  have vL_47 := vL_36.step b8
  have u_48 := u_37.same (SameIn.ofBelow b8 (by omega))
  have x_49 := x_38.step (by omega) b8
  have vX_50 := vX_39.step b8
  have g_51 := g_40.same (SameIn.ofBelow b8 (by omega))
  have B_52 := B_41.trans (b8.mono B_41.size)
  have s_53 := b8.size
  clear vL_36 u_37 x_38 vX_39 g_40 B_41 b8
  have c_54 := vX_50.c0
  have c_55 := vX_50.c1
  go_wp2_with fail
  refine Calls.mono (markDisk_any _ d0 w3.heap.size w4.heap.size 1 w8 x_49 (by omega) HSM.out (by omega)) ?_
  rintro e w9 ⟨rfl, ox9, b9⟩
  clear c_54 c_55
  clear x_49
  clear ox9
  have vL_56 := vL_47.turn b9 (by omega)
  have u_57 := u_48.same (b9.same (by omega) (by omega))
  have vX_58 := vX_50.turn b9 (by omega)
  have g_59 := g_51.same (b9.same (by omega) (by omega))
  have B_60 := b9.toBelow B_52 B_52.size (by omega)
  have s_61 := b9.size
  clear vL_47 u_48 vX_50 g_51 B_52 b9
  clear vX_58
  have hlD : (lenD d0 : Int) ≤ 4194304 := by have h1 := HSM.out.2.1; have h2 := HSM.out.2.2; unfold lenD; omega
  have hq0 : decide (((1 : Nat) : Int) + (lenD d0 : Int) < 0) = false := by simp; omega
  go_wp2_with fail
  refine Calls.mono (eqB_same _ _ Z w5.heap.size w6.heap.size w2.heap.size w3.heap.size w9 g_59.rd u_57.rd HZ.out) ?_
  rintro e w10 ⟨rfl, b10⟩
  have vL_62 := vL_56.step b10
  have u_63 := u_57.same (SameIn.ofBelow b10 (by omega))
  have g_64 := g_59.same (SameIn.ofBelow b10 (by omega))
  have B_65 := B_60.trans (b10.mono B_60.size)
  have s_66 := b10.size
  clear vL_56 u_57 g_59 B_60 b10
  go_wp2_with fail
  refine Calls.mono (markB_any _ Z 1 w5.heap.size w6.heap.size w10 g_64 HZ.out (by omega)) ?_
  rintro e w11 ⟨rfl, og2, b11⟩
  clear g_64
  have vL_67 := vL_62.turn b11 (by omega)
  have u_68 := u_63.same (b11.same (by omega) (by omega))
  have B_69 := b11.toBelow B_65 B_65.size (by omega)
  have s_70 := b11.size
  clear vL_62 u_63 B_65 b11
  have hlZ : (Z.length : Int) ≤ 4194304 := by have h1 := HZ.out; omega
  have hq1 : decide (((1 : Nat) : Int) + (Z.length : Int) < 0) = false := by simp; omega
  have hq2 : ((((1 : Nat) : Int) + (Z.length : Int)) != (((1 : Nat) : Int) + (Z.length : Int))) = false := by simp
  go_wp2_with fail
  refine Calls.mono (heldB_any _ Z.length 1 w5.heap.size w6.heap.size w11 og2.rd HZ.out (by omega)) ?_
  rintro e w12 ⟨rfl, b12⟩
  have vL_71 := vL_67.step b12
  have u_72 := u_68.same (SameIn.ofBelow b12 (by omega))
  have g_73 := og2.same (SameIn.ofBelow b12 (by omega))
  have B_74 := B_69.trans (b12.mono B_69.size)
  have s_75 := b12.size
  clear vL_67 u_68 og2 B_69 b12
  have c_76 := vL_71.c0
  have c_77 := vL_71.c1
  go_wp2_with fail
  refine Calls.mono (toDisk_any _ d0 0 w.heap.size w12 (HR.out _ B_74) (by omega) HSM.out) ?_
  rintro e w13 ⟨tH, rfl, otH, b13⟩
  clear c_76 c_77
  have vL_78 := vL_71.step b13
  have u_79 := u_72.same (SameIn.ofBelow b13 (by omega))
  have g_80 := g_73.same (SameIn.ofBelow b13 (by omega))
  have B_81 := B_74.trans (b13.mono B_74.size)
  have s_82 := b13.size
  clear vL_71 u_72 g_73 B_74 b13
  go_wp2_with fail
  refine Calls.mono (HI.out w13 _ w12.heap.size w13.heap.size otH.rd (by omega) (HG.out _ B_81)) ?_
  rintro e w14 ⟨h, rfl, oh, b14⟩
  have vL_83 := vL_78.step b14
  have u_84 := u_79.same (SameIn.ofBelow b14 (by omega))
  have g_85 := g_80.same (SameIn.ofBelow b14 (by omega))
  have tH_86 := otH.step (by omega) b14
  have B_87 := B_81.trans (b14.mono B_81.size)
  have s_88 := b14.size
  clear vL_78 u_79 g_80 otH B_81 b14
  obtain ⟨ha, hn, hc, rfl⟩ := oh.rd.sliced
  clear tH_86
  go_wp2_with fail
  refine Calls.mono (eqB_same _ _ Z w13.heap.size w14.heap.size w2.heap.size w3.heap.size w14 oh.rd u_84.rd HZ.out) ?_
  rintro e w15 ⟨rfl, b15⟩
  have vL_89 := vL_83.step b15
  have u_90 := u_84.same (SameIn.ofBelow b15 (by omega))
  have g_91 := g_85.same (SameIn.ofBelow b15 (by omega))
  have h_92 := oh.same (SameIn.ofBelow b15 (by omega))
  have B_93 := B_87.trans (b15.mono B_87.size)
  have s_94 := b15.size
  clear vL_83 u_84 g_85 oh B_87 b15
  clear h_92
  go_wp2_with fail
  refine Calls.mono (heldB_any _ Z.length 1 w5.heap.size w6.heap.size w15 g_91.rd HZ.out (by omega)) ?_
  rintro e w16 ⟨rfl, b16⟩
  have vL_95 := vL_89.step b16
  have u_96 := u_90.same (SameIn.ofBelow b16 (by omega))
  have g_97 := g_91.same (SameIn.ofBelow b16 (by omega))
  have B_98 := B_93.trans (b16.mono B_93.size)
  have s_99 := b16.size
  clear vL_89 u_90 g_91 B_93 b16
  go_wp2
  go_ret
  exact ⟨rfl, B_98⟩
end Go.Proofs.YtdpigkcdfjnpdaaDoor.fnExactReadSector
