/- The walk of the law FnExactUnion; no condition. -/
import Derived.Test.YtoaocjkapoemnaaGreatUA04
import Derived.Test.YtoaocjkapoemnaaGreatUShSz
import Derived.Test.YtoaocjkapoemnaaGreatUA01
import Derived.Test.YtoaocjkapoemnaaGreatUA02
import Derived.Test.YtoaocjkapoemnaaGreatUA00b
import Derived.Test.YtoaocjkapoemnaaGreatUMks
import Derived.WalkKit
import Derived.ProofKit
import Derived.Below
namespace Go.Proofs.YtoaocjkapoemnaaGreat.fnExactUnion
open Go.RowKit
set_option linter.unusedVariables false
set_option linter.unusedSimpArgs false
set_option maxRecDepth 100000

theorem un_size {l : List ShD} (h : szShs l ≤ 1048576) : szNds (unD l).1 ≤ 1048576 := by
  unfold unD
  cases hu : unO l with
  | none => simp [szNds]
  | some t =>
    dsimp only
    split
    · unfold unO at hu
      split at hu
      · cases hu
      · have hp := (uSh_some hu).2
        rw [List.nil_append] at hp
        show szNds t ≤ 1048576
        rw [szNds_perm hp]
        exact Nat.le_trans (szAll l) h
    · simp [szNds]
set_option maxHeartbeats 16000000 in
theorem walk (v0 : Value) (l : List ShD) (w : World) (r : RdV w (Old w) v0 (shsDt l)) :
    Calls Tryz.prog 3 #[v0] w fun e w' => e = .returned (.bool true) ∧ Below w.heap.size w w' := by
  obtain ⟨a, cap, rfl, _⟩ := RdV.sliced r
  have HSZ : Hid _ := szShardS_d _ l _ 1048576 w (by omega) r
  by_cases hle : szShs l ≤ 1048576
  · have hlf : leftT (szShs l) 1048576 = ((1048576 - szShs l : Nat) : Int) := by unfold leftT; rw [if_pos hle]; omega
    rw [hlf] at HSZ
    have HTO : Hid (∀ W, Below w.heap.size w W → Calls Tryz.prog 6 #[.slice a l.length cap] W fun e w' => ∃ a n c, e = .returned (.slice a n c) ∧ OwV w' (fun b => W.heap.size ≤ b ∧ b < w'.heap.size) (.slice a n c) (shsDt l) ∧ Below W.heap.size W w') := fun W hW => toShardS_any _ l _ W (r.step hW) (by omega)
    have HSP : Hid (∀ x S W, OwV W S x (shsDt l) → (∀ b, S b → b < W.heap.size) → Calls Tryz.prog 5 #[x] W (UnS l W)) := fun x S W o hS => specUnion_any x l S W o hS (by omega)
    have HIM : Hid (∀ x S W, RdV W S x (shsDt l) → Calls Tryz.prog 7 #[x] W (UnI l W)) := fun x S W o => implUnion_any x l S W o hle
    have HUS : Hid (szNds (unD l).1 ≤ 1048576) := un_size hle
    have HES : Hid (∀ x y S S2 W, RdV W S x (shsDt l) → RdV W S2 y (shsDt l) → Calls Tryz.prog 9 #[x, y] W fun e w' => e = .returned (.bool true) ∧ Below W.heap.size W w') := fun x y S S2 W r1 r2 => eqShardS_same x y l S S2 W r1 r2 (by omega)
    have HMS : Hid (∀ x S W, OwV W S x (shsDt l) → Calls Tryz.prog 10 #[x, .int .i64 ((1 : Nat) : Int)] W (MkP W S x (1 + 14 * szShs l))) := fun x S W o => markShardS_m x l 1 S W o (by omega) (by omega)
    unfold UnS at HSP
    unfold UnI at HIM
    clear r hlf
    generalize hud : unD l = res at *
    obtain ⟨U, ok⟩ := res
    dsimp only at *
    have HET : Hid (∀ x y S S2 W, RdV W S x (ndsDt U) → RdV W S2 y (ndsDt U) → Calls Tryz.prog 8 #[.agg #[x], .agg #[y]] W fun e w' => e = .returned (.bool true) ∧ Below W.heap.size W w') := fun x y S S2 W r1 r2 => eqTree_same x y U S S2 W r1 r2 (by have := HUS.out; omega)
    have HMT : Hid (∀ x S W, OwV W S x (ndsDt U) → (∀ b, S b → b < W.heap.size) → Calls Tryz.prog 11 #[.agg #[x], .int .i64 ((1 : Nat) : Int)] W fun e w' => e = .returned (.int .i64 ((1 + lenNds U : Nat) : Int)) ∧ OwV w' S x (ndsDt (mkNds U 1)) ∧ Turned S W w') := fun x S W o hS => markTree_d x U 1 S W o hS (by have := HUS.out; omega) (by have := lenNds_le U; have := HUS.out; omega)
    have HHT : Hid (∀ x S W, RdV W S x (ndsDt (mkNds U 1)) → Calls Tryz.prog 12 #[.agg #[x], .int .i64 ((1 : Nat) : Int)] W fun e w' => e = .returned (.int .i64 ((1 + lenNds U : Nat) : Int)) ∧ Below W.heap.size W w') := fun x S W o => heldTree_d x U 1 S W o (by have := HUS.out; omega) (by have := lenNds_le U; have := HUS.out; omega)
    obtain ⟨lft, hlft⟩ : ∃ z, 1048576 - szShs l = z := ⟨_, rfl⟩
    rw [hlft] at HSZ
    clear hlft hud hle HUS
    obtain ⟨mm, hmm⟩ : ∃ z, 1 + lenNds U = z := ⟨_, rfl⟩
    rw [hmm] at HMT HHT
    clear hmm
    have hoo : (ok != ok) = false := by simp
    generalize l.length = n0 at *
    go_enter Tryz.func3, Tryz.ntmps3
    go_wp2_with fail
    refine Calls.mono HSZ.out ?_
    rintro e w1 ⟨rfl, b1⟩
    have HB1 := hideU b1
    clear b1
    go_wp2_with fail
    refine Calls.mono (HTO.out _ HB1.out) ?_
    rintro e w2 ⟨xa, xn, xc, rfl, o2, b2⟩
    have HB2 := hideU (HB1.out.trans (b2.mono HB1.out.size))
    go_wp2_with fail
    refine Calls.mono (HSP.out _ _ _ o2 (fun b hb => hb.2)) ?_
    rintro e w3 ⟨sa, sn, sc, rfl, r3, b3⟩
    have HB3 := hideU (HB2.out.trans (b3.mono HB2.out.size))
    have HW0 : Hid (∀ W, Below w3.heap.size w3 W → RdV W (fun b => w2.heap.size ≤ b ∧ b < w3.heap.size) (.slice sa sn sc) (ndsDt U)) := fun W hW => r3.step hW
    have HZ23 : Hid (w2.heap.size ≤ w3.heap.size) := b3.size
    clear o2 b2 b3 r3 HB1
    go_wp2_with fail
    refine Calls.mono (HTO.out _ (HB3.out.trans ((Below.newH _).mono HB3.out.size))) ?_
    rintro e w4 ⟨ya, yn, yc, rfl, o4, b4⟩
    have hz4 := b4.size
    simp only [World.size_alloc] at hz4
    have HV4 := hideU (VarA.step (VarA.new w3 26 #[.slice sa sn sc]) b4)
    have B34 : Below w3.heap.size w3 w4 := (Below.newH (w := w3) _).trans (b4.mono (by simp))
    have HB4 := hideU (HB3.out.trans (B34.mono HB3.out.size))
    have HX4 : Hid (OwV w4 (fun b => w3.heap.size + 1 ≤ b ∧ b < w4.heap.size) (.slice ya yn yc) (shsDt l)) := OwV.mono (fun b hb => by simpa using hb) o4
    have HW4 := hideU (HW0.out _ B34)
    have HZ3 : Hid (w2.heap.size ≤ w3.heap.size ∧ w3.heap.size + 1 ≤ w4.heap.size) := ⟨HZ23.out, hz4⟩
    clear o4 b4 B34 hz4 HW0
    go_wp2_with fail
    refine Calls.mono (HIM.out _ _ _ HX4.out.rd) ?_
    rintro e w5 ⟨ga, gn, gc, R, rfl, o5, hR, b5⟩
    have HV5 := hideU (HV4.out.step b5)
    have HB5 := hideU (HB4.out.trans (b5.mono HB4.out.size))
    have HX5 := hideU (OwV.step HX4.out b5)
    have HW5 := hideU (HW4.out.step b5)
    have HG5 := hideU o5
    have HR5 : Hid (∀ b, R b → w4.heap.size ≤ b ∧ b < w5.heap.size) := hR
    have HZ5 : Hid (w4.heap.size ≤ w5.heap.size) := b5.size
    have cV := HV5.out.l1
    have kV := HV5.out.lt
    clear b5 o5 hR HV4 HB4 HX4 HW4
    go_wp2_with fail
    refine Calls.mono (HET.out _ _ _ _ _ (HG5.out.rd.step (Below.newH _)) (HW5.out.step (Below.newH _))) ?_
    rintro e w6 ⟨rfl, b6⟩
    have B56 : Below w5.heap.size w5 w6 := (Below.newH (w := w5) _).trans (b6.mono (by simp))
    have HV6 := hideU (HV5.out.step B56)
    have HK6 := hideU (VarA.step (VarA.new w5 26 #[.slice ga gn gc]) b6)
    have HB6 := hideU (HB5.out.trans (B56.mono HB5.out.size))
    have HX6 := hideU (OwV.step HX5.out B56)
    have HW6 := hideU (HW5.out.step B56)
    have HG6 := hideU (OwV.step HG5.out B56)
    clear b6 B56 HV5 HB5 HX5 HW5 HG5 cV kV
    go_wp2_with fail
    refine Calls.mono (HTO.out _ HB6.out) ?_
    rintro e w7 ⟨za, zn, zc, rfl, o7, b7⟩
    have HV7 := hideU (HV6.out.step b7)
    have HK7 := hideU (HK6.out.step b7)
    have HB7 := hideU (HB6.out.trans (b7.mono HB6.out.size))
    have HX7 := hideU (OwV.step HX6.out b7)
    have HW7 := hideU (HW6.out.step b7)
    have HG7 := hideU (OwV.step HG6.out b7)
    have HO7 := hideU o7
    clear b7 o7 HV6 HK6 HB6 HX6 HW6 HG6
    go_wp2_with fail
    refine Calls.mono (HES.out _ _ _ _ _ HX7.out.rd HO7.out.rd) ?_
    rintro e w8 ⟨rfl, b8⟩
    have HV8 := hideU (HV7.out.step b8)
    have HK8 := hideU (HK7.out.step b8)
    have HB8 := hideU (HB7.out.trans (b8.mono HB7.out.size))
    have HX8 := hideU (OwV.step HX7.out b8)
    have HW8 := hideU (HW7.out.step b8)
    have HG8 := hideU (OwV.step HG7.out b8)
    clear b8 HO7 HV7 HK7 HB7 HX7 HW7 HG7
    go_wp2_with fail
    refine Calls.mono (HMS.out _ _ _ HX8.out) ?_
    rintro e w9 ⟨k9, rfl, _, _, t9⟩
    have HV9 := hideU (HV8.out.turn t9 (fun h => by omega))
    have HK9 := hideU (HK8.out.turn t9 (fun h => by have := HZ5.out; omega))
    have HB9 : Hid (Below w.heap.size w w9) := Turned.below HB8.out t9 HB8.out.size (fun i hi => by have h1 := HB3.out.size; omega)
    have HW9 := hideU (RdV.keep (t9.keeps (fun b hb h => by have := HZ3.out; omega)) HW8.out)
    have HG9 := hideU (OwV.keep (t9.keeps (fun b hb h => by have := HR5.out b hb; omega)) HG8.out)
    have cV := HV9.out.l1
    have cK := HK9.out.l1
    have hk9 : decide ((k9 : Int) < 0) = false := by simp
    clear t9 HV8 HK8 HB8 HX8 HW8 HG8 HMS HES
    go_wp2_with fail
    refine Calls.mono (HET.out _ _ _ _ _ HG9.out.rd HW9.out) ?_
    rintro e w10 ⟨rfl, b10⟩
    have HV10 := hideU (HV9.out.step b10)
    have HK10 := hideU (HK9.out.step b10)
    have HB10 := hideU (HB9.out.trans (b10.mono HB9.out.size))
    have HW10 := hideU (HW9.out.step b10)
    have HG10 := hideU (OwV.step HG9.out b10)
    have HZ10 : Hid (w5.heap.size < w10.heap.size) := HK10.out.lt
    have cK2 := HK10.out.l1
    clear b10 HV9 HK9 HB9 HW9 HG9 cV cK
    go_wp2_with fail
    refine Calls.mono (HMT.out _ _ _ HG10.out (fun b hb => by have h1 := HR5.out b hb; have h2 := HZ10.out; omega)) ?_
    rintro e w11 ⟨rfl, o11, t11⟩
    have HV11 := hideU (HV10.out.turn t11 (fun h => by have h1 := HR5.out _ h; have h2 := HZ3.out; omega))
    have HK11 := hideU (HK10.out.turn t11 (fun h => by have h1 := HR5.out _ h; omega))
    have HB11 : Hid (Below w.heap.size w w11) := Turned.below HB10.out t11 HB10.out.size (fun i hi => by have h1 := HR5.out i hi; have h2 := HB3.out.size; have h3 := HZ3.out; omega)
    have HW11 := hideU (RdV.keep (t11.keeps (fun b hb h => by have h1 := HR5.out b h; have := HZ3.out; omega)) HW10.out)
    have HG11 := hideU o11
    have cK := HK11.out.l1
    clear o11 t11 HV10 HK10 HB10 HW10 HG10 HMT cK2
    go_wp2_with fail
    refine Calls.mono (HHT.out _ _ _ HG11.out.rd) ?_
    rintro e w12 ⟨rfl, b12⟩
    have HV12 := hideU (HV11.out.step b12)
    have HK12 := hideU (HK11.out.step b12)
    have HB12 := hideU (HB11.out.trans (b12.mono HB11.out.size))
    have HW12 := hideU (HW11.out.step b12)
    have HG12 := hideU (OwV.step HG11.out b12)
    have hmq : ((mm : Int) != (mm : Int)) = false := by simp
    have hmn : decide ((mm : Int) < 0) = false := by simp
    clear b12 HV11 HK11 HB11 HW11 HG11 cK
    go_wp2_with fail
    refine Calls.mono (HTO.out _ HB12.out) ?_
    rintro e w13 ⟨ea, en, ec, rfl, o13, b13⟩
    have HV13 := hideU (HV12.out.step b13)
    have HK13 := hideU (HK12.out.step b13)
    have HB13 := hideU (HB12.out.trans (b13.mono HB12.out.size))
    have HW13 := hideU (HW12.out.step b13)
    have HG13 := hideU (OwV.step HG12.out b13)
    have HO13 := hideU o13
    clear b13 o13 HV12 HK12 HB12 HW12 HG12
    go_wp2_with fail
    refine Calls.mono (HIM.out _ _ _ HO13.out.rd) ?_
    rintro e w14 ⟨ia, in_, ic, R2, rfl, o14, _, b14⟩
    have HV14 := hideU (HV13.out.step b14)
    have HK14 := hideU (HK13.out.step b14)
    have HB14 := hideU (HB13.out.trans (b14.mono HB13.out.size))
    have HW14 := hideU (HW13.out.step b14)
    have HG14 := hideU (OwV.step HG13.out b14)
    have HI14 := hideU o14
    have cV := HV14.out.l1
    have kV := HV14.out.lt
    clear b14 o14 HV13 HK13 HB13 HW13 HG13 HO13
    go_wp2_with fail
    refine Calls.mono (HET.out _ _ _ _ _ (HI14.out.rd.step (Below.newH _)) (HW14.out.step (Below.newH _))) ?_
    rintro e w15 ⟨rfl, b15⟩
    have B45 : Below w14.heap.size w14 w15 := (Below.newH (w := w14) _).trans (b15.mono (by simp))
    have HK15 := hideU (HK14.out.step B45)
    have HB15 := hideU (HB14.out.trans (B45.mono HB14.out.size))
    have HG15 := hideU (OwV.step HG14.out B45)
    have cK := HK15.out.l1
    clear b15 B45 HV14 HK14 HB14 HW14 HG14 HI14 cV kV
    go_wp2_with fail
    refine Calls.mono (HHT.out _ _ _ HG15.out.rd) ?_
    rintro e w16 ⟨rfl, b16⟩
    have HB16 := hideU (HB15.out.trans (b16.mono HB15.out.size))
    clear b16 cK
    go_wp2
    go_ret
    exact ⟨rfl, HB16.out⟩
  · have hlf : leftT (szShs l) 1048576 = -1 := by unfold leftT; rw [if_neg hle]
    rw [hlf] at HSZ
    clear r
    generalize l.length = n0 at *
    go_enter Tryz.func3, Tryz.ntmps3
    go_wp2_with fail
    refine Calls.mono HSZ.out ?_
    rintro e w1 ⟨rfl, b1⟩
    go_wp2
    go_ret
    exact ⟨rfl, b1⟩
end Go.Proofs.YtoaocjkapoemnaaGreat.fnExactUnion
