/- The walk of the law FnExactFollow; it leans on what errors.errorType holds. -/
import Derived.Test.YtblahkhniabhiaaGreatDoorFSF1
import Derived.Test.YtblahkhniabhiaaGreatDoorFA10
import Derived.Test.YtblahkhniabhiaaGreatDoorFA02
import Derived.Test.YtblahkhniabhiaaGreatDoorFDdMk
import Derived.Test.YtblahkhniabhiaaGreatDoorFA05
import Derived.Test.YtblahkhniabhiaaGreatDoorFEqs
import Derived.Test.YtblahkhniabhiaaGreatDoorFMks
import Derived.WalkKit
import Derived.ProofKit
import Derived.Below
namespace Go.Proofs.YtblahkhniabhiaaGreatDoor.fnExactFollow
open Go.RowKit
set_option linter.unusedVariables false
set_option linter.unusedSimpArgs false
set_option maxRecDepth 100000

theorem fol_small (l : List DdD) : ∀ (k : Nat) (t : List Nd),szNds t ≤ 2097152 → szNds (fol k t l).1 ≤ 2097152:=by
 induction l with
 | nil => intro k t h; exact h
 | cons d r ih =>
  intro k t h
  unfold fol
  split
  ·exact ih _ _ (Nat.le_trans (do_sizes h d.op (frS d)).1 (by omega))
  ·exact h
set_option maxHeartbeats 16000000 in
theorem walk (v0 : Value) (l : List DdD) (w : World) (hin : ∀ e ∈ l,HIn e.rp.h ∧ HIn e.op.to) (r : RdV w (Old w) v0 (ddsDt l)) (hg : ErrG w) :
  Calls Tryz.prog 3 #[v0] w fun e w' => e = .returned (.bool true) ∧ Below w.heap.size w w':=by
 obtain ⟨a,cap,rfl,_⟩:=RdV.sliced r
 have HSZ : Hid _:=szDeedS_d _ l _ 1048576 w (by omega) r
 by_cases hle : szDds l ≤ 1048576
 ·have hlf : leftT (szDds l) 1048576 = ((1048576 - szDds l : Nat) : Int):=by unfold leftT; rw [if_pos hle]; omega
  rw [hlf] at HSZ
  have HTO : Hid (∀ W,Below w.heap.size w W → Calls Tryz.prog 6 #[.slice a l.length cap] W fun e w' => ∃ a n c,e = .returned (.slice a n c) ∧ OwV w' (fun b => W.heap.size ≤ b ∧ b < w'.heap.size) (.slice a n c) (ddsDt l) ∧ Below W.heap.size W w'):=fun W hW => toDeedS_any _ l _ W (r.step hW) (by omega)
  have hin2 : ∀ k,k < l.length → HIn (l[k]?.getD dd0).rp.h ∧ HIn (l[k]?.getD dd0).op.to:=fun k hk => by
   rw [List.getElem?_eq_getElem hk]; exact hin _ (List.getElem_mem hk)
  have HSP : Hid (∀ x S W,OwV W S x (ddsDt l) → (∀ b,S b → b < W.heap.size) → Calls Tryz.prog 5 #[x] W fun e w' => ∃ a n c,e = .returned (.tuple #[.agg #[.slice a n c],.i (fol 0 [rootN] l).2]) ∧ RdV w' (fun b => W.heap.size ≤ b ∧ b < w'.heap.size) (.slice a n c) (ndsDt (fol 0 [rootN] l).1) ∧ Below W.heap.size W w'):=fun x S W o hS => specFollow_any x l S W o.rd hS (by omega)
  have HIM : Hid (∀ x S W,Below w.heap.size w W → RdV W S x (ddsDt l) → (∀ b,S b → b < W.heap.size) → Calls Tryz.prog 7 #[x] W fun e w' => ∃ x n c,∃ R : Nat → Prop,e = .returned (.tuple #[.agg #[.slice x n c],.i (fol 0 [rootN] l).2]) ∧ OwV w' R (.slice x n c) (ndsDt (fol 0 [rootN] l).1) ∧ (∀ b,R b → W.heap.size ≤ b ∧ b < w'.heap.size) ∧ Below W.heap.size W w'):=fun x S W hW o hS => implFollow_any x l S W o hS (by omega) hin2 (hg.step hW)
  have HUS : Hid (szNds (fol 0 [rootN] l).1 ≤ 2097152):=fol_small l 0 [rootN] (by decide)
  have HES : Hid (∀ x y S S2 W,RdV W S x (ddsDt l) → RdV W S2 y (ddsDt l) → Calls Tryz.prog 9 #[x,y] W fun e w' => e = .returned (.bool true) ∧ Below W.heap.size W w'):=fun x y S S2 W r1 r2 => eqDeedS_same x y l S S2 W r1 r2 (by omega)
  have HMS : Hid (∀ x S W,OwV W S x (ddsDt l) → Calls Tryz.prog 10 #[x,.i ((1 : Nat) : Int)] W (MkP W S x (1 + 16 * szDds l))):=fun x S W o => markDeedS_m x l 1 S W o (by omega) (by omega)
  clear r hlf hin hin2 hg
  generalize fol 0 [rootN] l = res at *
  obtain ⟨U,ok⟩:=res
  dsimp only at *
  have HET : Hid (∀ x y S S2 W,RdV W S x (ndsDt U) → RdV W S2 y (ndsDt U) → Calls Tryz.prog 8 #[.agg #[x],.agg #[y]] W fun e w' => e = .returned (.bool true) ∧ Below W.heap.size W w'):=fun x y S S2 W r1 r2 => eqTree_same x y U S S2 W r1 r2 (by have:=HUS.out; omega)
  have HMT : Hid (∀ x S W,OwV W S x (ndsDt U) → (∀ b,S b → b < W.heap.size) → Calls Tryz.prog 11 #[.agg #[x],.i ((1 : Nat) : Int)] W fun e w' => e = .returned (.i ((1 + lenNds U : Nat) : Int)) ∧ OwV w' S x (ndsDt (mkNds U 1)) ∧ Turned S W w'):=fun x S W o hS => markTree_d x U 1 S W o hS (by have:=HUS.out; omega) (by have:=lenNds_le U; have:=HUS.out; omega)
  have HHT : Hid (∀ x S W,RdV W S x (ndsDt (mkNds U 1)) → Calls Tryz.prog 12 #[.agg #[x],.i ((1 : Nat) : Int)] W fun e w' => e = .returned (.i ((1 + lenNds U : Nat) : Int)) ∧ Below W.heap.size W w'):=fun x S W o => heldTree_d x U 1 S W o (by have:=HUS.out; omega) (by have:=lenNds_le U; have:=HUS.out; omega)
  obtain ⟨lft,hlft⟩ : ∃ z,1048576 - szDds l = z:=⟨_,rfl⟩
  rw [hlft] at HSZ
  clear hlft hle HUS
  obtain ⟨mm,hmm⟩ : ∃ z,1 + lenNds U = z:=⟨_,rfl⟩
  rw [hmm] at HMT HHT
  clear hmm
  have hoo : ((ok : Int) != ok) = false:=by simp
  generalize l.length = n0 at *
  go_enter Tryz.func3,Tryz.ntmps3
  go_wp2_with fail
  refine Calls.mono HSZ.out ?_
  rintro e w1 ⟨rfl,b1⟩
  have HB1:=hideI b1
  clear b1
  go_wp2_with fail
  refine Calls.mono (HTO.out _ HB1.out) ?_
  rintro e w2 ⟨xa,xn,xc,rfl,o2,b2⟩
  have HB2:=hideI (HB1.out.trans (b2.mono HB1.out.size))
  go_wp2_with fail
  refine Calls.mono (HSP.out _ _ _ o2 (fun b hb => hb.2)) ?_
  rintro e w3 ⟨sa,sn,sc,rfl,r3,b3⟩
  have HB3:=hideI (HB2.out.trans (b3.mono HB2.out.size))
  have HW0 : Hid (∀ W,Below w3.heap.size w3 W → RdV W (fun b => w2.heap.size ≤ b ∧ b < w3.heap.size) (.slice sa sn sc) (ndsDt U)):=fun W hW => r3.step hW
  have HZ23 : Hid (w2.heap.size ≤ w3.heap.size):=b3.size
  clear o2 b2 b3 r3 HB1
  go_wp2_with fail
  refine Calls.mono (HTO.out _ (HB3.out.trans ((Below.newH _).mono HB3.out.size))) ?_
  rintro e w4 ⟨ya,yn,yc,rfl,o4,b4⟩
  have hz4:=b4.size
  simp only [World.size_alloc] at hz4
  have HV4:=hideI (VarA.step (VarA.new w3 26 #[.slice sa sn sc]) b4)
  have B34 : Below w3.heap.size w3 w4:=(Below.newH (w:=w3) _).trans (b4.mono (by simp))
  have HB4:=hideI (HB3.out.trans (B34.mono HB3.out.size))
  have HX4 : Hid (OwV w4 (fun b => w3.heap.size + 1 ≤ b ∧ b < w4.heap.size) (.slice ya yn yc) (ddsDt l)):=OwV.mono (fun b hb => by simpa using hb) o4
  have HW4:=hideI (HW0.out _ B34)
  have HZ3 : Hid (w2.heap.size ≤ w3.heap.size ∧ w3.heap.size + 1 ≤ w4.heap.size):=⟨HZ23.out,hz4⟩
  clear o4 b4 B34 hz4 HW0
  go_wp2_with fail
  refine Calls.mono (HIM.out _ _ _ HB4.out HX4.out.rd (fun b hb => hb.2)) ?_
  rintro e w5 ⟨ga,gn,gc,R,rfl,o5,hR,b5⟩
  have HV5:=hideI (HV4.out.step b5)
  have HB5:=hideI (HB4.out.trans (b5.mono HB4.out.size))
  have HX5:=hideI (OwV.step HX4.out b5)
  have HW5:=hideI (HW4.out.step b5)
  have HG5:=hideI o5
  have HR5 : Hid (∀ b,R b → w4.heap.size ≤ b ∧ b < w5.heap.size):=hR
  have HZ5 : Hid (w4.heap.size ≤ w5.heap.size):=b5.size
  have cV:=HV5.out.l1
  have kV:=HV5.out.lt
  clear b5 o5 hR HV4 HB4 HX4 HW4
  go_wp2_with fail
  refine Calls.mono (HET.out _ _ _ _ _ (HG5.out.rd.step (Below.newH _)) (HW5.out.step (Below.newH _))) ?_
  rintro e w6 ⟨rfl,b6⟩
  have B56 : Below w5.heap.size w5 w6:=(Below.newH (w:=w5) _).trans (b6.mono (by simp))
  have HV6:=hideI (HV5.out.step B56)
  have HK6:=hideI (VarA.step (VarA.new w5 26 #[.slice ga gn gc]) b6)
  have HB6:=hideI (HB5.out.trans (B56.mono HB5.out.size))
  have HX6:=hideI (OwV.step HX5.out B56)
  have HW6:=hideI (HW5.out.step B56)
  have HG6:=hideI (OwV.step HG5.out B56)
  clear b6 B56 HV5 HB5 HX5 HW5 HG5 cV kV
  go_wp2_with fail
  refine Calls.mono (HTO.out _ HB6.out) ?_
  rintro e w7 ⟨za,zn,zc,rfl,o7,b7⟩
  have HV7:=hideI (HV6.out.step b7)
  have HK7:=hideI (HK6.out.step b7)
  have HB7:=hideI (HB6.out.trans (b7.mono HB6.out.size))
  have HX7:=hideI (OwV.step HX6.out b7)
  have HW7:=hideI (HW6.out.step b7)
  have HG7:=hideI (OwV.step HG6.out b7)
  have HO7:=hideI o7
  clear b7 o7 HV6 HK6 HB6 HX6 HW6 HG6
  go_wp2_with fail
  refine Calls.mono (HES.out _ _ _ _ _ HX7.out.rd HO7.out.rd) ?_
  rintro e w8 ⟨rfl,b8⟩
  have HV8:=hideI (HV7.out.step b8)
  have HK8:=hideI (HK7.out.step b8)
  have HB8:=hideI (HB7.out.trans (b8.mono HB7.out.size))
  have HX8:=hideI (OwV.step HX7.out b8)
  have HW8:=hideI (HW7.out.step b8)
  have HG8:=hideI (OwV.step HG7.out b8)
  clear b8 HO7 HV7 HK7 HB7 HX7 HW7 HG7
  go_wp2_with fail
  refine Calls.mono (HMS.out _ _ _ HX8.out) ?_
  rintro e w9 ⟨k9,rfl,_,_,t9⟩
  have HV9:=hideI (HV8.out.turn t9 (fun h => by omega))
  have HK9:=hideI (HK8.out.turn t9 (fun h => by have:=HZ5.out; omega))
  have HB9 : Hid (Below w.heap.size w w9):=Turned.below HB8.out t9 HB8.out.size (fun i hi => by have h1:=HB3.out.size; omega)
  have HW9:=hideI (RdV.keep (t9.keeps (fun b hb h => by have:=HZ3.out; omega)) HW8.out)
  have HG9:=hideI (OwV.keep (t9.keeps (fun b hb h => by have:=HR5.out b hb; omega)) HG8.out)
  have cV:=HV9.out.l1
  have cK:=HK9.out.l1
  have hk9 : decide ((k9 : Int) < 0) = false:=by simp
  clear t9 HV8 HK8 HB8 HX8 HW8 HG8 HMS HES
  go_wp2_with fail
  refine Calls.mono (HET.out _ _ _ _ _ HG9.out.rd HW9.out) ?_
  rintro e w10 ⟨rfl,b10⟩
  have HV10:=hideI (HV9.out.step b10)
  have HK10:=hideI (HK9.out.step b10)
  have HB10:=hideI (HB9.out.trans (b10.mono HB9.out.size))
  have HW10:=hideI (HW9.out.step b10)
  have HG10:=hideI (OwV.step HG9.out b10)
  have HZ10 : Hid (w5.heap.size < w10.heap.size):=HK10.out.lt
  have cK2:=HK10.out.l1
  clear b10 HV9 HK9 HB9 HW9 HG9 cV cK
  go_wp2_with fail
  refine Calls.mono (HMT.out _ _ _ HG10.out (fun b hb => by have h1:=HR5.out b hb; have h2:=HZ10.out; omega)) ?_
  rintro e w11 ⟨rfl,o11,t11⟩
  have HV11:=hideI (HV10.out.turn t11 (fun h => by have h1:=HR5.out _ h; have h2:=HZ3.out; omega))
  have HK11:=hideI (HK10.out.turn t11 (fun h => by have h1:=HR5.out _ h; omega))
  have HB11 : Hid (Below w.heap.size w w11):=Turned.below HB10.out t11 HB10.out.size (fun i hi => by have h1:=HR5.out i hi; have h2:=HB3.out.size; have h3:=HZ3.out; omega)
  have HW11:=hideI (RdV.keep (t11.keeps (fun b hb h => by have h1:=HR5.out b h; have:=HZ3.out; omega)) HW10.out)
  have HG11:=hideI o11
  have cK:=HK11.out.l1
  clear o11 t11 HV10 HK10 HB10 HW10 HG10 HMT cK2
  go_wp2_with fail
  refine Calls.mono (HHT.out _ _ _ HG11.out.rd) ?_
  rintro e w12 ⟨rfl,b12⟩
  have HV12:=hideI (HV11.out.step b12)
  have HK12:=hideI (HK11.out.step b12)
  have HB12:=hideI (HB11.out.trans (b12.mono HB11.out.size))
  have HW12:=hideI (HW11.out.step b12)
  have HG12:=hideI (OwV.step HG11.out b12)
  have hmq : ((mm : Int) != (mm : Int)) = false:=by simp
  have hmn : decide ((mm : Int) < 0) = false:=by simp
  clear b12 HV11 HK11 HB11 HW11 HG11 cK
  go_wp2_with fail
  refine Calls.mono (HTO.out _ HB12.out) ?_
  rintro e w13 ⟨ea,en,ec,rfl,o13,b13⟩
  have HV13:=hideI (HV12.out.step b13)
  have HK13:=hideI (HK12.out.step b13)
  have HB13:=hideI (HB12.out.trans (b13.mono HB12.out.size))
  have HW13:=hideI (HW12.out.step b13)
  have HG13:=hideI (OwV.step HG12.out b13)
  have HO13:=hideI o13
  clear b13 o13 HV12 HK12 HB12 HW12 HG12
  go_wp2_with fail
  refine Calls.mono (HIM.out _ _ _ HB13.out HO13.out.rd (fun b hb => hb.2)) ?_
  rintro e w14 ⟨ia,in_,ic,R2,rfl,o14,_,b14⟩
  have HV14:=hideI (HV13.out.step b14)
  have HK14:=hideI (HK13.out.step b14)
  have HB14:=hideI (HB13.out.trans (b14.mono HB13.out.size))
  have HW14:=hideI (HW13.out.step b14)
  have HG14:=hideI (OwV.step HG13.out b14)
  have HI14:=hideI o14
  have cV:=HV14.out.l1
  have kV:=HV14.out.lt
  clear b14 o14 HV13 HK13 HB13 HW13 HG13 HO13
  go_wp2_with fail
  refine Calls.mono (HET.out _ _ _ _ _ (HI14.out.rd.step (Below.newH _)) (HW14.out.step (Below.newH _))) ?_
  rintro e w15 ⟨rfl,b15⟩
  have B45 : Below w14.heap.size w14 w15:=(Below.newH (w:=w14) _).trans (b15.mono (by simp))
  have HK15:=hideI (HK14.out.step B45)
  have HB15:=hideI (HB14.out.trans (B45.mono HB14.out.size))
  have HG15:=hideI (OwV.step HG14.out B45)
  have cK:=HK15.out.l1
  clear b15 B45 HV14 HK14 HB14 HW14 HG14 HI14 cV kV
  go_wp2_with fail
  refine Calls.mono (HHT.out _ _ _ HG15.out.rd) ?_
  rintro e w16 ⟨rfl,b16⟩
  have HB16:=hideI (HB15.out.trans (b16.mono HB15.out.size))
  clear b16 cK
  go_wp2
  go_ret
  exact ⟨rfl,HB16.out⟩
 ·have hlf : leftT (szDds l) 1048576 = -1:=by unfold leftT; rw [if_neg hle]
  rw [hlf] at HSZ
  clear r
  generalize l.length = n0 at *
  go_enter Tryz.func3,Tryz.ntmps3
  go_wp2_with fail
  refine Calls.mono HSZ.out ?_
  rintro e w1 ⟨rfl,b1⟩
  go_wp2
  go_ret
  exact ⟨rfl,b1⟩
end Go.Proofs.YtblahkhniabhiaaGreatDoor.fnExactFollow
