/- Proved: laws.FnMessages answers true at every input, and leaves its argument as it was: a drawn message comes back from its bytes, and whatever bytes are read as one are just its bytes. Conditions: none. -/
import Derived.Test.YtklhikadhohjbaaGreatMA10
import Derived.Test.YtklhikadhohjbaaGreatMA08
import Derived.Test.YtklhikadhohjbaaGreatMA09
import Derived.Test.YtklhikadhohjbaaGreatMA06
import Derived.Test.YtklhikadhohjbaaGreatMA01
import Derived.Deep.CutRange
import Derived.WalkKit
import Derived.ProofKit
import Derived.OpenShut
import Derived.ShutString
import Derived.ChangeOld
import Derived.Below
namespace Go.Proofs.YtklhikadhohjbaaGreat.fnMessages
open Go.ChangeShapes Go.WideShapes Go.ChangeAt Go.RowKit
open Go.ChangeMaps (open_string shut_string)
set_option linter.unusedVariables false

theorem szMsR (zs : List Int) : szMs (msRead zs).1 ≤ 2000 := by
 unfold msRead
 split
 ·exact szMd (rdEnP zs) (szP zs) zs
 ·simp [szMs, ms0, op0, rp0, pt0, szEns]
set_option maxRecDepth 100000 in
set_option maxHeartbeats 8000000 in
theorem walk (a0 : Option Addr) (len0 cap0 : Nat) (z0 : List Int) (w : World) (w0 : IsRow .u8 w a0 len0 cap0 z0) :
  Calls Tryz.prog 3 #[.slice a0 len0 cap0] w fun e w' => e = .returned (.bool true) ∧ Below w.heap.size w w' := by
 obtain ⟨zs, hlen, hr, hcap, hcm⟩ := row_reads w0
 have hm : zs.length ≤ maxLen := by omega
 have HLEN : Hid _ := hlen
 have HR : Hid (∀ W, Below w.heap.size w W → Reads W a0 zs) := fun W hW => hr.below hW
 clear w0 hcap hcm hlen
 go_enter Tryz.func3, Tryz.ntmps3
 go_wp2_with fail
 refine (drawMsg_any a0 zs _ _ w hr HLEN.out hm).mono ?_
 rintro e1 w1 ⟨m, a1, n1, c1, a2, n2, c2, a3, n3, c3, a4, n4, c4, rfl, rm, sz, B1⟩
 clear hr
 have hsz : szMs m ≤ 217 := sz.sz
 have HI : Hid (∀ W, Below w1.heap.size w1 W → _) := fun W hW => implMsgBytes_any m _ _ _ _ _ W (rm.step hW) (by omega)
 have HS : Hid (∀ W, Below w1.heap.size w1 W → _) := fun W hW => specMsgOk_any _ _ _ _ m _ W (rm.step hW) (by omega)
 have HO : Hid (∀ W, Below w1.heap.size w1 W → _) := fun W hW => implMsgOk_any _ _ _ _ m _ W (rm.step hW) (by omega)
 have HBK : Hid (∀ (hz : isBytes (outB m)) (h : MOk m = true), msRead (outB m) = (m, true) ∧ (outB m).length ≤ 1000) := fun hz h => ⟨MOk_back hz h, outB_len m hz⟩
 have HRM : Hid (∀ W, Below w1.heap.size w1 W → RdV W _ (.slice a3 n3 c3) (ensDt m.rp.list)) := fun W hW => rm.2.2.1.step hW
 have HRL : Hid (m.rp.list.length ≤ 1048576) := Nat.le_trans (Nat.le_add_right _ _) (Nat.le_trans sz.l (by decide))
 have HSZ : Hid (szMs m ≤ 1048576) := (by have h : szMs m ≤ 1048576 := (by omega); exact h)
 clear rm sz hsz
 go_wp2_with (first | ((with_reducible refine gS 35 ?_); refine sF (VarA.new w1 _ _) rfl rfl (by kernel_rfl) rfl rfl ?_; intro w2 v2 t2) | ((with_reducible refine guardLoad (ty := 35) ?_); refine wpList_loadA v2 rfl Tryz.underlying35 rfl (by kernel_rfl) ?_))
 have b2 : Below w1.heap.size w1 w2 := Turned.below (Below.newH _) t2 (by simp) (fun i hi => by omega)
 refine Calls.mono (HI.out _ b2) ?_
 rintro e3 w3 ⟨vb, rfl, hz, ob, b3⟩
 obtain ⟨xa, L, c, rfl, HL, HN, HF⟩ := ob.form
 have HV3 : Hid (VarA w3 w1.heap.size 35 (msC m (.slice a1 n1 c1) (.slice a2 n2 c2) (.slice a3 n3 c3) (.slice a4 n4 c4))) := v2.step b3
 have b13 : Below w1.heap.size w1 w3 := b2.trans (b3.mono b2.size)
 have HB13 : Hid (Below w1.heap.size w1 w3) := b13
 have HB3 : Hid (Below w.heap.size w w3) := B1.trans (b13.mono B1.size)
 have HOB : Hid (Owns w3 w2.heap.size (.slice xa L c) (outB m)) := ob
 have HZ : Hid (isBytes (outB m)) := hz
 clear b2 t2 v2 b3 b13 ob hz B1
 have hol := HBK.out HZ.out
 generalize hok : MOk m = ok at HI HS HO hol ⊢
 have HHOL : Hid _ := hol
 have HOK : Hid (MOk m = ok) := hok
 have hoo : (ok != ok) = false := by simp
 clear hol hok
 go_wp2_with (first | ((with_reducible refine guardLoad (ty := 35) ?_); refine wpList_loadA HV3.out rfl Tryz.underlying35 rfl (by kernel_rfl) ?_) | ((with_reducible refine guardLoadW (ty := 35) ?_); refine wpList_loadW rfl HV3.out rfl Tryz.underlying35 rfl (by kernel_rfl) ?_))
 refine Calls.mono (HS.out _ HB13.out) ?_
 rintro e4 w4 ⟨rfl, b4⟩
 have HV4 : Hid (VarA w4 w1.heap.size 35 (msC m (.slice a1 n1 c1) (.slice a2 n2 c2) (.slice a3 n3 c3) (.slice a4 n4 c4))) := HV3.out.step b4
 have HB14 : Hid (Below w1.heap.size w1 w4) := HB13.out.trans (b4.mono HB13.out.size)
 have HB4 : Hid (Below w.heap.size w w4) := HB3.out.trans (b4.mono HB3.out.size)
 have HO4 : Hid (Owns w4 w2.heap.size (.slice xa L c) (outB m)) := HOB.out.step b4
 clear b4 HV3 HB13 HB3 HOB HS
 go_wp2_with (first | ((with_reducible refine guardLoad (ty := 35) ?_); refine wpList_loadA HV4.out rfl Tryz.underlying35 rfl (by kernel_rfl) ?_) | ((with_reducible refine guardLoadW (ty := 35) ?_); refine wpList_loadW rfl HV4.out rfl Tryz.underlying35 rfl (by kernel_rfl) ?_))
 refine Calls.mono (HO.out _ HB14.out) ?_
 rintro e5 w5 ⟨rfl, b5⟩
 have HV5 : Hid (VarA w5 w1.heap.size 35 (msC m (.slice a1 n1 c1) (.slice a2 n2 c2) (.slice a3 n3 c3) (.slice a4 n4 c4))) := HV4.out.step b5
 have HB5 : Hid (Below w.heap.size w w5) := HB4.out.trans (b5.mono HB4.out.size)
 have HO5 : Hid (Owns w5 w2.heap.size (.slice xa L c) (outB m)) := HO4.out.step b5
 have HB15 : Hid (Below w1.heap.size w1 w5) := HB14.out.trans (b5.mono HB14.out.size)
 clear b5 HV4 HB14 HB4 HO4 HO HI
 go_upto_if 32 with fail
 go_cut [] from 3 (fun wx => Below w.heap.size w wx)
 case first =>
  cases ok with
  | false =>
   go_wp2_with fail
   go_meet
   exact HB5.out
  | true =>
   have hbk := HHOL.out rfl
   have HRR : Hid _ := implMsgRead_any _ (outB m) _ w5 (HO5.out.rdT HZ.out) (by have := hbk.2; omega)
   unfold MRd at HRR
   rw [hbk.1] at HRR
   have HME : Hid (MOk m = true) := HOK.out
   clear hbk HHOL
   go_wp2_with fail
   refine Calls.mono HRR.out ?_
   rintro e6 w6 ⟨e1, f1, g1, e2, f2, g2, e3, f3, g3, e4, f4, g4, rfl, om, b6⟩
   have rm6 := om.rd
   have HI6 : Hid (∀ W, Below w6.heap.size w6 W → _) := fun W hW => implMsgBytes_any _ _ _ _ _ _ W (rm6.step hW) HSZ.out
   have HV6 : Hid (VarA w6 w1.heap.size 35 (msC m (.slice a1 n1 c1) (.slice a2 n2 c2) (.slice a3 n3 c3) (.slice a4 n4 c4))) := HV5.out.step b6
   have HB6 : Hid (Below w.heap.size w w6) := HB5.out.trans (b6.mono HB5.out.size)
   have HO6 : Hid (Owns w6 w2.heap.size (.slice xa L c) (outB m)) := HO5.out.step b6
   rw [HME.out] at HI6
   have HX6 : Hid (∀ W, Below w6.heap.size w6 W → RdV W _ (.slice e3 f3 g3) (ensDt m.rp.list)) := fun W hW => rm6.2.2.1.step hW
   have HB16 : Hid (Below w1.heap.size w1 w6) := HB15.out.trans (b6.mono HB15.out.size)
   clear b6 om rm6 HV5 HB5 HO5 HRR HB15
   go_wp2_with (first | ((with_reducible refine gS 35 ?_); refine sF (VarA.new w6 _ _) rfl rfl (by kernel_rfl) rfl rfl ?_; intro w7 v7 t7) | ((with_reducible refine guardLoad (ty := 35) ?_); refine wpList_loadA v7 rfl Tryz.underlying35 rfl (by kernel_rfl) ?_))
   have b7 : Below w6.heap.size w6 w7 := Turned.below (Below.newH _) t7 (by simp) (fun i hi => by omega)
   refine Calls.mono (HI6.out _ b7) ?_
   rintro e8 w8 ⟨vc, rfl, hz8, oc, b8⟩
   obtain ⟨ya, L2, c2, rfl, HL2, HN2, HF2⟩ := oc.form
   have V8 := v7.step b8
   have b68 : Below w6.heap.size w6 w8 := b7.trans (b8.mono b7.size)
   have V3 := HV6.out.step b68
   have x0 : w8.cell? ⟨w6.heap.size, 0, none⟩ = some (.i m.kind) := V8.c 0 rfl
   have x14 : w8.cell? ⟨w6.heap.size, 14, none⟩ = some (.i m.rp.code) := V8.c 14 rfl
   have x15 : w8.cell? ⟨w6.heap.size, 15, none⟩ = some (.i m.rp.h.sh) := V8.c 15 rfl
   have x16 : w8.cell? ⟨w6.heap.size, 16, none⟩ = some (.i m.rp.h.ino) := V8.c 16 rfl
   have x17 : w8.cell? ⟨w6.heap.size, 17, none⟩ = some (.bool m.rp.h.dir) := V8.c 17 rfl
   have x18 : w8.cell? ⟨w6.heap.size, 18, none⟩ = some (.i m.rp.val) := V8.c 18 rfl
   have x19 : w8.cell? ⟨w6.heap.size, 19, none⟩ = some (.slice e3 f3 g3) := V8.c 19 rfl
   have x20 : w8.cell? ⟨w6.heap.size, 20, none⟩ = some (.i m.tx.1) := V8.c 20 rfl
   have x21 : w8.cell? ⟨w6.heap.size, 21, none⟩ = some (.i m.tx.2.1) := V8.c 21 rfl
   have x22 : w8.cell? ⟨w6.heap.size, 22, none⟩ = some (.i m.tx.2.2) := V8.c 22 rfl
   have r0 : w8.cell? ⟨w1.heap.size, 0, none⟩ = some (.i m.kind) := V3.c 0 rfl
   have r14 : w8.cell? ⟨w1.heap.size, 14, none⟩ = some (.i m.rp.code) := V3.c 14 rfl
   have r15 : w8.cell? ⟨w1.heap.size, 15, none⟩ = some (.i m.rp.h.sh) := V3.c 15 rfl
   have r16 : w8.cell? ⟨w1.heap.size, 16, none⟩ = some (.i m.rp.h.ino) := V3.c 16 rfl
   have r17 : w8.cell? ⟨w1.heap.size, 17, none⟩ = some (.bool m.rp.h.dir) := V3.c 17 rfl
   have r18 : w8.cell? ⟨w1.heap.size, 18, none⟩ = some (.i m.rp.val) := V3.c 18 rfl
   have r19 : w8.cell? ⟨w1.heap.size, 19, none⟩ = some (.slice a3 n3 c3) := V3.c 19 rfl
   have r20 : w8.cell? ⟨w1.heap.size, 20, none⟩ = some (.i m.tx.1) := V3.c 20 rfl
   have r21 : w8.cell? ⟨w1.heap.size, 21, none⟩ = some (.i m.tx.2.1) := V3.c 21 rfl
   have r22 : w8.cell? ⟨w1.heap.size, 22, none⟩ = some (.i m.tx.2.2) := V3.c 22 rfl
   have HB8 : Hid (Below w.heap.size w w8) := HB6.out.trans (b68.mono HB6.out.size)
   have HSB : Hid _ := sameBytes_any xa ya (outB m) L c L2 c2 w8 ((HO6.out.step b68).reads HZ.out).2 (oc.reads HZ.out).2 HL.out HL2.out
   have hne : ∀ W, (binOp .neq 31 (.agg #[.i m.tx.1, .i m.tx.2.1, .i m.tx.2.2]) (.agg #[.i m.tx.1, .i m.tx.2.1, .i m.tx.2.2])).run Tryz.prog W = .ok (.bool false) W := fun W => neTs_run _ _ _ W
   have HSR8 : Hid _ := sameRp_any _ _ m.rp _ _ w8 (HX6.out _ b68) (HRM.out _ (HB16.out.trans (b68.mono HB16.out.size))) HRL.out
   have hkk : (m.kind != m.kind) = false := by simp
   clear V8 V3 b68 b7 b8 t7 v7 oc hz8
   go_wp2_with fail
   refine Calls.mono HSB.out ?_
   rintro e9 w9 ⟨rfl, rfl⟩
   go_wp2_with fail
   refine Calls.mono HSR8.out ?_
   rintro e10 w10 ⟨rfl, b10⟩
   go_wp2_with fail
   go_meet
   exact HB8.out.trans (b10.mono HB8.out.size)
 case rest =>
  rename World => wd
  have HBD : Hid (Below w.heap.size w wd) := hcut
  clear hcut HV5 HB5 HO5 HHOL HOK HBK HRM HB15
  go_wp2_with fail
  refine (drawMsgRead_any a0 zs _ _ wd (HR.out _ HBD.out) HLEN.out hm).mono ?_
  rintro e6 w6 ⟨v, ys, rfl, oy, hy, ly, b6⟩
  obtain ⟨ya, L2, c2, rfl, HL2, HN2, HF2⟩ := oy.form
  have HRR : Hid _ := implMsgRead_any _ ys _ w6 (oy.rdT hy) (by omega)
  unfold MRd at HRR
  have HON : Hid (∀ h : (msRead ys).2 = true, MOk (msRead ys).1 = true ∧ outB (msRead ys).1 = ys) := fun h => msRead_only hy h
  have HSR : Hid (szMs (msRead ys).1 ≤ 1048576) := Nat.le_trans (szMsR ys) (by decide)
  generalize msRead ys = rr at HRR HON HSR
  obtain ⟨x, fine⟩ := rr
  dsimp only at HRR HON HSR
  have HB6 : Hid (Below w.heap.size w w6) := HBD.out.trans (b6.mono HBD.out.size)
  have HO6 : Hid (Owns w6 wd.heap.size (.slice ya L2 c2) ys) := oy
  have HY : Hid (isBytes ys) := hy
  clear b6 oy hy
  go_wp2_with fail
  refine Calls.mono HRR.out ?_
  rintro e7 w7 ⟨e1, f1, g1, e2, f2, g2, e3, f3, g3, e4, f4, g4, rfl, om, b7⟩
  have rm7 := om.rd
  have HI7 : Hid (∀ W, Below w7.heap.size w7 W → _) := fun W hW => implMsgBytes_any x _ _ _ _ _ W (rm7.step hW) HSR.out
  have HB7 : Hid (Below w.heap.size w w7) := HB6.out.trans (b7.mono HB6.out.size)
  have HO7 : Hid (Owns w7 wd.heap.size (.slice ya L2 c2) ys) := HO6.out.step b7
  clear b7 om rm7 HB6 HO6 HRR
  go_wp2_with (first | ((with_reducible refine gS 35 ?_); refine sF (VarA.new w7 _ _) rfl rfl (by kernel_rfl) rfl rfl ?_; intro w8 v8 t8) | ((with_reducible refine guardLoad (ty := 35) ?_); refine wpList_loadA v8 rfl Tryz.underlying35 rfl (by kernel_rfl) ?_))
  have b8 : Below w7.heap.size w7 w8 := Turned.below (Below.newH _) t8 (by simp) (fun i hi => by omega)
  refine Calls.mono (HI7.out _ b8) ?_
  rintro e9 w9 ⟨vc, rfl, hz9, oc, b9⟩
  obtain ⟨qa, L3, c3, rfl, HL3, HN3, HF3⟩ := oc.form
  have b79 : Below w7.heap.size w7 w9 := b8.trans (b9.mono b8.size)
  have HB9 : Hid (Below w.heap.size w w9) := HB7.out.trans (b79.mono HB7.out.size)
  cases fine with
  | false =>
   clear b8 b9 t8 v8 oc hz9 b79
   go_wp2_with fail
   go_ret
   exact ⟨rfl, HB9.out⟩
  | true =>
   have hon := HON.out rfl
   rw [hon.2] at oc HL3 hz9
   have HSB : Hid _ := sameBytes_any qa ya ys L3 c3 L2 c2 w9 (oc.reads HY.out).2 ((HO7.out.step b79).reads HY.out).2 HL3.out HL2.out
   clear b8 b9 t8 v8 oc hz9 b79 hon
   go_wp2_with fail
   refine Calls.mono HSB.out ?_
   rintro e10 w10 ⟨rfl, rfl⟩
   go_wp2_with fail
   go_ret
   exact ⟨rfl, HB9.out⟩
end Go.Proofs.YtklhikadhohjbaaGreat.fnMessages
