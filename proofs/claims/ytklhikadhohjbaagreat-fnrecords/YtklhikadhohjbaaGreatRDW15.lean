/- What the specification draws: a record; no condition. -/
import Derived.Test.YtklhikadhohjbaaGreatRA08
import Derived.Test.YtklhikadhohjbaaGreatRA00
namespace Go.Proofs.YtklhikadhohjbaaGreat
open Go.RowKit
set_option linter.unusedVariables false
set_option linter.unusedSimpArgs false
set_option maxRecDepth 100000

abbrev rcC (m : MsD) (x y z u : Value) : Array Value := #[.int .i64 m.kind, .int .i64 m.fr, .int .i64 m.req, .int .i64 m.op.kind, .int .i64 m.op.dir.sh, .int .i64 m.op.dir.ino, .bool m.op.dir.dir, x, .int .i64 m.op.to.sh, .int .i64 m.op.to.ino, .bool m.op.to.dir, y, .int .i64 m.op.val, .int .i64 m.h.sh, .int .i64 m.h.ino, .bool m.h.dir, .int .i64 m.rp.code, .int .i64 m.rp.h.sh, .int .i64 m.rp.h.ino, .bool m.rp.h.dir, .int .i64 m.rp.val, z, .int .i64 m.tx.1, .int .i64 m.tx.2.1, .int .i64 m.tx.2.2, .int .i64 m.pt.kind, .int .i64 m.pt.h.sh, .int .i64 m.pt.h.ino, .bool m.pt.h.dir, u, .int .i64 m.pt.to.sh, .int .i64 m.pt.to.ino, .bool m.pt.to.dir, .int .i64 m.code]
theorem mul_small {a b : Int} (a0 : 0 ≤ a) (a1 : a < 10) (b0 : 0 ≤ b) (b1 : b < 10) : IntKind.i64.wrap (a * b) = a * b := by
 have h0 := Int.mul_nonneg a0 b0
 have h1 : a * b ≤ 10 * 10 := Int.mul_le_mul (by omega) (by omega) b0 (by omega)
 exact wrapI _ (by omega) (by omega)
def RcSaid (w : World) (pb : Nat) (e : Ending) (w' : World) : Prop :=
 ∃ m a1 n1 c1 a2 n2 c2 a3 n3 c3 a4 n4 c4, e = .returned (rcV m (.slice a1 n1 c1) (.slice a2 n2 c2) (.slice a3 n3 c3) (.slice a4 n4 c4)) ∧ RdM w' (fun b => w.heap.size < b ∧ b < w'.heap.size) m (.slice a1 n1 c1) (.slice a2 n2 c2) (.slice a3 n3 c3) (.slice a4 n4 c4) ∧ SzB m ∧ CurAt w' pb ∧ w.grownBy w' (some pb)
def RS6 (w : World) (pb X tb : Nat) (tx : Value) (l : List Nd) (Q : Int → Prop) (wc : World) : Prop :=
 ∃ m a1 n1 c1 a2 n2 c2 a3 n3 c3 a4 n4 c4, PB 47 (rcC ms0 (.slice none 0 0) (.slice none 0 0) (.slice none 0 0) (.slice none 0 0)) w wc pb (w.heap.size + 1) tb tx l ∧ VarA wc X 47 (rcC m (.slice a1 n1 c1) (.slice a2 n2 c2) (.slice a3 n3 c3) (.slice a4 n4 c4)) ∧ RdM wc (fun b => X < b ∧ b < wc.heap.size) m (.slice a1 n1 c1) (.slice a2 n2 c2) (.slice a3 n3 c3) (.slice a4 n4 c4) ∧ SzB m ∧ Q m.kind
set_option maxHeartbeats 16000000 in
theorem rec6_any (pb : Nat) (w : World) (h : CurAt w pb) : Calls Tryz.prog 75 #[.pointer (some ⟨pb, 0, none⟩)] w (RcSaid w pb) := by
 have hpb := h.lt
 go_enter Tryz.func75, Tryz.ntmps75
 go_wp2_with fail
 refine Calls.mono (tree4_any pb _ (h.alloc _)) ?_
 rintro e1 w1 ⟨ta, tn, tc, l, rfl, rT, sm, c1, g1⟩
 have z1 := g1.size
 rw [World.size_alloc] at z1
 have htb : w.heap.size + 1 ≤ w1.heap.size := by omega
 have hlo : w.heap.size < w.heap.size + 1 := by omega
 have hP : ∀ i : Nat, i < l.length → HdR (l[i]?.getD nd0).h := fun i hi => (sm.1 _ (getD_mem hi)).1
 have hL : l.length ≤ 2097152 := Nat.le_trans sm.2.2 (by decide)
 have vR1 := vo_grow (VarA.new w 47 (rcC ms0 (.slice none 0 0) (.slice none 0 0) (.slice none 0 0) (.slice none 0 0))) g1 (by omega)
 have b2 : Below w1.heap.size w1 (w1.alloc (.cells #[(.slice ta tn tc)] 55)) := Below.newH _
 have HB0 : Hid (PB 47 (rcC ms0 (.slice none 0 0) (.slice none 0 0) (.slice none 0 0) (.slice none 0 0)) w (w1.alloc (.cells #[(.slice ta tn tc)] 55)) pb (w.heap.size + 1) w1.heap.size (.slice ta tn tc) l) := ⟨c1.below b2, grown_trans (grown_trans (World.grownBy_alloc w _ _) g1) (grown_below b2), vR1.step b2, VarA.new _ _ _, RdV.mono (fun b hb => ⟨by have := hb.1; rw [World.size_alloc] at this; omega, hb.2⟩) (RdV.step rT b2)⟩
 have HO : Hid (∀ W, CurAt W pb → RdV W (fun b => w.heap.size + 1 ≤ b ∧ b < w1.heap.size) (.slice ta tn tc) (ndsDt l) → Calls Tryz.prog 86 #[.pointer (some ⟨pb, 0, none⟩), .agg #[(.slice ta tn tc)]] W (OpSaid W pb)) := fun W hc r => op4_any pb _ l _ W hc r (fun b hb => by omega) hL hP
 clear rT c1 g1 vR1 b2 h z1 sm hP hL
 go_wp2_with fail
 generalize hw0 : w1.alloc (.cells #[(.slice ta tn tc)] 55) = w0 at *
 generalize w1.heap.size = tb at *
 refine Calls.mono (below_any pb 5 _ HB0.out.c (by omega) (by omega)) ?_
 rintro e2 w2 ⟨kd, rfl, hk0, hk1, c2, g2⟩
 have HB9 : Hid (PB 47 (rcC ms0 (.slice none 0 0) (.slice none 0 0) (.slice none 0 0) (.slice none 0 0)) w w2 pb (w.heap.size + 1) tb (.slice ta tn tc) l) := HB0.out.grow c2 g2 hpb hlo htb
 clear HB0 c2 g2 hw0
 have hX : tb < w2.heap.size := HB9.out.vT.lt
 go_upto_block 0 with ((with_reducible refine guardStore (ty := 47) ?_); refine wpList_storeF (VarA.new w2 _ _) rfl rfl (by kernel_rfl) rfl (of_decide_eq_true rfl) rfl ?_; intro w4 u4 t4; have o0 : w4.cell? ⟨w2.heap.size, 0, none⟩ = some (.int .i64 kd) := u4.c 0 rfl; have HB1 : Hid (PB 47 (rcC ms0 (.slice none 0 0) (.slice none 0 0) (.slice none 0 0) (.slice none 0 0)) w w4 pb (w.heap.size + 1) tb (.slice ta tn tc) l) := HB9.out.step (Turned.below (Below.newH _) t4 (by simp) (fun i hi => by omega)) hpb hlo htb; have HV1 : Hid (VarA w4 w2.heap.size 47 (rcC ⟨kd, 0, 0, 0, op0, rp0, tx0, pt0, 0, hd0⟩ (.slice none 0 0) (.slice none 0 0) (.slice none 0 0) (.slice none 0 0))) := u4; clear u4 t4)
 clear o0
 generalize w2.heap.size = X at *
 have HR1 : Hid (RdM w4 (fun b => X < b ∧ b < w4.heap.size) ⟨kd, 0, 0, 0, op0, rp0, tx0, pt0, 0, hd0⟩ (.slice none 0 0) (.slice none 0 0) (.slice none 0 0) (.slice none 0 0)) := ⟨rdb_nil _ _, rdb_nil _ _, rd_nil _ _, rdb_nil _ _⟩
 have tt := HB1.out.vT.l1
 go_cut [] from 12 (fun wx => RS6 w pb X tb (.slice ta tn tc) l (fun k => 0 ≤ k ∧ k ≤ 4) wx)
 case first =>
  have hx : kd = 0 ∨ kd = 1 ∨ kd = 2 ∨ kd = 3 ∨ kd = 4 := by omega
  rcases hx with rfl | rfl | rfl | rfl | rfl
  ·go_wp2_with fail
   go_meet
   exact ⟨⟨0, 0, 0, 0, op0, rp0, tx0, pt0, 0, hd0⟩, _, _, _, _, _, _, _, _, _, _, _, _, HB1.out, HV1.out, HR1.out, ⟨by simp [op0], by simp [op0], by simp [rp0, szEns], by simp [pt0]⟩, ⟨by show (0 : Int) ≤ 0; omega, by show (0 : Int) ≤ 4; omega⟩⟩
  ·go_wp2_with fail
   refine Calls.mono (below_any pb 4 _ HB1.out.c (by omega) (by omega)) ?_
   rintro ek1_1 wk1_1 ⟨xk1_1, rfl, xak1_1, xbk1_1, ck1_1, gk1_1⟩
   try clear tt
   have zxk1_1 := HV1.out.lt
   have ztk1_1 := HB1.out.vT.lt
   have HBk1_1 : Hid (PB 47 (rcC ms0 (.slice none 0 0) (.slice none 0 0) (.slice none 0 0) (.slice none 0 0)) w wk1_1 pb (w.heap.size + 1) tb (.slice ta tn tc) l) := HB1.out.grow ck1_1 gk1_1 hpb hlo htb
   have HVk1_1 : Hid (VarA wk1_1 X 47 (rcC ⟨1, 0, 0, 0, op0, rp0, tx0, pt0, 0, hd0⟩ (.slice none 0 0) (.slice none 0 0) (.slice none 0 0) (.slice none 0 0))) := vo_grow HV1.out gk1_1 (by omega)
   have HRk1_1 : Hid (RdM wk1_1 (fun b => X < b ∧ b < wk1_1.heap.size) ⟨1, 0, 0, 0, op0, rp0, tx0, pt0, 0, hd0⟩ (.slice none 0 0) (.slice none 0 0) (.slice none 0 0) (.slice none 0 0)) := rm_grow HR1.out gk1_1 (by omega)
   have tt := HBk1_1.out.vT.l1
   go_wp2_with ((with_reducible refine guardStore (ty := 3) ?_); refine wpList_storeG HVk1_1.out rfl rfl rfl (by kernel_rfl) rfl (of_decide_eq_true rfl) rfl ?_; intro yk1_2 vyk1_2 tyk1_2; have HVk1_2 : Hid (VarA yk1_2 X 47 (rcC ⟨1, xk1_1, 0, 0, op0, rp0, tx0, pt0, 0, hd0⟩ (.slice none 0 0) (.slice none 0 0) (.slice none 0 0) (.slice none 0 0))) := vyk1_2; have HBk1_2 : Hid (PB 47 (rcC ms0 (.slice none 0 0) (.slice none 0 0) (.slice none 0 0) (.slice none 0 0)) w yk1_2 pb (w.heap.size + 1) tb (.slice ta tn tc) l) := HBk1_1.out.put tyk1_2 hpb (by omega) (Or.inr hX) hlo htb; have tt := HBk1_2.out.vT.l1; have HRk1_2 : Hid (RdM yk1_2 (fun b => X < b ∧ b < yk1_2.heap.size) ⟨1, xk1_1, 0, 0, op0, rp0, tx0, pt0, 0, hd0⟩ (.slice none 0 0) (.slice none 0 0) (.slice none 0 0) (.slice none 0 0)) := rm_turn HRk1_1.out tyk1_2 (fun b hb => by omega))
   refine Calls.mono (below_any pb 9 _ HBk1_2.out.c (by omega) (by omega)) ?_
   rintro ek1_3 wk1_3 ⟨xk1_3, rfl, xak1_3, xbk1_3, ck1_3, gk1_3⟩
   try clear tt
   have zxk1_3 := HVk1_2.out.lt
   have ztk1_3 := HBk1_2.out.vT.lt
   have HBk1_3 : Hid (PB 47 (rcC ms0 (.slice none 0 0) (.slice none 0 0) (.slice none 0 0) (.slice none 0 0)) w wk1_3 pb (w.heap.size + 1) tb (.slice ta tn tc) l) := HBk1_2.out.grow ck1_3 gk1_3 hpb hlo htb
   have HVk1_3 : Hid (VarA wk1_3 X 47 (rcC ⟨1, xk1_1, 0, 0, op0, rp0, tx0, pt0, 0, hd0⟩ (.slice none 0 0) (.slice none 0 0) (.slice none 0 0) (.slice none 0 0))) := vo_grow HVk1_2.out gk1_3 (by omega)
   have HRk1_3 : Hid (RdM wk1_3 (fun b => X < b ∧ b < wk1_3.heap.size) ⟨1, xk1_1, 0, 0, op0, rp0, tx0, pt0, 0, hd0⟩ (.slice none 0 0) (.slice none 0 0) (.slice none 0 0) (.slice none 0 0)) := rm_grow HRk1_2.out gk1_3 (by omega)
   have tt := HBk1_3.out.vT.l1
   go_wp2_with ((with_reducible refine guardStore (ty := 3) ?_); refine wpList_storeG HVk1_3.out rfl rfl rfl (by kernel_rfl) rfl (of_decide_eq_true rfl) rfl ?_; intro yk1_4 vyk1_4 tyk1_4; have HVk1_4 : Hid (VarA yk1_4 X 47 (rcC ⟨1, xk1_1, 0, xk1_3, op0, rp0, tx0, pt0, 0, hd0⟩ (.slice none 0 0) (.slice none 0 0) (.slice none 0 0) (.slice none 0 0))) := vyk1_4; have HBk1_4 : Hid (PB 47 (rcC ms0 (.slice none 0 0) (.slice none 0 0) (.slice none 0 0) (.slice none 0 0)) w yk1_4 pb (w.heap.size + 1) tb (.slice ta tn tc) l) := HBk1_3.out.put tyk1_4 hpb (by omega) (Or.inr hX) hlo htb; have tt := HBk1_4.out.vT.l1; have HRk1_4 : Hid (RdM yk1_4 (fun b => X < b ∧ b < yk1_4.heap.size) ⟨1, xk1_1, 0, xk1_3, op0, rp0, tx0, pt0, 0, hd0⟩ (.slice none 0 0) (.slice none 0 0) (.slice none 0 0) (.slice none 0 0)) := rm_turn HRk1_3.out tyk1_4 (fun b hb => by omega))
   refine Calls.mono (HO.out _ HBk1_4.out.c HBk1_4.out.r) ?_
   rintro ek1_5 wk1_5 ⟨⟨ok, ⟨ds, di, dd⟩, nm, ⟨ts, ti, td⟩, asn, ov⟩, oyk1_5, ozk1_5, rfl, hRk1_5, ryk1_5, rzk1_5, ck1_5, gk1_5⟩
   try clear tt
   have zxk1_5 := HVk1_4.out.lt
   have ztk1_5 := HBk1_4.out.vT.lt
   have HBk1_5 : Hid (PB 47 (rcC ms0 (.slice none 0 0) (.slice none 0 0) (.slice none 0 0) (.slice none 0 0)) w wk1_5 pb (w.heap.size + 1) tb (.slice ta tn tc) l) := HBk1_4.out.grow ck1_5 gk1_5 hpb hlo htb
   have HVk1_5 : Hid (VarA wk1_5 X 47 (rcC ⟨1, xk1_1, 0, xk1_3, op0, rp0, tx0, pt0, 0, hd0⟩ (.slice none 0 0) (.slice none 0 0) (.slice none 0 0) (.slice none 0 0))) := vo_grow HVk1_4.out gk1_5 (by omega)
   have HRk1_5 : Hid (RdM wk1_5 (fun b => X < b ∧ b < wk1_5.heap.size) ⟨1, xk1_1, 0, xk1_3, op0, rp0, tx0, pt0, 0, hd0⟩ (.slice none 0 0) (.slice none 0 0) (.slice none 0 0) (.slice none 0 0)) := rm_grow HRk1_4.out gk1_5 (by omega)
   have tt := HBk1_5.out.vT.l1
   obtain ⟨yak1_5, ynk1_5, yck1_5, rfl⟩ := rdB_form ryk1_5
   obtain ⟨qak1_5, qnk1_5, qck1_5, rfl⟩ := rdB_form rzk1_5
   have HNk1_5 : Hid (RdM wk1_5 (fun b => X < b ∧ b < wk1_5.heap.size) ⟨1, xk1_1, 0, xk1_3, ⟨ok, ⟨ds, di, dd⟩, nm, ⟨ts, ti, td⟩, asn, ov⟩, rp0, tx0, pt0, 0, hd0⟩ (.slice yak1_5 ynk1_5 yck1_5) (.slice qak1_5 qnk1_5 qck1_5) (.slice none 0 0) (.slice none 0 0)) := ⟨RdV.mono (fun b hb => ⟨by omega, hb.2⟩) ryk1_5, RdV.mono (fun b hb => ⟨by omega, hb.2⟩) rzk1_5, HRk1_5.out.2.2.1, HRk1_5.out.2.2.2⟩
   clear ryk1_5 rzk1_5
   go_wp2_with ((with_reducible refine guardStore (ty := 26) ?_); refine wpList_storeG HVk1_5.out rfl rfl rfl (by kernel_rfl) rfl (of_decide_eq_true rfl) rfl ?_; intro yk1_6 vyk1_6 tyk1_6; have HVk1_6 : Hid (VarA yk1_6 X 47 (rcC ⟨1, xk1_1, 0, xk1_3, ⟨ok, ⟨ds, di, dd⟩, nm, ⟨ts, ti, td⟩, asn, ov⟩, rp0, tx0, pt0, 0, hd0⟩ (.slice yak1_5 ynk1_5 yck1_5) (.slice qak1_5 qnk1_5 qck1_5) (.slice none 0 0) (.slice none 0 0))) := vyk1_6; have HBk1_6 : Hid (PB 47 (rcC ms0 (.slice none 0 0) (.slice none 0 0) (.slice none 0 0) (.slice none 0 0)) w yk1_6 pb (w.heap.size + 1) tb (.slice ta tn tc) l) := HBk1_5.out.put tyk1_6 hpb (by omega) (Or.inr hX) hlo htb; have tt := HBk1_6.out.vT.l1; have HRk1_6 : Hid (RdM yk1_6 (fun b => X < b ∧ b < yk1_6.heap.size) ⟨1, xk1_1, 0, xk1_3, ⟨ok, ⟨ds, di, dd⟩, nm, ⟨ts, ti, td⟩, asn, ov⟩, rp0, tx0, pt0, 0, hd0⟩ (.slice yak1_5 ynk1_5 yck1_5) (.slice qak1_5 qnk1_5 qck1_5) (.slice none 0 0) (.slice none 0 0)) := rm_turn HNk1_5.out tyk1_6 (fun b hb => by omega))
   refine Calls.mono (below_any pb 3 _ HBk1_6.out.c (by omega) (by omega)) ?_
   rintro ek1_7 wk1_7 ⟨xk1_7, rfl, xak1_7, xbk1_7, ck1_7, gk1_7⟩
   try clear tt
   have zxk1_7 := HVk1_6.out.lt
   have ztk1_7 := HBk1_6.out.vT.lt
   have HBk1_7 : Hid (PB 47 (rcC ms0 (.slice none 0 0) (.slice none 0 0) (.slice none 0 0) (.slice none 0 0)) w wk1_7 pb (w.heap.size + 1) tb (.slice ta tn tc) l) := HBk1_6.out.grow ck1_7 gk1_7 hpb hlo htb
   have HVk1_7 : Hid (VarA wk1_7 X 47 (rcC ⟨1, xk1_1, 0, xk1_3, ⟨ok, ⟨ds, di, dd⟩, nm, ⟨ts, ti, td⟩, asn, ov⟩, rp0, tx0, pt0, 0, hd0⟩ (.slice yak1_5 ynk1_5 yck1_5) (.slice qak1_5 qnk1_5 qck1_5) (.slice none 0 0) (.slice none 0 0))) := vo_grow HVk1_6.out gk1_7 (by omega)
   have HRk1_7 : Hid (RdM wk1_7 (fun b => X < b ∧ b < wk1_7.heap.size) ⟨1, xk1_1, 0, xk1_3, ⟨ok, ⟨ds, di, dd⟩, nm, ⟨ts, ti, td⟩, asn, ov⟩, rp0, tx0, pt0, 0, hd0⟩ (.slice yak1_5 ynk1_5 yck1_5) (.slice qak1_5 qnk1_5 qck1_5) (.slice none 0 0) (.slice none 0 0)) := rm_grow HRk1_6.out gk1_7 (by omega)
   have tt := HBk1_7.out.vT.l1
   go_wp2_with fail
   refine Calls.mono (below_any pb 5 _ HBk1_7.out.c (by omega) (by omega)) ?_
   rintro ek1_8 wk1_8 ⟨xk1_8, rfl, xak1_8, xbk1_8, ck1_8, gk1_8⟩
   try clear tt
   have zxk1_8 := HVk1_7.out.lt
   have ztk1_8 := HBk1_7.out.vT.lt
   have HBk1_8 : Hid (PB 47 (rcC ms0 (.slice none 0 0) (.slice none 0 0) (.slice none 0 0) (.slice none 0 0)) w wk1_8 pb (w.heap.size + 1) tb (.slice ta tn tc) l) := HBk1_7.out.grow ck1_8 gk1_8 hpb hlo htb
   have HVk1_8 : Hid (VarA wk1_8 X 47 (rcC ⟨1, xk1_1, 0, xk1_3, ⟨ok, ⟨ds, di, dd⟩, nm, ⟨ts, ti, td⟩, asn, ov⟩, rp0, tx0, pt0, 0, hd0⟩ (.slice yak1_5 ynk1_5 yck1_5) (.slice qak1_5 qnk1_5 qck1_5) (.slice none 0 0) (.slice none 0 0))) := vo_grow HVk1_7.out gk1_8 (by omega)
   have HRk1_8 : Hid (RdM wk1_8 (fun b => X < b ∧ b < wk1_8.heap.size) ⟨1, xk1_1, 0, xk1_3, ⟨ok, ⟨ds, di, dd⟩, nm, ⟨ts, ti, td⟩, asn, ov⟩, rp0, tx0, pt0, 0, hd0⟩ (.slice yak1_5 ynk1_5 yck1_5) (.slice qak1_5 qnk1_5 qck1_5) (.slice none 0 0) (.slice none 0 0)) := rm_grow HRk1_7.out gk1_8 (by omega)
   have tt := HBk1_8.out.vT.l1
   have hwk1_8 : IntKind.i64.wrap (xk1_7 * xk1_8) = xk1_7 * xk1_8 := mul_small xak1_7 (by omega) xak1_8 (by omega)
   by_cases ho : ok = 4
   ·subst ho
    go_upto_region 11 with ((with_reducible refine guardStore (ty := 3) ?_); refine wpList_storeG HVk1_8.out rfl rfl rfl (by kernel_rfl) rfl (of_decide_eq_true rfl) rfl ?_; intro yk1_9 vyk1_9 tyk1_9; have HVk1_9 : Hid (VarA yk1_9 X 47 (rcC ⟨1, xk1_1, 0, xk1_3, ⟨4, ⟨ds, di, dd⟩, nm, ⟨ts, ti, td⟩, asn, ov⟩, ⟨(xk1_7 * xk1_8), hd0, 0, []⟩, tx0, pt0, 0, hd0⟩ (.slice yak1_5 ynk1_5 yck1_5) (.slice qak1_5 qnk1_5 qck1_5) (.slice none 0 0) (.slice none 0 0))) := vyk1_9; have HBk1_9 : Hid (PB 47 (rcC ms0 (.slice none 0 0) (.slice none 0 0) (.slice none 0 0) (.slice none 0 0)) w yk1_9 pb (w.heap.size + 1) tb (.slice ta tn tc) l) := HBk1_8.out.put tyk1_9 hpb (by omega) (Or.inr hX) hlo htb; have tt := HBk1_9.out.vT.l1; have HRk1_9 : Hid (RdM yk1_9 (fun b => X < b ∧ b < yk1_9.heap.size) ⟨1, xk1_1, 0, xk1_3, ⟨4, ⟨ds, di, dd⟩, nm, ⟨ts, ti, td⟩, asn, ov⟩, ⟨(xk1_7 * xk1_8), hd0, 0, []⟩, tx0, pt0, 0, hd0⟩ (.slice yak1_5 ynk1_5 yck1_5) (.slice qak1_5 qnk1_5 qck1_5) (.slice none 0 0) (.slice none 0 0)) := rm_turn HRk1_8.out tyk1_9 (fun b hb => by omega); have o3 : yk1_9.cell? ⟨X, 3, none⟩ = some (.int .i64 4) := HVk1_9.out.c 3 rfl)
    clear o3 tt
    refine wp_region_noPanic ?_
    refine wp_region_held_drew (S := fun W => W.cell? ⟨X, 8, none⟩ = some (.int .i64 ts) ∧ W.cell? ⟨X, 10, none⟩ = some (.bool td)) (by kernel_rfl) ⟨HVk1_9.out.c 8 rfl, HVk1_9.out.c 10 rfl⟩ (fun hHeld => ?_)
    refine wpAnyH_take (i := 0) (v := ?_) rfl (by kernel_rfl) (by kernel_rfl) (by kernel_rfl) (fun _ _ _ h => h) (Or.inl ⟨by rfl, ?_⟩) (by assumption) ?_
    rotate_left
    ·(intro _ h; (try dsimp only at h); go_simp; try with_reducible rfl)
    try simp only [Act.put, qz1, qz2, qz3, qz4, qz5, qz6]
    refine wpAnyH_take (i := 1) (v := ?_) rfl (by kernel_rfl) (by kernel_rfl) (by kernel_rfl) (fun _ _ _ h => h) (Or.inl ⟨by rfl, ?_⟩) (by assumption) ?_
    rotate_left
    ·(intro _ h; (try dsimp only at h); go_simp; try with_reducible rfl)
    try simp only [Act.put, qz1, qz2, qz3, qz4, qz5, qz6]
    refine wpAnyH_take (i := 2) (v := ?_) rfl (by kernel_rfl) (by kernel_rfl) (by kernel_rfl) (fun _ _ _ h => h) (Or.inl ⟨by rfl, ?_⟩) (by assumption) ?_
    rotate_left
    ·(intro _ h; (try dsimp only at h); go_simp; try with_reducible rfl)
    try simp only [Act.put, qz1, qz2, qz3, qz4, qz5, qz6]
    refine wpAnyH_take (i := 3) (v := ?_) rfl (by kernel_rfl) (by kernel_rfl) (by kernel_rfl) (fun _ _ _ h => h) (Or.inl ⟨by rfl, ?_⟩) (by assumption) ?_
    rotate_left
    ·(intro _ h; (try dsimp only at h); go_simp; try with_reducible rfl)
    try simp only [Act.put, qz1, qz2, qz3, qz4, qz5, qz6]
    refine wpAnyH_take (i := 4) (v := ?_) rfl (by kernel_rfl) (by kernel_rfl) (by kernel_rfl) (fun _ _ _ h => h) (Or.inl ⟨by rfl, ?_⟩) (by assumption) ?_
    rotate_left
    ·(intro _ h; (try dsimp only at h); go_simp; try with_reducible rfl)
    try simp only [Act.put, qz1, qz2, qz3, qz4, qz5, qz6]
    refine wpAnyH_take (i := 7) (v := ?_) rfl (by kernel_rfl) (by kernel_rfl) (by kernel_rfl) (fun _ _ _ h => h) (Or.inl ⟨by rfl, ?_⟩) (by assumption) ?_
    rotate_left
    ·(intro _ h; (try dsimp only at h); go_simp; try with_reducible rfl)
    try simp only [Act.put, qz1, qz2, qz3, qz4, qz5, qz6]
    refine wpAnyH_take (i := 8) (v := ?_) rfl (by kernel_rfl) (by kernel_rfl) (by kernel_rfl) (fun _ _ _ h => h) (Or.inl ⟨by rfl, ?_⟩) (by assumption) ?_
    rotate_left
    ·(intro _ h; (try dsimp only at h); go_simp; try with_reducible rfl)
    try simp only [Act.put, qz1, qz2, qz3, qz4, qz5, qz6]
    refine wpAnyH_take (i := 9) (v := ?_) rfl (by kernel_rfl) (by kernel_rfl) (by kernel_rfl) (fun _ _ _ h => h) (Or.inl ⟨by rfl, ?_⟩) (by assumption) ?_
    rotate_left
    ·(intro _ h; (try dsimp only at h); go_simp; try with_reducible rfl)
    try simp only [Act.put, qz1, qz2, qz3, qz4, qz5, qz6]
    refine wpAnyH_take (i := 10) (v := ?_) rfl (by kernel_rfl) (by kernel_rfl) (by kernel_rfl) (fun _ _ _ h => h) (Or.inl ⟨by rfl, ?_⟩) (by assumption) ?_
    rotate_left
    ·(intro _ h; (try dsimp only at h); go_simp; try with_reducible rfl)
    try simp only [Act.put, qz1, qz2, qz3, qz4, qz5, qz6]
    refine wpAnyH_ready (rs := [5]) (by kernel_rfl) (by simp) ?_
    refine AllReadyH.cons rfl (fun K hK => ?_) AllReadyH.nil
    go_simp
    refine Calls.mono (below_any pb 9 _ (HBk1_9.out.step (Below.drew (Below.refl yk1_9.heap.size yk1_9)) hpb hlo htb).c (by omega) (by omega)) ?_
    rintro eq wq ⟨xq, rfl, xqa, xqb, cq, gq⟩
    dsimp only
    have HBq : Hid (PB 47 (rcC ms0 (.slice none 0 0) (.slice none 0 0) (.slice none 0 0) (.slice none 0 0)) w wq pb (w.heap.size + 1) tb (.slice ta tn tc) l) := (HBk1_9.out.step (Below.drew (Below.refl yk1_9.heap.size yk1_9)) hpb hlo htb).grow cq gq hpb hlo htb
    have HVq : Hid (VarA wq X 47 (rcC ⟨1, xk1_1, 0, xk1_3, ⟨4, ⟨ds, di, dd⟩, nm, ⟨ts, ti, td⟩, asn, ov⟩, ⟨(xk1_7 * xk1_8), hd0, 0, []⟩, tx0, pt0, 0, hd0⟩ (.slice yak1_5 ynk1_5 yck1_5) (.slice qak1_5 qnk1_5 qck1_5) (.slice none 0 0) (.slice none 0 0))) := vo_grow (HVk1_9.out.step (Below.drew (Below.refl yk1_9.heap.size yk1_9))) gq (by omega)
    have HRq : Hid (RdM wq (fun b => X < b ∧ b < wq.heap.size) ⟨1, xk1_1, 0, xk1_3, ⟨4, ⟨ds, di, dd⟩, nm, ⟨ts, ti, td⟩, asn, ov⟩, ⟨(xk1_7 * xk1_8), hd0, 0, []⟩, tx0, pt0, 0, hd0⟩ (.slice yak1_5 ynk1_5 yck1_5) (.slice qak1_5 qnk1_5 qck1_5) (.slice none 0 0) (.slice none 0 0)) := rm_grow (rm_turn HRk1_9.out (Turned.ofBelow (S := fun b => False) (Below.drew (Below.refl yk1_9.heap.size yk1_9))) (fun b hb => hb.elim)) gq (by omega)
    have hwq : IntKind.i64.wrap (2 + xq) = 2 + xq := wrapI _ (by omega) (by omega)
    refine hK.out _ _ ⟨HVq.out.c 8 rfl, HVq.out.c 10 rfl⟩ (fun hHeld => ?_)
    clear hK K
    try simp only [Act.put, qz1, qz2, qz3, qz4, qz5, qz6]
    refine wpAnyH_take (i := 6) (v := ?_) rfl (by kernel_rfl) (by kernel_rfl) (by kernel_rfl) (fun _ _ _ h => h) (Or.inl ⟨by rfl, ?_⟩) (by assumption) ?_
    rotate_left
    ·(intro _ h; (try dsimp only at h); go_simp; try with_reducible rfl)
    try simp only [Act.put, qz1, qz2, qz3, qz4, qz5, qz6]
    refine wpAnyH_take (i := 11) (v := ?_) rfl (by kernel_rfl) (by kernel_rfl) (by kernel_rfl) (fun _ _ _ h => h) (Or.inl ⟨by rfl, ?_⟩) (by assumption) ?_
    rotate_left
    ·(intro _ h; (try dsimp only at h); go_simp; try with_reducible rfl)
    try simp only [Act.put, qz1, qz2, qz3, qz4, qz5, qz6]
    refine wpAnyH_take (i := 12) (v := ?_) rfl (by kernel_rfl) (by kernel_rfl) (by kernel_rfl) (fun _ _ _ h => h) (Or.inl ⟨by rfl, ?_⟩) (by assumption) ?_
    rotate_left
    ·(intro _ h; (try dsimp only at h); go_simp; try with_reducible rfl)
    try simp only [Act.put, qz1, qz2, qz3, qz4, qz5, qz6]
    refine wpAnyH_take (i := 13) (v := ?_) rfl (by kernel_rfl) (by kernel_rfl) (by kernel_rfl) (fun _ _ _ h => h) (Or.inl ⟨by rfl, ?_⟩) (by assumption) ?_
    rotate_left
    ·(intro _ h; (try dsimp only at h); go_simp; try with_reducible rfl)
    try simp only [Act.put, qz1, qz2, qz3, qz4, qz5, qz6]
    refine wpAnyH_ready (rs := [14]) (by kernel_rfl) (by simp) ?_
    refine AllReadyH.cons rfl (fun K hK => ?_) AllReadyH.nil
    refine step_stF2 HVq.out (by rfl) (by rfl) (by kernel_rfl) rfl (of_decide_eq_true rfl) rfl ?_
    intro wL vL tL
    have HVl : Hid (VarA wL X 47 (rcC ⟨1, xk1_1, 0, xk1_3, ⟨4, ⟨ds, di, dd⟩, nm, ⟨ts, ti, td⟩, asn, ov⟩, ⟨(xk1_7 * xk1_8), (ts, (2 + xq), td), 0, []⟩, tx0, pt0, 0, hd0⟩ (.slice yak1_5 ynk1_5 yck1_5) (.slice qak1_5 qnk1_5 qck1_5) (.slice none 0 0) (.slice none 0 0))) := vL
    have HBl : Hid (PB 47 (rcC ms0 (.slice none 0 0) (.slice none 0 0) (.slice none 0 0) (.slice none 0 0)) w wL pb (w.heap.size + 1) tb (.slice ta tn tc) l) := HBq.out.put tL hpb (by omega) (Or.inr hX) hlo htb
    have HRl : Hid (RdM wL (fun b => X < b ∧ b < wL.heap.size) ⟨1, xk1_1, 0, xk1_3, ⟨4, ⟨ds, di, dd⟩, nm, ⟨ts, ti, td⟩, asn, ov⟩, ⟨(xk1_7 * xk1_8), (ts, (2 + xq), td), 0, []⟩, tx0, pt0, 0, hd0⟩ (.slice yak1_5 ynk1_5 yck1_5) (.slice qak1_5 qnk1_5 qck1_5) (.slice none 0 0) (.slice none 0 0)) := rm_turn HRq.out tL (fun b hb => by omega)
    refine hK.out _ _ ⟨HVl.out.c 8 rfl, HVl.out.c 10 rfl⟩ (fun hHeld => ?_)
    clear hK K
    try simp only [Act.put, qz1, qz2, qz3, qz4, qz5, qz6]
    refine wpAnyH_done (by kernel_rfl) (NoPanic.normal ?_) _
    clear hHeld
    have o0 : wL.cell? ⟨X, 0, none⟩ = some (.int .i64 1) := HVl.out.c 0 rfl
    have o17 : wL.cell? ⟨X, 17, none⟩ = some (.int .i64 ts) := HVl.out.c 17 rfl
    have o18 : wL.cell? ⟨X, 18, none⟩ = some (.int .i64 (2 + xq)) := HVl.out.c 18 rfl
    have o19 : wL.cell? ⟨X, 19, none⟩ = some (.bool td) := HVl.out.c 19 rfl
    go_wp2_with ((with_reducible refine guardStore (ty := 24) ?_); refine wpList_storeG HVl.out rfl rfl rfl (by kernel_rfl) rfl (of_decide_eq_true rfl) rfl ?_; intro yk1_10 vyk1_10 tyk1_10; have HVk1_10 : Hid (VarA yk1_10 X 47 (rcC ⟨1, xk1_1, 0, xk1_3, ⟨4, ⟨ds, di, dd⟩, nm, ⟨ts, ti, td⟩, asn, ov⟩, ⟨(xk1_7 * xk1_8), (ts, (2 + xq), td), 0, []⟩, tx0, pt0, 0, (ts, 2 + xq, td)⟩ (.slice yak1_5 ynk1_5 yck1_5) (.slice qak1_5 qnk1_5 qck1_5) (.slice none 0 0) (.slice none 0 0))) := vyk1_10; have HBk1_10 : Hid (PB 47 (rcC ms0 (.slice none 0 0) (.slice none 0 0) (.slice none 0 0) (.slice none 0 0)) w yk1_10 pb (w.heap.size + 1) tb (.slice ta tn tc) l) := HBl.out.put tyk1_10 hpb (by omega) (Or.inr hX) hlo htb; have tt := HBk1_10.out.vT.l1; have HRk1_10 : Hid (RdM yk1_10 (fun b => X < b ∧ b < yk1_10.heap.size) ⟨1, xk1_1, 0, xk1_3, ⟨4, ⟨ds, di, dd⟩, nm, ⟨ts, ti, td⟩, asn, ov⟩, ⟨(xk1_7 * xk1_8), (ts, (2 + xq), td), 0, []⟩, tx0, pt0, 0, (ts, 2 + xq, td)⟩ (.slice yak1_5 ynk1_5 yck1_5) (.slice qak1_5 qnk1_5 qck1_5) (.slice none 0 0) (.slice none 0 0)) := rm_turn HRl.out tyk1_10 (fun b hb => by omega))
    go_meet
    exact ⟨⟨1, xk1_1, 0, xk1_3, ⟨4, ⟨ds, di, dd⟩, nm, ⟨ts, ti, td⟩, asn, ov⟩, ⟨(xk1_7 * xk1_8), (ts, (2 + xq), td), 0, []⟩, tx0, pt0, 0, (ts, 2 + xq, td)⟩, _, _, _, _, _, _, _, _, _, _, _, _, HBk1_10.out, HVk1_10.out, HRk1_10.out, ⟨Nat.le_trans hRk1_5.n (by decide), Nat.le_trans hRk1_5.a (by decide), by simp [rp0, szEns], by simp [pt0]⟩, ⟨by show (0 : Int) ≤ 1; omega, by show (1 : Int) ≤ 4; omega⟩⟩
   ·have hob : (ok == 4) = false := by simp [ho]
    go_wp2_with ((with_reducible refine guardStore (ty := 3) ?_); refine wpList_storeG HVk1_8.out rfl rfl rfl (by kernel_rfl) rfl (of_decide_eq_true rfl) rfl ?_; intro yk1_9 vyk1_9 tyk1_9; have HVk1_9 : Hid (VarA yk1_9 X 47 (rcC ⟨1, xk1_1, 0, xk1_3, ⟨ok, ⟨ds, di, dd⟩, nm, ⟨ts, ti, td⟩, asn, ov⟩, ⟨(xk1_7 * xk1_8), hd0, 0, []⟩, tx0, pt0, 0, hd0⟩ (.slice yak1_5 ynk1_5 yck1_5) (.slice qak1_5 qnk1_5 qck1_5) (.slice none 0 0) (.slice none 0 0))) := vyk1_9; have HBk1_9 : Hid (PB 47 (rcC ms0 (.slice none 0 0) (.slice none 0 0) (.slice none 0 0) (.slice none 0 0)) w yk1_9 pb (w.heap.size + 1) tb (.slice ta tn tc) l) := HBk1_8.out.put tyk1_9 hpb (by omega) (Or.inr hX) hlo htb; have tt := HBk1_9.out.vT.l1; have HRk1_9 : Hid (RdM yk1_9 (fun b => X < b ∧ b < yk1_9.heap.size) ⟨1, xk1_1, 0, xk1_3, ⟨ok, ⟨ds, di, dd⟩, nm, ⟨ts, ti, td⟩, asn, ov⟩, ⟨(xk1_7 * xk1_8), hd0, 0, []⟩, tx0, pt0, 0, hd0⟩ (.slice yak1_5 ynk1_5 yck1_5) (.slice qak1_5 qnk1_5 qck1_5) (.slice none 0 0) (.slice none 0 0)) := rm_turn HRk1_8.out tyk1_9 (fun b hb => by omega); have o3 : yk1_9.cell? ⟨X, 3, none⟩ = some (.int .i64 ok) := HVk1_9.out.c 3 rfl)
    go_meet
    exact ⟨⟨1, xk1_1, 0, xk1_3, ⟨ok, ⟨ds, di, dd⟩, nm, ⟨ts, ti, td⟩, asn, ov⟩, ⟨(xk1_7 * xk1_8), hd0, 0, []⟩, tx0, pt0, 0, hd0⟩, _, _, _, _, _, _, _, _, _, _, _, _, HBk1_9.out, HVk1_9.out, HRk1_9.out, ⟨Nat.le_trans hRk1_5.n (by decide), Nat.le_trans hRk1_5.a (by decide), by simp [rp0, szEns], by simp [pt0]⟩, ⟨by show (0 : Int) ≤ 1; omega, by show (1 : Int) ≤ 4; omega⟩⟩
  ·go_wp2_with fail
   refine Calls.mono (part5_any pb _ HB1.out.c) ?_
   rintro ek2_1 wk2_1 ⟨⟨pk, ⟨ps, pi, pd⟩, pas, ⟨qs, qi, qd⟩⟩, uak2_1, unk2_1, uck2_1, rfl, ruk2_1, luk2_1, ck2_1, gk2_1⟩
   try clear tt
   have zxk2_1 := HV1.out.lt
   have ztk2_1 := HB1.out.vT.lt
   have HBk2_1 : Hid (PB 47 (rcC ms0 (.slice none 0 0) (.slice none 0 0) (.slice none 0 0) (.slice none 0 0)) w wk2_1 pb (w.heap.size + 1) tb (.slice ta tn tc) l) := HB1.out.grow ck2_1 gk2_1 hpb hlo htb
   have HVk2_1 : Hid (VarA wk2_1 X 47 (rcC ⟨2, 0, 0, 0, op0, rp0, tx0, pt0, 0, hd0⟩ (.slice none 0 0) (.slice none 0 0) (.slice none 0 0) (.slice none 0 0))) := vo_grow HV1.out gk2_1 (by omega)
   have HRk2_1 : Hid (RdM wk2_1 (fun b => X < b ∧ b < wk2_1.heap.size) ⟨2, 0, 0, 0, op0, rp0, tx0, pt0, 0, hd0⟩ (.slice none 0 0) (.slice none 0 0) (.slice none 0 0) (.slice none 0 0)) := rm_grow HR1.out gk2_1 (by omega)
   have tt := HBk2_1.out.vT.l1
   have HNk2_1 : Hid (RdM wk2_1 (fun b => X < b ∧ b < wk2_1.heap.size) ⟨2, 0, 0, 0, op0, rp0, tx0, ⟨pk, ⟨ps, pi, pd⟩, pas, ⟨qs, qi, qd⟩⟩, 0, hd0⟩ (.slice none 0 0) (.slice none 0 0) (.slice none 0 0) (.slice uak2_1 unk2_1 uck2_1)) := ⟨HRk2_1.out.1, HRk2_1.out.2.1, HRk2_1.out.2.2.1, RdV.mono (fun b hb => ⟨by omega, hb.2⟩) ruk2_1⟩
   clear ruk2_1
   go_wp2_with ((with_reducible refine guardStore (ty := 33) ?_); refine wpList_storeG HVk2_1.out rfl rfl rfl (by kernel_rfl) rfl (of_decide_eq_true rfl) rfl ?_; intro yk2_2 vyk2_2 tyk2_2; have HVk2_2 : Hid (VarA yk2_2 X 47 (rcC ⟨2, 0, 0, 0, op0, rp0, tx0, ⟨pk, ⟨ps, pi, pd⟩, pas, ⟨qs, qi, qd⟩⟩, 0, hd0⟩ (.slice none 0 0) (.slice none 0 0) (.slice none 0 0) (.slice uak2_1 unk2_1 uck2_1))) := vyk2_2; have HBk2_2 : Hid (PB 47 (rcC ms0 (.slice none 0 0) (.slice none 0 0) (.slice none 0 0) (.slice none 0 0)) w yk2_2 pb (w.heap.size + 1) tb (.slice ta tn tc) l) := HBk2_1.out.put tyk2_2 hpb (by omega) (Or.inr hX) hlo htb; have tt := HBk2_2.out.vT.l1; have HRk2_2 : Hid (RdM yk2_2 (fun b => X < b ∧ b < yk2_2.heap.size) ⟨2, 0, 0, 0, op0, rp0, tx0, ⟨pk, ⟨ps, pi, pd⟩, pas, ⟨qs, qi, qd⟩⟩, 0, hd0⟩ (.slice none 0 0) (.slice none 0 0) (.slice none 0 0) (.slice uak2_1 unk2_1 uck2_1)) := rm_turn HNk2_1.out tyk2_2 (fun b hb => by omega))
   refine Calls.mono (below_any pb 2 _ HBk2_2.out.c (by omega) (by omega)) ?_
   rintro ek2_3 wk2_3 ⟨xk2_3, rfl, xak2_3, xbk2_3, ck2_3, gk2_3⟩
   try clear tt
   have zxk2_3 := HVk2_2.out.lt
   have ztk2_3 := HBk2_2.out.vT.lt
   have HBk2_3 : Hid (PB 47 (rcC ms0 (.slice none 0 0) (.slice none 0 0) (.slice none 0 0) (.slice none 0 0)) w wk2_3 pb (w.heap.size + 1) tb (.slice ta tn tc) l) := HBk2_2.out.grow ck2_3 gk2_3 hpb hlo htb
   have HVk2_3 : Hid (VarA wk2_3 X 47 (rcC ⟨2, 0, 0, 0, op0, rp0, tx0, ⟨pk, ⟨ps, pi, pd⟩, pas, ⟨qs, qi, qd⟩⟩, 0, hd0⟩ (.slice none 0 0) (.slice none 0 0) (.slice none 0 0) (.slice uak2_1 unk2_1 uck2_1))) := vo_grow HVk2_2.out gk2_3 (by omega)
   have HRk2_3 : Hid (RdM wk2_3 (fun b => X < b ∧ b < wk2_3.heap.size) ⟨2, 0, 0, 0, op0, rp0, tx0, ⟨pk, ⟨ps, pi, pd⟩, pas, ⟨qs, qi, qd⟩⟩, 0, hd0⟩ (.slice none 0 0) (.slice none 0 0) (.slice none 0 0) (.slice uak2_1 unk2_1 uck2_1)) := rm_grow HRk2_2.out gk2_3 (by omega)
   have tt := HBk2_3.out.vT.l1
   go_wp2_with fail
   refine Calls.mono (below_any pb 9 _ HBk2_3.out.c (by omega) (by omega)) ?_
   rintro ek2_4 wk2_4 ⟨xk2_4, rfl, xak2_4, xbk2_4, ck2_4, gk2_4⟩
   try clear tt
   have zxk2_4 := HVk2_3.out.lt
   have ztk2_4 := HBk2_3.out.vT.lt
   have HBk2_4 : Hid (PB 47 (rcC ms0 (.slice none 0 0) (.slice none 0 0) (.slice none 0 0) (.slice none 0 0)) w wk2_4 pb (w.heap.size + 1) tb (.slice ta tn tc) l) := HBk2_3.out.grow ck2_4 gk2_4 hpb hlo htb
   have HVk2_4 : Hid (VarA wk2_4 X 47 (rcC ⟨2, 0, 0, 0, op0, rp0, tx0, ⟨pk, ⟨ps, pi, pd⟩, pas, ⟨qs, qi, qd⟩⟩, 0, hd0⟩ (.slice none 0 0) (.slice none 0 0) (.slice none 0 0) (.slice uak2_1 unk2_1 uck2_1))) := vo_grow HVk2_3.out gk2_4 (by omega)
   have HRk2_4 : Hid (RdM wk2_4 (fun b => X < b ∧ b < wk2_4.heap.size) ⟨2, 0, 0, 0, op0, rp0, tx0, ⟨pk, ⟨ps, pi, pd⟩, pas, ⟨qs, qi, qd⟩⟩, 0, hd0⟩ (.slice none 0 0) (.slice none 0 0) (.slice none 0 0) (.slice uak2_1 unk2_1 uck2_1)) := rm_grow HRk2_3.out gk2_4 (by omega)
   have tt := HBk2_4.out.vT.l1
   have hwk2_4 : IntKind.i64.wrap (xk2_3 * xk2_4) = xk2_3 * xk2_4 := mul_small xak2_3 (by omega) xak2_4 (by omega)
   by_cases ho : pk = 2
   ·subst ho
    go_upto_region 18 with ((with_reducible refine guardStore (ty := 3) ?_); refine wpList_storeG HVk2_4.out rfl rfl rfl (by kernel_rfl) rfl (of_decide_eq_true rfl) rfl ?_; intro yk2_5 vyk2_5 tyk2_5; have HVk2_5 : Hid (VarA yk2_5 X 47 (rcC ⟨2, 0, 0, 0, op0, rp0, tx0, ⟨2, ⟨ps, pi, pd⟩, pas, ⟨qs, qi, qd⟩⟩, (xk2_3 * xk2_4), hd0⟩ (.slice none 0 0) (.slice none 0 0) (.slice none 0 0) (.slice uak2_1 unk2_1 uck2_1))) := vyk2_5; have HBk2_5 : Hid (PB 47 (rcC ms0 (.slice none 0 0) (.slice none 0 0) (.slice none 0 0) (.slice none 0 0)) w yk2_5 pb (w.heap.size + 1) tb (.slice ta tn tc) l) := HBk2_4.out.put tyk2_5 hpb (by omega) (Or.inr hX) hlo htb; have tt := HBk2_5.out.vT.l1; have HRk2_5 : Hid (RdM yk2_5 (fun b => X < b ∧ b < yk2_5.heap.size) ⟨2, 0, 0, 0, op0, rp0, tx0, ⟨2, ⟨ps, pi, pd⟩, pas, ⟨qs, qi, qd⟩⟩, (xk2_3 * xk2_4), hd0⟩ (.slice none 0 0) (.slice none 0 0) (.slice none 0 0) (.slice uak2_1 unk2_1 uck2_1)) := rm_turn HRk2_4.out tyk2_5 (fun b hb => by omega); have o25 : yk2_5.cell? ⟨X, 25, none⟩ = some (.int .i64 2) := HVk2_5.out.c 25 rfl)
    clear o25 tt
    refine wp_region_noPanic ?_
    refine wp_region_held_drew (S := fun W => W.cell? ⟨X, 26, none⟩ = some (.int .i64 ps) ∧ W.cell? ⟨X, 28, none⟩ = some (.bool pd)) (by kernel_rfl) ⟨HVk2_5.out.c 26 rfl, HVk2_5.out.c 28 rfl⟩ (fun hHeld => ?_)
    refine wpAnyH_take (i := 0) (v := ?_) rfl (by kernel_rfl) (by kernel_rfl) (by kernel_rfl) (fun _ _ _ h => h) (Or.inl ⟨by rfl, ?_⟩) (by assumption) ?_
    rotate_left
    ·(intro _ h; (try dsimp only at h); go_simp; try with_reducible rfl)
    try simp only [Act.put, qz1, qz2, qz3, qz4, qz5, qz6]
    refine wpAnyH_take (i := 1) (v := ?_) rfl (by kernel_rfl) (by kernel_rfl) (by kernel_rfl) (fun _ _ _ h => h) (Or.inl ⟨by rfl, ?_⟩) (by assumption) ?_
    rotate_left
    ·(intro _ h; (try dsimp only at h); go_simp; try with_reducible rfl)
    try simp only [Act.put, qz1, qz2, qz3, qz4, qz5, qz6]
    refine wpAnyH_take (i := 2) (v := ?_) rfl (by kernel_rfl) (by kernel_rfl) (by kernel_rfl) (fun _ _ _ h => h) (Or.inl ⟨by rfl, ?_⟩) (by assumption) ?_
    rotate_left
    ·(intro _ h; (try dsimp only at h); go_simp; try with_reducible rfl)
    try simp only [Act.put, qz1, qz2, qz3, qz4, qz5, qz6]
    refine wpAnyH_take (i := 3) (v := ?_) rfl (by kernel_rfl) (by kernel_rfl) (by kernel_rfl) (fun _ _ _ h => h) (Or.inl ⟨by rfl, ?_⟩) (by assumption) ?_
    rotate_left
    ·(intro _ h; (try dsimp only at h); go_simp; try with_reducible rfl)
    try simp only [Act.put, qz1, qz2, qz3, qz4, qz5, qz6]
    refine wpAnyH_take (i := 4) (v := ?_) rfl (by kernel_rfl) (by kernel_rfl) (by kernel_rfl) (fun _ _ _ h => h) (Or.inl ⟨by rfl, ?_⟩) (by assumption) ?_
    rotate_left
    ·(intro _ h; (try dsimp only at h); go_simp; try with_reducible rfl)
    try simp only [Act.put, qz1, qz2, qz3, qz4, qz5, qz6]
    refine wpAnyH_take (i := 7) (v := ?_) rfl (by kernel_rfl) (by kernel_rfl) (by kernel_rfl) (fun _ _ _ h => h) (Or.inl ⟨by rfl, ?_⟩) (by assumption) ?_
    rotate_left
    ·(intro _ h; (try dsimp only at h); go_simp; try with_reducible rfl)
    try simp only [Act.put, qz1, qz2, qz3, qz4, qz5, qz6]
    refine wpAnyH_take (i := 8) (v := ?_) rfl (by kernel_rfl) (by kernel_rfl) (by kernel_rfl) (fun _ _ _ h => h) (Or.inl ⟨by rfl, ?_⟩) (by assumption) ?_
    rotate_left
    ·(intro _ h; (try dsimp only at h); go_simp; try with_reducible rfl)
    try simp only [Act.put, qz1, qz2, qz3, qz4, qz5, qz6]
    refine wpAnyH_take (i := 9) (v := ?_) rfl (by kernel_rfl) (by kernel_rfl) (by kernel_rfl) (fun _ _ _ h => h) (Or.inl ⟨by rfl, ?_⟩) (by assumption) ?_
    rotate_left
    ·(intro _ h; (try dsimp only at h); go_simp; try with_reducible rfl)
    try simp only [Act.put, qz1, qz2, qz3, qz4, qz5, qz6]
    refine wpAnyH_take (i := 10) (v := ?_) rfl (by kernel_rfl) (by kernel_rfl) (by kernel_rfl) (fun _ _ _ h => h) (Or.inl ⟨by rfl, ?_⟩) (by assumption) ?_
    rotate_left
    ·(intro _ h; (try dsimp only at h); go_simp; try with_reducible rfl)
    try simp only [Act.put, qz1, qz2, qz3, qz4, qz5, qz6]
    refine wpAnyH_ready (rs := [5]) (by kernel_rfl) (by simp) ?_
    refine AllReadyH.cons rfl (fun K hK => ?_) AllReadyH.nil
    go_simp
    refine Calls.mono (below_any pb 9 _ (HBk2_5.out.step (Below.drew (Below.refl yk2_5.heap.size yk2_5)) hpb hlo htb).c (by omega) (by omega)) ?_
    rintro eq wq ⟨xq, rfl, xqa, xqb, cq, gq⟩
    dsimp only
    have HBq : Hid (PB 47 (rcC ms0 (.slice none 0 0) (.slice none 0 0) (.slice none 0 0) (.slice none 0 0)) w wq pb (w.heap.size + 1) tb (.slice ta tn tc) l) := (HBk2_5.out.step (Below.drew (Below.refl yk2_5.heap.size yk2_5)) hpb hlo htb).grow cq gq hpb hlo htb
    have HVq : Hid (VarA wq X 47 (rcC ⟨2, 0, 0, 0, op0, rp0, tx0, ⟨2, ⟨ps, pi, pd⟩, pas, ⟨qs, qi, qd⟩⟩, (xk2_3 * xk2_4), hd0⟩ (.slice none 0 0) (.slice none 0 0) (.slice none 0 0) (.slice uak2_1 unk2_1 uck2_1))) := vo_grow (HVk2_5.out.step (Below.drew (Below.refl yk2_5.heap.size yk2_5))) gq (by omega)
    have HRq : Hid (RdM wq (fun b => X < b ∧ b < wq.heap.size) ⟨2, 0, 0, 0, op0, rp0, tx0, ⟨2, ⟨ps, pi, pd⟩, pas, ⟨qs, qi, qd⟩⟩, (xk2_3 * xk2_4), hd0⟩ (.slice none 0 0) (.slice none 0 0) (.slice none 0 0) (.slice uak2_1 unk2_1 uck2_1)) := rm_grow (rm_turn HRk2_5.out (Turned.ofBelow (S := fun b => False) (Below.drew (Below.refl yk2_5.heap.size yk2_5))) (fun b hb => hb.elim)) gq (by omega)
    have hwq : IntKind.i64.wrap (2 + xq) = 2 + xq := wrapI _ (by omega) (by omega)
    refine hK.out _ _ ⟨HVq.out.c 26 rfl, HVq.out.c 28 rfl⟩ (fun hHeld => ?_)
    clear hK K
    try simp only [Act.put, qz1, qz2, qz3, qz4, qz5, qz6]
    refine wpAnyH_take (i := 6) (v := ?_) rfl (by kernel_rfl) (by kernel_rfl) (by kernel_rfl) (fun _ _ _ h => h) (Or.inl ⟨by rfl, ?_⟩) (by assumption) ?_
    rotate_left
    ·(intro _ h; (try dsimp only at h); go_simp; try with_reducible rfl)
    try simp only [Act.put, qz1, qz2, qz3, qz4, qz5, qz6]
    refine wpAnyH_take (i := 11) (v := ?_) rfl (by kernel_rfl) (by kernel_rfl) (by kernel_rfl) (fun _ _ _ h => h) (Or.inl ⟨by rfl, ?_⟩) (by assumption) ?_
    rotate_left
    ·(intro _ h; (try dsimp only at h); go_simp; try with_reducible rfl)
    try simp only [Act.put, qz1, qz2, qz3, qz4, qz5, qz6]
    refine wpAnyH_take (i := 12) (v := ?_) rfl (by kernel_rfl) (by kernel_rfl) (by kernel_rfl) (fun _ _ _ h => h) (Or.inl ⟨by rfl, ?_⟩) (by assumption) ?_
    rotate_left
    ·(intro _ h; (try dsimp only at h); go_simp; try with_reducible rfl)
    try simp only [Act.put, qz1, qz2, qz3, qz4, qz5, qz6]
    refine wpAnyH_ready (rs := [13]) (by kernel_rfl) (by simp) ?_
    refine AllReadyH.cons rfl (fun K hK => ?_) AllReadyH.nil
    refine step_stF2 HVq.out (by rfl) (by rfl) (by kernel_rfl) rfl (of_decide_eq_true rfl) rfl ?_
    intro wL vL tL
    have HVl : Hid (VarA wL X 47 (rcC ⟨2, 0, 0, 0, op0, rp0, tx0, ⟨2, ⟨ps, pi, pd⟩, pas, ⟨qs, qi, qd⟩⟩, (xk2_3 * xk2_4), (ps, (2 + xq), pd)⟩ (.slice none 0 0) (.slice none 0 0) (.slice none 0 0) (.slice uak2_1 unk2_1 uck2_1))) := vL
    have HBl : Hid (PB 47 (rcC ms0 (.slice none 0 0) (.slice none 0 0) (.slice none 0 0) (.slice none 0 0)) w wL pb (w.heap.size + 1) tb (.slice ta tn tc) l) := HBq.out.put tL hpb (by omega) (Or.inr hX) hlo htb
    have HRl : Hid (RdM wL (fun b => X < b ∧ b < wL.heap.size) ⟨2, 0, 0, 0, op0, rp0, tx0, ⟨2, ⟨ps, pi, pd⟩, pas, ⟨qs, qi, qd⟩⟩, (xk2_3 * xk2_4), (ps, (2 + xq), pd)⟩ (.slice none 0 0) (.slice none 0 0) (.slice none 0 0) (.slice uak2_1 unk2_1 uck2_1)) := rm_turn HRq.out tL (fun b hb => by omega)
    refine hK.out _ _ ⟨HVl.out.c 26 rfl, HVl.out.c 28 rfl⟩ (fun hHeld => ?_)
    clear hK K
    try simp only [Act.put, qz1, qz2, qz3, qz4, qz5, qz6]
    refine wpAnyH_done (by kernel_rfl) (NoPanic.normal ?_) _
    clear hHeld
    go_wp2_with fail
    go_meet
    exact ⟨⟨2, 0, 0, 0, op0, rp0, tx0, ⟨2, ⟨ps, pi, pd⟩, pas, ⟨qs, qi, qd⟩⟩, (xk2_3 * xk2_4), (ps, (2 + xq), pd)⟩, _, _, _, _, _, _, _, _, _, _, _, _, HBl.out, HVl.out, HRl.out, ⟨by simp [op0], by simp [op0], by simp [rp0, szEns], luk2_1⟩, ⟨by show (0 : Int) ≤ 2; omega, by show (2 : Int) ≤ 4; omega⟩⟩
   ·have hob : (pk == 2) = false := by simp [ho]
    go_wp2_with ((with_reducible refine guardStore (ty := 3) ?_); refine wpList_storeG HVk2_4.out rfl rfl rfl (by kernel_rfl) rfl (of_decide_eq_true rfl) rfl ?_; intro yk2_5 vyk2_5 tyk2_5; have HVk2_5 : Hid (VarA yk2_5 X 47 (rcC ⟨2, 0, 0, 0, op0, rp0, tx0, ⟨pk, ⟨ps, pi, pd⟩, pas, ⟨qs, qi, qd⟩⟩, (xk2_3 * xk2_4), hd0⟩ (.slice none 0 0) (.slice none 0 0) (.slice none 0 0) (.slice uak2_1 unk2_1 uck2_1))) := vyk2_5; have HBk2_5 : Hid (PB 47 (rcC ms0 (.slice none 0 0) (.slice none 0 0) (.slice none 0 0) (.slice none 0 0)) w yk2_5 pb (w.heap.size + 1) tb (.slice ta tn tc) l) := HBk2_4.out.put tyk2_5 hpb (by omega) (Or.inr hX) hlo htb; have tt := HBk2_5.out.vT.l1; have HRk2_5 : Hid (RdM yk2_5 (fun b => X < b ∧ b < yk2_5.heap.size) ⟨2, 0, 0, 0, op0, rp0, tx0, ⟨pk, ⟨ps, pi, pd⟩, pas, ⟨qs, qi, qd⟩⟩, (xk2_3 * xk2_4), hd0⟩ (.slice none 0 0) (.slice none 0 0) (.slice none 0 0) (.slice uak2_1 unk2_1 uck2_1)) := rm_turn HRk2_4.out tyk2_5 (fun b hb => by omega); have o25 : yk2_5.cell? ⟨X, 25, none⟩ = some (.int .i64 pk) := HVk2_5.out.c 25 rfl)
    go_meet
    exact ⟨⟨2, 0, 0, 0, op0, rp0, tx0, ⟨pk, ⟨ps, pi, pd⟩, pas, ⟨qs, qi, qd⟩⟩, (xk2_3 * xk2_4), hd0⟩, _, _, _, _, _, _, _, _, _, _, _, _, HBk2_5.out, HVk2_5.out, HRk2_5.out, ⟨by simp [op0], by simp [op0], by simp [rp0, szEns], luk2_1⟩, ⟨by show (0 : Int) ≤ 2; omega, by show (2 : Int) ≤ 4; omega⟩⟩
  ·go_wp2_with fail
   refine Calls.mono (below_any pb 4 _ HB1.out.c (by omega) (by omega)) ?_
   rintro ek3_1 wk3_1 ⟨xk3_1, rfl, xak3_1, xbk3_1, ck3_1, gk3_1⟩
   try clear tt
   have zxk3_1 := HV1.out.lt
   have ztk3_1 := HB1.out.vT.lt
   have HBk3_1 : Hid (PB 47 (rcC ms0 (.slice none 0 0) (.slice none 0 0) (.slice none 0 0) (.slice none 0 0)) w wk3_1 pb (w.heap.size + 1) tb (.slice ta tn tc) l) := HB1.out.grow ck3_1 gk3_1 hpb hlo htb
   have HVk3_1 : Hid (VarA wk3_1 X 47 (rcC ⟨3, 0, 0, 0, op0, rp0, tx0, pt0, 0, hd0⟩ (.slice none 0 0) (.slice none 0 0) (.slice none 0 0) (.slice none 0 0))) := vo_grow HV1.out gk3_1 (by omega)
   have HRk3_1 : Hid (RdM wk3_1 (fun b => X < b ∧ b < wk3_1.heap.size) ⟨3, 0, 0, 0, op0, rp0, tx0, pt0, 0, hd0⟩ (.slice none 0 0) (.slice none 0 0) (.slice none 0 0) (.slice none 0 0)) := rm_grow HR1.out gk3_1 (by omega)
   have tt := HBk3_1.out.vT.l1
   go_wp2_with ((with_reducible refine guardStore (ty := 3) ?_); refine wpList_storeG HVk3_1.out rfl rfl rfl (by kernel_rfl) rfl (of_decide_eq_true rfl) rfl ?_; intro yk3_2 vyk3_2 tyk3_2; have HVk3_2 : Hid (VarA yk3_2 X 47 (rcC ⟨3, xk3_1, 0, 0, op0, rp0, tx0, pt0, 0, hd0⟩ (.slice none 0 0) (.slice none 0 0) (.slice none 0 0) (.slice none 0 0))) := vyk3_2; have HBk3_2 : Hid (PB 47 (rcC ms0 (.slice none 0 0) (.slice none 0 0) (.slice none 0 0) (.slice none 0 0)) w yk3_2 pb (w.heap.size + 1) tb (.slice ta tn tc) l) := HBk3_1.out.put tyk3_2 hpb (by omega) (Or.inr hX) hlo htb; have tt := HBk3_2.out.vT.l1; have HRk3_2 : Hid (RdM yk3_2 (fun b => X < b ∧ b < yk3_2.heap.size) ⟨3, xk3_1, 0, 0, op0, rp0, tx0, pt0, 0, hd0⟩ (.slice none 0 0) (.slice none 0 0) (.slice none 0 0) (.slice none 0 0)) := rm_turn HRk3_1.out tyk3_2 (fun b hb => by omega))
   refine Calls.mono (below_any pb 9 _ HBk3_2.out.c (by omega) (by omega)) ?_
   rintro ek3_3 wk3_3 ⟨xk3_3, rfl, xak3_3, xbk3_3, ck3_3, gk3_3⟩
   try clear tt
   have zxk3_3 := HVk3_2.out.lt
   have ztk3_3 := HBk3_2.out.vT.lt
   have HBk3_3 : Hid (PB 47 (rcC ms0 (.slice none 0 0) (.slice none 0 0) (.slice none 0 0) (.slice none 0 0)) w wk3_3 pb (w.heap.size + 1) tb (.slice ta tn tc) l) := HBk3_2.out.grow ck3_3 gk3_3 hpb hlo htb
   have HVk3_3 : Hid (VarA wk3_3 X 47 (rcC ⟨3, xk3_1, 0, 0, op0, rp0, tx0, pt0, 0, hd0⟩ (.slice none 0 0) (.slice none 0 0) (.slice none 0 0) (.slice none 0 0))) := vo_grow HVk3_2.out gk3_3 (by omega)
   have HRk3_3 : Hid (RdM wk3_3 (fun b => X < b ∧ b < wk3_3.heap.size) ⟨3, xk3_1, 0, 0, op0, rp0, tx0, pt0, 0, hd0⟩ (.slice none 0 0) (.slice none 0 0) (.slice none 0 0) (.slice none 0 0)) := rm_grow HRk3_2.out gk3_3 (by omega)
   have tt := HBk3_3.out.vT.l1
   go_wp2_with ((with_reducible refine guardStore (ty := 3) ?_); refine wpList_storeG HVk3_3.out rfl rfl rfl (by kernel_rfl) rfl (of_decide_eq_true rfl) rfl ?_; intro yk3_4 vyk3_4 tyk3_4; have HVk3_4 : Hid (VarA yk3_4 X 47 (rcC ⟨3, xk3_1, 0, xk3_3, op0, rp0, tx0, pt0, 0, hd0⟩ (.slice none 0 0) (.slice none 0 0) (.slice none 0 0) (.slice none 0 0))) := vyk3_4; have HBk3_4 : Hid (PB 47 (rcC ms0 (.slice none 0 0) (.slice none 0 0) (.slice none 0 0) (.slice none 0 0)) w yk3_4 pb (w.heap.size + 1) tb (.slice ta tn tc) l) := HBk3_3.out.put tyk3_4 hpb (by omega) (Or.inr hX) hlo htb; have tt := HBk3_4.out.vT.l1; have HRk3_4 : Hid (RdM yk3_4 (fun b => X < b ∧ b < yk3_4.heap.size) ⟨3, xk3_1, 0, xk3_3, op0, rp0, tx0, pt0, 0, hd0⟩ (.slice none 0 0) (.slice none 0 0) (.slice none 0 0) (.slice none 0 0)) := rm_turn HRk3_3.out tyk3_4 (fun b hb => by omega))
   refine Calls.mono (HO.out _ HBk3_4.out.c HBk3_4.out.r) ?_
   rintro ek3_5 wk3_5 ⟨⟨ok, ⟨ds, di, dd⟩, nm, ⟨ts, ti, td⟩, asn, ov⟩, oyk3_5, ozk3_5, rfl, hRk3_5, ryk3_5, rzk3_5, ck3_5, gk3_5⟩
   try clear tt
   have zxk3_5 := HVk3_4.out.lt
   have ztk3_5 := HBk3_4.out.vT.lt
   have HBk3_5 : Hid (PB 47 (rcC ms0 (.slice none 0 0) (.slice none 0 0) (.slice none 0 0) (.slice none 0 0)) w wk3_5 pb (w.heap.size + 1) tb (.slice ta tn tc) l) := HBk3_4.out.grow ck3_5 gk3_5 hpb hlo htb
   have HVk3_5 : Hid (VarA wk3_5 X 47 (rcC ⟨3, xk3_1, 0, xk3_3, op0, rp0, tx0, pt0, 0, hd0⟩ (.slice none 0 0) (.slice none 0 0) (.slice none 0 0) (.slice none 0 0))) := vo_grow HVk3_4.out gk3_5 (by omega)
   have HRk3_5 : Hid (RdM wk3_5 (fun b => X < b ∧ b < wk3_5.heap.size) ⟨3, xk3_1, 0, xk3_3, op0, rp0, tx0, pt0, 0, hd0⟩ (.slice none 0 0) (.slice none 0 0) (.slice none 0 0) (.slice none 0 0)) := rm_grow HRk3_4.out gk3_5 (by omega)
   have tt := HBk3_5.out.vT.l1
   obtain ⟨yak3_5, ynk3_5, yck3_5, rfl⟩ := rdB_form ryk3_5
   obtain ⟨qak3_5, qnk3_5, qck3_5, rfl⟩ := rdB_form rzk3_5
   have HNk3_5 : Hid (RdM wk3_5 (fun b => X < b ∧ b < wk3_5.heap.size) ⟨3, xk3_1, 0, xk3_3, ⟨ok, ⟨ds, di, dd⟩, nm, ⟨ts, ti, td⟩, asn, ov⟩, rp0, tx0, pt0, 0, hd0⟩ (.slice yak3_5 ynk3_5 yck3_5) (.slice qak3_5 qnk3_5 qck3_5) (.slice none 0 0) (.slice none 0 0)) := ⟨RdV.mono (fun b hb => ⟨by omega, hb.2⟩) ryk3_5, RdV.mono (fun b hb => ⟨by omega, hb.2⟩) rzk3_5, HRk3_5.out.2.2.1, HRk3_5.out.2.2.2⟩
   clear ryk3_5 rzk3_5
   go_wp2_with ((with_reducible refine guardStore (ty := 26) ?_); refine wpList_storeG HVk3_5.out rfl rfl rfl (by kernel_rfl) rfl (of_decide_eq_true rfl) rfl ?_; intro yk3_6 vyk3_6 tyk3_6; have HVk3_6 : Hid (VarA yk3_6 X 47 (rcC ⟨3, xk3_1, 0, xk3_3, ⟨ok, ⟨ds, di, dd⟩, nm, ⟨ts, ti, td⟩, asn, ov⟩, rp0, tx0, pt0, 0, hd0⟩ (.slice yak3_5 ynk3_5 yck3_5) (.slice qak3_5 qnk3_5 qck3_5) (.slice none 0 0) (.slice none 0 0))) := vyk3_6; have HBk3_6 : Hid (PB 47 (rcC ms0 (.slice none 0 0) (.slice none 0 0) (.slice none 0 0) (.slice none 0 0)) w yk3_6 pb (w.heap.size + 1) tb (.slice ta tn tc) l) := HBk3_5.out.put tyk3_6 hpb (by omega) (Or.inr hX) hlo htb; have tt := HBk3_6.out.vT.l1; have HRk3_6 : Hid (RdM yk3_6 (fun b => X < b ∧ b < yk3_6.heap.size) ⟨3, xk3_1, 0, xk3_3, ⟨ok, ⟨ds, di, dd⟩, nm, ⟨ts, ti, td⟩, asn, ov⟩, rp0, tx0, pt0, 0, hd0⟩ (.slice yak3_5 ynk3_5 yck3_5) (.slice qak3_5 qnk3_5 qck3_5) (.slice none 0 0) (.slice none 0 0)) := rm_turn HNk3_5.out tyk3_6 (fun b hb => by omega))
   refine Calls.mono (below_any pb 3 _ HBk3_6.out.c (by omega) (by omega)) ?_
   rintro ek3_7 wk3_7 ⟨xk3_7, rfl, xak3_7, xbk3_7, ck3_7, gk3_7⟩
   try clear tt
   have zxk3_7 := HVk3_6.out.lt
   have ztk3_7 := HBk3_6.out.vT.lt
   have HBk3_7 : Hid (PB 47 (rcC ms0 (.slice none 0 0) (.slice none 0 0) (.slice none 0 0) (.slice none 0 0)) w wk3_7 pb (w.heap.size + 1) tb (.slice ta tn tc) l) := HBk3_6.out.grow ck3_7 gk3_7 hpb hlo htb
   have HVk3_7 : Hid (VarA wk3_7 X 47 (rcC ⟨3, xk3_1, 0, xk3_3, ⟨ok, ⟨ds, di, dd⟩, nm, ⟨ts, ti, td⟩, asn, ov⟩, rp0, tx0, pt0, 0, hd0⟩ (.slice yak3_5 ynk3_5 yck3_5) (.slice qak3_5 qnk3_5 qck3_5) (.slice none 0 0) (.slice none 0 0))) := vo_grow HVk3_6.out gk3_7 (by omega)
   have HRk3_7 : Hid (RdM wk3_7 (fun b => X < b ∧ b < wk3_7.heap.size) ⟨3, xk3_1, 0, xk3_3, ⟨ok, ⟨ds, di, dd⟩, nm, ⟨ts, ti, td⟩, asn, ov⟩, rp0, tx0, pt0, 0, hd0⟩ (.slice yak3_5 ynk3_5 yck3_5) (.slice qak3_5 qnk3_5 qck3_5) (.slice none 0 0) (.slice none 0 0)) := rm_grow HRk3_6.out gk3_7 (by omega)
   have tt := HBk3_7.out.vT.l1
   go_wp2_with fail
   refine Calls.mono (below_any pb 5 _ HBk3_7.out.c (by omega) (by omega)) ?_
   rintro ek3_8 wk3_8 ⟨xk3_8, rfl, xak3_8, xbk3_8, ck3_8, gk3_8⟩
   try clear tt
   have zxk3_8 := HVk3_7.out.lt
   have ztk3_8 := HBk3_7.out.vT.lt
   have HBk3_8 : Hid (PB 47 (rcC ms0 (.slice none 0 0) (.slice none 0 0) (.slice none 0 0) (.slice none 0 0)) w wk3_8 pb (w.heap.size + 1) tb (.slice ta tn tc) l) := HBk3_7.out.grow ck3_8 gk3_8 hpb hlo htb
   have HVk3_8 : Hid (VarA wk3_8 X 47 (rcC ⟨3, xk3_1, 0, xk3_3, ⟨ok, ⟨ds, di, dd⟩, nm, ⟨ts, ti, td⟩, asn, ov⟩, rp0, tx0, pt0, 0, hd0⟩ (.slice yak3_5 ynk3_5 yck3_5) (.slice qak3_5 qnk3_5 qck3_5) (.slice none 0 0) (.slice none 0 0))) := vo_grow HVk3_7.out gk3_8 (by omega)
   have HRk3_8 : Hid (RdM wk3_8 (fun b => X < b ∧ b < wk3_8.heap.size) ⟨3, xk3_1, 0, xk3_3, ⟨ok, ⟨ds, di, dd⟩, nm, ⟨ts, ti, td⟩, asn, ov⟩, rp0, tx0, pt0, 0, hd0⟩ (.slice yak3_5 ynk3_5 yck3_5) (.slice qak3_5 qnk3_5 qck3_5) (.slice none 0 0) (.slice none 0 0)) := rm_grow HRk3_7.out gk3_8 (by omega)
   have tt := HBk3_8.out.vT.l1
   have hwk3_8 : IntKind.i64.wrap (xk3_7 * xk3_8) = xk3_7 * xk3_8 := mul_small xak3_7 (by omega) xak3_8 (by omega)
   by_cases ho : ok = 4
   ·subst ho
    go_upto_region 11 with ((with_reducible refine guardStore (ty := 3) ?_); refine wpList_storeG HVk3_8.out rfl rfl rfl (by kernel_rfl) rfl (of_decide_eq_true rfl) rfl ?_; intro yk3_9 vyk3_9 tyk3_9; have HVk3_9 : Hid (VarA yk3_9 X 47 (rcC ⟨3, xk3_1, 0, xk3_3, ⟨4, ⟨ds, di, dd⟩, nm, ⟨ts, ti, td⟩, asn, ov⟩, ⟨(xk3_7 * xk3_8), hd0, 0, []⟩, tx0, pt0, 0, hd0⟩ (.slice yak3_5 ynk3_5 yck3_5) (.slice qak3_5 qnk3_5 qck3_5) (.slice none 0 0) (.slice none 0 0))) := vyk3_9; have HBk3_9 : Hid (PB 47 (rcC ms0 (.slice none 0 0) (.slice none 0 0) (.slice none 0 0) (.slice none 0 0)) w yk3_9 pb (w.heap.size + 1) tb (.slice ta tn tc) l) := HBk3_8.out.put tyk3_9 hpb (by omega) (Or.inr hX) hlo htb; have tt := HBk3_9.out.vT.l1; have HRk3_9 : Hid (RdM yk3_9 (fun b => X < b ∧ b < yk3_9.heap.size) ⟨3, xk3_1, 0, xk3_3, ⟨4, ⟨ds, di, dd⟩, nm, ⟨ts, ti, td⟩, asn, ov⟩, ⟨(xk3_7 * xk3_8), hd0, 0, []⟩, tx0, pt0, 0, hd0⟩ (.slice yak3_5 ynk3_5 yck3_5) (.slice qak3_5 qnk3_5 qck3_5) (.slice none 0 0) (.slice none 0 0)) := rm_turn HRk3_8.out tyk3_9 (fun b hb => by omega); have o3 : yk3_9.cell? ⟨X, 3, none⟩ = some (.int .i64 4) := HVk3_9.out.c 3 rfl)
    clear o3 tt
    refine wp_region_noPanic ?_
    refine wp_region_held_drew (S := fun W => W.cell? ⟨X, 8, none⟩ = some (.int .i64 ts) ∧ W.cell? ⟨X, 10, none⟩ = some (.bool td)) (by kernel_rfl) ⟨HVk3_9.out.c 8 rfl, HVk3_9.out.c 10 rfl⟩ (fun hHeld => ?_)
    refine wpAnyH_take (i := 0) (v := ?_) rfl (by kernel_rfl) (by kernel_rfl) (by kernel_rfl) (fun _ _ _ h => h) (Or.inl ⟨by rfl, ?_⟩) (by assumption) ?_
    rotate_left
    ·(intro _ h; (try dsimp only at h); go_simp; try with_reducible rfl)
    try simp only [Act.put, qz1, qz2, qz3, qz4, qz5, qz6]
    refine wpAnyH_take (i := 1) (v := ?_) rfl (by kernel_rfl) (by kernel_rfl) (by kernel_rfl) (fun _ _ _ h => h) (Or.inl ⟨by rfl, ?_⟩) (by assumption) ?_
    rotate_left
    ·(intro _ h; (try dsimp only at h); go_simp; try with_reducible rfl)
    try simp only [Act.put, qz1, qz2, qz3, qz4, qz5, qz6]
    refine wpAnyH_take (i := 2) (v := ?_) rfl (by kernel_rfl) (by kernel_rfl) (by kernel_rfl) (fun _ _ _ h => h) (Or.inl ⟨by rfl, ?_⟩) (by assumption) ?_
    rotate_left
    ·(intro _ h; (try dsimp only at h); go_simp; try with_reducible rfl)
    try simp only [Act.put, qz1, qz2, qz3, qz4, qz5, qz6]
    refine wpAnyH_take (i := 3) (v := ?_) rfl (by kernel_rfl) (by kernel_rfl) (by kernel_rfl) (fun _ _ _ h => h) (Or.inl ⟨by rfl, ?_⟩) (by assumption) ?_
    rotate_left
    ·(intro _ h; (try dsimp only at h); go_simp; try with_reducible rfl)
    try simp only [Act.put, qz1, qz2, qz3, qz4, qz5, qz6]
    refine wpAnyH_take (i := 4) (v := ?_) rfl (by kernel_rfl) (by kernel_rfl) (by kernel_rfl) (fun _ _ _ h => h) (Or.inl ⟨by rfl, ?_⟩) (by assumption) ?_
    rotate_left
    ·(intro _ h; (try dsimp only at h); go_simp; try with_reducible rfl)
    try simp only [Act.put, qz1, qz2, qz3, qz4, qz5, qz6]
    refine wpAnyH_take (i := 7) (v := ?_) rfl (by kernel_rfl) (by kernel_rfl) (by kernel_rfl) (fun _ _ _ h => h) (Or.inl ⟨by rfl, ?_⟩) (by assumption) ?_
    rotate_left
    ·(intro _ h; (try dsimp only at h); go_simp; try with_reducible rfl)
    try simp only [Act.put, qz1, qz2, qz3, qz4, qz5, qz6]
    refine wpAnyH_take (i := 8) (v := ?_) rfl (by kernel_rfl) (by kernel_rfl) (by kernel_rfl) (fun _ _ _ h => h) (Or.inl ⟨by rfl, ?_⟩) (by assumption) ?_
    rotate_left
    ·(intro _ h; (try dsimp only at h); go_simp; try with_reducible rfl)
    try simp only [Act.put, qz1, qz2, qz3, qz4, qz5, qz6]
    refine wpAnyH_take (i := 9) (v := ?_) rfl (by kernel_rfl) (by kernel_rfl) (by kernel_rfl) (fun _ _ _ h => h) (Or.inl ⟨by rfl, ?_⟩) (by assumption) ?_
    rotate_left
    ·(intro _ h; (try dsimp only at h); go_simp; try with_reducible rfl)
    try simp only [Act.put, qz1, qz2, qz3, qz4, qz5, qz6]
    refine wpAnyH_take (i := 10) (v := ?_) rfl (by kernel_rfl) (by kernel_rfl) (by kernel_rfl) (fun _ _ _ h => h) (Or.inl ⟨by rfl, ?_⟩) (by assumption) ?_
    rotate_left
    ·(intro _ h; (try dsimp only at h); go_simp; try with_reducible rfl)
    try simp only [Act.put, qz1, qz2, qz3, qz4, qz5, qz6]
    refine wpAnyH_ready (rs := [5]) (by kernel_rfl) (by simp) ?_
    refine AllReadyH.cons rfl (fun K hK => ?_) AllReadyH.nil
    go_simp
    refine Calls.mono (below_any pb 9 _ (HBk3_9.out.step (Below.drew (Below.refl yk3_9.heap.size yk3_9)) hpb hlo htb).c (by omega) (by omega)) ?_
    rintro eq wq ⟨xq, rfl, xqa, xqb, cq, gq⟩
    dsimp only
    have HBq : Hid (PB 47 (rcC ms0 (.slice none 0 0) (.slice none 0 0) (.slice none 0 0) (.slice none 0 0)) w wq pb (w.heap.size + 1) tb (.slice ta tn tc) l) := (HBk3_9.out.step (Below.drew (Below.refl yk3_9.heap.size yk3_9)) hpb hlo htb).grow cq gq hpb hlo htb
    have HVq : Hid (VarA wq X 47 (rcC ⟨3, xk3_1, 0, xk3_3, ⟨4, ⟨ds, di, dd⟩, nm, ⟨ts, ti, td⟩, asn, ov⟩, ⟨(xk3_7 * xk3_8), hd0, 0, []⟩, tx0, pt0, 0, hd0⟩ (.slice yak3_5 ynk3_5 yck3_5) (.slice qak3_5 qnk3_5 qck3_5) (.slice none 0 0) (.slice none 0 0))) := vo_grow (HVk3_9.out.step (Below.drew (Below.refl yk3_9.heap.size yk3_9))) gq (by omega)
    have HRq : Hid (RdM wq (fun b => X < b ∧ b < wq.heap.size) ⟨3, xk3_1, 0, xk3_3, ⟨4, ⟨ds, di, dd⟩, nm, ⟨ts, ti, td⟩, asn, ov⟩, ⟨(xk3_7 * xk3_8), hd0, 0, []⟩, tx0, pt0, 0, hd0⟩ (.slice yak3_5 ynk3_5 yck3_5) (.slice qak3_5 qnk3_5 qck3_5) (.slice none 0 0) (.slice none 0 0)) := rm_grow (rm_turn HRk3_9.out (Turned.ofBelow (S := fun b => False) (Below.drew (Below.refl yk3_9.heap.size yk3_9))) (fun b hb => hb.elim)) gq (by omega)
    have hwq : IntKind.i64.wrap (2 + xq) = 2 + xq := wrapI _ (by omega) (by omega)
    refine hK.out _ _ ⟨HVq.out.c 8 rfl, HVq.out.c 10 rfl⟩ (fun hHeld => ?_)
    clear hK K
    try simp only [Act.put, qz1, qz2, qz3, qz4, qz5, qz6]
    refine wpAnyH_take (i := 6) (v := ?_) rfl (by kernel_rfl) (by kernel_rfl) (by kernel_rfl) (fun _ _ _ h => h) (Or.inl ⟨by rfl, ?_⟩) (by assumption) ?_
    rotate_left
    ·(intro _ h; (try dsimp only at h); go_simp; try with_reducible rfl)
    try simp only [Act.put, qz1, qz2, qz3, qz4, qz5, qz6]
    refine wpAnyH_take (i := 11) (v := ?_) rfl (by kernel_rfl) (by kernel_rfl) (by kernel_rfl) (fun _ _ _ h => h) (Or.inl ⟨by rfl, ?_⟩) (by assumption) ?_
    rotate_left
    ·(intro _ h; (try dsimp only at h); go_simp; try with_reducible rfl)
    try simp only [Act.put, qz1, qz2, qz3, qz4, qz5, qz6]
    refine wpAnyH_take (i := 12) (v := ?_) rfl (by kernel_rfl) (by kernel_rfl) (by kernel_rfl) (fun _ _ _ h => h) (Or.inl ⟨by rfl, ?_⟩) (by assumption) ?_
    rotate_left
    ·(intro _ h; (try dsimp only at h); go_simp; try with_reducible rfl)
    try simp only [Act.put, qz1, qz2, qz3, qz4, qz5, qz6]
    refine wpAnyH_take (i := 13) (v := ?_) rfl (by kernel_rfl) (by kernel_rfl) (by kernel_rfl) (fun _ _ _ h => h) (Or.inl ⟨by rfl, ?_⟩) (by assumption) ?_
    rotate_left
    ·(intro _ h; (try dsimp only at h); go_simp; try with_reducible rfl)
    try simp only [Act.put, qz1, qz2, qz3, qz4, qz5, qz6]
    refine wpAnyH_ready (rs := [14]) (by kernel_rfl) (by simp) ?_
    refine AllReadyH.cons rfl (fun K hK => ?_) AllReadyH.nil
    refine step_stF2 HVq.out (by rfl) (by rfl) (by kernel_rfl) rfl (of_decide_eq_true rfl) rfl ?_
    intro wL vL tL
    have HVl : Hid (VarA wL X 47 (rcC ⟨3, xk3_1, 0, xk3_3, ⟨4, ⟨ds, di, dd⟩, nm, ⟨ts, ti, td⟩, asn, ov⟩, ⟨(xk3_7 * xk3_8), (ts, (2 + xq), td), 0, []⟩, tx0, pt0, 0, hd0⟩ (.slice yak3_5 ynk3_5 yck3_5) (.slice qak3_5 qnk3_5 qck3_5) (.slice none 0 0) (.slice none 0 0))) := vL
    have HBl : Hid (PB 47 (rcC ms0 (.slice none 0 0) (.slice none 0 0) (.slice none 0 0) (.slice none 0 0)) w wL pb (w.heap.size + 1) tb (.slice ta tn tc) l) := HBq.out.put tL hpb (by omega) (Or.inr hX) hlo htb
    have HRl : Hid (RdM wL (fun b => X < b ∧ b < wL.heap.size) ⟨3, xk3_1, 0, xk3_3, ⟨4, ⟨ds, di, dd⟩, nm, ⟨ts, ti, td⟩, asn, ov⟩, ⟨(xk3_7 * xk3_8), (ts, (2 + xq), td), 0, []⟩, tx0, pt0, 0, hd0⟩ (.slice yak3_5 ynk3_5 yck3_5) (.slice qak3_5 qnk3_5 qck3_5) (.slice none 0 0) (.slice none 0 0)) := rm_turn HRq.out tL (fun b hb => by omega)
    refine hK.out _ _ ⟨HVl.out.c 8 rfl, HVl.out.c 10 rfl⟩ (fun hHeld => ?_)
    clear hK K
    try simp only [Act.put, qz1, qz2, qz3, qz4, qz5, qz6]
    refine wpAnyH_done (by kernel_rfl) (NoPanic.normal ?_) _
    clear hHeld
    have o0 : wL.cell? ⟨X, 0, none⟩ = some (.int .i64 3) := HVl.out.c 0 rfl
    go_wp2_with fail
    go_meet
    exact ⟨⟨3, xk3_1, 0, xk3_3, ⟨4, ⟨ds, di, dd⟩, nm, ⟨ts, ti, td⟩, asn, ov⟩, ⟨(xk3_7 * xk3_8), (ts, (2 + xq), td), 0, []⟩, tx0, pt0, 0, hd0⟩, _, _, _, _, _, _, _, _, _, _, _, _, HBl.out, HVl.out, HRl.out, ⟨Nat.le_trans hRk3_5.n (by decide), Nat.le_trans hRk3_5.a (by decide), by simp [rp0, szEns], by simp [pt0]⟩, ⟨by show (0 : Int) ≤ 3; omega, by show (3 : Int) ≤ 4; omega⟩⟩
   ·have hob : (ok == 4) = false := by simp [ho]
    go_wp2_with ((with_reducible refine guardStore (ty := 3) ?_); refine wpList_storeG HVk3_8.out rfl rfl rfl (by kernel_rfl) rfl (of_decide_eq_true rfl) rfl ?_; intro yk3_9 vyk3_9 tyk3_9; have HVk3_9 : Hid (VarA yk3_9 X 47 (rcC ⟨3, xk3_1, 0, xk3_3, ⟨ok, ⟨ds, di, dd⟩, nm, ⟨ts, ti, td⟩, asn, ov⟩, ⟨(xk3_7 * xk3_8), hd0, 0, []⟩, tx0, pt0, 0, hd0⟩ (.slice yak3_5 ynk3_5 yck3_5) (.slice qak3_5 qnk3_5 qck3_5) (.slice none 0 0) (.slice none 0 0))) := vyk3_9; have HBk3_9 : Hid (PB 47 (rcC ms0 (.slice none 0 0) (.slice none 0 0) (.slice none 0 0) (.slice none 0 0)) w yk3_9 pb (w.heap.size + 1) tb (.slice ta tn tc) l) := HBk3_8.out.put tyk3_9 hpb (by omega) (Or.inr hX) hlo htb; have tt := HBk3_9.out.vT.l1; have HRk3_9 : Hid (RdM yk3_9 (fun b => X < b ∧ b < yk3_9.heap.size) ⟨3, xk3_1, 0, xk3_3, ⟨ok, ⟨ds, di, dd⟩, nm, ⟨ts, ti, td⟩, asn, ov⟩, ⟨(xk3_7 * xk3_8), hd0, 0, []⟩, tx0, pt0, 0, hd0⟩ (.slice yak3_5 ynk3_5 yck3_5) (.slice qak3_5 qnk3_5 qck3_5) (.slice none 0 0) (.slice none 0 0)) := rm_turn HRk3_8.out tyk3_9 (fun b hb => by omega); have o3 : yk3_9.cell? ⟨X, 3, none⟩ = some (.int .i64 ok) := HVk3_9.out.c 3 rfl)
    go_meet
    exact ⟨⟨3, xk3_1, 0, xk3_3, ⟨ok, ⟨ds, di, dd⟩, nm, ⟨ts, ti, td⟩, asn, ov⟩, ⟨(xk3_7 * xk3_8), hd0, 0, []⟩, tx0, pt0, 0, hd0⟩, _, _, _, _, _, _, _, _, _, _, _, _, HBk3_9.out, HVk3_9.out, HRk3_9.out, ⟨Nat.le_trans hRk3_5.n (by decide), Nat.le_trans hRk3_5.a (by decide), by simp [rp0, szEns], by simp [pt0]⟩, ⟨by show (0 : Int) ≤ 3; omega, by show (3 : Int) ≤ 4; omega⟩⟩
  ·go_wp2_with fail
   go_meet
   exact ⟨⟨4, 0, 0, 0, op0, rp0, tx0, pt0, 0, hd0⟩, _, _, _, _, _, _, _, _, _, _, _, _, HB1.out, HV1.out, HR1.out, ⟨by simp [op0], by simp [op0], by simp [rp0, szEns], by simp [pt0]⟩, ⟨by show (0 : Int) ≤ 4; omega, by show (4 : Int) ≤ 4; omega⟩⟩
 case rest =>
  clear tt hk0 hk1
  rename World => wd
  obtain ⟨⟨kd, fr, tq, rq, o, r, t, p, cd, h⟩, a1, n1, c1, a2, n2, c2, a3, n3, c3, a4, n4, c4, B, vP, rm, ⟨hz0, hz1, hz2, hz3⟩, hq⟩ := hcut
  have HB2 : Hid (PB 47 (rcC ms0 (.slice none 0 0) (.slice none 0 0) (.slice none 0 0) (.slice none 0 0)) w wd pb (w.heap.size + 1) tb (.slice ta tn tc) l) := B
  have HV2 : Hid (VarA wd X 47 (rcC ⟨kd, fr, tq, rq, o, r, t, p, cd, h⟩ (.slice a1 n1 c1) (.slice a2 n2 c2) (.slice a3 n3 c3) (.slice a4 n4 c4))) := vP
  have HR2 : Hid (RdM wd (fun b => X < b ∧ b < wd.heap.size) ⟨kd, fr, tq, rq, o, r, t, p, cd, h⟩ (.slice a1 n1 c1) (.slice a2 n2 c2) (.slice a3 n3 c3) (.slice a4 n4 c4)) := rm
  clear B vP rm
  have hq0 : 0 ≤ kd := hq.1
  have hq1 : kd ≤ 4 := hq.2
  clear hq
  have tt := HB2.out.vT.l1
  have o0 : wd.cell? ⟨X, 0, none⟩ = some (.int .i64 kd) := HV2.out.c 0 rfl
  go_upto_if 87 with fail
  go_cut [] from 85 (fun wx => RS6 w pb X tb (.slice ta tn tc) l (fun k => 0 ≤ k ∧ k ≤ 4) wx)
  case first =>
   by_cases hk : kd ≥ 2
   ·go_wp2_with fail
    refine Calls.mono (below_any pb 2 _ HB2.out.c (by omega) (by omega)) ?_
    rintro ec_1 wc_1 ⟨xc_1, rfl, xac_1, xbc_1, cc_1, gc_1⟩
    try clear tt
    try clear o0
    have zxc_1 := HV2.out.lt
    have ztc_1 := HB2.out.vT.lt
    have HBc_1 : Hid (PB 47 (rcC ms0 (.slice none 0 0) (.slice none 0 0) (.slice none 0 0) (.slice none 0 0)) w wc_1 pb (w.heap.size + 1) tb (.slice ta tn tc) l) := HB2.out.grow cc_1 gc_1 hpb hlo htb
    have HVc_1 : Hid (VarA wc_1 X 47 (rcC ⟨kd, fr, tq, rq, o, r, t, p, cd, h⟩ (.slice a1 n1 c1) (.slice a2 n2 c2) (.slice a3 n3 c3) (.slice a4 n4 c4))) := vo_grow HV2.out gc_1 (by omega)
    have HRc_1 : Hid (RdM wc_1 (fun b => X < b ∧ b < wc_1.heap.size) ⟨kd, fr, tq, rq, o, r, t, p, cd, h⟩ (.slice a1 n1 c1) (.slice a2 n2 c2) (.slice a3 n3 c3) (.slice a4 n4 c4)) := rm_grow HR2.out gc_1 (by omega)
    have tt := HBc_1.out.vT.l1
    have o0 : wc_1.cell? ⟨X, 0, none⟩ = some (.int .i64 kd) := HVc_1.out.c 0 rfl
    go_wp2_with fail
    refine Calls.mono (below_any pb 3 _ HBc_1.out.c (by omega) (by omega)) ?_
    rintro ec_2 wc_2 ⟨xc_2, rfl, xac_2, xbc_2, cc_2, gc_2⟩
    try clear tt
    try clear o0
    have zxc_2 := HVc_1.out.lt
    have ztc_2 := HBc_1.out.vT.lt
    have HBc_2 : Hid (PB 47 (rcC ms0 (.slice none 0 0) (.slice none 0 0) (.slice none 0 0) (.slice none 0 0)) w wc_2 pb (w.heap.size + 1) tb (.slice ta tn tc) l) := HBc_1.out.grow cc_2 gc_2 hpb hlo htb
    have HVc_2 : Hid (VarA wc_2 X 47 (rcC ⟨kd, fr, tq, rq, o, r, t, p, cd, h⟩ (.slice a1 n1 c1) (.slice a2 n2 c2) (.slice a3 n3 c3) (.slice a4 n4 c4))) := vo_grow HVc_1.out gc_2 (by omega)
    have HRc_2 : Hid (RdM wc_2 (fun b => X < b ∧ b < wc_2.heap.size) ⟨kd, fr, tq, rq, o, r, t, p, cd, h⟩ (.slice a1 n1 c1) (.slice a2 n2 c2) (.slice a3 n3 c3) (.slice a4 n4 c4)) := rm_grow HRc_1.out gc_2 (by omega)
    have tt := HBc_2.out.vT.l1
    have o0 : wc_2.cell? ⟨X, 0, none⟩ = some (.int .i64 kd) := HVc_2.out.c 0 rfl
    go_wp2_with ((with_reducible refine guardStore (ty := 31) ?_); refine wpList_storeG HVc_2.out rfl rfl rfl (by kernel_rfl) rfl (of_decide_eq_true rfl) rfl ?_; intro yc_3 vyc_3 tyc_3; have HVc_3 : Hid (VarA yc_3 X 47 (rcC ⟨kd, fr, tq, rq, o, r, (xc_1, 0, xc_2), p, cd, h⟩ (.slice a1 n1 c1) (.slice a2 n2 c2) (.slice a3 n3 c3) (.slice a4 n4 c4))) := vyc_3; have HBc_3 : Hid (PB 47 (rcC ms0 (.slice none 0 0) (.slice none 0 0) (.slice none 0 0) (.slice none 0 0)) w yc_3 pb (w.heap.size + 1) tb (.slice ta tn tc) l) := HBc_2.out.put tyc_3 hpb (by omega) (Or.inr hX) hlo htb; have tt := HBc_3.out.vT.l1; have HRc_3 : Hid (RdM yc_3 (fun b => X < b ∧ b < yc_3.heap.size) ⟨kd, fr, tq, rq, o, r, (xc_1, 0, xc_2), p, cd, h⟩ (.slice a1 n1 c1) (.slice a2 n2 c2) (.slice a3 n3 c3) (.slice a4 n4 c4)) := rm_turn HRc_2.out tyc_3 (fun b hb => by omega); have o0 : yc_3.cell? ⟨X, 0, none⟩ = some (.int .i64 kd) := HVc_3.out.c 0 rfl)
    go_meet
    exact ⟨⟨kd, fr, tq, rq, o, r, (xc_1, 0, xc_2), p, cd, h⟩, _, _, _, _, _, _, _, _, _, _, _, _, HBc_3.out, HVc_3.out, HRc_3.out, ⟨hz0, hz1, hz2, hz3⟩, ⟨hq0, hq1⟩⟩
   ·go_wp2_with fail
    go_meet
    exact ⟨⟨kd, fr, tq, rq, o, r, t, p, cd, h⟩, _, _, _, _, _, _, _, _, _, _, _, _, HB2.out, HV2.out, HR2.out, ⟨hz0, hz1, hz2, hz3⟩, ⟨hq0, hq1⟩⟩
  case rest =>
   clear tt o0 hq0 hq1
   rename World => wd
   obtain ⟨⟨kd, fr, tq, rq, o, r, t, p, cd, h⟩, a1, n1, c1, a2, n2, c2, a3, n3, c3, a4, n4, c4, B, vP, rm, ⟨hz0, hz1, hz2, hz3⟩, hq⟩ := hcut
   have HB3 : Hid (PB 47 (rcC ms0 (.slice none 0 0) (.slice none 0 0) (.slice none 0 0) (.slice none 0 0)) w wd pb (w.heap.size + 1) tb (.slice ta tn tc) l) := B
   have HV3 : Hid (VarA wd X 47 (rcC ⟨kd, fr, tq, rq, o, r, t, p, cd, h⟩ (.slice a1 n1 c1) (.slice a2 n2 c2) (.slice a3 n3 c3) (.slice a4 n4 c4))) := vP
   have HR3 : Hid (RdM wd (fun b => X < b ∧ b < wd.heap.size) ⟨kd, fr, tq, rq, o, r, t, p, cd, h⟩ (.slice a1 n1 c1) (.slice a2 n2 c2) (.slice a3 n3 c3) (.slice a4 n4 c4)) := rm
   clear B vP rm
   have hq0 : 0 ≤ kd := hq.1
   have hq1 : kd ≤ 4 := hq.2
   clear hq
   have tt := HB3.out.vT.l1
   have o0 : wd.cell? ⟨X, 0, none⟩ = some (.int .i64 kd) := HV3.out.c 0 rfl
   go_upto_if 96 with fail
   go_cut [] from 94 (fun wx => RS6 w pb X tb (.slice ta tn tc) l (fun k => True) wx)
   case first =>
    by_cases hk : kd ≥ 3
    ·go_wp2_with fail
     refine Calls.mono (below_any pb 2 _ HB3.out.c (by omega) (by omega)) ?_
     rintro ed_1 wd_1 ⟨xd_1, rfl, xad_1, xbd_1, cd_1, gd_1⟩
     try clear tt
     try clear o0
     have zxd_1 := HV3.out.lt
     have ztd_1 := HB3.out.vT.lt
     have HBd_1 : Hid (PB 47 (rcC ms0 (.slice none 0 0) (.slice none 0 0) (.slice none 0 0) (.slice none 0 0)) w wd_1 pb (w.heap.size + 1) tb (.slice ta tn tc) l) := HB3.out.grow cd_1 gd_1 hpb hlo htb
     have HVd_1 : Hid (VarA wd_1 X 47 (rcC ⟨kd, fr, tq, rq, o, r, t, p, cd, h⟩ (.slice a1 n1 c1) (.slice a2 n2 c2) (.slice a3 n3 c3) (.slice a4 n4 c4))) := vo_grow HV3.out gd_1 (by omega)
     have HRd_1 : Hid (RdM wd_1 (fun b => X < b ∧ b < wd_1.heap.size) ⟨kd, fr, tq, rq, o, r, t, p, cd, h⟩ (.slice a1 n1 c1) (.slice a2 n2 c2) (.slice a3 n3 c3) (.slice a4 n4 c4)) := rm_grow HR3.out gd_1 (by omega)
     have tt := HBd_1.out.vT.l1
     have o0 : wd_1.cell? ⟨X, 0, none⟩ = some (.int .i64 kd) := HVd_1.out.c 0 rfl
     go_wp2_with ((with_reducible refine guardStore (ty := 3) ?_); refine wpList_storeG HVd_1.out rfl rfl rfl (by kernel_rfl) rfl (of_decide_eq_true rfl) rfl ?_; intro yd_2 vyd_2 tyd_2; have HVd_2 : Hid (VarA yd_2 X 47 (rcC ⟨kd, fr, tq, rq, o, r, t, p, xd_1, h⟩ (.slice a1 n1 c1) (.slice a2 n2 c2) (.slice a3 n3 c3) (.slice a4 n4 c4))) := vyd_2; have HBd_2 : Hid (PB 47 (rcC ms0 (.slice none 0 0) (.slice none 0 0) (.slice none 0 0) (.slice none 0 0)) w yd_2 pb (w.heap.size + 1) tb (.slice ta tn tc) l) := HBd_1.out.put tyd_2 hpb (by omega) (Or.inr hX) hlo htb; have tt := HBd_2.out.vT.l1; have HRd_2 : Hid (RdM yd_2 (fun b => X < b ∧ b < yd_2.heap.size) ⟨kd, fr, tq, rq, o, r, t, p, xd_1, h⟩ (.slice a1 n1 c1) (.slice a2 n2 c2) (.slice a3 n3 c3) (.slice a4 n4 c4)) := rm_turn HRd_1.out tyd_2 (fun b hb => by omega); have o0 : yd_2.cell? ⟨X, 0, none⟩ = some (.int .i64 kd) := HVd_2.out.c 0 rfl)
     go_meet
     exact ⟨⟨kd, fr, tq, rq, o, r, t, p, xd_1, h⟩, _, _, _, _, _, _, _, _, _, _, _, _, HBd_2.out, HVd_2.out, HRd_2.out, ⟨hz0, hz1, hz2, hz3⟩, trivial⟩
    ·go_wp2_with fail
     go_meet
     exact ⟨⟨kd, fr, tq, rq, o, r, t, p, cd, h⟩, _, _, _, _, _, _, _, _, _, _, _, _, HB3.out, HV3.out, HR3.out, ⟨hz0, hz1, hz2, hz3⟩, trivial⟩
   case rest =>
    clear tt o0 hq0 hq1
    rename World => wd
    obtain ⟨⟨kd, fr, tq, rq, o, r, t, p, cd, h⟩, a1, n1, c1, a2, n2, c2, a3, n3, c3, a4, n4, c4, B, vP, rm, ⟨hz0, hz1, hz2, hz3⟩, hq⟩ := hcut
    have HB4 : Hid (PB 47 (rcC ms0 (.slice none 0 0) (.slice none 0 0) (.slice none 0 0) (.slice none 0 0)) w wd pb (w.heap.size + 1) tb (.slice ta tn tc) l) := B
    have HV4 : Hid (VarA wd X 47 (rcC ⟨kd, fr, tq, rq, o, r, t, p, cd, h⟩ (.slice a1 n1 c1) (.slice a2 n2 c2) (.slice a3 n3 c3) (.slice a4 n4 c4))) := vP
    have HR4 : Hid (RdM wd (fun b => X < b ∧ b < wd.heap.size) ⟨kd, fr, tq, rq, o, r, t, p, cd, h⟩ (.slice a1 n1 c1) (.slice a2 n2 c2) (.slice a3 n3 c3) (.slice a4 n4 c4)) := rm
    clear B vP rm
    clear hq
    have tt := HB4.out.vT.l1
    go_wp2_with fail
    refine Calls.mono (once_any pb 20 _ HB4.out.c (by omega) (by omega)) ?_
    rintro ee_1 we_1 ⟨be_1, rfl, ce_1, ge_1⟩
    try clear tt
    have zxe_1 := HV4.out.lt
    have zte_1 := HB4.out.vT.lt
    have HBe_1 : Hid (PB 47 (rcC ms0 (.slice none 0 0) (.slice none 0 0) (.slice none 0 0) (.slice none 0 0)) w we_1 pb (w.heap.size + 1) tb (.slice ta tn tc) l) := HB4.out.grow ce_1 ge_1 hpb hlo htb
    have HVe_1 : Hid (VarA we_1 X 47 (rcC ⟨kd, fr, tq, rq, o, r, t, p, cd, h⟩ (.slice a1 n1 c1) (.slice a2 n2 c2) (.slice a3 n3 c3) (.slice a4 n4 c4))) := vo_grow HV4.out ge_1 (by omega)
    have HRe_1 : Hid (RdM we_1 (fun b => X < b ∧ b < we_1.heap.size) ⟨kd, fr, tq, rq, o, r, t, p, cd, h⟩ (.slice a1 n1 c1) (.slice a2 n2 c2) (.slice a3 n3 c3) (.slice a4 n4 c4)) := rm_grow HR4.out ge_1 (by omega)
    have tt := HBe_1.out.vT.l1
    cases be_1 with
    | false =>
     clear tt
     go_wp2_with (first | ((with_reducible refine guardStore (ty := 47) ?_); refine wpList_storeF HBe_1.out.vR rfl rfl (by kernel_rfl) rfl (of_decide_eq_true rfl) rfl ?_; intro wz vZ t_) | ((with_reducible refine guardLoad (ty := 47) ?_); refine wpList_loadA HVe_1.out rfl Tryz.underlying47 rfl (by kernel_rfl) ?_))
     refine bodyPost_ret (results_cell_row Tryz.results75 _ _ _ _ _ _ _ rfl vZ Tryz.underlying47 rfl (by kernel_rfl)) rfl ?_
     exact ⟨⟨kd, fr, tq, rq, o, r, t, p, cd, h⟩, _, _, _, _, _, _, _, _, _, _, _, _, rfl, rm_end HRe_1.out t_ (by omega) (by omega), ⟨hz0, hz1, hz2, hz3⟩, cur_keep HBe_1.out.c t_ (by omega), grown_keep HBe_1.out.g t_ (by omega)⟩
    | true =>
     go_wp2_with fail
     refine Calls.mono (below_any pb 6 _ HBe_1.out.c (by omega) (by omega)) ?_
     rintro ee_2 we_2 ⟨xe_2, rfl, xae_2, xbe_2, ce_2, ge_2⟩
     try clear tt
     have zxe_2 := HVe_1.out.lt
     have zte_2 := HBe_1.out.vT.lt
     have HBe_2 : Hid (PB 47 (rcC ms0 (.slice none 0 0) (.slice none 0 0) (.slice none 0 0) (.slice none 0 0)) w we_2 pb (w.heap.size + 1) tb (.slice ta tn tc) l) := HBe_1.out.grow ce_2 ge_2 hpb hlo htb
     have HVe_2 : Hid (VarA we_2 X 47 (rcC ⟨kd, fr, tq, rq, o, r, t, p, cd, h⟩ (.slice a1 n1 c1) (.slice a2 n2 c2) (.slice a3 n3 c3) (.slice a4 n4 c4))) := vo_grow HVe_1.out ge_2 (by omega)
     have HRe_2 : Hid (RdM we_2 (fun b => X < b ∧ b < we_2.heap.size) ⟨kd, fr, tq, rq, o, r, t, p, cd, h⟩ (.slice a1 n1 c1) (.slice a2 n2 c2) (.slice a3 n3 c3) (.slice a4 n4 c4)) := rm_grow HRe_1.out ge_2 (by omega)
     have tt := HBe_2.out.vT.l1
     have hx : xe_2 = 0 ∨ xe_2 = 1 ∨ xe_2 = 2 ∨ xe_2 = 3 ∨ xe_2 = 4 ∨ xe_2 = 5 := by omega
     rcases hx with rfl | rfl | rfl | rfl | rfl | rfl
     ·go_wp2_with fail
      refine Calls.mono (below_any pb 7 _ HBe_2.out.c (by omega) (by omega)) ?_
      rintro et0_3 wt0_3 ⟨xt0_3, rfl, xat0_3, xbt0_3, ct0_3, gt0_3⟩
      try clear tt
      have zxt0_3 := HVe_2.out.lt
      have ztt0_3 := HBe_2.out.vT.lt
      have HBt0_3 : Hid (PB 47 (rcC ms0 (.slice none 0 0) (.slice none 0 0) (.slice none 0 0) (.slice none 0 0)) w wt0_3 pb (w.heap.size + 1) tb (.slice ta tn tc) l) := HBe_2.out.grow ct0_3 gt0_3 hpb hlo htb
      have HVt0_3 : Hid (VarA wt0_3 X 47 (rcC ⟨kd, fr, tq, rq, o, r, t, p, cd, h⟩ (.slice a1 n1 c1) (.slice a2 n2 c2) (.slice a3 n3 c3) (.slice a4 n4 c4))) := vo_grow HVe_2.out gt0_3 (by omega)
      have HRt0_3 : Hid (RdM wt0_3 (fun b => X < b ∧ b < wt0_3.heap.size) ⟨kd, fr, tq, rq, o, r, t, p, cd, h⟩ (.slice a1 n1 c1) (.slice a2 n2 c2) (.slice a3 n3 c3) (.slice a4 n4 c4)) := rm_grow HRe_2.out gt0_3 (by omega)
      have tt := HBt0_3.out.vT.l1
      have hw : IntKind.i64.wrap (xt0_3 - 1) = xt0_3 - 1 := wrapI _ (by omega) (by omega)
      go_wp2_with (first | ((with_reducible refine guardStore (ty := 47) ?_); refine wpList_storeF HBt0_4.out.vR rfl rfl (by kernel_rfl) rfl (of_decide_eq_true rfl) rfl ?_; intro wz vZ t_) | ((with_reducible refine guardLoad (ty := 47) ?_); refine wpList_loadA HVt0_4.out rfl Tryz.underlying47 rfl (by kernel_rfl) ?_) | ((with_reducible refine guardStore (ty := 3) ?_); refine wpList_storeG HVt0_3.out rfl rfl rfl (by kernel_rfl) rfl (of_decide_eq_true rfl) rfl ?_; intro yt0_4 vyt0_4 tyt0_4; have HVt0_4 : Hid (VarA yt0_4 X 47 (rcC ⟨(xt0_3 - 1), fr, tq, rq, o, r, t, p, cd, h⟩ (.slice a1 n1 c1) (.slice a2 n2 c2) (.slice a3 n3 c3) (.slice a4 n4 c4))) := vyt0_4; have HBt0_4 : Hid (PB 47 (rcC ms0 (.slice none 0 0) (.slice none 0 0) (.slice none 0 0) (.slice none 0 0)) w yt0_4 pb (w.heap.size + 1) tb (.slice ta tn tc) l) := HBt0_3.out.put tyt0_4 hpb (by omega) (Or.inr hX) hlo htb; have tt := HBt0_4.out.vT.l1; have HRt0_4 : Hid (RdM yt0_4 (fun b => X < b ∧ b < yt0_4.heap.size) ⟨(xt0_3 - 1), fr, tq, rq, o, r, t, p, cd, h⟩ (.slice a1 n1 c1) (.slice a2 n2 c2) (.slice a3 n3 c3) (.slice a4 n4 c4)) := rm_turn HRt0_3.out tyt0_4 (fun b hb => by omega)))
      refine bodyPost_ret (results_cell_row Tryz.results75 _ _ _ _ _ _ _ rfl vZ Tryz.underlying47 rfl (by kernel_rfl)) rfl ?_
      exact ⟨⟨(xt0_3 - 1), fr, tq, rq, o, r, t, p, cd, h⟩, _, _, _, _, _, _, _, _, _, _, _, _, rfl, rm_end HRt0_4.out t_ (by omega) (by omega), ⟨hz0, hz1, hz2, hz3⟩, cur_keep HBt0_4.out.c t_ (by omega), grown_keep HBt0_4.out.g t_ (by omega)⟩
     ·go_wp2_with fail
      refine Calls.mono (pick_any pb we_2.heap.size [-1, 12, 2] _ (HBe_2.out.c.alloc _) (by simp) (by simp) (by have := HBe_2.out.c.lt; omega) (heap_alloc_new we_2 _)) ?_
      rintro et1_3 wt1_3 ⟨xt1_3, rfl, hmt1_3, ct1_3, gt1_3⟩
      try clear tt
      have zxt1_3 := HVe_2.out.lt
      have ztt1_3 := HBe_2.out.vT.lt
      have HBt1_3 : Hid (PB 47 (rcC ms0 (.slice none 0 0) (.slice none 0 0) (.slice none 0 0) (.slice none 0 0)) w wt1_3 pb (w.heap.size + 1) tb (.slice ta tn tc) l) := (HBe_2.out.step (Below.newH _) hpb hlo htb).grow ct1_3 gt1_3 hpb hlo htb
      have HVt1_3 : Hid (VarA wt1_3 X 47 (rcC ⟨kd, fr, tq, rq, o, r, t, p, cd, h⟩ (.slice a1 n1 c1) (.slice a2 n2 c2) (.slice a3 n3 c3) (.slice a4 n4 c4))) := vo_grow (HVe_2.out.alloc _) gt1_3 (by omega)
      have HRt1_3 : Hid (RdM wt1_3 (fun b => X < b ∧ b < wt1_3.heap.size) ⟨kd, fr, tq, rq, o, r, t, p, cd, h⟩ (.slice a1 n1 c1) (.slice a2 n2 c2) (.slice a3 n3 c3) (.slice a4 n4 c4)) := rm_grow (rm_turn HRe_2.out (Turned.ofBelow (S := fun b => False) (Below.newH _)) (fun b hb => hb.elim)) gt1_3 (by omega)
      have tt := HBt1_3.out.vT.l1
      go_wp2_with (first | ((with_reducible refine guardStore (ty := 47) ?_); refine wpList_storeF HBt1_4.out.vR rfl rfl (by kernel_rfl) rfl (of_decide_eq_true rfl) rfl ?_; intro wz vZ t_) | ((with_reducible refine guardLoad (ty := 47) ?_); refine wpList_loadA HVt1_4.out rfl Tryz.underlying47 rfl (by kernel_rfl) ?_) | ((with_reducible refine guardStore (ty := 3) ?_); refine wpList_storeG HVt1_3.out rfl rfl rfl (by kernel_rfl) rfl (of_decide_eq_true rfl) rfl ?_; intro yt1_4 vyt1_4 tyt1_4; have HVt1_4 : Hid (VarA yt1_4 X 47 (rcC ⟨kd, fr, tq, rq, o, r, t, p, xt1_3, h⟩ (.slice a1 n1 c1) (.slice a2 n2 c2) (.slice a3 n3 c3) (.slice a4 n4 c4))) := vyt1_4; have HBt1_4 : Hid (PB 47 (rcC ms0 (.slice none 0 0) (.slice none 0 0) (.slice none 0 0) (.slice none 0 0)) w yt1_4 pb (w.heap.size + 1) tb (.slice ta tn tc) l) := HBt1_3.out.put tyt1_4 hpb (by omega) (Or.inr hX) hlo htb; have tt := HBt1_4.out.vT.l1; have HRt1_4 : Hid (RdM yt1_4 (fun b => X < b ∧ b < yt1_4.heap.size) ⟨kd, fr, tq, rq, o, r, t, p, xt1_3, h⟩ (.slice a1 n1 c1) (.slice a2 n2 c2) (.slice a3 n3 c3) (.slice a4 n4 c4)) := rm_turn HRt1_3.out tyt1_4 (fun b hb => by omega)))
      refine bodyPost_ret (results_cell_row Tryz.results75 _ _ _ _ _ _ _ rfl vZ Tryz.underlying47 rfl (by kernel_rfl)) rfl ?_
      exact ⟨⟨kd, fr, tq, rq, o, r, t, p, xt1_3, h⟩, _, _, _, _, _, _, _, _, _, _, _, _, rfl, rm_end HRt1_4.out t_ (by omega) (by omega), ⟨hz0, hz1, hz2, hz3⟩, cur_keep HBt1_4.out.c t_ (by omega), grown_keep HBt1_4.out.g t_ (by omega)⟩
     ·go_wp2_with fail
      refine Calls.mono (num_any pb _ HBe_2.out.c) ?_
      rintro et2_3 wt2_3 ⟨xt2_3, rfl, xat2_3, xbt2_3, ct2_3, gt2_3⟩
      try clear tt
      have zxt2_3 := HVe_2.out.lt
      have ztt2_3 := HBe_2.out.vT.lt
      have HBt2_3 : Hid (PB 47 (rcC ms0 (.slice none 0 0) (.slice none 0 0) (.slice none 0 0) (.slice none 0 0)) w wt2_3 pb (w.heap.size + 1) tb (.slice ta tn tc) l) := HBe_2.out.grow ct2_3 gt2_3 hpb hlo htb
      have HVt2_3 : Hid (VarA wt2_3 X 47 (rcC ⟨kd, fr, tq, rq, o, r, t, p, cd, h⟩ (.slice a1 n1 c1) (.slice a2 n2 c2) (.slice a3 n3 c3) (.slice a4 n4 c4))) := vo_grow HVe_2.out gt2_3 (by omega)
      have HRt2_3 : Hid (RdM wt2_3 (fun b => X < b ∧ b < wt2_3.heap.size) ⟨kd, fr, tq, rq, o, r, t, p, cd, h⟩ (.slice a1 n1 c1) (.slice a2 n2 c2) (.slice a3 n3 c3) (.slice a4 n4 c4)) := rm_grow HRe_2.out gt2_3 (by omega)
      have tt := HBt2_3.out.vT.l1
      go_wp2_with (first | ((with_reducible refine guardStore (ty := 47) ?_); refine wpList_storeF HBt2_4.out.vR rfl rfl (by kernel_rfl) rfl (of_decide_eq_true rfl) rfl ?_; intro wz vZ t_) | ((with_reducible refine guardLoad (ty := 47) ?_); refine wpList_loadA HVt2_4.out rfl Tryz.underlying47 rfl (by kernel_rfl) ?_) | ((with_reducible refine guardStore (ty := 3) ?_); refine wpList_storeG HVt2_3.out rfl rfl rfl (by kernel_rfl) rfl (of_decide_eq_true rfl) rfl ?_; intro yt2_4 vyt2_4 tyt2_4; have HVt2_4 : Hid (VarA yt2_4 X 47 (rcC ⟨kd, fr, tq, xt2_3, o, r, t, p, cd, h⟩ (.slice a1 n1 c1) (.slice a2 n2 c2) (.slice a3 n3 c3) (.slice a4 n4 c4))) := vyt2_4; have HBt2_4 : Hid (PB 47 (rcC ms0 (.slice none 0 0) (.slice none 0 0) (.slice none 0 0) (.slice none 0 0)) w yt2_4 pb (w.heap.size + 1) tb (.slice ta tn tc) l) := HBt2_3.out.put tyt2_4 hpb (by omega) (Or.inr hX) hlo htb; have tt := HBt2_4.out.vT.l1; have HRt2_4 : Hid (RdM yt2_4 (fun b => X < b ∧ b < yt2_4.heap.size) ⟨kd, fr, tq, xt2_3, o, r, t, p, cd, h⟩ (.slice a1 n1 c1) (.slice a2 n2 c2) (.slice a3 n3 c3) (.slice a4 n4 c4)) := rm_turn HRt2_3.out tyt2_4 (fun b hb => by omega)))
      refine bodyPost_ret (results_cell_row Tryz.results75 _ _ _ _ _ _ _ rfl vZ Tryz.underlying47 rfl (by kernel_rfl)) rfl ?_
      exact ⟨⟨kd, fr, tq, xt2_3, o, r, t, p, cd, h⟩, _, _, _, _, _, _, _, _, _, _, _, _, rfl, rm_end HRt2_4.out t_ (by omega) (by omega), ⟨hz0, hz1, hz2, hz3⟩, cur_keep HBt2_4.out.c t_ (by omega), grown_keep HBt2_4.out.g t_ (by omega)⟩
     ·go_wp2_with fail
      refine Calls.mono (pick_any pb we_2.heap.size [-1, 4] _ (HBe_2.out.c.alloc _) (by simp) (by simp) (by have := HBe_2.out.c.lt; omega) (heap_alloc_new we_2 _)) ?_
      rintro et3_3 wt3_3 ⟨xt3_3, rfl, hmt3_3, ct3_3, gt3_3⟩
      try clear tt
      have zxt3_3 := HVe_2.out.lt
      have ztt3_3 := HBe_2.out.vT.lt
      have HBt3_3 : Hid (PB 47 (rcC ms0 (.slice none 0 0) (.slice none 0 0) (.slice none 0 0) (.slice none 0 0)) w wt3_3 pb (w.heap.size + 1) tb (.slice ta tn tc) l) := (HBe_2.out.step (Below.newH _) hpb hlo htb).grow ct3_3 gt3_3 hpb hlo htb
      have HVt3_3 : Hid (VarA wt3_3 X 47 (rcC ⟨kd, fr, tq, rq, o, r, t, p, cd, h⟩ (.slice a1 n1 c1) (.slice a2 n2 c2) (.slice a3 n3 c3) (.slice a4 n4 c4))) := vo_grow (HVe_2.out.alloc _) gt3_3 (by omega)
      have HRt3_3 : Hid (RdM wt3_3 (fun b => X < b ∧ b < wt3_3.heap.size) ⟨kd, fr, tq, rq, o, r, t, p, cd, h⟩ (.slice a1 n1 c1) (.slice a2 n2 c2) (.slice a3 n3 c3) (.slice a4 n4 c4)) := rm_grow (rm_turn HRe_2.out (Turned.ofBelow (S := fun b => False) (Below.newH _)) (fun b hb => hb.elim)) gt3_3 (by omega)
      have tt := HBt3_3.out.vT.l1
      go_wp2_with (first | ((with_reducible refine guardStore (ty := 47) ?_); refine wpList_storeF HBt3_4.out.vR rfl rfl (by kernel_rfl) rfl (of_decide_eq_true rfl) rfl ?_; intro wz vZ t_) | ((with_reducible refine guardLoad (ty := 47) ?_); refine wpList_loadA HVt3_4.out rfl Tryz.underlying47 rfl (by kernel_rfl) ?_) | ((with_reducible refine guardStore (ty := 3) ?_); refine wpList_storeG HVt3_3.out rfl rfl rfl (by kernel_rfl) rfl (of_decide_eq_true rfl) rfl ?_; intro yt3_4 vyt3_4 tyt3_4; have HVt3_4 : Hid (VarA yt3_4 X 47 (rcC ⟨kd, xt3_3, tq, rq, o, r, t, p, cd, h⟩ (.slice a1 n1 c1) (.slice a2 n2 c2) (.slice a3 n3 c3) (.slice a4 n4 c4))) := vyt3_4; have HBt3_4 : Hid (PB 47 (rcC ms0 (.slice none 0 0) (.slice none 0 0) (.slice none 0 0) (.slice none 0 0)) w yt3_4 pb (w.heap.size + 1) tb (.slice ta tn tc) l) := HBt3_3.out.put tyt3_4 hpb (by omega) (Or.inr hX) hlo htb; have tt := HBt3_4.out.vT.l1; have HRt3_4 : Hid (RdM yt3_4 (fun b => X < b ∧ b < yt3_4.heap.size) ⟨kd, xt3_3, tq, rq, o, r, t, p, cd, h⟩ (.slice a1 n1 c1) (.slice a2 n2 c2) (.slice a3 n3 c3) (.slice a4 n4 c4)) := rm_turn HRt3_3.out tyt3_4 (fun b hb => by omega)))
      refine bodyPost_ret (results_cell_row Tryz.results75 _ _ _ _ _ _ _ rfl vZ Tryz.underlying47 rfl (by kernel_rfl)) rfl ?_
      exact ⟨⟨kd, xt3_3, tq, rq, o, r, t, p, cd, h⟩, _, _, _, _, _, _, _, _, _, _, _, _, rfl, rm_end HRt3_4.out t_ (by omega) (by omega), ⟨hz0, hz1, hz2, hz3⟩, cur_keep HBt3_4.out.c t_ (by omega), grown_keep HBt3_4.out.g t_ (by omega)⟩
     ·go_wp2_with fail
      refine Calls.mono (num_any pb _ HBe_2.out.c) ?_
      rintro et4_3 wt4_3 ⟨xt4_3, rfl, xat4_3, xbt4_3, ct4_3, gt4_3⟩
      try clear tt
      have zxt4_3 := HVe_2.out.lt
      have ztt4_3 := HBe_2.out.vT.lt
      have HBt4_3 : Hid (PB 47 (rcC ms0 (.slice none 0 0) (.slice none 0 0) (.slice none 0 0) (.slice none 0 0)) w wt4_3 pb (w.heap.size + 1) tb (.slice ta tn tc) l) := HBe_2.out.grow ct4_3 gt4_3 hpb hlo htb
      have HVt4_3 : Hid (VarA wt4_3 X 47 (rcC ⟨kd, fr, tq, rq, o, r, t, p, cd, h⟩ (.slice a1 n1 c1) (.slice a2 n2 c2) (.slice a3 n3 c3) (.slice a4 n4 c4))) := vo_grow HVe_2.out gt4_3 (by omega)
      have HRt4_3 : Hid (RdM wt4_3 (fun b => X < b ∧ b < wt4_3.heap.size) ⟨kd, fr, tq, rq, o, r, t, p, cd, h⟩ (.slice a1 n1 c1) (.slice a2 n2 c2) (.slice a3 n3 c3) (.slice a4 n4 c4)) := rm_grow HRe_2.out gt4_3 (by omega)
      have tt := HBt4_3.out.vT.l1
      go_wp2_with (first | ((with_reducible refine guardStore (ty := 47) ?_); refine wpList_storeF HBt4_4.out.vR rfl rfl (by kernel_rfl) rfl (of_decide_eq_true rfl) rfl ?_; intro wz vZ t_) | ((with_reducible refine guardLoad (ty := 47) ?_); refine wpList_loadA HVt4_4.out rfl Tryz.underlying47 rfl (by kernel_rfl) ?_) | ((with_reducible refine guardStore (ty := 24) ?_); refine wpList_storeG HVt4_3.out rfl rfl rfl (by kernel_rfl) rfl (of_decide_eq_true rfl) rfl ?_; intro yt4_4 vyt4_4 tyt4_4; have HVt4_4 : Hid (VarA yt4_4 X 47 (rcC ⟨kd, fr, tq, rq, o, r, t, p, cd, (0, xt4_3, false)⟩ (.slice a1 n1 c1) (.slice a2 n2 c2) (.slice a3 n3 c3) (.slice a4 n4 c4))) := vyt4_4; have HBt4_4 : Hid (PB 47 (rcC ms0 (.slice none 0 0) (.slice none 0 0) (.slice none 0 0) (.slice none 0 0)) w yt4_4 pb (w.heap.size + 1) tb (.slice ta tn tc) l) := HBt4_3.out.put tyt4_4 hpb (by omega) (Or.inr hX) hlo htb; have tt := HBt4_4.out.vT.l1; have HRt4_4 : Hid (RdM yt4_4 (fun b => X < b ∧ b < yt4_4.heap.size) ⟨kd, fr, tq, rq, o, r, t, p, cd, (0, xt4_3, false)⟩ (.slice a1 n1 c1) (.slice a2 n2 c2) (.slice a3 n3 c3) (.slice a4 n4 c4)) := rm_turn HRt4_3.out tyt4_4 (fun b hb => by omega)))
      refine bodyPost_ret (results_cell_row Tryz.results75 _ _ _ _ _ _ _ rfl vZ Tryz.underlying47 rfl (by kernel_rfl)) rfl ?_
      exact ⟨⟨kd, fr, tq, rq, o, r, t, p, cd, (0, xt4_3, false)⟩, _, _, _, _, _, _, _, _, _, _, _, _, rfl, rm_end HRt4_4.out t_ (by omega) (by omega), ⟨hz0, hz1, hz2, hz3⟩, cur_keep HBt4_4.out.c t_ (by omega), grown_keep HBt4_4.out.g t_ (by omega)⟩
     ·go_wp2_with fail
      refine Calls.mono (tx5_any pb _ HBe_2.out.c) ?_
      rintro et5_3 wt5_3 ⟨t0t5_3, t1t5_3, t2t5_3, rfl, htt5_3, ct5_3, gt5_3⟩
      try clear tt
      have zxt5_3 := HVe_2.out.lt
      have ztt5_3 := HBe_2.out.vT.lt
      have HBt5_3 : Hid (PB 47 (rcC ms0 (.slice none 0 0) (.slice none 0 0) (.slice none 0 0) (.slice none 0 0)) w wt5_3 pb (w.heap.size + 1) tb (.slice ta tn tc) l) := HBe_2.out.grow ct5_3 gt5_3 hpb hlo htb
      have HVt5_3 : Hid (VarA wt5_3 X 47 (rcC ⟨kd, fr, tq, rq, o, r, t, p, cd, h⟩ (.slice a1 n1 c1) (.slice a2 n2 c2) (.slice a3 n3 c3) (.slice a4 n4 c4))) := vo_grow HVe_2.out gt5_3 (by omega)
      have HRt5_3 : Hid (RdM wt5_3 (fun b => X < b ∧ b < wt5_3.heap.size) ⟨kd, fr, tq, rq, o, r, t, p, cd, h⟩ (.slice a1 n1 c1) (.slice a2 n2 c2) (.slice a3 n3 c3) (.slice a4 n4 c4)) := rm_grow HRe_2.out gt5_3 (by omega)
      have tt := HBt5_3.out.vT.l1
      go_wp2_with (first | ((with_reducible refine guardStore (ty := 47) ?_); refine wpList_storeF HBt5_4.out.vR rfl rfl (by kernel_rfl) rfl (of_decide_eq_true rfl) rfl ?_; intro wz vZ t_) | ((with_reducible refine guardLoad (ty := 47) ?_); refine wpList_loadA HVt5_4.out rfl Tryz.underlying47 rfl (by kernel_rfl) ?_) | ((with_reducible refine guardStore (ty := 31) ?_); refine wpList_storeG HVt5_3.out rfl rfl rfl (by kernel_rfl) rfl (of_decide_eq_true rfl) rfl ?_; intro yt5_4 vyt5_4 tyt5_4; have HVt5_4 : Hid (VarA yt5_4 X 47 (rcC ⟨kd, fr, tq, rq, o, r, (t0t5_3, t1t5_3, t2t5_3), p, cd, h⟩ (.slice a1 n1 c1) (.slice a2 n2 c2) (.slice a3 n3 c3) (.slice a4 n4 c4))) := vyt5_4; have HBt5_4 : Hid (PB 47 (rcC ms0 (.slice none 0 0) (.slice none 0 0) (.slice none 0 0) (.slice none 0 0)) w yt5_4 pb (w.heap.size + 1) tb (.slice ta tn tc) l) := HBt5_3.out.put tyt5_4 hpb (by omega) (Or.inr hX) hlo htb; have tt := HBt5_4.out.vT.l1; have HRt5_4 : Hid (RdM yt5_4 (fun b => X < b ∧ b < yt5_4.heap.size) ⟨kd, fr, tq, rq, o, r, (t0t5_3, t1t5_3, t2t5_3), p, cd, h⟩ (.slice a1 n1 c1) (.slice a2 n2 c2) (.slice a3 n3 c3) (.slice a4 n4 c4)) := rm_turn HRt5_3.out tyt5_4 (fun b hb => by omega)))
      refine bodyPost_ret (results_cell_row Tryz.results75 _ _ _ _ _ _ _ rfl vZ Tryz.underlying47 rfl (by kernel_rfl)) rfl ?_
      exact ⟨⟨kd, fr, tq, rq, o, r, (t0t5_3, t1t5_3, t2t5_3), p, cd, h⟩, _, _, _, _, _, _, _, _, _, _, _, _, rfl, rm_end HRt5_4.out t_ (by omega) (by omega), ⟨hz0, hz1, hz2, hz3⟩, cur_keep HBt5_4.out.c t_ (by omega), grown_keep HBt5_4.out.g t_ (by omega)⟩
end Go.Proofs.YtklhikadhohjbaaGreat
