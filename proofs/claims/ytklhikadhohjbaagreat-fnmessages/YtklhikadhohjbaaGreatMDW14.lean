/- What the specification draws: a message; no condition. -/
import Derived.Test.YtklhikadhohjbaaGreatMA01
import Derived.Test.YtklhikadhohjbaaGreatMA09
namespace Go.Proofs.YtklhikadhohjbaaGreat
open Go.RowKit
set_option linter.unusedVariables false
set_option linter.unusedSimpArgs false
set_option maxRecDepth 100000

abbrev msC (m : MsD) (x y z u : Value) : Array Value := #[.i m.kind, .i m.fr, .i m.to, .i m.req, .i m.op.kind, .i m.op.dir.sh, .i m.op.dir.ino, .bool m.op.dir.dir, x, .i m.op.to.sh, .i m.op.to.ino, .bool m.op.to.dir, y, .i m.op.val, .i m.rp.code, .i m.rp.h.sh, .i m.rp.h.ino, .bool m.rp.h.dir, .i m.rp.val, z, .i m.tx.1, .i m.tx.2.1, .i m.tx.2.2, .i m.pt.kind, .i m.pt.h.sh, .i m.pt.h.ino, .bool m.pt.h.dir, u, .i m.pt.to.sh, .i m.pt.to.ino, .bool m.pt.to.dir, .i m.code, .i m.h.sh, .i m.h.ino, .bool m.h.dir]
abbrev PBm := PB 35 (msC ms0 (.slice none 0 0) (.slice none 0 0) (.slice none 0 0) (.slice none 0 0))
def MsSaid (w : World) (pb : Nat) (e : Ending) (w' : World) : Prop :=
 ∃ m a1 n1 c1 a2 n2 c2 a3 n3 c3 a4 n4 c4, e = .returned (msV m (.slice a1 n1 c1) (.slice a2 n2 c2) (.slice a3 n3 c3) (.slice a4 n4 c4)) ∧ RdM w' (fun b => w.heap.size < b ∧ b < w'.heap.size) m (.slice a1 n1 c1) (.slice a2 n2 c2) (.slice a3 n3 c3) (.slice a4 n4 c4) ∧ SzB m ∧ CurAt w' pb ∧ w.grownBy w' (some pb)
def MS (R : TypeId) (w : World) (pb X tb : Nat) (tx : Value) (l : List Nd) (Q : Int → Prop) (wc : World) : Prop :=
 ∃ m a1 n1 c1 a2 n2 c2 a3 n3 c3 a4 n4 c4, PB R (msC ms0 (.slice none 0 0) (.slice none 0 0) (.slice none 0 0) (.slice none 0 0)) w wc pb (X + 1) tb tx l ∧ VarA wc X R (msC m (.slice a1 n1 c1) (.slice a2 n2 c2) (.slice a3 n3 c3) (.slice a4 n4 c4)) ∧ RdM wc (fun b => tb < b ∧ b < wc.heap.size) m (.slice a1 n1 c1) (.slice a2 n2 c2) (.slice a3 n3 c3) (.slice a4 n4 c4) ∧ SzB m ∧ Q m.kind
set_option maxHeartbeats 16000000 in
theorem msg5_any (pb : Nat) (w : World) (h : CurAt w pb) : Calls Tryz.prog 50 #[.pointer (some ⟨pb, 0, none⟩)] w (MsSaid w pb) := by
 have hpb := h.lt
 go_enter Tryz.func50, Tryz.ntmps50
 go_wp2_with fail
 have v0 : VarA (w.alloc (.cells (msC ms0 (.slice none 0 0) (.slice none 0 0) (.slice none 0 0) (.slice none 0 0)) 35)) w.heap.size 35 (msC ms0 (.slice none 0 0) (.slice none 0 0) (.slice none 0 0) (.slice none 0 0)) := VarA.new _ _ _
 refine Calls.mono (below_any pb 8 _ (h.alloc _) (by omega) (by omega)) ?_
 rintro e1 w1 ⟨kd, rfl, hk0, hk1, c1, g1⟩
 go_wp2_with fail
 refine Calls.mono (below_any pb 8 _ c1 (by omega) (by omega)) ?_
 rintro e2 w2 ⟨x2, rfl, xa2, xb2, c2, g2⟩
 go_wp2_with fail
 refine Calls.mono (below_any pb 8 _ c2 (by omega) (by omega)) ?_
 rintro e3 w3 ⟨x3, rfl, xa3, xb3, c3, g3⟩
 have G3 := grown_trans (grown_trans g1 g2) g3
 have v3 : VarA w3 w.heap.size 35 (msC ms0 (.slice none 0 0) (.slice none 0 0) (.slice none 0 0) (.slice none 0 0)) := vo_grow v0 G3 (by omega)
 have G0 : w.grownBy w3 (some pb) := grown_trans (World.grownBy_alloc w _ _) G3
 have hX : w.heap.size < w3.heap.size := v3.lt
 clear v0 c1 g1 c2 g2 g3 G3 h
 go_wp2_with ((with_reducible refine gS 35 ?_); refine sF (VarA.new w3 _ _) rfl rfl (by kernel_rfl) rfl rfl ?_; intro w4 u4 t4)
 have b4 : Below w3.heap.size w3 w4 := Turned.below (Below.newH _) t4 (by simp) (fun i hi => by omega)
 have v4 : VarA w4 w3.heap.size 35 (msC ⟨kd, x2, x3, 0, op0, rp0, tx0, pt0, 0, hd0⟩ (.slice none 0 0) (.slice none 0 0) (.slice none 0 0) (.slice none 0 0)) := u4
 have z4 := v4.lt
 clear u4 t4
 refine Calls.mono (tree4_any pb _ (c3.below b4)) ?_
 rintro e5 w5 ⟨ta, tn, tc, l, rfl, rT, sm, c5, g5⟩
 have z5 := g5.size
 have hP : ∀ i : Nat, i < l.length → HdR (l[i]?.getD nd0).h := fun i hi => (sm.1 _ (getD_mem hi)).1
 have hL : l.length ≤ 2097152 := Nat.le_trans sm.2.2 (by decide)
 have b6 : Below w5.heap.size w5 (w5.alloc (.cells #[(.slice ta tn tc)] 55)) := Below.newH _
 have v5 := (vo_grow (v3.step b4) g5 (by omega)).step b6
 have htb : w3.heap.size + 1 ≤ w5.heap.size := by omega
 have hlo : w.heap.size < w3.heap.size + 1 := by omega
 have HB1 : Hid (PBm w (w5.alloc (.cells #[(.slice ta tn tc)] 55)) pb (w3.heap.size + 1) w5.heap.size (.slice ta tn tc) l) := ⟨c5.below b6, grown_trans (grown_trans (grown_trans G0 (grown_below b4)) g5) (grown_below b6), v5, VarA.new _ _ _, RdV.mono (fun b hb => ⟨by omega, hb.2⟩) (RdV.step rT b6)⟩
 have HV1 : Hid (VarA (w5.alloc (.cells #[(.slice ta tn tc)] 55)) w3.heap.size 35 (msC ⟨kd, x2, x3, 0, op0, rp0, tx0, pt0, 0, hd0⟩ (.slice none 0 0) (.slice none 0 0) (.slice none 0 0) (.slice none 0 0))) := (vo_grow v4 g5 (by omega)).step b6
 have HH : Hid (∀ W, CurAt W pb → RdV W (fun b => w3.heap.size + 1 ≤ b ∧ b < w5.heap.size) (.slice ta tn tc) (ndsDt l) → Calls Tryz.prog 143 #[.pointer (some ⟨pb, 0, none⟩), .agg #[(.slice ta tn tc)]] W (HdSaid W pb)) := fun W hc r => handle4_any pb _ l _ W hc r (fun b hb => by omega) hL hP
 have HD : Hid (∀ W, CurAt W pb → RdV W (fun b => w3.heap.size + 1 ≤ b ∧ b < w5.heap.size) (.slice ta tn tc) (ndsDt l) → Calls Tryz.prog 142 #[.pointer (some ⟨pb, 0, none⟩), .agg #[(.slice ta tn tc)]] W (HdSaid W pb)) := fun W hc r => dir4_any pb _ l _ W hc r (fun b hb => by omega) hL hP
 have HO : Hid (∀ W, CurAt W pb → RdV W (fun b => w3.heap.size + 1 ≤ b ∧ b < w5.heap.size) (.slice ta tn tc) (ndsDt l) → Calls Tryz.prog 86 #[.pointer (some ⟨pb, 0, none⟩), .agg #[(.slice ta tn tc)]] W (OpSaid W pb)) := fun W hc r => op4_any pb _ l _ W hc r (fun b hb => by omega) hL hP
 clear c3 b4 v3 v4 z4 z5 G0 rT c5 g5 b6 v5 sm hP hL
 go_upto_region 3 with fail
 generalize hw0 : w5.alloc (.cells #[(.slice ta tn tc)] 55) = w0 at *
 clear hw0
 generalize w5.heap.size = tb at *
 generalize w3.heap.size = X at *
 have HR1 : Hid (RdM w0 (fun b => tb < b ∧ b < w0.heap.size) ⟨kd, x2, x3, 0, op0, rp0, tx0, pt0, 0, hd0⟩ (.slice none 0 0) (.slice none 0 0) (.slice none 0 0) (.slice none 0 0)) := ⟨rdb_nil _ _, rdb_nil _ _, rd_nil _ _, rdb_nil _ _⟩
 have tt := HB1.out.vT.l1
 have o0 : w0.cell? ⟨X, 0, none⟩ = some (.i kd) := HV1.out.c 0 rfl
 go_upto_if 16 with fail
 go_cut [] from 16 (fun wx => MS 35 w pb X tb (.slice ta tn tc) l (fun k => 0 ≤ k ∧ k ≤ 7) wx)
 case first =>
  by_cases hk : kd ≤ 1
  ·go_wp2_with fail
   refine Calls.mono (below_any pb 300 _ HB1.out.c (by omega) (by omega)) ?_
   rintro ea_1 wa_1 ⟨xa_1, rfl, xaa_1, xba_1, ca_1, ga_1⟩
   try clear tt
   try clear o0
   have zxa_1 := HV1.out.lt
   have zta_1 := HB1.out.vT.lt
   have HBa_1 : Hid (PBm w wa_1 pb (X + 1) tb (.slice ta tn tc) l) := HB1.out.grow ca_1 ga_1 hpb hlo htb
   have HVa_1 : Hid (VarA wa_1 X 35 (msC ⟨kd, x2, x3, 0, op0, rp0, tx0, pt0, 0, hd0⟩ (.slice none 0 0) (.slice none 0 0) (.slice none 0 0) (.slice none 0 0))) := vo_grow HV1.out ga_1 (by omega)
   have HRa_1 : Hid (RdM wa_1 (fun b => tb < b ∧ b < wa_1.heap.size) ⟨kd, x2, x3, 0, op0, rp0, tx0, pt0, 0, hd0⟩ (.slice none 0 0) (.slice none 0 0) (.slice none 0 0) (.slice none 0 0)) := rm_grow HR1.out ga_1 (by omega)
   have tt := HBa_1.out.vT.l1
   have o0 : wa_1.cell? ⟨X, 0, none⟩ = some (.i kd) := HVa_1.out.c 0 rfl
   go_wp2_with ((with_reducible refine gS 3 ?_); refine wpList_storeG HVa_1.out rfl rfl rfl (by kernel_rfl) rfl (of_decide_eq_true rfl) rfl ?_; intro ya_2 vya_2 tya_2; have HVa_2 : Hid (VarA ya_2 X 35 (msC ⟨kd, x2, x3, xa_1, op0, rp0, tx0, pt0, 0, hd0⟩ (.slice none 0 0) (.slice none 0 0) (.slice none 0 0) (.slice none 0 0))) := vya_2; have HBa_2 : Hid (PBm w ya_2 pb (X + 1) tb (.slice ta tn tc) l) := HBa_1.out.put tya_2 hpb (by omega) (Or.inl (by omega)) hlo htb; have tt := HBa_2.out.vT.l1; have HRa_2 : Hid (RdM ya_2 (fun b => tb < b ∧ b < ya_2.heap.size) ⟨kd, x2, x3, xa_1, op0, rp0, tx0, pt0, 0, hd0⟩ (.slice none 0 0) (.slice none 0 0) (.slice none 0 0) (.slice none 0 0)) := rm_turn HRa_1.out tya_2 (fun b hb => by omega); have o0 : ya_2.cell? ⟨X, 0, none⟩ = some (.i kd) := HVa_2.out.c 0 rfl)
   go_meet
   exact ⟨⟨kd, x2, x3, xa_1, op0, rp0, tx0, pt0, 0, hd0⟩, _, _, _, _, _, _, _, _, _, _, _, _, HBa_2.out, HVa_2.out, HRa_2.out, ⟨by simp [op0], by simp [op0], by simp [rp0, szEns], by simp [pt0]⟩, ⟨hk0, by show kd ≤ 7; omega⟩⟩
  ·go_wp2_with fail
   refine Calls.mono (tx5_any pb _ HB1.out.c) ?_
   rintro ea_1 wa_1 ⟨t0a_1, t1a_1, t2a_1, rfl, hta_1, ca_1, ga_1⟩
   try clear tt
   try clear o0
   have zxa_1 := HV1.out.lt
   have zta_1 := HB1.out.vT.lt
   have HBa_1 : Hid (PBm w wa_1 pb (X + 1) tb (.slice ta tn tc) l) := HB1.out.grow ca_1 ga_1 hpb hlo htb
   have HVa_1 : Hid (VarA wa_1 X 35 (msC ⟨kd, x2, x3, 0, op0, rp0, tx0, pt0, 0, hd0⟩ (.slice none 0 0) (.slice none 0 0) (.slice none 0 0) (.slice none 0 0))) := vo_grow HV1.out ga_1 (by omega)
   have HRa_1 : Hid (RdM wa_1 (fun b => tb < b ∧ b < wa_1.heap.size) ⟨kd, x2, x3, 0, op0, rp0, tx0, pt0, 0, hd0⟩ (.slice none 0 0) (.slice none 0 0) (.slice none 0 0) (.slice none 0 0)) := rm_grow HR1.out ga_1 (by omega)
   have tt := HBa_1.out.vT.l1
   have o0 : wa_1.cell? ⟨X, 0, none⟩ = some (.i kd) := HVa_1.out.c 0 rfl
   go_wp2_with ((with_reducible refine gS 31 ?_); refine wpList_storeG HVa_1.out rfl rfl rfl (by kernel_rfl) rfl (of_decide_eq_true rfl) rfl ?_; intro ya_2 vya_2 tya_2; have HVa_2 : Hid (VarA ya_2 X 35 (msC ⟨kd, x2, x3, 0, op0, rp0, (t0a_1, t1a_1, t2a_1), pt0, 0, hd0⟩ (.slice none 0 0) (.slice none 0 0) (.slice none 0 0) (.slice none 0 0))) := vya_2; have HBa_2 : Hid (PBm w ya_2 pb (X + 1) tb (.slice ta tn tc) l) := HBa_1.out.put tya_2 hpb (by omega) (Or.inl (by omega)) hlo htb; have tt := HBa_2.out.vT.l1; have HRa_2 : Hid (RdM ya_2 (fun b => tb < b ∧ b < ya_2.heap.size) ⟨kd, x2, x3, 0, op0, rp0, (t0a_1, t1a_1, t2a_1), pt0, 0, hd0⟩ (.slice none 0 0) (.slice none 0 0) (.slice none 0 0) (.slice none 0 0)) := rm_turn HRa_1.out tya_2 (fun b hb => by omega); have o0 : ya_2.cell? ⟨X, 0, none⟩ = some (.i kd) := HVa_2.out.c 0 rfl)
   go_meet
   exact ⟨⟨kd, x2, x3, 0, op0, rp0, (t0a_1, t1a_1, t2a_1), pt0, 0, hd0⟩, _, _, _, _, _, _, _, _, _, _, _, _, HBa_2.out, HVa_2.out, HRa_2.out, ⟨by simp [op0], by simp [op0], by simp [rp0, szEns], by simp [pt0]⟩, ⟨hk0, by show kd ≤ 7; omega⟩⟩
 case rest =>
  clear tt o0 hk0 hk1
  rename World => wd
  obtain ⟨⟨kd, fr, tq, rq, o, r, t, p, cd, h⟩, a1, n1, c1, a2, n2, c2, a3, n3, c3, a4, n4, c4, B, vP, rm, ⟨hz0, hz1, hz2, hz3⟩, hq⟩ := hcut
  have HB2 : Hid (PBm w wd pb (X + 1) tb (.slice ta tn tc) l) := B
  have HV2 : Hid (VarA wd X 35 (msC ⟨kd, fr, tq, rq, o, r, t, p, cd, h⟩ (.slice a1 n1 c1) (.slice a2 n2 c2) (.slice a3 n3 c3) (.slice a4 n4 c4))) := vP
  have HR2 : Hid (RdM wd (fun b => tb < b ∧ b < wd.heap.size) ⟨kd, fr, tq, rq, o, r, t, p, cd, h⟩ (.slice a1 n1 c1) (.slice a2 n2 c2) (.slice a3 n3 c3) (.slice a4 n4 c4)) := rm
  clear B vP rm
  have hq0 : 0 ≤ kd := hq.1
  have hq1 : kd ≤ 7 := hq.2
  clear hq
  have tt := HB2.out.vT.l1
  have o0 : wd.cell? ⟨X, 0, none⟩ = some (.i kd) := HV2.out.c 0 rfl
  go_upto_block 0 with fail
  go_cut [] from 25 (fun wx => MS 35 w pb X tb (.slice ta tn tc) l (fun _ => True) wx)
  case first =>
   have hx : kd = 0 ∨ kd = 1 ∨ kd = 2 ∨ kd = 3 ∨ kd = 4 ∨ kd = 5 ∨ kd = 6 ∨ kd = 7 := by omega
   rcases hx with rfl | rfl | rfl | rfl | rfl | rfl | rfl | rfl
   ·go_wp2_with fail
    refine Calls.mono (HO.out _ HB2.out.c HB2.out.r) ?_
    rintro ek0_1 wk0_1 ⟨ok0_1, oyk0_1, ozk0_1, rfl, hRk0_1, ryk0_1, rzk0_1, ck0_1, gk0_1⟩
    try clear tt
    try clear o0
    have zxk0_1 := HV2.out.lt
    have ztk0_1 := HB2.out.vT.lt
    have HBk0_1 : Hid (PBm w wk0_1 pb (X + 1) tb (.slice ta tn tc) l) := HB2.out.grow ck0_1 gk0_1 hpb hlo htb
    have HVk0_1 : Hid (VarA wk0_1 X 35 (msC ⟨0, fr, tq, rq, o, r, t, p, cd, h⟩ (.slice a1 n1 c1) (.slice a2 n2 c2) (.slice a3 n3 c3) (.slice a4 n4 c4))) := vo_grow HV2.out gk0_1 (by omega)
    have HRk0_1 : Hid (RdM wk0_1 (fun b => tb < b ∧ b < wk0_1.heap.size) ⟨0, fr, tq, rq, o, r, t, p, cd, h⟩ (.slice a1 n1 c1) (.slice a2 n2 c2) (.slice a3 n3 c3) (.slice a4 n4 c4)) := rm_grow HR2.out gk0_1 (by omega)
    have tt := HBk0_1.out.vT.l1
    have o0 : wk0_1.cell? ⟨X, 0, none⟩ = some (.i 0) := HVk0_1.out.c 0 rfl
    have HYk0_1 : Hid (RdV wk0_1 (fun b => tb + 1 ≤ b ∧ b < wk0_1.heap.size) oyk0_1 (.bytes ok0_1.nm)) := RdV.mono (fun b hb => ⟨by omega, hb.2⟩) ryk0_1
    have HZk0_1 : Hid (RdV wk0_1 (fun b => tb + 1 ≤ b ∧ b < wk0_1.heap.size) ozk0_1 (.bytes ok0_1.asn)) := RdV.mono (fun b hb => ⟨by omega, hb.2⟩) rzk0_1
    clear ryk0_1 rzk0_1
    go_wp2_with fail
    refine Calls.mono (bent4_any pb (tb + 1) ok0_1 oyk0_1 ozk0_1 _ HBk0_1.out.c (by omega) HBk0_1.out.vT.lt hRk0_1 HYk0_1.out HZk0_1.out) ?_
    rintro ek0_2 wk0_2 ⟨ok0_2, oyk0_2, ozk0_2, rfl, hIk0_2, lnk0_2, lak0_2, ryk0_2, rzk0_2, ck0_2, gk0_2⟩
    try clear tt
    try clear o0
    have zxk0_2 := HVk0_1.out.lt
    have ztk0_2 := HBk0_1.out.vT.lt
    have HBk0_2 : Hid (PBm w wk0_2 pb (X + 1) tb (.slice ta tn tc) l) := HBk0_1.out.grow ck0_2 gk0_2 hpb hlo htb
    have HVk0_2 : Hid (VarA wk0_2 X 35 (msC ⟨0, fr, tq, rq, o, r, t, p, cd, h⟩ (.slice a1 n1 c1) (.slice a2 n2 c2) (.slice a3 n3 c3) (.slice a4 n4 c4))) := vo_grow HVk0_1.out gk0_2 (by omega)
    have HRk0_2 : Hid (RdM wk0_2 (fun b => tb < b ∧ b < wk0_2.heap.size) ⟨0, fr, tq, rq, o, r, t, p, cd, h⟩ (.slice a1 n1 c1) (.slice a2 n2 c2) (.slice a3 n3 c3) (.slice a4 n4 c4)) := rm_grow HRk0_1.out gk0_2 (by omega)
    have tt := HBk0_2.out.vT.l1
    have o0 : wk0_2.cell? ⟨X, 0, none⟩ = some (.i 0) := HVk0_2.out.c 0 rfl
    obtain ⟨yak0_2, ynk0_2, yck0_2, rfl⟩ := rdB_form ryk0_2
    obtain ⟨qak0_2, qnk0_2, qck0_2, rfl⟩ := rdB_form rzk0_2
    have HNk0_2 : Hid (RdM wk0_2 (fun b => tb < b ∧ b < wk0_2.heap.size) ⟨0, fr, tq, rq, ok0_2, r, t, p, cd, h⟩ (.slice yak0_2 ynk0_2 yck0_2) (.slice qak0_2 qnk0_2 qck0_2) (.slice a3 n3 c3) (.slice a4 n4 c4)) := ⟨RdV.mono (fun b hb => ⟨by omega, hb.2⟩) ryk0_2, RdV.mono (fun b hb => ⟨by omega, hb.2⟩) rzk0_2, HRk0_2.out.2.2.1, HRk0_2.out.2.2.2⟩
    clear ryk0_2 rzk0_2
    go_wp2_with ((with_reducible refine gS 26 ?_); refine wpList_storeG HVk0_2.out rfl rfl rfl (by kernel_rfl) rfl (of_decide_eq_true rfl) rfl ?_; intro yk0_3 vyk0_3 tyk0_3; have HVk0_3 : Hid (VarA yk0_3 X 35 (msC ⟨0, fr, tq, rq, ok0_2, r, t, p, cd, h⟩ (.slice yak0_2 ynk0_2 yck0_2) (.slice qak0_2 qnk0_2 qck0_2) (.slice a3 n3 c3) (.slice a4 n4 c4))) := vyk0_3; have HBk0_3 : Hid (PBm w yk0_3 pb (X + 1) tb (.slice ta tn tc) l) := HBk0_2.out.put tyk0_3 hpb (by omega) (Or.inl (by omega)) hlo htb; have tt := HBk0_3.out.vT.l1; have HRk0_3 : Hid (RdM yk0_3 (fun b => tb < b ∧ b < yk0_3.heap.size) ⟨0, fr, tq, rq, ok0_2, r, t, p, cd, h⟩ (.slice yak0_2 ynk0_2 yck0_2) (.slice qak0_2 qnk0_2 qck0_2) (.slice a3 n3 c3) (.slice a4 n4 c4)) := rm_turn HNk0_2.out tyk0_3 (fun b hb => by omega); have o0 : yk0_3.cell? ⟨X, 0, none⟩ = some (.i 0) := HVk0_3.out.c 0 rfl)
    go_meet
    exact ⟨⟨0, fr, tq, rq, ok0_2, r, t, p, cd, h⟩, _, _, _, _, _, _, _, _, _, _, _, _, HBk0_3.out, HVk0_3.out, HRk0_3.out, ⟨lnk0_2, lak0_2, hz2, hz3⟩, trivial⟩
   ·go_wp2_with fail
    refine Calls.mono (reply5_any pb _ HB2.out.c) ?_
    rintro ek1_1 wk1_1 ⟨rpk1_1, zak1_1, znk1_1, zck1_1, rfl, rzk1_1, lzk1_1, ck1_1, gk1_1⟩
    try clear tt
    try clear o0
    have zxk1_1 := HV2.out.lt
    have ztk1_1 := HB2.out.vT.lt
    have HBk1_1 : Hid (PBm w wk1_1 pb (X + 1) tb (.slice ta tn tc) l) := HB2.out.grow ck1_1 gk1_1 hpb hlo htb
    have HVk1_1 : Hid (VarA wk1_1 X 35 (msC ⟨1, fr, tq, rq, o, r, t, p, cd, h⟩ (.slice a1 n1 c1) (.slice a2 n2 c2) (.slice a3 n3 c3) (.slice a4 n4 c4))) := vo_grow HV2.out gk1_1 (by omega)
    have HRk1_1 : Hid (RdM wk1_1 (fun b => tb < b ∧ b < wk1_1.heap.size) ⟨1, fr, tq, rq, o, r, t, p, cd, h⟩ (.slice a1 n1 c1) (.slice a2 n2 c2) (.slice a3 n3 c3) (.slice a4 n4 c4)) := rm_grow HR2.out gk1_1 (by omega)
    have tt := HBk1_1.out.vT.l1
    have o0 : wk1_1.cell? ⟨X, 0, none⟩ = some (.i 1) := HVk1_1.out.c 0 rfl
    have HNk1_1 : Hid (RdM wk1_1 (fun b => tb < b ∧ b < wk1_1.heap.size) ⟨1, fr, tq, rq, o, rpk1_1, t, p, cd, h⟩ (.slice a1 n1 c1) (.slice a2 n2 c2) (.slice zak1_1 znk1_1 zck1_1) (.slice a4 n4 c4)) := ⟨HRk1_1.out.1, HRk1_1.out.2.1, RdV.mono (fun b hb => ⟨by omega, hb.2⟩) rzk1_1, HRk1_1.out.2.2.2⟩
    clear rzk1_1
    go_wp2_with ((with_reducible refine gS 29 ?_); refine wpList_storeG HVk1_1.out rfl rfl rfl (by kernel_rfl) rfl (of_decide_eq_true rfl) rfl ?_; intro yk1_2 vyk1_2 tyk1_2; have HVk1_2 : Hid (VarA yk1_2 X 35 (msC ⟨1, fr, tq, rq, o, rpk1_1, t, p, cd, h⟩ (.slice a1 n1 c1) (.slice a2 n2 c2) (.slice zak1_1 znk1_1 zck1_1) (.slice a4 n4 c4))) := vyk1_2; have HBk1_2 : Hid (PBm w yk1_2 pb (X + 1) tb (.slice ta tn tc) l) := HBk1_1.out.put tyk1_2 hpb (by omega) (Or.inl (by omega)) hlo htb; have tt := HBk1_2.out.vT.l1; have HRk1_2 : Hid (RdM yk1_2 (fun b => tb < b ∧ b < yk1_2.heap.size) ⟨1, fr, tq, rq, o, rpk1_1, t, p, cd, h⟩ (.slice a1 n1 c1) (.slice a2 n2 c2) (.slice zak1_1 znk1_1 zck1_1) (.slice a4 n4 c4)) := rm_turn HNk1_1.out tyk1_2 (fun b hb => by omega); have o0 : yk1_2.cell? ⟨X, 0, none⟩ = some (.i 1) := HVk1_2.out.c 0 rfl)
    go_meet
    exact ⟨⟨1, fr, tq, rq, o, rpk1_1, t, p, cd, h⟩, _, _, _, _, _, _, _, _, _, _, _, _, HBk1_2.out, HVk1_2.out, HRk1_2.out, ⟨hz0, hz1, lzk1_1, hz3⟩, trivial⟩
   ·go_wp2_with fail
    refine Calls.mono (part5_any pb _ HB2.out.c) ?_
    rintro ek2_1 wk2_1 ⟨ptk2_1, uak2_1, unk2_1, uck2_1, rfl, ruk2_1, luk2_1, ck2_1, gk2_1⟩
    try clear tt
    try clear o0
    have zxk2_1 := HV2.out.lt
    have ztk2_1 := HB2.out.vT.lt
    have HBk2_1 : Hid (PBm w wk2_1 pb (X + 1) tb (.slice ta tn tc) l) := HB2.out.grow ck2_1 gk2_1 hpb hlo htb
    have HVk2_1 : Hid (VarA wk2_1 X 35 (msC ⟨2, fr, tq, rq, o, r, t, p, cd, h⟩ (.slice a1 n1 c1) (.slice a2 n2 c2) (.slice a3 n3 c3) (.slice a4 n4 c4))) := vo_grow HV2.out gk2_1 (by omega)
    have HRk2_1 : Hid (RdM wk2_1 (fun b => tb < b ∧ b < wk2_1.heap.size) ⟨2, fr, tq, rq, o, r, t, p, cd, h⟩ (.slice a1 n1 c1) (.slice a2 n2 c2) (.slice a3 n3 c3) (.slice a4 n4 c4)) := rm_grow HR2.out gk2_1 (by omega)
    have tt := HBk2_1.out.vT.l1
    have o0 : wk2_1.cell? ⟨X, 0, none⟩ = some (.i 2) := HVk2_1.out.c 0 rfl
    have HNk2_1 : Hid (RdM wk2_1 (fun b => tb < b ∧ b < wk2_1.heap.size) ⟨2, fr, tq, rq, o, r, t, ptk2_1, cd, h⟩ (.slice a1 n1 c1) (.slice a2 n2 c2) (.slice a3 n3 c3) (.slice uak2_1 unk2_1 uck2_1)) := ⟨HRk2_1.out.1, HRk2_1.out.2.1, HRk2_1.out.2.2.1, RdV.mono (fun b hb => ⟨by omega, hb.2⟩) ruk2_1⟩
    clear ruk2_1
    go_wp2_with ((with_reducible refine gS 33 ?_); refine wpList_storeG HVk2_1.out rfl rfl rfl (by kernel_rfl) rfl (of_decide_eq_true rfl) rfl ?_; intro yk2_2 vyk2_2 tyk2_2; have HVk2_2 : Hid (VarA yk2_2 X 35 (msC ⟨2, fr, tq, rq, o, r, t, ptk2_1, cd, h⟩ (.slice a1 n1 c1) (.slice a2 n2 c2) (.slice a3 n3 c3) (.slice uak2_1 unk2_1 uck2_1))) := vyk2_2; have HBk2_2 : Hid (PBm w yk2_2 pb (X + 1) tb (.slice ta tn tc) l) := HBk2_1.out.put tyk2_2 hpb (by omega) (Or.inl (by omega)) hlo htb; have tt := HBk2_2.out.vT.l1; have HRk2_2 : Hid (RdM yk2_2 (fun b => tb < b ∧ b < yk2_2.heap.size) ⟨2, fr, tq, rq, o, r, t, ptk2_1, cd, h⟩ (.slice a1 n1 c1) (.slice a2 n2 c2) (.slice a3 n3 c3) (.slice uak2_1 unk2_1 uck2_1)) := rm_turn HNk2_1.out tyk2_2 (fun b hb => by omega); have o0 : yk2_2.cell? ⟨X, 0, none⟩ = some (.i 2) := HVk2_2.out.c 0 rfl)
    go_meet
    exact ⟨⟨2, fr, tq, rq, o, r, t, ptk2_1, cd, h⟩, _, _, _, _, _, _, _, _, _, _, _, _, HBk2_2.out, HVk2_2.out, HRk2_2.out, ⟨hz0, hz1, hz2, luk2_1⟩, trivial⟩
   ·go_wp2_with fail
    refine Calls.mono (part5_any pb _ HB2.out.c) ?_
    rintro ek3_1 wk3_1 ⟨ptk3_1, uak3_1, unk3_1, uck3_1, rfl, ruk3_1, luk3_1, ck3_1, gk3_1⟩
    try clear tt
    try clear o0
    have zxk3_1 := HV2.out.lt
    have ztk3_1 := HB2.out.vT.lt
    have HBk3_1 : Hid (PBm w wk3_1 pb (X + 1) tb (.slice ta tn tc) l) := HB2.out.grow ck3_1 gk3_1 hpb hlo htb
    have HVk3_1 : Hid (VarA wk3_1 X 35 (msC ⟨3, fr, tq, rq, o, r, t, p, cd, h⟩ (.slice a1 n1 c1) (.slice a2 n2 c2) (.slice a3 n3 c3) (.slice a4 n4 c4))) := vo_grow HV2.out gk3_1 (by omega)
    have HRk3_1 : Hid (RdM wk3_1 (fun b => tb < b ∧ b < wk3_1.heap.size) ⟨3, fr, tq, rq, o, r, t, p, cd, h⟩ (.slice a1 n1 c1) (.slice a2 n2 c2) (.slice a3 n3 c3) (.slice a4 n4 c4)) := rm_grow HR2.out gk3_1 (by omega)
    have tt := HBk3_1.out.vT.l1
    have o0 : wk3_1.cell? ⟨X, 0, none⟩ = some (.i 3) := HVk3_1.out.c 0 rfl
    have HNk3_1 : Hid (RdM wk3_1 (fun b => tb < b ∧ b < wk3_1.heap.size) ⟨3, fr, tq, rq, o, r, t, ptk3_1, cd, h⟩ (.slice a1 n1 c1) (.slice a2 n2 c2) (.slice a3 n3 c3) (.slice uak3_1 unk3_1 uck3_1)) := ⟨HRk3_1.out.1, HRk3_1.out.2.1, HRk3_1.out.2.2.1, RdV.mono (fun b hb => ⟨by omega, hb.2⟩) ruk3_1⟩
    clear ruk3_1
    go_wp2_with ((with_reducible refine gS 33 ?_); refine wpList_storeG HVk3_1.out rfl rfl rfl (by kernel_rfl) rfl (of_decide_eq_true rfl) rfl ?_; intro yk3_2 vyk3_2 tyk3_2; have HVk3_2 : Hid (VarA yk3_2 X 35 (msC ⟨3, fr, tq, rq, o, r, t, ptk3_1, cd, h⟩ (.slice a1 n1 c1) (.slice a2 n2 c2) (.slice a3 n3 c3) (.slice uak3_1 unk3_1 uck3_1))) := vyk3_2; have HBk3_2 : Hid (PBm w yk3_2 pb (X + 1) tb (.slice ta tn tc) l) := HBk3_1.out.put tyk3_2 hpb (by omega) (Or.inl (by omega)) hlo htb; have tt := HBk3_2.out.vT.l1; have HRk3_2 : Hid (RdM yk3_2 (fun b => tb < b ∧ b < yk3_2.heap.size) ⟨3, fr, tq, rq, o, r, t, ptk3_1, cd, h⟩ (.slice a1 n1 c1) (.slice a2 n2 c2) (.slice a3 n3 c3) (.slice uak3_1 unk3_1 uck3_1)) := rm_turn HNk3_1.out tyk3_2 (fun b hb => by omega); have o0 : yk3_2.cell? ⟨X, 0, none⟩ = some (.i 3) := HVk3_2.out.c 0 rfl)
    refine Calls.mono (below_any pb 12 _ HBk3_2.out.c (by omega) (by omega)) ?_
    rintro ek3_3 wk3_3 ⟨xk3_3, rfl, xak3_3, xbk3_3, ck3_3, gk3_3⟩
    try clear tt
    try clear o0
    have zxk3_3 := HVk3_2.out.lt
    have ztk3_3 := HBk3_2.out.vT.lt
    have HBk3_3 : Hid (PBm w wk3_3 pb (X + 1) tb (.slice ta tn tc) l) := HBk3_2.out.grow ck3_3 gk3_3 hpb hlo htb
    have HVk3_3 : Hid (VarA wk3_3 X 35 (msC ⟨3, fr, tq, rq, o, r, t, ptk3_1, cd, h⟩ (.slice a1 n1 c1) (.slice a2 n2 c2) (.slice a3 n3 c3) (.slice uak3_1 unk3_1 uck3_1))) := vo_grow HVk3_2.out gk3_3 (by omega)
    have HRk3_3 : Hid (RdM wk3_3 (fun b => tb < b ∧ b < wk3_3.heap.size) ⟨3, fr, tq, rq, o, r, t, ptk3_1, cd, h⟩ (.slice a1 n1 c1) (.slice a2 n2 c2) (.slice a3 n3 c3) (.slice uak3_1 unk3_1 uck3_1)) := rm_grow HRk3_2.out gk3_3 (by omega)
    have tt := HBk3_3.out.vT.l1
    have o0 : wk3_3.cell? ⟨X, 0, none⟩ = some (.i 3) := HVk3_3.out.c 0 rfl
    go_wp2_with ((with_reducible refine gS 3 ?_); refine wpList_storeG HVk3_3.out rfl rfl rfl (by kernel_rfl) rfl (of_decide_eq_true rfl) rfl ?_; intro yk3_4 vyk3_4 tyk3_4; have HVk3_4 : Hid (VarA yk3_4 X 35 (msC ⟨3, fr, tq, rq, o, r, t, ptk3_1, xk3_3, h⟩ (.slice a1 n1 c1) (.slice a2 n2 c2) (.slice a3 n3 c3) (.slice uak3_1 unk3_1 uck3_1))) := vyk3_4; have HBk3_4 : Hid (PBm w yk3_4 pb (X + 1) tb (.slice ta tn tc) l) := HBk3_3.out.put tyk3_4 hpb (by omega) (Or.inl (by omega)) hlo htb; have tt := HBk3_4.out.vT.l1; have HRk3_4 : Hid (RdM yk3_4 (fun b => tb < b ∧ b < yk3_4.heap.size) ⟨3, fr, tq, rq, o, r, t, ptk3_1, xk3_3, h⟩ (.slice a1 n1 c1) (.slice a2 n2 c2) (.slice a3 n3 c3) (.slice uak3_1 unk3_1 uck3_1)) := rm_turn HRk3_3.out tyk3_4 (fun b hb => by omega); have o0 : yk3_4.cell? ⟨X, 0, none⟩ = some (.i 3) := HVk3_4.out.c 0 rfl)
    go_meet
    exact ⟨⟨3, fr, tq, rq, o, r, t, ptk3_1, xk3_3, h⟩, _, _, _, _, _, _, _, _, _, _, _, _, HBk3_4.out, HVk3_4.out, HRk3_4.out, ⟨hz0, hz1, hz2, luk3_1⟩, trivial⟩
   ·go_wp2_with fail
    go_meet
    exact ⟨⟨4, fr, tq, rq, o, r, t, p, cd, h⟩, _, _, _, _, _, _, _, _, _, _, _, _, HB2.out, HV2.out, HR2.out, ⟨hz0, hz1, hz2, hz3⟩, trivial⟩
   ·go_wp2_with fail
    refine Calls.mono (below_any pb 2 _ HB2.out.c (by omega) (by omega)) ?_
    rintro ek5_1 wk5_1 ⟨xk5_1, rfl, xak5_1, xbk5_1, ck5_1, gk5_1⟩
    try clear tt
    try clear o0
    have zxk5_1 := HV2.out.lt
    have ztk5_1 := HB2.out.vT.lt
    have HBk5_1 : Hid (PBm w wk5_1 pb (X + 1) tb (.slice ta tn tc) l) := HB2.out.grow ck5_1 gk5_1 hpb hlo htb
    have HVk5_1 : Hid (VarA wk5_1 X 35 (msC ⟨5, fr, tq, rq, o, r, t, p, cd, h⟩ (.slice a1 n1 c1) (.slice a2 n2 c2) (.slice a3 n3 c3) (.slice a4 n4 c4))) := vo_grow HV2.out gk5_1 (by omega)
    have HRk5_1 : Hid (RdM wk5_1 (fun b => tb < b ∧ b < wk5_1.heap.size) ⟨5, fr, tq, rq, o, r, t, p, cd, h⟩ (.slice a1 n1 c1) (.slice a2 n2 c2) (.slice a3 n3 c3) (.slice a4 n4 c4)) := rm_grow HR2.out gk5_1 (by omega)
    have tt := HBk5_1.out.vT.l1
    have o0 : wk5_1.cell? ⟨X, 0, none⟩ = some (.i 5) := HVk5_1.out.c 0 rfl
    go_wp2_with ((with_reducible refine gS 3 ?_); refine wpList_storeG HVk5_1.out rfl rfl rfl (by kernel_rfl) rfl (of_decide_eq_true rfl) rfl ?_; intro yk5_2 vyk5_2 tyk5_2; have HVk5_2 : Hid (VarA yk5_2 X 35 (msC ⟨5, fr, tq, rq, o, r, t, p, xk5_1, h⟩ (.slice a1 n1 c1) (.slice a2 n2 c2) (.slice a3 n3 c3) (.slice a4 n4 c4))) := vyk5_2; have HBk5_2 : Hid (PBm w yk5_2 pb (X + 1) tb (.slice ta tn tc) l) := HBk5_1.out.put tyk5_2 hpb (by omega) (Or.inl (by omega)) hlo htb; have tt := HBk5_2.out.vT.l1; have HRk5_2 : Hid (RdM yk5_2 (fun b => tb < b ∧ b < yk5_2.heap.size) ⟨5, fr, tq, rq, o, r, t, p, xk5_1, h⟩ (.slice a1 n1 c1) (.slice a2 n2 c2) (.slice a3 n3 c3) (.slice a4 n4 c4)) := rm_turn HRk5_1.out tyk5_2 (fun b hb => by omega); have o0 : yk5_2.cell? ⟨X, 0, none⟩ = some (.i 5) := HVk5_2.out.c 0 rfl)
    go_meet
    exact ⟨⟨5, fr, tq, rq, o, r, t, p, xk5_1, h⟩, _, _, _, _, _, _, _, _, _, _, _, _, HBk5_2.out, HVk5_2.out, HRk5_2.out, ⟨hz0, hz1, hz2, hz3⟩, trivial⟩
   ·go_wp2_with fail
    refine Calls.mono (below_any pb 9 _ HB2.out.c (by omega) (by omega)) ?_
    rintro ek6_1 wk6_1 ⟨xk6_1, rfl, xak6_1, xbk6_1, ck6_1, gk6_1⟩
    try clear tt
    try clear o0
    have zxk6_1 := HV2.out.lt
    have ztk6_1 := HB2.out.vT.lt
    have HBk6_1 : Hid (PBm w wk6_1 pb (X + 1) tb (.slice ta tn tc) l) := HB2.out.grow ck6_1 gk6_1 hpb hlo htb
    have HVk6_1 : Hid (VarA wk6_1 X 35 (msC ⟨6, fr, tq, rq, o, r, t, p, cd, h⟩ (.slice a1 n1 c1) (.slice a2 n2 c2) (.slice a3 n3 c3) (.slice a4 n4 c4))) := vo_grow HV2.out gk6_1 (by omega)
    have HRk6_1 : Hid (RdM wk6_1 (fun b => tb < b ∧ b < wk6_1.heap.size) ⟨6, fr, tq, rq, o, r, t, p, cd, h⟩ (.slice a1 n1 c1) (.slice a2 n2 c2) (.slice a3 n3 c3) (.slice a4 n4 c4)) := rm_grow HR2.out gk6_1 (by omega)
    have tt := HBk6_1.out.vT.l1
    have o0 : wk6_1.cell? ⟨X, 0, none⟩ = some (.i 6) := HVk6_1.out.c 0 rfl
    go_wp2_with ((with_reducible refine gS 3 ?_); refine wpList_storeG HVk6_1.out rfl rfl rfl (by kernel_rfl) rfl (of_decide_eq_true rfl) rfl ?_; intro yk6_2 vyk6_2 tyk6_2; have HVk6_2 : Hid (VarA yk6_2 X 35 (msC ⟨6, fr, tq, xk6_1, o, r, t, p, cd, h⟩ (.slice a1 n1 c1) (.slice a2 n2 c2) (.slice a3 n3 c3) (.slice a4 n4 c4))) := vyk6_2; have HBk6_2 : Hid (PBm w yk6_2 pb (X + 1) tb (.slice ta tn tc) l) := HBk6_1.out.put tyk6_2 hpb (by omega) (Or.inl (by omega)) hlo htb; have tt := HBk6_2.out.vT.l1; have HRk6_2 : Hid (RdM yk6_2 (fun b => tb < b ∧ b < yk6_2.heap.size) ⟨6, fr, tq, xk6_1, o, r, t, p, cd, h⟩ (.slice a1 n1 c1) (.slice a2 n2 c2) (.slice a3 n3 c3) (.slice a4 n4 c4)) := rm_turn HRk6_1.out tyk6_2 (fun b hb => by omega); have o0 : yk6_2.cell? ⟨X, 0, none⟩ = some (.i 6) := HVk6_2.out.c 0 rfl)
    refine Calls.mono (HD.out _ HBk6_2.out.c HBk6_2.out.r) ?_
    rintro ek6_3 wk6_3 ⟨⟨pk6_3, qk6_3, dk6_3⟩, rfl, hrk6_3, ck6_3, gk6_3⟩
    try clear tt
    try clear o0
    have zxk6_3 := HVk6_2.out.lt
    have ztk6_3 := HBk6_2.out.vT.lt
    have HBk6_3 : Hid (PBm w wk6_3 pb (X + 1) tb (.slice ta tn tc) l) := HBk6_2.out.grow ck6_3 gk6_3 hpb hlo htb
    have HVk6_3 : Hid (VarA wk6_3 X 35 (msC ⟨6, fr, tq, xk6_1, o, r, t, p, cd, h⟩ (.slice a1 n1 c1) (.slice a2 n2 c2) (.slice a3 n3 c3) (.slice a4 n4 c4))) := vo_grow HVk6_2.out gk6_3 (by omega)
    have HRk6_3 : Hid (RdM wk6_3 (fun b => tb < b ∧ b < wk6_3.heap.size) ⟨6, fr, tq, xk6_1, o, r, t, p, cd, h⟩ (.slice a1 n1 c1) (.slice a2 n2 c2) (.slice a3 n3 c3) (.slice a4 n4 c4)) := rm_grow HRk6_2.out gk6_3 (by omega)
    have tt := HBk6_3.out.vT.l1
    have o0 : wk6_3.cell? ⟨X, 0, none⟩ = some (.i 6) := HVk6_3.out.c 0 rfl
    go_wp2_with ((with_reducible refine gS 24 ?_); refine wpList_storeG HVk6_3.out rfl rfl rfl (by kernel_rfl) rfl (of_decide_eq_true rfl) rfl ?_; intro yk6_4 vyk6_4 tyk6_4; have HVk6_4 : Hid (VarA yk6_4 X 35 (msC ⟨6, fr, tq, xk6_1, o, r, t, p, cd, (pk6_3, qk6_3, dk6_3)⟩ (.slice a1 n1 c1) (.slice a2 n2 c2) (.slice a3 n3 c3) (.slice a4 n4 c4))) := vyk6_4; have HBk6_4 : Hid (PBm w yk6_4 pb (X + 1) tb (.slice ta tn tc) l) := HBk6_3.out.put tyk6_4 hpb (by omega) (Or.inl (by omega)) hlo htb; have tt := HBk6_4.out.vT.l1; have HRk6_4 : Hid (RdM yk6_4 (fun b => tb < b ∧ b < yk6_4.heap.size) ⟨6, fr, tq, xk6_1, o, r, t, p, cd, (pk6_3, qk6_3, dk6_3)⟩ (.slice a1 n1 c1) (.slice a2 n2 c2) (.slice a3 n3 c3) (.slice a4 n4 c4)) := rm_turn HRk6_3.out tyk6_4 (fun b hb => by omega); have o0 : yk6_4.cell? ⟨X, 0, none⟩ = some (.i 6) := HVk6_4.out.c 0 rfl)
    go_meet
    exact ⟨⟨6, fr, tq, xk6_1, o, r, t, p, cd, (pk6_3, qk6_3, dk6_3)⟩, _, _, _, _, _, _, _, _, _, _, _, _, HBk6_4.out, HVk6_4.out, HRk6_4.out, ⟨hz0, hz1, hz2, hz3⟩, trivial⟩
   ·go_wp2_with fail
    refine Calls.mono (below_any pb 3 _ HB2.out.c (by omega) (by omega)) ?_
    rintro ek7_1 wk7_1 ⟨xk7_1, rfl, xak7_1, xbk7_1, ck7_1, gk7_1⟩
    try clear tt
    try clear o0
    have zxk7_1 := HV2.out.lt
    have ztk7_1 := HB2.out.vT.lt
    have HBk7_1 : Hid (PBm w wk7_1 pb (X + 1) tb (.slice ta tn tc) l) := HB2.out.grow ck7_1 gk7_1 hpb hlo htb
    have HVk7_1 : Hid (VarA wk7_1 X 35 (msC ⟨7, fr, tq, rq, o, r, t, p, cd, h⟩ (.slice a1 n1 c1) (.slice a2 n2 c2) (.slice a3 n3 c3) (.slice a4 n4 c4))) := vo_grow HV2.out gk7_1 (by omega)
    have HRk7_1 : Hid (RdM wk7_1 (fun b => tb < b ∧ b < wk7_1.heap.size) ⟨7, fr, tq, rq, o, r, t, p, cd, h⟩ (.slice a1 n1 c1) (.slice a2 n2 c2) (.slice a3 n3 c3) (.slice a4 n4 c4)) := rm_grow HR2.out gk7_1 (by omega)
    have tt := HBk7_1.out.vT.l1
    have o0 : wk7_1.cell? ⟨X, 0, none⟩ = some (.i 7) := HVk7_1.out.c 0 rfl
    go_wp2_with ((with_reducible refine gS 3 ?_); refine wpList_storeG HVk7_1.out rfl rfl rfl (by kernel_rfl) rfl (of_decide_eq_true rfl) rfl ?_; intro yk7_2 vyk7_2 tyk7_2; have HVk7_2 : Hid (VarA yk7_2 X 35 (msC ⟨7, fr, tq, rq, o, r, t, p, xk7_1, h⟩ (.slice a1 n1 c1) (.slice a2 n2 c2) (.slice a3 n3 c3) (.slice a4 n4 c4))) := vyk7_2; have HBk7_2 : Hid (PBm w yk7_2 pb (X + 1) tb (.slice ta tn tc) l) := HBk7_1.out.put tyk7_2 hpb (by omega) (Or.inl (by omega)) hlo htb; have tt := HBk7_2.out.vT.l1; have HRk7_2 : Hid (RdM yk7_2 (fun b => tb < b ∧ b < yk7_2.heap.size) ⟨7, fr, tq, rq, o, r, t, p, xk7_1, h⟩ (.slice a1 n1 c1) (.slice a2 n2 c2) (.slice a3 n3 c3) (.slice a4 n4 c4)) := rm_turn HRk7_1.out tyk7_2 (fun b hb => by omega); have o0 : yk7_2.cell? ⟨X, 0, none⟩ = some (.i 7) := HVk7_2.out.c 0 rfl)
    refine Calls.mono (HH.out _ HBk7_2.out.c HBk7_2.out.r) ?_
    rintro ek7_3 wk7_3 ⟨⟨pk7_3, qk7_3, dk7_3⟩, rfl, hrk7_3, ck7_3, gk7_3⟩
    try clear tt
    try clear o0
    have zxk7_3 := HVk7_2.out.lt
    have ztk7_3 := HBk7_2.out.vT.lt
    have HBk7_3 : Hid (PBm w wk7_3 pb (X + 1) tb (.slice ta tn tc) l) := HBk7_2.out.grow ck7_3 gk7_3 hpb hlo htb
    have HVk7_3 : Hid (VarA wk7_3 X 35 (msC ⟨7, fr, tq, rq, o, r, t, p, xk7_1, h⟩ (.slice a1 n1 c1) (.slice a2 n2 c2) (.slice a3 n3 c3) (.slice a4 n4 c4))) := vo_grow HVk7_2.out gk7_3 (by omega)
    have HRk7_3 : Hid (RdM wk7_3 (fun b => tb < b ∧ b < wk7_3.heap.size) ⟨7, fr, tq, rq, o, r, t, p, xk7_1, h⟩ (.slice a1 n1 c1) (.slice a2 n2 c2) (.slice a3 n3 c3) (.slice a4 n4 c4)) := rm_grow HRk7_2.out gk7_3 (by omega)
    have tt := HBk7_3.out.vT.l1
    have o0 : wk7_3.cell? ⟨X, 0, none⟩ = some (.i 7) := HVk7_3.out.c 0 rfl
    go_wp2_with ((with_reducible refine gS 24 ?_); refine wpList_storeG HVk7_3.out rfl rfl rfl (by kernel_rfl) rfl (of_decide_eq_true rfl) rfl ?_; intro yk7_4 vyk7_4 tyk7_4; have HVk7_4 : Hid (VarA yk7_4 X 35 (msC ⟨7, fr, tq, rq, o, r, t, p, xk7_1, (pk7_3, qk7_3, dk7_3)⟩ (.slice a1 n1 c1) (.slice a2 n2 c2) (.slice a3 n3 c3) (.slice a4 n4 c4))) := vyk7_4; have HBk7_4 : Hid (PBm w yk7_4 pb (X + 1) tb (.slice ta tn tc) l) := HBk7_3.out.put tyk7_4 hpb (by omega) (Or.inl (by omega)) hlo htb; have tt := HBk7_4.out.vT.l1; have HRk7_4 : Hid (RdM yk7_4 (fun b => tb < b ∧ b < yk7_4.heap.size) ⟨7, fr, tq, rq, o, r, t, p, xk7_1, (pk7_3, qk7_3, dk7_3)⟩ (.slice a1 n1 c1) (.slice a2 n2 c2) (.slice a3 n3 c3) (.slice a4 n4 c4)) := rm_turn HRk7_3.out tyk7_4 (fun b hb => by omega); have o0 : yk7_4.cell? ⟨X, 0, none⟩ = some (.i 7) := HVk7_4.out.c 0 rfl)
    go_meet
    exact ⟨⟨7, fr, tq, rq, o, r, t, p, xk7_1, (pk7_3, qk7_3, dk7_3)⟩, _, _, _, _, _, _, _, _, _, _, _, _, HBk7_4.out, HVk7_4.out, HRk7_4.out, ⟨hz0, hz1, hz2, hz3⟩, trivial⟩
  case rest =>
   clear tt o0 hq0 hq1
   rename World => wd
   obtain ⟨⟨kd, fr, tq, rq, o, r, t, p, cd, h⟩, a1, n1, c1, a2, n2, c2, a3, n3, c3, a4, n4, c4, B, vP, rm, ⟨hz0, hz1, hz2, hz3⟩, hq⟩ := hcut
   have HB3 : Hid (PBm w wd pb (X + 1) tb (.slice ta tn tc) l) := B
   have HV3 : Hid (VarA wd X 35 (msC ⟨kd, fr, tq, rq, o, r, t, p, cd, h⟩ (.slice a1 n1 c1) (.slice a2 n2 c2) (.slice a3 n3 c3) (.slice a4 n4 c4))) := vP
   have HR3 : Hid (RdM wd (fun b => tb < b ∧ b < wd.heap.size) ⟨kd, fr, tq, rq, o, r, t, p, cd, h⟩ (.slice a1 n1 c1) (.slice a2 n2 c2) (.slice a3 n3 c3) (.slice a4 n4 c4)) := rm
   clear B vP rm
   clear hq
   have tt := HB3.out.vT.l1
   go_wp2_with fail
   refine Calls.mono (once_any pb 12 _ HB3.out.c (by omega) (by omega)) ?_
   rintro ed_1 wd_1 ⟨bd_1, rfl, cd_1, gd_1⟩
   try clear tt
   have zxd_1 := HV3.out.lt
   have ztd_1 := HB3.out.vT.lt
   have HBd_1 : Hid (PBm w wd_1 pb (X + 1) tb (.slice ta tn tc) l) := HB3.out.grow cd_1 gd_1 hpb hlo htb
   have HVd_1 : Hid (VarA wd_1 X 35 (msC ⟨kd, fr, tq, rq, o, r, t, p, cd, h⟩ (.slice a1 n1 c1) (.slice a2 n2 c2) (.slice a3 n3 c3) (.slice a4 n4 c4))) := vo_grow HV3.out gd_1 (by omega)
   have HRd_1 : Hid (RdM wd_1 (fun b => tb < b ∧ b < wd_1.heap.size) ⟨kd, fr, tq, rq, o, r, t, p, cd, h⟩ (.slice a1 n1 c1) (.slice a2 n2 c2) (.slice a3 n3 c3) (.slice a4 n4 c4)) := rm_grow HR3.out gd_1 (by omega)
   have tt := HBd_1.out.vT.l1
   cases bd_1 with
   | false =>
    clear tt
    go_wp2_with (first | ((with_reducible refine gS 35 ?_); refine sF HBd_1.out.vR rfl rfl (by kernel_rfl) rfl rfl ?_; intro wz vZ t_) | ((with_reducible refine guardLoad (ty := 35) ?_); refine wpList_loadA HVd_1.out rfl Tryz.underlying35 rfl (by kernel_rfl) ?_))
    refine bpR Tryz.results50 vZ Tryz.underlying35 rfl rfl (by kernel_rfl) rfl ?_
    exact ⟨⟨kd, fr, tq, rq, o, r, t, p, cd, h⟩, _, _, _, _, _, _, _, _, _, _, _, _, rfl, rm_end HRd_1.out t_ (by omega) (by omega), ⟨hz0, hz1, hz2, hz3⟩, cur_keep HBd_1.out.c t_ (by omega), grown_keep HBd_1.out.g t_ (by omega)⟩
   | true =>
    go_wp2_with fail
    refine Calls.mono (below_any pb 6 _ HBd_1.out.c (by omega) (by omega)) ?_
    rintro ed_2 wd_2 ⟨xd_2, rfl, xad_2, xbd_2, cd_2, gd_2⟩
    try clear tt
    have zxd_2 := HVd_1.out.lt
    have ztd_2 := HBd_1.out.vT.lt
    have HBd_2 : Hid (PBm w wd_2 pb (X + 1) tb (.slice ta tn tc) l) := HBd_1.out.grow cd_2 gd_2 hpb hlo htb
    have HVd_2 : Hid (VarA wd_2 X 35 (msC ⟨kd, fr, tq, rq, o, r, t, p, cd, h⟩ (.slice a1 n1 c1) (.slice a2 n2 c2) (.slice a3 n3 c3) (.slice a4 n4 c4))) := vo_grow HVd_1.out gd_2 (by omega)
    have HRd_2 : Hid (RdM wd_2 (fun b => tb < b ∧ b < wd_2.heap.size) ⟨kd, fr, tq, rq, o, r, t, p, cd, h⟩ (.slice a1 n1 c1) (.slice a2 n2 c2) (.slice a3 n3 c3) (.slice a4 n4 c4)) := rm_grow HRd_1.out gd_2 (by omega)
    have tt := HBd_2.out.vT.l1
    have hx : xd_2 = 0 ∨ xd_2 = 1 ∨ xd_2 = 2 ∨ xd_2 = 3 ∨ xd_2 = 4 ∨ xd_2 = 5 := by omega
    rcases hx with rfl | rfl | rfl | rfl | rfl | rfl
    ·go_wp2_with fail
     refine Calls.mono (below_any pb 10 _ HBd_2.out.c (by omega) (by omega)) ?_
     rintro et0_3 wt0_3 ⟨xt0_3, rfl, xat0_3, xbt0_3, ct0_3, gt0_3⟩
     try clear tt
     have zxt0_3 := HVd_2.out.lt
     have ztt0_3 := HBd_2.out.vT.lt
     have HBt0_3 : Hid (PBm w wt0_3 pb (X + 1) tb (.slice ta tn tc) l) := HBd_2.out.grow ct0_3 gt0_3 hpb hlo htb
     have HVt0_3 : Hid (VarA wt0_3 X 35 (msC ⟨kd, fr, tq, rq, o, r, t, p, cd, h⟩ (.slice a1 n1 c1) (.slice a2 n2 c2) (.slice a3 n3 c3) (.slice a4 n4 c4))) := vo_grow HVd_2.out gt0_3 (by omega)
     have HRt0_3 : Hid (RdM wt0_3 (fun b => tb < b ∧ b < wt0_3.heap.size) ⟨kd, fr, tq, rq, o, r, t, p, cd, h⟩ (.slice a1 n1 c1) (.slice a2 n2 c2) (.slice a3 n3 c3) (.slice a4 n4 c4)) := rm_grow HRd_2.out gt0_3 (by omega)
     have tt := HBt0_3.out.vT.l1
     have hw : IntKind.i64.wrap (xt0_3 - 1) = xt0_3 - 1 := wrapI _ (by omega) (by omega)
     go_wp2_with (first | ((with_reducible refine gS 35 ?_); refine sF HBt0_4.out.vR rfl rfl (by kernel_rfl) rfl rfl ?_; intro wz vZ t_) | ((with_reducible refine guardLoad (ty := 35) ?_); refine wpList_loadA HVt0_4.out rfl Tryz.underlying35 rfl (by kernel_rfl) ?_) | ((with_reducible refine gS 3 ?_); refine wpList_storeG HVt0_3.out rfl rfl rfl (by kernel_rfl) rfl (of_decide_eq_true rfl) rfl ?_; intro yt0_4 vyt0_4 tyt0_4; have HVt0_4 : Hid (VarA yt0_4 X 35 (msC ⟨(xt0_3 - 1), fr, tq, rq, o, r, t, p, cd, h⟩ (.slice a1 n1 c1) (.slice a2 n2 c2) (.slice a3 n3 c3) (.slice a4 n4 c4))) := vyt0_4; have HBt0_4 : Hid (PBm w yt0_4 pb (X + 1) tb (.slice ta tn tc) l) := HBt0_3.out.put tyt0_4 hpb (by omega) (Or.inl (by omega)) hlo htb; have tt := HBt0_4.out.vT.l1; have HRt0_4 : Hid (RdM yt0_4 (fun b => tb < b ∧ b < yt0_4.heap.size) ⟨(xt0_3 - 1), fr, tq, rq, o, r, t, p, cd, h⟩ (.slice a1 n1 c1) (.slice a2 n2 c2) (.slice a3 n3 c3) (.slice a4 n4 c4)) := rm_turn HRt0_3.out tyt0_4 (fun b hb => by omega)))
     refine bpR Tryz.results50 vZ Tryz.underlying35 rfl rfl (by kernel_rfl) rfl ?_
     exact ⟨⟨(xt0_3 - 1), fr, tq, rq, o, r, t, p, cd, h⟩, _, _, _, _, _, _, _, _, _, _, _, _, rfl, rm_end HRt0_4.out t_ (by omega) (by omega), ⟨hz0, hz1, hz2, hz3⟩, cur_keep HBt0_4.out.c t_ (by omega), grown_keep HBt0_4.out.g t_ (by omega)⟩
    ·go_wp2_with fail
     refine Calls.mono (pick_any pb wd_2.heap.size [-1, 8] _ (HBd_2.out.c.alloc _) (by simp) (by simp) (by have := HBd_2.out.c.lt; omega) (heap_alloc_new wd_2 _)) ?_
     rintro et1_3 wt1_3 ⟨xt1_3, rfl, hmt1_3, ct1_3, gt1_3⟩
     try clear tt
     have zxt1_3 := HVd_2.out.lt
     have ztt1_3 := HBd_2.out.vT.lt
     have HBt1_3 : Hid (PBm w wt1_3 pb (X + 1) tb (.slice ta tn tc) l) := (HBd_2.out.step (Below.newH _) hpb hlo htb).grow ct1_3 gt1_3 hpb hlo htb
     have HVt1_3 : Hid (VarA wt1_3 X 35 (msC ⟨kd, fr, tq, rq, o, r, t, p, cd, h⟩ (.slice a1 n1 c1) (.slice a2 n2 c2) (.slice a3 n3 c3) (.slice a4 n4 c4))) := vo_grow (HVd_2.out.alloc _) gt1_3 (by omega)
     have HRt1_3 : Hid (RdM wt1_3 (fun b => tb < b ∧ b < wt1_3.heap.size) ⟨kd, fr, tq, rq, o, r, t, p, cd, h⟩ (.slice a1 n1 c1) (.slice a2 n2 c2) (.slice a3 n3 c3) (.slice a4 n4 c4)) := rm_grow (rm_turn HRd_2.out (Turned.ofBelow (S := fun b => False) (Below.newH _)) (fun b hb => hb.elim)) gt1_3 (by omega)
     have tt := HBt1_3.out.vT.l1
     go_wp2_with (first | ((with_reducible refine gS 35 ?_); refine sF HBt1_4.out.vR rfl rfl (by kernel_rfl) rfl rfl ?_; intro wz vZ t_) | ((with_reducible refine guardLoad (ty := 35) ?_); refine wpList_loadA HVt1_4.out rfl Tryz.underlying35 rfl (by kernel_rfl) ?_) | ((with_reducible refine gS 3 ?_); refine wpList_storeG HVt1_3.out rfl rfl rfl (by kernel_rfl) rfl (of_decide_eq_true rfl) rfl ?_; intro yt1_4 vyt1_4 tyt1_4; have HVt1_4 : Hid (VarA yt1_4 X 35 (msC ⟨kd, xt1_3, tq, rq, o, r, t, p, cd, h⟩ (.slice a1 n1 c1) (.slice a2 n2 c2) (.slice a3 n3 c3) (.slice a4 n4 c4))) := vyt1_4; have HBt1_4 : Hid (PBm w yt1_4 pb (X + 1) tb (.slice ta tn tc) l) := HBt1_3.out.put tyt1_4 hpb (by omega) (Or.inl (by omega)) hlo htb; have tt := HBt1_4.out.vT.l1; have HRt1_4 : Hid (RdM yt1_4 (fun b => tb < b ∧ b < yt1_4.heap.size) ⟨kd, xt1_3, tq, rq, o, r, t, p, cd, h⟩ (.slice a1 n1 c1) (.slice a2 n2 c2) (.slice a3 n3 c3) (.slice a4 n4 c4)) := rm_turn HRt1_3.out tyt1_4 (fun b hb => by omega)))
     refine bpR Tryz.results50 vZ Tryz.underlying35 rfl rfl (by kernel_rfl) rfl ?_
     exact ⟨⟨kd, xt1_3, tq, rq, o, r, t, p, cd, h⟩, _, _, _, _, _, _, _, _, _, _, _, _, rfl, rm_end HRt1_4.out t_ (by omega) (by omega), ⟨hz0, hz1, hz2, hz3⟩, cur_keep HBt1_4.out.c t_ (by omega), grown_keep HBt1_4.out.g t_ (by omega)⟩
    ·go_wp2_with fail
     refine Calls.mono (num_any pb _ HBd_2.out.c) ?_
     rintro et2_3 wt2_3 ⟨xt2_3, rfl, xat2_3, xbt2_3, ct2_3, gt2_3⟩
     try clear tt
     have zxt2_3 := HVd_2.out.lt
     have ztt2_3 := HBd_2.out.vT.lt
     have HBt2_3 : Hid (PBm w wt2_3 pb (X + 1) tb (.slice ta tn tc) l) := HBd_2.out.grow ct2_3 gt2_3 hpb hlo htb
     have HVt2_3 : Hid (VarA wt2_3 X 35 (msC ⟨kd, fr, tq, rq, o, r, t, p, cd, h⟩ (.slice a1 n1 c1) (.slice a2 n2 c2) (.slice a3 n3 c3) (.slice a4 n4 c4))) := vo_grow HVd_2.out gt2_3 (by omega)
     have HRt2_3 : Hid (RdM wt2_3 (fun b => tb < b ∧ b < wt2_3.heap.size) ⟨kd, fr, tq, rq, o, r, t, p, cd, h⟩ (.slice a1 n1 c1) (.slice a2 n2 c2) (.slice a3 n3 c3) (.slice a4 n4 c4)) := rm_grow HRd_2.out gt2_3 (by omega)
     have tt := HBt2_3.out.vT.l1
     go_wp2_with (first | ((with_reducible refine gS 35 ?_); refine sF HBt2_4.out.vR rfl rfl (by kernel_rfl) rfl rfl ?_; intro wz vZ t_) | ((with_reducible refine guardLoad (ty := 35) ?_); refine wpList_loadA HVt2_4.out rfl Tryz.underlying35 rfl (by kernel_rfl) ?_) | ((with_reducible refine gS 3 ?_); refine wpList_storeG HVt2_3.out rfl rfl rfl (by kernel_rfl) rfl (of_decide_eq_true rfl) rfl ?_; intro yt2_4 vyt2_4 tyt2_4; have HVt2_4 : Hid (VarA yt2_4 X 35 (msC ⟨kd, fr, tq, xt2_3, o, r, t, p, cd, h⟩ (.slice a1 n1 c1) (.slice a2 n2 c2) (.slice a3 n3 c3) (.slice a4 n4 c4))) := vyt2_4; have HBt2_4 : Hid (PBm w yt2_4 pb (X + 1) tb (.slice ta tn tc) l) := HBt2_3.out.put tyt2_4 hpb (by omega) (Or.inl (by omega)) hlo htb; have tt := HBt2_4.out.vT.l1; have HRt2_4 : Hid (RdM yt2_4 (fun b => tb < b ∧ b < yt2_4.heap.size) ⟨kd, fr, tq, xt2_3, o, r, t, p, cd, h⟩ (.slice a1 n1 c1) (.slice a2 n2 c2) (.slice a3 n3 c3) (.slice a4 n4 c4)) := rm_turn HRt2_3.out tyt2_4 (fun b hb => by omega)))
     refine bpR Tryz.results50 vZ Tryz.underlying35 rfl rfl (by kernel_rfl) rfl ?_
     exact ⟨⟨kd, fr, tq, xt2_3, o, r, t, p, cd, h⟩, _, _, _, _, _, _, _, _, _, _, _, _, rfl, rm_end HRt2_4.out t_ (by omega) (by omega), ⟨hz0, hz1, hz2, hz3⟩, cur_keep HBt2_4.out.c t_ (by omega), grown_keep HBt2_4.out.g t_ (by omega)⟩
    ·go_wp2_with fail
     refine Calls.mono (pick_any pb wd_2.heap.size [-1, 12, 1] _ (HBd_2.out.c.alloc _) (by simp) (by simp) (by have := HBd_2.out.c.lt; omega) (heap_alloc_new wd_2 _)) ?_
     rintro et3_3 wt3_3 ⟨xt3_3, rfl, hmt3_3, ct3_3, gt3_3⟩
     try clear tt
     have zxt3_3 := HVd_2.out.lt
     have ztt3_3 := HBd_2.out.vT.lt
     have HBt3_3 : Hid (PBm w wt3_3 pb (X + 1) tb (.slice ta tn tc) l) := (HBd_2.out.step (Below.newH _) hpb hlo htb).grow ct3_3 gt3_3 hpb hlo htb
     have HVt3_3 : Hid (VarA wt3_3 X 35 (msC ⟨kd, fr, tq, rq, o, r, t, p, cd, h⟩ (.slice a1 n1 c1) (.slice a2 n2 c2) (.slice a3 n3 c3) (.slice a4 n4 c4))) := vo_grow (HVd_2.out.alloc _) gt3_3 (by omega)
     have HRt3_3 : Hid (RdM wt3_3 (fun b => tb < b ∧ b < wt3_3.heap.size) ⟨kd, fr, tq, rq, o, r, t, p, cd, h⟩ (.slice a1 n1 c1) (.slice a2 n2 c2) (.slice a3 n3 c3) (.slice a4 n4 c4)) := rm_grow (rm_turn HRd_2.out (Turned.ofBelow (S := fun b => False) (Below.newH _)) (fun b hb => hb.elim)) gt3_3 (by omega)
     have tt := HBt3_3.out.vT.l1
     go_wp2_with (first | ((with_reducible refine gS 35 ?_); refine sF HBt3_4.out.vR rfl rfl (by kernel_rfl) rfl rfl ?_; intro wz vZ t_) | ((with_reducible refine guardLoad (ty := 35) ?_); refine wpList_loadA HVt3_4.out rfl Tryz.underlying35 rfl (by kernel_rfl) ?_) | ((with_reducible refine gS 3 ?_); refine wpList_storeG HVt3_3.out rfl rfl rfl (by kernel_rfl) rfl (of_decide_eq_true rfl) rfl ?_; intro yt3_4 vyt3_4 tyt3_4; have HVt3_4 : Hid (VarA yt3_4 X 35 (msC ⟨kd, fr, tq, rq, o, r, t, p, xt3_3, h⟩ (.slice a1 n1 c1) (.slice a2 n2 c2) (.slice a3 n3 c3) (.slice a4 n4 c4))) := vyt3_4; have HBt3_4 : Hid (PBm w yt3_4 pb (X + 1) tb (.slice ta tn tc) l) := HBt3_3.out.put tyt3_4 hpb (by omega) (Or.inl (by omega)) hlo htb; have tt := HBt3_4.out.vT.l1; have HRt3_4 : Hid (RdM yt3_4 (fun b => tb < b ∧ b < yt3_4.heap.size) ⟨kd, fr, tq, rq, o, r, t, p, xt3_3, h⟩ (.slice a1 n1 c1) (.slice a2 n2 c2) (.slice a3 n3 c3) (.slice a4 n4 c4)) := rm_turn HRt3_3.out tyt3_4 (fun b hb => by omega)))
     refine bpR Tryz.results50 vZ Tryz.underlying35 rfl rfl (by kernel_rfl) rfl ?_
     exact ⟨⟨kd, fr, tq, rq, o, r, t, p, xt3_3, h⟩, _, _, _, _, _, _, _, _, _, _, _, _, rfl, rm_end HRt3_4.out t_ (by omega) (by omega), ⟨hz0, hz1, hz2, hz3⟩, cur_keep HBt3_4.out.c t_ (by omega), grown_keep HBt3_4.out.g t_ (by omega)⟩
    ·go_wp2_with fail
     refine Calls.mono (specRootH_any _) ?_
     rintro er wr ⟨rfl, hwr⟩
     have br : Below wd_2.heap.size wd_2 wr := by rw [hwr]; exact Below.newH _
     clear hwr tt
     have HBr : Hid (PBm w wr pb (X + 1) tb (.slice ta tn tc) l) := HBd_2.out.step br hpb hlo htb
     have HVr : Hid (VarA wr X 35 (msC ⟨kd, fr, tq, rq, o, r, t, p, cd, h⟩ (.slice a1 n1 c1) (.slice a2 n2 c2) (.slice a3 n3 c3) (.slice a4 n4 c4))) := HVd_2.out.step br
     have HRr : Hid (RdM wr (fun b => tb < b ∧ b < wr.heap.size) ⟨kd, fr, tq, rq, o, r, t, p, cd, h⟩ (.slice a1 n1 c1) (.slice a2 n2 c2) (.slice a3 n3 c3) (.slice a4 n4 c4)) := rm_turn HRd_2.out (Turned.ofBelow (S := fun b => False) br) (fun b hb => hb.elim)
     go_wp2_with (first | ((with_reducible refine gS 35 ?_); refine sF HBt4_3.out.vR rfl rfl (by kernel_rfl) rfl rfl ?_; intro wz vZ t_) | ((with_reducible refine guardLoad (ty := 35) ?_); refine wpList_loadA HVt4_3.out rfl Tryz.underlying35 rfl (by kernel_rfl) ?_) | ((with_reducible refine gS 24 ?_); refine wpList_storeG HVr.out rfl rfl rfl (by kernel_rfl) rfl (of_decide_eq_true rfl) rfl ?_; intro yt4_3 vyt4_3 tyt4_3; have HVt4_3 : Hid (VarA yt4_3 X 35 (msC ⟨kd, fr, tq, rq, o, r, t, p, cd, (0, 1, true)⟩ (.slice a1 n1 c1) (.slice a2 n2 c2) (.slice a3 n3 c3) (.slice a4 n4 c4))) := vyt4_3; have HBt4_3 : Hid (PBm w yt4_3 pb (X + 1) tb (.slice ta tn tc) l) := HBr.out.put tyt4_3 hpb (by omega) (Or.inl (by omega)) hlo htb; have tt := HBt4_3.out.vT.l1; have HRt4_3 : Hid (RdM yt4_3 (fun b => tb < b ∧ b < yt4_3.heap.size) ⟨kd, fr, tq, rq, o, r, t, p, cd, (0, 1, true)⟩ (.slice a1 n1 c1) (.slice a2 n2 c2) (.slice a3 n3 c3) (.slice a4 n4 c4)) := rm_turn HRr.out tyt4_3 (fun b hb => by omega)))
     refine bpR Tryz.results50 vZ Tryz.underlying35 rfl rfl (by kernel_rfl) rfl ?_
     exact ⟨⟨kd, fr, tq, rq, o, r, t, p, cd, (0, 1, true)⟩, _, _, _, _, _, _, _, _, _, _, _, _, rfl, rm_end HRt4_3.out t_ (by omega) (by omega), ⟨hz0, hz1, hz2, hz3⟩, cur_keep HBt4_3.out.c t_ (by omega), grown_keep HBt4_3.out.g t_ (by omega)⟩
    ·clear tt
     obtain ⟨ok, od, nm, ot, asn, ov⟩ := o
     go_wp2_with (first | ((with_reducible refine gS 35 ?_); refine sF HBt5_3.out.vR rfl rfl (by kernel_rfl) rfl rfl ?_; intro wz vZ t_) | ((with_reducible refine guardLoad (ty := 35) ?_); refine wpList_loadA HVt5_3.out rfl Tryz.underlying35 rfl (by kernel_rfl) ?_) | ((with_reducible refine gS 3 ?_); refine wpList_storeG HVd_2.out rfl rfl rfl (by kernel_rfl) rfl (of_decide_eq_true rfl) rfl ?_; intro yt5_3 vyt5_3 tyt5_3; have HVt5_3 : Hid (VarA yt5_3 X 35 (msC ⟨kd, fr, tq, rq, ⟨ok, od, nm, ot, asn, 1⟩, r, t, p, cd, h⟩ (.slice a1 n1 c1) (.slice a2 n2 c2) (.slice a3 n3 c3) (.slice a4 n4 c4))) := vyt5_3; have HBt5_3 : Hid (PBm w yt5_3 pb (X + 1) tb (.slice ta tn tc) l) := HBd_2.out.put tyt5_3 hpb (by omega) (Or.inl (by omega)) hlo htb; have tt := HBt5_3.out.vT.l1; have HRt5_3 : Hid (RdM yt5_3 (fun b => tb < b ∧ b < yt5_3.heap.size) ⟨kd, fr, tq, rq, ⟨ok, od, nm, ot, asn, 1⟩, r, t, p, cd, h⟩ (.slice a1 n1 c1) (.slice a2 n2 c2) (.slice a3 n3 c3) (.slice a4 n4 c4)) := rm_turn HRd_2.out tyt5_3 (fun b hb => by omega)))
     refine bpR Tryz.results50 vZ Tryz.underlying35 rfl rfl (by kernel_rfl) rfl ?_
     exact ⟨⟨kd, fr, tq, rq, ⟨ok, od, nm, ot, asn, 1⟩, r, t, p, cd, h⟩, _, _, _, _, _, _, _, _, _, _, _, _, rfl, rm_end HRt5_3.out t_ (by omega) (by omega), ⟨hz0, hz1, hz2, hz3⟩, cur_keep HBt5_3.out.c t_ (by omega), grown_keep HBt5_3.out.g t_ (by omega)⟩
end Go.Proofs.YtklhikadhohjbaaGreat
