/- The specification's doing of an operation of the kind 4. Condition: at most 3,000 nodes, of at most 4,000 entries each; each entry's node is there. -/
import Derived.Test.YtblahkhniabhiaaGreatDoorFA01
import Derived.Test.YtblahkhniabhiaaGreatDoorFA07
namespace Go.Proofs.YtblahkhniabhiaaGreatDoor
open Go.RowKit
set_option linter.unusedVariables false
set_option linter.unusedSimpArgs false
set_option maxRecDepth 100000

set_option maxHeartbeats 8000000 in
theorem specDo4 (tb lo : Nat) (o : OpD) (fr : Hd) (y z : Value) (l : List Nd) (S2 L : Nat → Prop) (w : World) (tv : TV w tb lo L l) (hLt : ¬ L tb) (hLn : ∀ b,w.heap.size ≤ b → L b) (h0 : 0 < l.length) (hlo : lo ≤ w.heap.size) (htbl : lo ≤ tb) (sm : Small l) (hsz : szNds l ≤ 2097152) (r1 : RdV w S2 y (.bytes o.nm)) (r2 : RdV w S2 z (.bytes o.asn)) (hS2 : ∀ b,S2 b → b < lo) (hn1 : o.nm.length ≤ 2097152) (hn2 : o.asn.length ≤ 2097152)
  (hin : ∀ i j,i < l.length → j < (l[i]?.getD nd0).es.length → fi l ((l[i]?.getD nd0).es[j]?.getD en0).h < l.length) (hkd : o.kind = 4) :
  Calls Tryz.prog 34 #[.pointer (some ⟨tb,0,none⟩),opV o y z,fr.v] w (DoPost w tb lo L (doD l o fr)):=by
 obtain ⟨v,vT,s,hvt⟩:=tv
 obtain ⟨g,cap,rfl,hg1,hg2,hgf,hcap⟩:=s.head h0
 have htb:=vT.lt
 have hgt : g ≠ tb:=fun e => hvt (by rw [e]; rfl)
 have HVW : Hid (VarA w tb 26 #[.slice (some ⟨g,0,none⟩) l.length cap]):=vT
 obtain ⟨ya,yc,rfl⟩:=r1.sliceB
 obtain ⟨za,zc,rfl⟩:=r2.sliceB
 obtain ⟨kd,⟨p1,q1,d1⟩,nm,⟨p2,q2,d2⟩,asn,vl⟩:=o
 obtain ⟨fp,fq,fd⟩:=fr
 dsimp only at r1 r2 hn1 hn2 hkd ⊢
 subst hkd
 obtain ⟨res,hres⟩ : ∃ r,doD l ⟨4,(p1,q1,d1),nm,(p2,q2,d2),asn,vl⟩ (fp,fq,fd) = r:=⟨_,rfl⟩
 rw [hres]
 have HRES : Hid (doD l ⟨4,(p1,q1,d1),nm,(p2,q2,d2),asn,vl⟩ (fp,fq,fd) = res):=hres
 clear hres
 have hl:=sm.1
 have HEL : Hid (∀ i : Nat,(l[i]?.getD nd0).es.length ≤ 4000 ∧ 0 ≤ (l[i]?.getD nd0).links ∧ (l[i]?.getD nd0).links ≤ 2147483647):=sm.2
 have HFT : Hid (∀ W,Below w.heap.size w W → _):=fun W hW => specFind_any _ l (p1,q1,d1) _ W (RdV.step s.rd hW) (by omega)
 have HRY : Hid (∀ W,Turned (fun b => b = tb ∨ b = g) w W → RdV W S2 (.slice ya nm.length yc) (.bytes nm)):=fun W t => RdV.keep (t.keeps (fun b hb h => by have:=hS2 b hb; rcases h with h | h <;> omega)) r1
 have HRZ : Hid (∀ W,Turned (fun b => b = tb ∨ b = g) w W → RdV W S2 (.slice za asn.length zc) (.bytes asn)):=fun W t => RdV.keep (t.keeps (fun b hb h => by have:=hS2 b hb; rcases h with h | h <;> omega)) r2
 have HS2 : Hid (∀ b,S2 b → b < lo):=hS2
 have HSM : Hid (Small l):=sm
 have HIN : Hid (∀ i j,i < l.length → j < (l[i]?.getD nd0).es.length → fi l ((l[i]?.getD nd0).es[j]?.getD en0).h < l.length):=hin
 have sL : SG w lo (fun b => L b ∧ b ≠ w.heap.size + 2) _ l:=s.mono (fun b hb h => ⟨h,by omega⟩)
 obtain ⟨L1,hL1⟩ : ∃ M : Nat → Prop,M = fun b => L b ∧ b ≠ w.heap.size + 2:=⟨_,rfl⟩
 rw [← hL1] at sL
 have HLR : Hid (¬ L1 (w.heap.size + 2)):=by rw [hL1]; exact fun h => h.2 rfl
 have HLL : Hid (∀ b,L1 b → L b):=by rw [hL1]; exact fun b h => h.1
 have HLT1 : Hid (¬ L1 tb):=by rw [hL1]; exact fun h => hLt h.1
 have HLN : Hid (∀ b,w.heap.size + 3 ≤ b → L1 b):=by rw [hL1]; exact fun b h => ⟨hLn b (by omega),by omega⟩
 clear hL1 s sm hin r1 r2 hS2
 go_enter Tryz.func34,Tryz.ntmps34
 go_wp2
 obtain ⟨w0,hw0⟩ : ∃ W,W = ((w.alloc (.cells #[.i 4,.i p1,.i q1,.bool d1,.slice ya nm.length yc,.i p2,.i q2,.bool d2,.slice za asn.length zc,.i vl] 53)).alloc (.cells #[.i fp,.i fq,.bool fd] 48)).alloc (.cells #[.i 0,.i 0,.i 0,.bool false,.i 0,.n0] 51):=⟨_,rfl⟩
 have B0 : Below w.heap.size w w0:=by rw [hw0]; exact (((Below.refl _ _).alloc (Nat.le_refl _) _).alloc (by simp) _).alloc (by simp; omega) _
 have HM0 : Hid (MD (fun b => b = tb ∨ b = g) w w0 tb lo (.slice (some ⟨g,0,none⟩) l.length cap) L1 l #[.i 4,.i p1,.i q1,.bool d1,.slice ya nm.length yc,.i p2,.i q2,.bool d2,.slice za asn.length zc,.i vl] #[.i fp,.i fq,.bool fd]):=⟨Turned.ofBelow B0,vT.step B0,sL.step B0,by rw [hw0]; exact ((VarA.new w _ _).alloc _).alloc _,by rw [hw0]; have:=(VarA.new (w.alloc (.cells #[.i 4,.i p1,.i q1,.bool d1,.slice ya nm.length yc,.i p2,.i q2,.bool d2,.slice za asn.length zc,.i vl] 53)) 48 #[.i fp,.i fq,.bool fd]).alloc (.cells #[.i 0,.i 0,.i 0,.bool false,.i 0,.n0] 51); simpa using this,by rw [hw0]; have:=VarA.new ((w.alloc (.cells #[.i 4,.i p1,.i q1,.bool d1,.slice ya nm.length yc,.i p2,.i q2,.bool d2,.slice za asn.length zc,.i vl] 53)).alloc (.cells #[.i fp,.i fq,.bool fd] 48)) 51 #[.i 0,.i 0,.i 0,.bool false,.i 0,.n0]; simpa using this⟩
 have HB0 : Hid (Below w.heap.size w w0):=B0
 have z0:=HM0.out.vR.lt
 rw [← hw0]
 clear hw0 vT sL B0
 have HF0 : Hid (∀ W,Below w0.heap.size w0 W → _):=fun W hW => HFT.out W (HB0.out.trans (hW.mono HB0.out.size))
 haveI : Nonempty (Cls w0):=Cls.ne w0
 have kt:=Cls.cell HM0.out.vT.lt HM0.out.vT.l1
 have k1:=Cls.cell HM0.out.vO.lt (HM0.out.vO.c 1 rfl)
 have k2:=Cls.cell HM0.out.vO.lt (HM0.out.vO.c 2 rfl)
 have k3:=Cls.cell HM0.out.vO.lt (HM0.out.vO.c 3 rfl)
 refine wp_region_cls (by kernel_rfl) (by kernel_rfl) ?_
 repeat (go_big_quiet_step (first | (go_at_call 33; exact Calls.cls (HF0.out _ (Cls.h _)))))
 refine wpQuiet_nil ?_
 rintro w1 ⟨⟨w1,hb_⟩,rfl⟩
 have HM_w1 : Hid (MD (fun b => b = tb ∨ b = g) w w1 tb lo (.slice (some ⟨g,0,none⟩) l.length cap) L1 l #[.i 4,.i p1,.i q1,.bool d1,.slice ya nm.length yc,.i p2,.i q2,.bool d2,.slice za asn.length zc,.i vl] #[.i fp,.i fq,.bool fd]):=HM0.out.step hb_
 have HB1 : Hid (Below w.heap.size w w1):=HB0.out.trans (hb_.mono HB0.out.size)
 have z1:=hb_.size
 clear kt k1 k2 k3 this hb_
 clear HF0 HFT HM0 HB0
 have o0:=HM_w1.out.vO.c 0 rfl
 have o3:=HM_w1.out.vO.c 3 rfl
 cases d1 with
 | false =>
  have HC : Hid (res = (l,rc 2)):=by show res = _; rw [← HRES.out]; rfl
  clear HRES
  go_wp2_with ((with_reducible refine gS 51 ?_); refine sF HM_w1.out.vR rfl rfl (by kernel_rfl) rfl rfl ?_; intro wz vR t_)
  refine bpR Tryz.results34 vR Tryz.underlying51 rfl rfl (by kernel_rfl) rfl ?_
  unfold DoPost
  rw [HC.out]
  exact ⟨_,rfl,rd_nil _ _,Turned.own2 HVW.out (HM_w1.out.fin hvt t_ HLR.out (by omega) (fun e => by have e3 : g = w.heap.size + 2:=(by simpa [Value.ownBlock] using e); omega) HLL.out)⟩
 | true =>
  rcases findH_cases l (p1,q1,true) with ⟨hd,hf⟩ | ⟨hd,hf⟩
  case inr =>
   rw [hf]
   have HC : Hid (res = (l,rc 1)):=by show res = _; rw [← HRES.out]; unfold doD; simp [hd]
   clear HRES hd hf
   go_wp2_with ((with_reducible refine gS 51 ?_); refine sF HM_w1.out.vR rfl rfl (by kernel_rfl) rfl rfl ?_; intro wz vR t_)
   refine bpR Tryz.results34 vR Tryz.underlying51 rfl rfl (by kernel_rfl) rfl ?_
   unfold DoPost
   rw [HC.out]
   exact ⟨_,rfl,rd_nil _ _,Turned.own2 HVW.out (HM_w1.out.fin hvt t_ HLR.out (by omega) (fun e => by have e3 : g = w.heap.size + 2:=(by simpa [Value.ownBlock] using e); omega) HLL.out)⟩
  rw [hf]
  clear hf
  unfold doD at HRES
  dsimp only at HRES
  generalize fi l (p1,q1,true) = d at *
  have hdi : (d : Int) < (l.length : Int):=by omega
  have t1:=HM_w1.out.vT.l1
  obtain ⟨xd,rd,cd⟩:=HM_w1.out.s.at hd
  have HRD : Hid _:=rd
  have HCD : Hid _:=cd
  clear rd cd
  have hgw : g < w1.heap.size:=Nat.lt_of_lt_of_le hg2 HB1.out.size
  have HE1 : Hid (∀ W,Below w1.heap.size w1 W → _):=fun W hW => specRefuse_any xd _ (l[d]?.getD nd0) nm _ S2 W (RdV.step HRD.out hW) (RdV.step (HRY.out _ (HM_w1.out.t)) hW) (by have:=(HEL.out d).1; omega)
  generalize hnd : l[d]?.getD nd0 = nd at *
  go_wp2
  haveI : Nonempty (Cls w1):=Cls.ne w1
  have kt:=Cls.cell HM_w1.out.vT.lt HM_w1.out.vT.l1
  have k4:=Cls.cell HM_w1.out.vO.lt (HM_w1.out.vO.c 4 rfl)
  have kn0:=Cls.cell (o:=d * 9) hgw (by have:=HCD.out 0 (by omega); simpa [ndVal] using this)
  have kn1:=Cls.cell (o:=d * 9 + 1) hgw (by have:=HCD.out 1 (by omega); simpa [ndVal] using this)
  have kn2:=Cls.cell (o:=d * 9 + 2) hgw (by have:=HCD.out 2 (by omega); simpa [ndVal] using this)
  have kn3:=Cls.cell (o:=d * 9 + 3) hgw (by have:=HCD.out 3 (by omega); simpa [ndVal] using this)
  have kn4:=Cls.cell (o:=d * 9 + 4) hgw (by have:=HCD.out 4 (by omega); simpa [ndVal] using this)
  have kn5:=Cls.cell (o:=d * 9 + 5) hgw (by have:=HCD.out 5 (by omega); simpa [ndVal] using this)
  have kn6:=Cls.cell (o:=d * 9 + 6) hgw (by have:=HCD.out 6 (by omega); simpa [ndVal] using this)
  have kn7:=Cls.cell (o:=d * 9 + 7) hgw (by have:=HCD.out 7 (by omega); simpa [ndVal] using this)
  have kn8:=Cls.cell (o:=d * 9 + 8) hgw (by have:=HCD.out 8 (by omega); simpa [ndVal] using this)
  refine wp_region_cls (by kernel_rfl) (by kernel_rfl) ?_
  repeat (go_big_quiet_step (first | (go_at_call 59; exact Calls.cls (HE1.out _ (Cls.h _)))))
  refine wpQuiet_nil ?_
  rintro w2 ⟨⟨w2,hb_⟩,rfl⟩
  have HM_w2 : Hid (MD (fun b => b = tb ∨ b = g) w w2 tb lo (.slice (some ⟨g,0,none⟩) l.length cap) L1 l #[.i 4,.i p1,.i q1,.bool true,.slice ya nm.length yc,.i p2,.i q2,.bool d2,.slice za asn.length zc,.i vl] #[.i fp,.i fq,.bool fd]):=HM_w1.out.step hb_
  have HB2 : Hid (Below w1.heap.size w1 w2):=hb_
  have z2:=hb_.size
  clear kt k4 kn0 kn1 kn2 kn3 kn4 kn5 kn6 kn7 kn8 this hb_
  clear HE1
  have o20:=HM_w2.out.vO.c 0 rfl
  have zw:=HB1.out.size
  generalize refD nd.es nm = f at *
  by_cases hf : f = 0
  case neg =>
   have HC : Hid (res = (l,rc f)):=by show res = _; rw [← HRES.out]; simp [hd,hf]
   clear HRES
   go_wp2_with ((with_reducible refine gS 51 ?_); refine sF HM_w2.out.vR rfl rfl (by kernel_rfl) rfl rfl ?_; intro wz vR t_)
   refine bpR Tryz.results34 vR Tryz.underlying51 rfl rfl (by kernel_rfl) rfl ?_
   unfold DoPost
   rw [HC.out]
   exact ⟨_,rfl,rd_nil _ _,Turned.own2 HVW.out (HM_w2.out.fin hvt t_ HLR.out (by omega) (fun e => by have e3 : g = w.heap.size + 2:=(by simpa [Value.ownBlock] using e); omega) HLL.out)⟩
  subst hf
  cases fd with
  | false =>
   have HC : Hid (res = (insN (addN l d nm (fp,fq,false)) ⟨(fp,fq,false),(0,0,false),1,0,[]⟩,⟨0,(fp,fq,false),0,[]⟩)):=by show res = _; rw [← HRES.out]; simp [hd,hd0]
   clear HRES
   obtain ⟨f0,f1,f2⟩:=HM_w2.out.vF.l3
   obtain ⟨o0,o1,o2,o3,o4,o5,o6,o7,o8,o9⟩:=HM_w2.out.vO.l10
   have HNZ:=VarA.new w2 77 #[.i fp,.i fq,.bool false,.i 0,.i 0,.bool false,.i 1,.i 0,.n0]
   have nfz:=HNZ.fz
   obtain ⟨n0,n1,n2,n3,n4,n5,n6,n7,n8⟩:=HNZ.l9
   obtain ⟨e0,e1,e2⟩:=(HM_w2.out.vF.alloc (.cells #[.i fp,.i fq,.bool false,.i 0,.i 0,.bool false,.i 1,.i 0,.n0] 77)).l3
   have e11:=(HM_w2.out.vO.alloc (.cells #[.i fp,.i fq,.bool false,.i 0,.i 0,.bool false,.i 1,.i 0,.n0] 77)).c 1 rfl
   have e12:=(HM_w2.out.vO.alloc (.cells #[.i fp,.i fq,.bool false,.i 0,.i 0,.bool false,.i 1,.i 0,.n0] 77)).c 2 rfl
   have e13:=(HM_w2.out.vO.alloc (.cells #[.i fp,.i fq,.bool false,.i 0,.i 0,.bool false,.i 1,.i 0,.n0] 77)).c 3 rfl
   go_wp2
   obtain ⟨w3,hw3⟩ : ∃ W,W = (w2.alloc (.cells #[.i fp,.i fq,.bool false,.i 0,.i 0,.bool false,.i 1,.i 0,.n0] 77)):=⟨_,rfl⟩
   have HM3 : Hid (MD (fun b => b = tb ∨ b = g) w w3 tb lo (.slice (some ⟨g,0,none⟩) l.length cap) L1 l #[.i 4,.i p1,.i q1,.bool true,.slice ya nm.length yc,.i p2,.i q2,.bool d2,.slice za asn.length zc,.i vl] #[.i fp,.i fq,.bool false]):=HM_w2.out.step (by rw [hw3]; exact Below.newH _)
   have HN3 : Hid (VarA w3 w2.heap.size 77 #[.i fp,.i fq,.bool false,.i 0,.i 0,.bool false,.i 1,.i 0,.n0]):=by rw [hw3]; exact VarA.new _ _ _
   have z3 : w2.heap.size < w3.heap.size:=HN3.out.lt
   rw [← hw3]
   clear hw3 HNZ nfz n0 n1 n2 n3 n4 n5 n6 n7 n8 e0 e1 e2 e11 e12 e13 f0 f1 f2 o0 o1 o2 o3 o4 o5 o6 o7 o8 o9
   refine wp_region_noPanic ?_
   refine wp_region_held_drew (S:=fun W => W.cell? ⟨tb,0,none⟩ = some (.slice (some ⟨g,0,none⟩) l.length cap) ∧ W.cell? ⟨w.heap.size,4,none⟩ = some (.slice ya nm.length yc) ∧ W.cell? ⟨(w.heap.size + 1),0,none⟩ = some (.i fp) ∧ W.cell? ⟨(w.heap.size + 1),1,none⟩ = some (.i fq) ∧ W.cell? ⟨(w.heap.size + 1),2,none⟩ = some (.bool false)) (by kernel_rfl) ⟨(HM3.out.step (Below.drew (Below.refl w3.heap.size w3))).vT.l1,(HM3.out.step (Below.drew (Below.refl w3.heap.size w3))).vO.c 4 rfl,(HM3.out.step (Below.drew (Below.refl w3.heap.size w3))).vF.c 0 rfl,(HM3.out.step (Below.drew (Below.refl w3.heap.size w3))).vF.c 1 rfl,(HM3.out.step (Below.drew (Below.refl w3.heap.size w3))).vF.c 2 rfl⟩ (fun hHeld => ?_)
   apply tkh 0 _ rfl (by kernel_rfl) rfl (by assumption)
   ·(intro _ h; (try dsimp only at h); go_simp; try with_reducible rfl)
   try simp only [qz]
   apply tkh 1 _ rfl (by kernel_rfl) rfl (by assumption)
   ·(intro _ h; (try dsimp only at h); go_simp; try with_reducible rfl)
   try simp only [qz]
   apply tkh 2 _ rfl (by kernel_rfl) rfl (by assumption)
   ·(intro _ h; (try dsimp only at h); go_simp; try with_reducible rfl)
   try simp only [qz]
   apply tkh 3 _ rfl (by kernel_rfl) rfl (by assumption)
   ·(intro _ h; (try dsimp only at h); go_simp; try with_reducible rfl)
   try simp only [qz]
   apply tkh 4 _ rfl (by kernel_rfl) rfl (by assumption)
   ·(intro _ h; (try dsimp only at h); go_simp; try with_reducible rfl)
   try simp only [qz]
   apply tkh 5 _ rfl (by kernel_rfl) rfl (by assumption)
   ·(intro _ h; (try dsimp only at h); go_simp; try with_reducible rfl)
   try simp only [qz]
   apply tkh 6 _ rfl (by kernel_rfl) rfl (by assumption)
   ·(intro _ h; (try dsimp only at h); go_simp; try with_reducible rfl)
   try simp only [qz]
   apply tkh 7 _ rfl (by kernel_rfl) rfl (by assumption)
   ·(intro _ h; (try dsimp only at h); go_simp; try with_reducible rfl)
   try simp only [qz]
   apply tkh 8 _ rfl (by kernel_rfl) rfl (by assumption)
   ·(intro _ h; (try dsimp only at h); go_simp; try with_reducible rfl)
   try simp only [qz]
   refine doH 9 (by kernel_rfl) rfl fun K hK => ?_
   go_simp
   refine Calls.mono (addTV (HM3.out.s.step (Below.drew (Below.refl w3.heap.size w3))) (rfl) (fun b hb => HLN.out b (by have e1 : w3.drew.heap.size = w3.heap.size:=rfl; omega)) hd _ nm (fp,fq,false) S2 (HRY.out _ (HM3.out.t.andThen (Below.drew (Below.refl w3.heap.size w3)))) (HEL.out d).1 hn1) ?_
   rintro r_w4 w4 ⟨rfl,s_,t6⟩
   dsimp only
   have HM_w4 : Hid (MD (fun b => b = tb ∨ b = g) w w4 tb lo (.slice (some ⟨g,0,none⟩) l.length cap) L1 (addN l d nm (fp,fq,false)) #[.i 4,.i p1,.i q1,.bool true,.slice ya nm.length yc,.i p2,.i q2,.bool d2,.slice za asn.length zc,.i vl] #[.i fp,.i fq,.bool false]):=MD.turn (HM3.out.step (Below.drew (Below.refl w3.heap.size w3))) t6 s_ (.inr rfl) hg2 hgt
   have T_w4 : Hid (Turned (fun b => b = g) w3 w4):=(Turned.ofBelow (Below.drew (Below.refl w3.heap.size w3))).trans t6
   refine hK.out _ _ ⟨HM_w4.out.vT.l1,HM_w4.out.vO.c 4 rfl,HM_w4.out.vF.c 0 rfl,HM_w4.out.vF.c 1 rfl,HM_w4.out.vF.c 2 rfl⟩ (fun hHeld => ?_)
   clear hK K
   try simp only [qz]
   refine wpAnyH_done (by kernel_rfl) (NoPanic.normal ?_) _
   clear hHeld
   have HN4 : VarA w4 w2.heap.size 77 #[.i fp,.i fq,.bool false,.i 0,.i 0,.bool false,.i 1,.i 0,.n0]:=HN3.out.turn T_w4.out (by show w2.heap.size ≠ g; omega)
   obtain ⟨n0,n1,n2,n3,n4,n5,n6,n7,n8⟩:=HN4.l9
   have z4:=T_w4.out.size
   have HI : Hid _:=specInsert_any tb _ (.n0) (addN l d nm (fp,fq,false)) ⟨(fp,fq,false),(0,0,false),1,0,[]⟩ lo L1 w4 HM_w4.out.vT HM_w4.out.s HLT1.out (OwV.en (OwV.nilR _ _ _ _ _)) (by omega) (by rw [length_addN]; exact hl) (by rw [length_addN]; exact h0)
   go_wp2_with fail
   refine Calls.mono HI.out ?_
   rintro r6 w6 ⟨rfl,v6,vT6,s6,hv6,T6⟩
   have HV6 : Hid _:=HM_w4.out.vR.turn T6 (by show w.heap.size + 2 ≠ tb; omega)
   obtain ⟨f0,f1,f2⟩:=(HM_w4.out.vF.turn T6 (by show w.heap.size + 1 ≠ tb; omega)).l3
   have HV6R : Hid (v6.ownBlock ≠ some (w.heap.size + 2)):=SG.ne_var s6 HV6.out (by decide)
   have HT6 : Hid (Turned (fun b => b = tb ∨ b = g) w w6):=HM_w4.out.t.trans (T6.wide (fun b h => .inl h))
   have HS6 : Hid (SG w6 lo L1 v6 (insN (addN l d nm (fp,fq,false)) ⟨(fp,fq,false),(0,0,false),1,0,[]⟩)):=s6
   have HVT6 : Hid (VarA w6 tb 26 #[v6]):=vT6
   clear HI T6 s6 vT6 n0 n1 n2 n3 n4 n5 n6 n7 n8 HN4
   go_wp2_with ((with_reducible refine gS 51 ?_); refine sF HV6.out rfl rfl (by kernel_rfl) rfl rfl ?_; intro wz vR t_)
   refine bpR Tryz.results34 vR Tryz.underlying51 rfl rfl (by kernel_rfl) rfl ?_
   unfold DoPost
   rw [HC.out]
   exact ⟨_,rfl,rd_nil _ _,Turned.own2 HVW.out ⟨TV.ret HVT6.out HS6.out hv6 t_ HLR.out (by omega) HV6R.out HLL.out,HT6.out.trans2 t_ (by omega)⟩⟩
  | true =>
   have HC : Hid (res = (insN (addN l d nm (fp,fq,true)) ⟨(fp,fq,true),(p1,q1,true),1,0,[]⟩,⟨0,(fp,fq,true),0,[]⟩)):=by show res = _; rw [← HRES.out]; simp [hd,hd0]
   clear HRES
   obtain ⟨f0,f1,f2⟩:=HM_w2.out.vF.l3
   obtain ⟨o0,o1,o2,o3,o4,o5,o6,o7,o8,o9⟩:=HM_w2.out.vO.l10
   have HNZ:=VarA.new w2 77 #[.i fp,.i fq,.bool true,.i 0,.i 0,.bool false,.i 1,.i 0,.n0]
   have nfz:=HNZ.fz
   obtain ⟨n0,n1,n2,n3,n4,n5,n6,n7,n8⟩:=HNZ.l9
   obtain ⟨e0,e1,e2⟩:=(HM_w2.out.vF.alloc (.cells #[.i fp,.i fq,.bool true,.i 0,.i 0,.bool false,.i 1,.i 0,.n0] 77)).l3
   have e11:=(HM_w2.out.vO.alloc (.cells #[.i fp,.i fq,.bool true,.i 0,.i 0,.bool false,.i 1,.i 0,.n0] 77)).c 1 rfl
   have e12:=(HM_w2.out.vO.alloc (.cells #[.i fp,.i fq,.bool true,.i 0,.i 0,.bool false,.i 1,.i 0,.n0] 77)).c 2 rfl
   have e13:=(HM_w2.out.vO.alloc (.cells #[.i fp,.i fq,.bool true,.i 0,.i 0,.bool false,.i 1,.i 0,.n0] 77)).c 3 rfl
   go_wp2
   obtain ⟨w3,hw3⟩ : ∃ W,W = (w2.alloc (.cells #[.i fp,.i fq,.bool true,.i p1,.i q1,.bool true,.i 1,.i 0,.n0] 77)):=⟨_,rfl⟩
   have HM3 : Hid (MD (fun b => b = tb ∨ b = g) w w3 tb lo (.slice (some ⟨g,0,none⟩) l.length cap) L1 l #[.i 4,.i p1,.i q1,.bool true,.slice ya nm.length yc,.i p2,.i q2,.bool d2,.slice za asn.length zc,.i vl] #[.i fp,.i fq,.bool true]):=HM_w2.out.step (by rw [hw3]; exact Below.newH _)
   have HN3 : Hid (VarA w3 w2.heap.size 77 #[.i fp,.i fq,.bool true,.i p1,.i q1,.bool true,.i 1,.i 0,.n0]):=by rw [hw3]; exact VarA.new _ _ _
   have z3 : w2.heap.size < w3.heap.size:=HN3.out.lt
   rw [← hw3]
   clear hw3 HNZ nfz n0 n1 n2 n3 n4 n5 n6 n7 n8 e0 e1 e2 e11 e12 e13 f0 f1 f2 o0 o1 o2 o3 o4 o5 o6 o7 o8 o9
   refine wp_region_noPanic ?_
   refine wp_region_held_drew (S:=fun W => W.cell? ⟨tb,0,none⟩ = some (.slice (some ⟨g,0,none⟩) l.length cap) ∧ W.cell? ⟨w.heap.size,4,none⟩ = some (.slice ya nm.length yc) ∧ W.cell? ⟨(w.heap.size + 1),0,none⟩ = some (.i fp) ∧ W.cell? ⟨(w.heap.size + 1),1,none⟩ = some (.i fq) ∧ W.cell? ⟨(w.heap.size + 1),2,none⟩ = some (.bool true)) (by kernel_rfl) ⟨(HM3.out.step (Below.drew (Below.refl w3.heap.size w3))).vT.l1,(HM3.out.step (Below.drew (Below.refl w3.heap.size w3))).vO.c 4 rfl,(HM3.out.step (Below.drew (Below.refl w3.heap.size w3))).vF.c 0 rfl,(HM3.out.step (Below.drew (Below.refl w3.heap.size w3))).vF.c 1 rfl,(HM3.out.step (Below.drew (Below.refl w3.heap.size w3))).vF.c 2 rfl⟩ (fun hHeld => ?_)
   apply tkh 0 _ rfl (by kernel_rfl) rfl (by assumption)
   ·(intro _ h; (try dsimp only at h); go_simp; try with_reducible rfl)
   try simp only [qz]
   apply tkh 1 _ rfl (by kernel_rfl) rfl (by assumption)
   ·(intro _ h; (try dsimp only at h); go_simp; try with_reducible rfl)
   try simp only [qz]
   apply tkh 2 _ rfl (by kernel_rfl) rfl (by assumption)
   ·(intro _ h; (try dsimp only at h); go_simp; try with_reducible rfl)
   try simp only [qz]
   apply tkh 3 _ rfl (by kernel_rfl) rfl (by assumption)
   ·(intro _ h; (try dsimp only at h); go_simp; try with_reducible rfl)
   try simp only [qz]
   apply tkh 4 _ rfl (by kernel_rfl) rfl (by assumption)
   ·(intro _ h; (try dsimp only at h); go_simp; try with_reducible rfl)
   try simp only [qz]
   apply tkh 5 _ rfl (by kernel_rfl) rfl (by assumption)
   ·(intro _ h; (try dsimp only at h); go_simp; try with_reducible rfl)
   try simp only [qz]
   apply tkh 6 _ rfl (by kernel_rfl) rfl (by assumption)
   ·(intro _ h; (try dsimp only at h); go_simp; try with_reducible rfl)
   try simp only [qz]
   apply tkh 7 _ rfl (by kernel_rfl) rfl (by assumption)
   ·(intro _ h; (try dsimp only at h); go_simp; try with_reducible rfl)
   try simp only [qz]
   apply tkh 8 _ rfl (by kernel_rfl) rfl (by assumption)
   ·(intro _ h; (try dsimp only at h); go_simp; try with_reducible rfl)
   try simp only [qz]
   refine doH 9 (by kernel_rfl) rfl fun K hK => ?_
   go_simp
   refine Calls.mono (addTV (HM3.out.s.step (Below.drew (Below.refl w3.heap.size w3))) (rfl) (fun b hb => HLN.out b (by have e1 : w3.drew.heap.size = w3.heap.size:=rfl; omega)) hd _ nm (fp,fq,true) S2 (HRY.out _ (HM3.out.t.andThen (Below.drew (Below.refl w3.heap.size w3)))) (HEL.out d).1 hn1) ?_
   rintro r_w4 w4 ⟨rfl,s_,t6⟩
   dsimp only
   have HM_w4 : Hid (MD (fun b => b = tb ∨ b = g) w w4 tb lo (.slice (some ⟨g,0,none⟩) l.length cap) L1 (addN l d nm (fp,fq,true)) #[.i 4,.i p1,.i q1,.bool true,.slice ya nm.length yc,.i p2,.i q2,.bool d2,.slice za asn.length zc,.i vl] #[.i fp,.i fq,.bool true]):=MD.turn (HM3.out.step (Below.drew (Below.refl w3.heap.size w3))) t6 s_ (.inr rfl) hg2 hgt
   have T_w4 : Hid (Turned (fun b => b = g) w3 w4):=(Turned.ofBelow (Below.drew (Below.refl w3.heap.size w3))).trans t6
   refine hK.out _ _ ⟨HM_w4.out.vT.l1,HM_w4.out.vO.c 4 rfl,HM_w4.out.vF.c 0 rfl,HM_w4.out.vF.c 1 rfl,HM_w4.out.vF.c 2 rfl⟩ (fun hHeld => ?_)
   clear hK K
   try simp only [qz]
   refine wpAnyH_done (by kernel_rfl) (NoPanic.normal ?_) _
   clear hHeld
   have HN4 : VarA w4 w2.heap.size 77 #[.i fp,.i fq,.bool true,.i p1,.i q1,.bool true,.i 1,.i 0,.n0]:=HN3.out.turn T_w4.out (by show w2.heap.size ≠ g; omega)
   obtain ⟨n0,n1,n2,n3,n4,n5,n6,n7,n8⟩:=HN4.l9
   have z4:=T_w4.out.size
   have HI : Hid _:=specInsert_any tb _ (.n0) (addN l d nm (fp,fq,true)) ⟨(fp,fq,true),(p1,q1,true),1,0,[]⟩ lo L1 w4 HM_w4.out.vT HM_w4.out.s HLT1.out (OwV.en (OwV.nilR _ _ _ _ _)) (by omega) (by rw [length_addN]; exact hl) (by rw [length_addN]; exact h0)
   go_wp2_with fail
   refine Calls.mono HI.out ?_
   rintro r6 w6 ⟨rfl,v6,vT6,s6,hv6,T6⟩
   have HV6 : Hid _:=HM_w4.out.vR.turn T6 (by show w.heap.size + 2 ≠ tb; omega)
   obtain ⟨f0,f1,f2⟩:=(HM_w4.out.vF.turn T6 (by show w.heap.size + 1 ≠ tb; omega)).l3
   have HV6R : Hid (v6.ownBlock ≠ some (w.heap.size + 2)):=SG.ne_var s6 HV6.out (by decide)
   have HT6 : Hid (Turned (fun b => b = tb ∨ b = g) w w6):=HM_w4.out.t.trans (T6.wide (fun b h => .inl h))
   have HS6 : Hid (SG w6 lo L1 v6 (insN (addN l d nm (fp,fq,true)) ⟨(fp,fq,true),(p1,q1,true),1,0,[]⟩)):=s6
   have HVT6 : Hid (VarA w6 tb 26 #[v6]):=vT6
   clear HI T6 s6 vT6 n0 n1 n2 n3 n4 n5 n6 n7 n8 HN4
   go_wp2_with ((with_reducible refine gS 51 ?_); refine sF HV6.out rfl rfl (by kernel_rfl) rfl rfl ?_; intro wz vR t_)
   refine bpR Tryz.results34 vR Tryz.underlying51 rfl rfl (by kernel_rfl) rfl ?_
   unfold DoPost
   rw [HC.out]
   exact ⟨_,rfl,rd_nil _ _,Turned.own2 HVW.out ⟨TV.ret HVT6.out HS6.out hv6 t_ HLR.out (by omega) HV6R.out HLL.out,HT6.out.trans2 t_ (by omega)⟩⟩
end Go.Proofs.YtblahkhniabhiaaGreatDoor
