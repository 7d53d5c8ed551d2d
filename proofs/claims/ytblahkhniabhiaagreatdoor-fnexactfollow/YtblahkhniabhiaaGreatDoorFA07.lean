/- Joined: SpecD16 SpecD16k0 SpecD16k1 SpecD16k2 SpecD16k3 SpecD16k5 SpecD16k7 IC26 DP1 IC27a IC27b. -/
import Derived.Test.YtblahkhniabhiaaGreatDoorFSpecD15
import Derived.Test.YtblahkhniabhiaaGreatDoorFA01
import Derived.Test.YtblahkhniabhiaaGreatDoorFIC25
import Derived.Test.YtblahkhniabhiaaGreatDoorFOpOks
import Derived.Test.YtblahkhniabhiaaGreatDoorFA06

namespace Go.Proofs.YtblahkhniabhiaaGreatDoor
open Go.RowKit
set_option linter.unusedVariables false
set_option linter.unusedSimpArgs false
set_option maxRecDepth 100000
section
def rc (c : Int) : RpD:=⟨c,hd0,0,[]⟩
def valN (l : List Nd) (d : Nat) (x : Int) : List Nd:=l.set d ((l[d]?.getD nd0).setVal x)
def doD (l : List Nd) (o : OpD) (fr : Hd) : List Nd × RpD:=
 if o.kind = 2 ∨ o.kind = 3 then
  if o.dir.dir = true then (l,rc 6) else
  if ¬ fi l o.dir < l.length then (l,rc 1) else
  if o.kind = 3 then (valN l (fi l o.dir) o.val,rc 0) else (l,⟨0,hd0,(l[fi l o.dir]?.getD nd0).val,[]⟩)
 else
 if o.dir.dir = false then (l,rc 2) else
 if ¬ fi l o.dir < l.length then (l,rc 1) else
 if o.kind = 1 then (l,⟨0,hd0,0,(l[fi l o.dir]?.getD nd0).es⟩) else
 if o.kind = 7 then ((moveD l o (fi l o.dir)).1,rc (moveD l o (fi l o.dir)).2) else
 if o.kind = 0 ∨ o.kind = 5 then
  if ¬ ei (l[fi l o.dir]?.getD nd0).es o.nm < (l[fi l o.dir]?.getD nd0).es.length then (l,rc 3) else
  if o.kind = 0 then (l,⟨0,((l[fi l o.dir]?.getD nd0).es[ei (l[fi l o.dir]?.getD nd0).es o.nm]?.getD en0).h,0,[]⟩) else
  ((dropD l (fi l o.dir) (ei (l[fi l o.dir]?.getD nd0).es o.nm) ((l[fi l o.dir]?.getD nd0).es[ei (l[fi l o.dir]?.getD nd0).es o.nm]?.getD en0).h).1,rc (dropD l (fi l o.dir) (ei (l[fi l o.dir]?.getD nd0).es o.nm) ((l[fi l o.dir]?.getD nd0).es[ei (l[fi l o.dir]?.getD nd0).es o.nm]?.getD en0).h).2)
 else
 if refD (l[fi l o.dir]?.getD nd0).es o.nm ≠ 0 then (l,rc (refD (l[fi l o.dir]?.getD nd0).es o.nm)) else
 if o.kind = 4 then (insN (addN l (fi l o.dir) o.nm fr) ⟨fr,if fr.dir = true then o.dir else hd0,1,0,[]⟩,⟨0,fr,0,[]⟩) else
 if o.to.dir = true then (l,rc 6) else
 if ¬ fi l o.to < l.length then (l,rc 1) else
 (addN (lkN l (fi l o.to) 1) (fi l o.dir) o.nm o.to,rc 0)
structure MD (F : Nat → Prop) (w wc : World) (tb lo : Nat) (v : Value) (L1 : Nat → Prop) (l : List Nd) (oc fc : Array Value) : Prop where
 t : Turned F w wc
 vT : VarA wc tb 26 #[v]
 s : SG wc lo L1 v l
 vO : VarA wc w.heap.size 53 oc
 vF : VarA wc (w.heap.size + 1) 48 fc
 vR : VarA wc (w.heap.size + 2) 51 #[.i 0,.i 0,.i 0,.bool false,.i 0,.n0]
theorem MD.step {F : Nat → Prop} {w wc wd : World} {tb lo : Nat} {v : Value} {L1 : Nat → Prop} {l : List Nd} {oc fc : Array Value} (m : MD F w wc tb lo v L1 l oc fc) (h : Below wc.heap.size wc wd) : MD F w wd tb lo v L1 l oc fc:=
 ⟨m.t.andThen h,m.vT.step h,m.s.step h,m.vO.step h,m.vF.step h,m.vR.step h⟩
theorem MD.turn {F : Nat → Prop} {w wc wd : World} {tb lo g : Nat} {v : Value} {L1 : Nat → Prop} {l l' : List Nd} {oc fc : Array Value} (m : MD F w wc tb lo v L1 l oc fc) (t : Turned (fun b => b = g) wc wd) (s : SG wd lo L1 v l') (hF : F g) (hg : g < w.heap.size) (hgt : g ≠ tb) : MD F w wd tb lo v L1 l' oc fc:=
 ⟨m.t.trans (t.wide (fun b e => by subst e; exact hF)),m.vT.turn t (fun e => hgt e.symm),s,m.vO.turn t (fun e => by omega),m.vF.turn t (fun e => by omega),m.vR.turn t (fun e => by omega)⟩
theorem MD.fin {F L : Nat → Prop} {w wc wz : World} {tb lo : Nat} {v : Value} {L1 : Nat → Prop} {l : List Nd} {oc fc : Array Value} (m : MD F w wc tb lo v L1 l oc fc) (hvt : v.ownBlock ≠ some tb) (t_ : Turned (fun b => b = w.heap.size + 2) wc wz) (hR : ¬ L1 (w.heap.size + 2)) (hRt : tb ≠ w.heap.size + 2) (hRv : v.ownBlock ≠ some (w.heap.size + 2)) (hL : ∀ b,L1 b → L b) :
  TV wz tb lo L l ∧ Turned F w wz:=
 ⟨TV.ret m.vT m.s hvt t_ hR hRt hRv hL,m.t.trans2 t_ (by omega)⟩
theorem rd_nil (w : World) (S : Nat → Prop) : RdV w S (.n0) (ensDt []):=OwV.rd (OwV.nilR _ _ _ _ _)
def DoPost (w : World) (tb lo : Nat) (L : Nat → Prop) (res : List Nd × RpD) (r : Ending) (w' : World) : Prop:=
 ∃ z,r = .returned (rpV res.2 z) ∧ RdV w' (fun b => w.heap.size ≤ b ∧ b < w'.heap.size) z (ensDt res.2.list) ∧ TV w' tb lo L res.1 ∧ ∀ v',VarA w tb 26 #[v'] → Turned (fun b => b = tb ∨ v'.ownBlock = some b) w w'
end
section
set_option maxHeartbeats 8000000 in
theorem specDo0 (tb lo : Nat) (o : OpD) (fr : Hd) (y z : Value) (l : List Nd) (S2 L : Nat → Prop) (w : World) (tv : TV w tb lo L l) (hLt : ¬ L tb) (hLn : ∀ b,w.heap.size ≤ b → L b) (h0 : 0 < l.length) (hlo : lo ≤ w.heap.size) (htbl : lo ≤ tb) (sm : Small l) (hsz : szNds l ≤ 2097152) (r1 : RdV w S2 y (.bytes o.nm)) (r2 : RdV w S2 z (.bytes o.asn)) (hS2 : ∀ b,S2 b → b < lo) (hn1 : o.nm.length ≤ 2097152) (hn2 : o.asn.length ≤ 2097152)
  (hin : ∀ i j,i < l.length → j < (l[i]?.getD nd0).es.length → fi l ((l[i]?.getD nd0).es[j]?.getD en0).h < l.length) (hkd : o.kind = 0) :
  Calls Tryz.prog 34 #[.pointer (some ⟨tb,0,none⟩),opV o y z,fr.v] w (DoPost w tb lo L (doD l o fr)):=by
 obtain ⟨v,vT,s,hvt⟩:=tv
 obtain ⟨g,cap,rfl,hg1,hg2,hgf,hcap⟩:=s.head h0
 have htb:=vT.lt
 have hgt : g ≠ tb:=fun e => hvt (by rw [e]; rfl)
 have HVW : Hid (VarA w tb 26 #[.slice (some ⟨g,0,none⟩) l.length cap]):=vT
 obtain ⟨ya,yc,rfl⟩:=r1.sliceB
 obtain ⟨za,zc,rfl⟩:=r2.sliceB
 obtain ⟨kd,⟨p1,q1,d1⟩,nm,⟨p2,q2,d2⟩,asn,vl⟩:=o
 obtain ⟨fp,fq,fd⟩:=fr
 dsimp only at r1 r2 hn1 hn2 hkd ⊢
 subst hkd
 obtain ⟨res,hres⟩ : ∃ r,doD l ⟨0,(p1,q1,d1),nm,(p2,q2,d2),asn,vl⟩ (fp,fq,fd) = r:=⟨_,rfl⟩
 rw [hres]
 have HRES : Hid (doD l ⟨0,(p1,q1,d1),nm,(p2,q2,d2),asn,vl⟩ (fp,fq,fd) = res):=hres
 clear hres
 have hl:=sm.1
 have HEL : Hid (∀ i : Nat,(l[i]?.getD nd0).es.length ≤ 4000 ∧ 0 ≤ (l[i]?.getD nd0).links ∧ (l[i]?.getD nd0).links ≤ 2147483647):=sm.2
 have HFT : Hid (∀ W,Below w.heap.size w W → _):=fun W hW => specFind_any _ l (p1,q1,d1) _ W (RdV.step s.rd hW) (by omega)
 have HRY : Hid (∀ W,Turned (fun b => b = tb ∨ b = g) w W → RdV W S2 (.slice ya nm.length yc) (.bytes nm)):=fun W t => RdV.keep (t.keeps (fun b hb h => by have:=hS2 b hb; rcases h with h | h <;> omega)) r1
 have HRZ : Hid (∀ W,Turned (fun b => b = tb ∨ b = g) w W → RdV W S2 (.slice za asn.length zc) (.bytes asn)):=fun W t => RdV.keep (t.keeps (fun b hb h => by have:=hS2 b hb; rcases h with h | h <;> omega)) r2
 have HS2 : Hid (∀ b,S2 b → b < lo):=hS2
 have HSM : Hid (Small l):=sm
 have HIN : Hid (∀ i j,i < l.length → j < (l[i]?.getD nd0).es.length → fi l ((l[i]?.getD nd0).es[j]?.getD en0).h < l.length):=hin
 have sL : SG w lo (fun b => L b ∧ b ≠ w.heap.size + 2) _ l:=s.mono (fun b hb h => ⟨h,by omega⟩)
 obtain ⟨L1,hL1⟩ : ∃ M : Nat → Prop,M = fun b => L b ∧ b ≠ w.heap.size + 2:=⟨_,rfl⟩
 rw [← hL1] at sL
 have HLR : Hid (¬ L1 (w.heap.size + 2)):=by rw [hL1]; exact fun h => h.2 rfl
 have HLL : Hid (∀ b,L1 b → L b):=by rw [hL1]; exact fun b h => h.1
 have HLT1 : Hid (¬ L1 tb):=by rw [hL1]; exact fun h => hLt h.1
 have HLN : Hid (∀ b,w.heap.size + 3 ≤ b → L1 b):=by rw [hL1]; exact fun b h => ⟨hLn b (by omega),by omega⟩
 clear hL1 s sm hin r1 r2 hS2
 go_enter Tryz.func34,Tryz.ntmps34
 go_wp2
 obtain ⟨w0,hw0⟩ : ∃ W,W = ((w.alloc (.cells #[.i 0,.i p1,.i q1,.bool d1,.slice ya nm.length yc,.i p2,.i q2,.bool d2,.slice za asn.length zc,.i vl] 53)).alloc (.cells #[.i fp,.i fq,.bool fd] 48)).alloc (.cells #[.i 0,.i 0,.i 0,.bool false,.i 0,.n0] 51):=⟨_,rfl⟩
 have B0 : Below w.heap.size w w0:=by rw [hw0]; exact (((Below.refl _ _).alloc (Nat.le_refl _) _).alloc (by simp) _).alloc (by simp; omega) _
 have HM0 : Hid (MD (fun b => b = tb ∨ b = g) w w0 tb lo (.slice (some ⟨g,0,none⟩) l.length cap) L1 l #[.i 0,.i p1,.i q1,.bool d1,.slice ya nm.length yc,.i p2,.i q2,.bool d2,.slice za asn.length zc,.i vl] #[.i fp,.i fq,.bool fd]):=⟨Turned.ofBelow B0,vT.step B0,sL.step B0,by rw [hw0]; exact ((VarA.new w _ _).alloc _).alloc _,by rw [hw0]; have:=(VarA.new (w.alloc (.cells #[.i 0,.i p1,.i q1,.bool d1,.slice ya nm.length yc,.i p2,.i q2,.bool d2,.slice za asn.length zc,.i vl] 53)) 48 #[.i fp,.i fq,.bool fd]).alloc (.cells #[.i 0,.i 0,.i 0,.bool false,.i 0,.n0] 51); simpa using this,by rw [hw0]; have:=VarA.new ((w.alloc (.cells #[.i 0,.i p1,.i q1,.bool d1,.slice ya nm.length yc,.i p2,.i q2,.bool d2,.slice za asn.length zc,.i vl] 53)).alloc (.cells #[.i fp,.i fq,.bool fd] 48)) 51 #[.i 0,.i 0,.i 0,.bool false,.i 0,.n0]; simpa using this⟩
 have HB0 : Hid (Below w.heap.size w w0):=B0
 have z0:=HM0.out.vR.lt
 rw [← hw0]
 clear hw0 vT sL B0
 have HF0 : Hid (∀ W,Below w0.heap.size w0 W → _):=fun W hW => HFT.out W (HB0.out.trans (hW.mono HB0.out.size))
 haveI : Nonempty (Cls w0):=Cls.ne w0
 have kt:=Cls.cell HM0.out.vT.lt HM0.out.vT.l1
 have k1:=Cls.cell HM0.out.vO.lt (HM0.out.vO.c 1 rfl)
 have k2:=Cls.cell HM0.out.vO.lt (HM0.out.vO.c 2 rfl)
 have k3:=Cls.cell HM0.out.vO.lt (HM0.out.vO.c 3 rfl)
 refine wp_region_cls (by kernel_rfl) (by kernel_rfl) ?_
 repeat (go_big_quiet_step (first | (go_at_call 33; exact Calls.cls (HF0.out _ (Cls.h _)))))
 refine wpQuiet_nil ?_
 rintro w1 ⟨⟨w1,hb_⟩,rfl⟩
 have HM_w1 : Hid (MD (fun b => b = tb ∨ b = g) w w1 tb lo (.slice (some ⟨g,0,none⟩) l.length cap) L1 l #[.i 0,.i p1,.i q1,.bool d1,.slice ya nm.length yc,.i p2,.i q2,.bool d2,.slice za asn.length zc,.i vl] #[.i fp,.i fq,.bool fd]):=HM0.out.step hb_
 have HB1 : Hid (Below w.heap.size w w1):=HB0.out.trans (hb_.mono HB0.out.size)
 have z1:=hb_.size
 clear kt k1 k2 k3 this hb_
 clear HF0 HFT HM0 HB0
 have o0:=HM_w1.out.vO.c 0 rfl
 have o3:=HM_w1.out.vO.c 3 rfl
 cases d1 with
 | false =>
  have HC : Hid (res = (l,rc 2)):=by show res = _; rw [← HRES.out]; rfl
  clear HRES
  go_wp2_with ((with_reducible refine gS 51 ?_); refine sF HM_w1.out.vR rfl rfl (by kernel_rfl) rfl rfl ?_; intro wz vR t_)
  refine bpR Tryz.results34 vR Tryz.underlying51 rfl rfl (by kernel_rfl) rfl ?_
  unfold DoPost
  rw [HC.out]
  exact ⟨_,rfl,rd_nil _ _,Turned.own2 HVW.out (HM_w1.out.fin hvt t_ HLR.out (by omega) (fun e => by have e3 : g = w.heap.size + 2:=(by simpa [Value.ownBlock] using e); omega) HLL.out)⟩
 | true =>
  rcases findH_cases l (p1,q1,true) with ⟨hd,hf⟩ | ⟨hd,hf⟩
  case inr =>
   rw [hf]
   have HC : Hid (res = (l,rc 1)):=by show res = _; rw [← HRES.out]; unfold doD; simp [hd]
   clear HRES hd hf
   go_wp2_with ((with_reducible refine gS 51 ?_); refine sF HM_w1.out.vR rfl rfl (by kernel_rfl) rfl rfl ?_; intro wz vR t_)
   refine bpR Tryz.results34 vR Tryz.underlying51 rfl rfl (by kernel_rfl) rfl ?_
   unfold DoPost
   rw [HC.out]
   exact ⟨_,rfl,rd_nil _ _,Turned.own2 HVW.out (HM_w1.out.fin hvt t_ HLR.out (by omega) (fun e => by have e3 : g = w.heap.size + 2:=(by simpa [Value.ownBlock] using e); omega) HLL.out)⟩
  rw [hf]
  clear hf
  unfold doD at HRES
  dsimp only at HRES
  generalize fi l (p1,q1,true) = d at *
  have hdi : (d : Int) < (l.length : Int):=by omega
  have t1:=HM_w1.out.vT.l1
  obtain ⟨xd,rd,cd⟩:=HM_w1.out.s.at hd
  have HRD : Hid _:=rd
  have HCD : Hid _:=cd
  clear rd cd
  have hgw : g < w1.heap.size:=Nat.lt_of_lt_of_le hg2 HB1.out.size
  have HE1 : Hid (∀ W,Below w1.heap.size w1 W → _):=fun W hW => specEntry_any xd _ (l[d]?.getD nd0) nm _ S2 W (RdV.step HRD.out hW) (RdV.step (HRY.out _ (HM_w1.out.t)) hW) (by have:=(HEL.out d).1; omega)
  generalize hnd : l[d]?.getD nd0 = nd at *
  go_wp2
  haveI : Nonempty (Cls w1):=Cls.ne w1
  have kt:=Cls.cell HM_w1.out.vT.lt HM_w1.out.vT.l1
  have k4:=Cls.cell HM_w1.out.vO.lt (HM_w1.out.vO.c 4 rfl)
  have kn0:=Cls.cell (o:=d * 9) hgw (by have:=HCD.out 0 (by omega); simpa [ndVal] using this)
  have kn1:=Cls.cell (o:=d * 9 + 1) hgw (by have:=HCD.out 1 (by omega); simpa [ndVal] using this)
  have kn2:=Cls.cell (o:=d * 9 + 2) hgw (by have:=HCD.out 2 (by omega); simpa [ndVal] using this)
  have kn3:=Cls.cell (o:=d * 9 + 3) hgw (by have:=HCD.out 3 (by omega); simpa [ndVal] using this)
  have kn4:=Cls.cell (o:=d * 9 + 4) hgw (by have:=HCD.out 4 (by omega); simpa [ndVal] using this)
  have kn5:=Cls.cell (o:=d * 9 + 5) hgw (by have:=HCD.out 5 (by omega); simpa [ndVal] using this)
  have kn6:=Cls.cell (o:=d * 9 + 6) hgw (by have:=HCD.out 6 (by omega); simpa [ndVal] using this)
  have kn7:=Cls.cell (o:=d * 9 + 7) hgw (by have:=HCD.out 7 (by omega); simpa [ndVal] using this)
  have kn8:=Cls.cell (o:=d * 9 + 8) hgw (by have:=HCD.out 8 (by omega); simpa [ndVal] using this)
  refine wp_region_cls (by kernel_rfl) (by kernel_rfl) ?_
  repeat (go_big_quiet_step (first | (go_at_call 57; exact Calls.cls (HE1.out _ (Cls.h _)))))
  refine wpQuiet_nil ?_
  rintro w2 ⟨⟨w2,hb_⟩,rfl⟩
  have HM_w2 : Hid (MD (fun b => b = tb ∨ b = g) w w2 tb lo (.slice (some ⟨g,0,none⟩) l.length cap) L1 l #[.i 0,.i p1,.i q1,.bool true,.slice ya nm.length yc,.i p2,.i q2,.bool d2,.slice za asn.length zc,.i vl] #[.i fp,.i fq,.bool fd]):=HM_w1.out.step hb_
  have HB2 : Hid (Below w1.heap.size w1 w2):=hb_
  have z2:=hb_.size
  clear kt k4 kn0 kn1 kn2 kn3 kn4 kn5 kn6 kn7 kn8 this hb_
  clear HE1
  have o20:=HM_w2.out.vO.c 0 rfl
  rcases findE_cases nd.es nm with ⟨he,hf⟩ | ⟨he,hf⟩
  case inr =>
   rw [hf]
   have HC : Hid (res = (l,rc 3)):=by show res = _; rw [← HRES.out]; simp [hd,he]
   clear HRES he hf
   go_wp2_with ((with_reducible refine gS 51 ?_); refine sF HM_w2.out.vR rfl rfl (by kernel_rfl) rfl rfl ?_; intro wz vR t_)
   refine bpR Tryz.results34 vR Tryz.underlying51 rfl rfl (by kernel_rfl) rfl ?_
   unfold DoPost
   rw [HC.out]
   exact ⟨_,rfl,rd_nil _ _,Turned.own2 HVW.out (HM_w2.out.fin hvt t_ HLR.out (by omega) (fun e => by have e3 : g = w.heap.size + 2:=(by simpa [Value.ownBlock] using e); omega) HLL.out)⟩
  rw [hf]
  clear hf
  have HHH : Hid (fi l (nd.es[ei nd.es nm]?.getD en0).h < l.length):=by have:=HIN.out d (ei nd.es nm) hd (by rw [hnd]; exact he); rw [hnd] at this; exact this
  generalize ei nd.es nm = e at *
  obtain ⟨xa,xc,rfl,_⟩:=RdV.sliced (HRD.out)
  have hei : (e : Int) < (nd.es.length : Int):=by omega
  obtain ⟨eb,eo,rfl,hebl,_,hx⟩:=RdV.at (RdV.step HRD.out HB2.out) he
  obtain ⟨x1,g1,s1⟩:=hx 1 (by omega)
  obtain ⟨x2,g2,s2⟩:=hx 2 (by omega)
  obtain ⟨x3,g3,s3⟩:=hx 3 (by omega)
  clear hx
  generalize hen : nd.es[e]?.getD en0 = en at *
  obtain ⟨enm,⟨hp,hq,hdr⟩⟩:=en
  obtain rfl : x1 = .i hp:=s1
  obtain rfl : x2 = .i hq:=s2
  obtain rfl : x3 = .bool hdr:=s3
  have t2:=HM_w2.out.vT.l1
  have n8 : w2.cell? ⟨g,d * 9 + 8,none⟩ = some (.slice (some ⟨eb,eo,none⟩) nd.es.length xc):=(HB2.out.cell (p:=⟨g,d * 9 + 8,none⟩) hgw).trans (HCD.out 8 (by omega))
  have HC : Hid (res = (l,⟨0,(hp,hq,hdr),0,[]⟩)):=by show res = _; rw [← HRES.out]; simp [hd,he,hen]
  clear HRES
  have HM3 : Hid (MD (fun b => b = tb ∨ b = g) w (w2.alloc (.cells #[.i hp,.i hq,.bool hdr] 48)) tb lo (.slice (some ⟨g,0,none⟩) l.length cap) L1 l #[.i 0,.i p1,.i q1,.bool true,.slice ya nm.length yc,.i p2,.i q2,.bool d2,.slice za asn.length zc,.i vl] #[.i fp,.i fq,.bool fd]):=HM_w2.out.step (Below.newH _)
  have o30:=HM3.out.vO.c 0 rfl
  have HH3:=VarA.new w2 48 #[.i hp,.i hq,.bool hdr]
  obtain ⟨h30,h31,h32⟩:=HH3.l3
  go_wp2_with ((with_reducible refine gS 51 ?_); refine sF HM3.out.vR rfl rfl (by kernel_rfl) rfl rfl ?_; intro wz vR t_)
  refine bpR Tryz.results34 vR Tryz.underlying51 rfl rfl (by kernel_rfl) rfl ?_
  unfold DoPost
  rw [HC.out]
  exact ⟨_,rfl,rd_nil _ _,Turned.own2 HVW.out (HM3.out.fin hvt t_ HLR.out (by omega) (fun e => by have e3 : g = w.heap.size + 2:=(by simpa [Value.ownBlock] using e); omega) HLL.out)⟩
end
section
set_option maxHeartbeats 8000000 in
theorem specDo1 (tb lo : Nat) (o : OpD) (fr : Hd) (y z : Value) (l : List Nd) (S2 L : Nat → Prop) (w : World) (tv : TV w tb lo L l) (hLt : ¬ L tb) (hLn : ∀ b,w.heap.size ≤ b → L b) (h0 : 0 < l.length) (hlo : lo ≤ w.heap.size) (htbl : lo ≤ tb) (sm : Small l) (hsz : szNds l ≤ 2097152) (r1 : RdV w S2 y (.bytes o.nm)) (r2 : RdV w S2 z (.bytes o.asn)) (hS2 : ∀ b,S2 b → b < lo) (hn1 : o.nm.length ≤ 2097152) (hn2 : o.asn.length ≤ 2097152)
  (hin : ∀ i j,i < l.length → j < (l[i]?.getD nd0).es.length → fi l ((l[i]?.getD nd0).es[j]?.getD en0).h < l.length) (hkd : o.kind = 1) :
  Calls Tryz.prog 34 #[.pointer (some ⟨tb,0,none⟩),opV o y z,fr.v] w (DoPost w tb lo L (doD l o fr)):=by
 obtain ⟨v,vT,s,hvt⟩:=tv
 obtain ⟨g,cap,rfl,hg1,hg2,hgf,hcap⟩:=s.head h0
 have htb:=vT.lt
 have hgt : g ≠ tb:=fun e => hvt (by rw [e]; rfl)
 have HVW : Hid (VarA w tb 26 #[.slice (some ⟨g,0,none⟩) l.length cap]):=vT
 obtain ⟨ya,yc,rfl⟩:=r1.sliceB
 obtain ⟨za,zc,rfl⟩:=r2.sliceB
 obtain ⟨kd,⟨p1,q1,d1⟩,nm,⟨p2,q2,d2⟩,asn,vl⟩:=o
 obtain ⟨fp,fq,fd⟩:=fr
 dsimp only at r1 r2 hn1 hn2 hkd ⊢
 subst hkd
 obtain ⟨res,hres⟩ : ∃ r,doD l ⟨1,(p1,q1,d1),nm,(p2,q2,d2),asn,vl⟩ (fp,fq,fd) = r:=⟨_,rfl⟩
 rw [hres]
 have HRES : Hid (doD l ⟨1,(p1,q1,d1),nm,(p2,q2,d2),asn,vl⟩ (fp,fq,fd) = res):=hres
 clear hres
 have hl:=sm.1
 have HEL : Hid (∀ i : Nat,(l[i]?.getD nd0).es.length ≤ 4000 ∧ 0 ≤ (l[i]?.getD nd0).links ∧ (l[i]?.getD nd0).links ≤ 2147483647):=sm.2
 have HFT : Hid (∀ W,Below w.heap.size w W → _):=fun W hW => specFind_any _ l (p1,q1,d1) _ W (RdV.step s.rd hW) (by omega)
 have HRY : Hid (∀ W,Turned (fun b => b = tb ∨ b = g) w W → RdV W S2 (.slice ya nm.length yc) (.bytes nm)):=fun W t => RdV.keep (t.keeps (fun b hb h => by have:=hS2 b hb; rcases h with h | h <;> omega)) r1
 have HRZ : Hid (∀ W,Turned (fun b => b = tb ∨ b = g) w W → RdV W S2 (.slice za asn.length zc) (.bytes asn)):=fun W t => RdV.keep (t.keeps (fun b hb h => by have:=hS2 b hb; rcases h with h | h <;> omega)) r2
 have HS2 : Hid (∀ b,S2 b → b < lo):=hS2
 have HSM : Hid (Small l):=sm
 have HIN : Hid (∀ i j,i < l.length → j < (l[i]?.getD nd0).es.length → fi l ((l[i]?.getD nd0).es[j]?.getD en0).h < l.length):=hin
 have sL : SG w lo (fun b => L b ∧ b ≠ w.heap.size + 2) _ l:=s.mono (fun b hb h => ⟨h,by omega⟩)
 obtain ⟨L1,hL1⟩ : ∃ M : Nat → Prop,M = fun b => L b ∧ b ≠ w.heap.size + 2:=⟨_,rfl⟩
 rw [← hL1] at sL
 have HLR : Hid (¬ L1 (w.heap.size + 2)):=by rw [hL1]; exact fun h => h.2 rfl
 have HLL : Hid (∀ b,L1 b → L b):=by rw [hL1]; exact fun b h => h.1
 have HLT1 : Hid (¬ L1 tb):=by rw [hL1]; exact fun h => hLt h.1
 have HLN : Hid (∀ b,w.heap.size + 3 ≤ b → L1 b):=by rw [hL1]; exact fun b h => ⟨hLn b (by omega),by omega⟩
 clear hL1 s sm hin r1 r2 hS2
 go_enter Tryz.func34,Tryz.ntmps34
 go_wp2
 obtain ⟨w0,hw0⟩ : ∃ W,W = ((w.alloc (.cells #[.i 1,.i p1,.i q1,.bool d1,.slice ya nm.length yc,.i p2,.i q2,.bool d2,.slice za asn.length zc,.i vl] 53)).alloc (.cells #[.i fp,.i fq,.bool fd] 48)).alloc (.cells #[.i 0,.i 0,.i 0,.bool false,.i 0,.n0] 51):=⟨_,rfl⟩
 have B0 : Below w.heap.size w w0:=by rw [hw0]; exact (((Below.refl _ _).alloc (Nat.le_refl _) _).alloc (by simp) _).alloc (by simp; omega) _
 have HM0 : Hid (MD (fun b => b = tb ∨ b = g) w w0 tb lo (.slice (some ⟨g,0,none⟩) l.length cap) L1 l #[.i 1,.i p1,.i q1,.bool d1,.slice ya nm.length yc,.i p2,.i q2,.bool d2,.slice za asn.length zc,.i vl] #[.i fp,.i fq,.bool fd]):=⟨Turned.ofBelow B0,vT.step B0,sL.step B0,by rw [hw0]; exact ((VarA.new w _ _).alloc _).alloc _,by rw [hw0]; have:=(VarA.new (w.alloc (.cells #[.i 1,.i p1,.i q1,.bool d1,.slice ya nm.length yc,.i p2,.i q2,.bool d2,.slice za asn.length zc,.i vl] 53)) 48 #[.i fp,.i fq,.bool fd]).alloc (.cells #[.i 0,.i 0,.i 0,.bool false,.i 0,.n0] 51); simpa using this,by rw [hw0]; have:=VarA.new ((w.alloc (.cells #[.i 1,.i p1,.i q1,.bool d1,.slice ya nm.length yc,.i p2,.i q2,.bool d2,.slice za asn.length zc,.i vl] 53)).alloc (.cells #[.i fp,.i fq,.bool fd] 48)) 51 #[.i 0,.i 0,.i 0,.bool false,.i 0,.n0]; simpa using this⟩
 have HB0 : Hid (Below w.heap.size w w0):=B0
 have z0:=HM0.out.vR.lt
 rw [← hw0]
 clear hw0 vT sL B0
 have HF0 : Hid (∀ W,Below w0.heap.size w0 W → _):=fun W hW => HFT.out W (HB0.out.trans (hW.mono HB0.out.size))
 haveI : Nonempty (Cls w0):=Cls.ne w0
 have kt:=Cls.cell HM0.out.vT.lt HM0.out.vT.l1
 have k1:=Cls.cell HM0.out.vO.lt (HM0.out.vO.c 1 rfl)
 have k2:=Cls.cell HM0.out.vO.lt (HM0.out.vO.c 2 rfl)
 have k3:=Cls.cell HM0.out.vO.lt (HM0.out.vO.c 3 rfl)
 refine wp_region_cls (by kernel_rfl) (by kernel_rfl) ?_
 repeat (go_big_quiet_step (first | (go_at_call 33; exact Calls.cls (HF0.out _ (Cls.h _)))))
 refine wpQuiet_nil ?_
 rintro w1 ⟨⟨w1,hb_⟩,rfl⟩
 have HM_w1 : Hid (MD (fun b => b = tb ∨ b = g) w w1 tb lo (.slice (some ⟨g,0,none⟩) l.length cap) L1 l #[.i 1,.i p1,.i q1,.bool d1,.slice ya nm.length yc,.i p2,.i q2,.bool d2,.slice za asn.length zc,.i vl] #[.i fp,.i fq,.bool fd]):=HM0.out.step hb_
 have HB1 : Hid (Below w.heap.size w w1):=HB0.out.trans (hb_.mono HB0.out.size)
 have z1:=hb_.size
 clear kt k1 k2 k3 this hb_
 clear HF0 HFT HM0 HB0
 have o0:=HM_w1.out.vO.c 0 rfl
 have o3:=HM_w1.out.vO.c 3 rfl
 cases d1 with
 | false =>
  have HC : Hid (res = (l,rc 2)):=by show res = _; rw [← HRES.out]; rfl
  clear HRES
  go_wp2_with ((with_reducible refine gS 51 ?_); refine sF HM_w1.out.vR rfl rfl (by kernel_rfl) rfl rfl ?_; intro wz vR t_)
  refine bpR Tryz.results34 vR Tryz.underlying51 rfl rfl (by kernel_rfl) rfl ?_
  unfold DoPost
  rw [HC.out]
  exact ⟨_,rfl,rd_nil _ _,Turned.own2 HVW.out (HM_w1.out.fin hvt t_ HLR.out (by omega) (fun e => by have e3 : g = w.heap.size + 2:=(by simpa [Value.ownBlock] using e); omega) HLL.out)⟩
 | true =>
  rcases findH_cases l (p1,q1,true) with ⟨hd,hf⟩ | ⟨hd,hf⟩
  case inr =>
   rw [hf]
   have HC : Hid (res = (l,rc 1)):=by show res = _; rw [← HRES.out]; unfold doD; simp [hd]
   clear HRES hd hf
   go_wp2_with ((with_reducible refine gS 51 ?_); refine sF HM_w1.out.vR rfl rfl (by kernel_rfl) rfl rfl ?_; intro wz vR t_)
   refine bpR Tryz.results34 vR Tryz.underlying51 rfl rfl (by kernel_rfl) rfl ?_
   unfold DoPost
   rw [HC.out]
   exact ⟨_,rfl,rd_nil _ _,Turned.own2 HVW.out (HM_w1.out.fin hvt t_ HLR.out (by omega) (fun e => by have e3 : g = w.heap.size + 2:=(by simpa [Value.ownBlock] using e); omega) HLL.out)⟩
  rw [hf]
  clear hf
  unfold doD at HRES
  dsimp only at HRES
  generalize fi l (p1,q1,true) = d at *
  have hdi : (d : Int) < (l.length : Int):=by omega
  have t1:=HM_w1.out.vT.l1
  obtain ⟨xd,rd,cd⟩:=HM_w1.out.s.at hd
  have HRD : Hid _:=rd
  have HCD : Hid _:=cd
  clear rd cd
  have hgw : g < w1.heap.size:=Nat.lt_of_lt_of_le hg2 HB1.out.size
  obtain ⟨xa,xc,rfl,_⟩:=RdV.sliced (HRD.out)
  have c8 : w1.cell? ⟨g,d * 9 + 8,none⟩ = some (.slice xa (l[d]?.getD nd0).es.length xc):=HCD.out 8 (by omega)
  have HC : Hid (res = (l,⟨0,hd0,0,(l[d]?.getD nd0).es⟩)):=by show res = _; rw [← HRES.out]; simp [hd]
  clear HRES
  have HCE : Hid _:=specCopyEn_any _ (l[d]?.getD nd0).es _ w1 HRD.out (Nat.le_trans (szNds_at l d) hsz) (HEL.out d).1
  generalize hnd : l[d]?.getD nd0 = nd at *
  generalize hln : nd.es.length = eln at *
  clear hln hnd
  go_wp2_with fail
  refine Calls.mono HCE.out ?_
  rintro r2 w2 ⟨ea,en,ec,rfl,oE,b2⟩
  have HM2 : Hid (MD (fun b => b = tb ∨ b = g) w w2 tb lo (.slice (some ⟨g,0,none⟩) l.length cap) L1 l #[.i 1,.i p1,.i q1,.bool true,.slice ya nm.length yc,.i p2,.i q2,.bool d2,.slice za asn.length zc,.i vl] #[.i fp,.i fq,.bool fd]):=HM_w1.out.step b2
  have HOE : Hid _:=oE
  have z2:=b2.size
  have zw:=HB1.out.size
  clear HCE oE b2 c8 t1 o0 o3
  go_wp2_with ((with_reducible refine gS 51 ?_); refine sF HM2.out.vR rfl rfl (by kernel_rfl) rfl rfl ?_; intro wz vR t_)
  refine bpR Tryz.results34 vR Tryz.underlying51 rfl rfl (by kernel_rfl) rfl ?_
  unfold DoPost
  rw [HC.out]
  exact ⟨_,rfl,RdV.mono (fun b hb => ⟨by omega,Nat.lt_of_lt_of_le hb.2 t_.size⟩) (RdV.keep (t_.keeps (fun b hb e => by have e2 : b = w.heap.size + 2:=e; omega)) (OwV.rd HOE.out)),Turned.own2 HVW.out (HM2.out.fin hvt t_ HLR.out (by omega) (fun e => by have e3 : g = w.heap.size + 2:=(by simpa [Value.ownBlock] using e); omega) HLL.out)⟩
end
section
set_option maxHeartbeats 8000000 in
theorem specDo2 (tb lo : Nat) (o : OpD) (fr : Hd) (y z : Value) (l : List Nd) (S2 L : Nat → Prop) (w : World) (tv : TV w tb lo L l) (hLt : ¬ L tb) (hLn : ∀ b,w.heap.size ≤ b → L b) (h0 : 0 < l.length) (hlo : lo ≤ w.heap.size) (htbl : lo ≤ tb) (sm : Small l) (hsz : szNds l ≤ 2097152) (r1 : RdV w S2 y (.bytes o.nm)) (r2 : RdV w S2 z (.bytes o.asn)) (hS2 : ∀ b,S2 b → b < lo) (hn1 : o.nm.length ≤ 2097152) (hn2 : o.asn.length ≤ 2097152)
  (hin : ∀ i j,i < l.length → j < (l[i]?.getD nd0).es.length → fi l ((l[i]?.getD nd0).es[j]?.getD en0).h < l.length) (hkd : o.kind = 2) :
  Calls Tryz.prog 34 #[.pointer (some ⟨tb,0,none⟩),opV o y z,fr.v] w (DoPost w tb lo L (doD l o fr)):=by
 obtain ⟨v,vT,s,hvt⟩:=tv
 obtain ⟨g,cap,rfl,hg1,hg2,hgf,hcap⟩:=s.head h0
 have htb:=vT.lt
 have hgt : g ≠ tb:=fun e => hvt (by rw [e]; rfl)
 have HVW : Hid (VarA w tb 26 #[.slice (some ⟨g,0,none⟩) l.length cap]):=vT
 obtain ⟨ya,yc,rfl⟩:=r1.sliceB
 obtain ⟨za,zc,rfl⟩:=r2.sliceB
 obtain ⟨kd,⟨p1,q1,d1⟩,nm,⟨p2,q2,d2⟩,asn,vl⟩:=o
 obtain ⟨fp,fq,fd⟩:=fr
 dsimp only at r1 r2 hn1 hn2 hkd ⊢
 subst hkd
 obtain ⟨res,hres⟩ : ∃ r,doD l ⟨2,(p1,q1,d1),nm,(p2,q2,d2),asn,vl⟩ (fp,fq,fd) = r:=⟨_,rfl⟩
 rw [hres]
 have HRES : Hid (doD l ⟨2,(p1,q1,d1),nm,(p2,q2,d2),asn,vl⟩ (fp,fq,fd) = res):=hres
 clear hres
 have hl:=sm.1
 have HEL : Hid (∀ i : Nat,(l[i]?.getD nd0).es.length ≤ 4000 ∧ 0 ≤ (l[i]?.getD nd0).links ∧ (l[i]?.getD nd0).links ≤ 2147483647):=sm.2
 have HFT : Hid (∀ W,Below w.heap.size w W → _):=fun W hW => specFind_any _ l (p1,q1,d1) _ W (RdV.step s.rd hW) (by omega)
 have HRY : Hid (∀ W,Turned (fun b => b = tb ∨ b = g) w W → RdV W S2 (.slice ya nm.length yc) (.bytes nm)):=fun W t => RdV.keep (t.keeps (fun b hb h => by have:=hS2 b hb; rcases h with h | h <;> omega)) r1
 have HRZ : Hid (∀ W,Turned (fun b => b = tb ∨ b = g) w W → RdV W S2 (.slice za asn.length zc) (.bytes asn)):=fun W t => RdV.keep (t.keeps (fun b hb h => by have:=hS2 b hb; rcases h with h | h <;> omega)) r2
 have HS2 : Hid (∀ b,S2 b → b < lo):=hS2
 have HSM : Hid (Small l):=sm
 have HIN : Hid (∀ i j,i < l.length → j < (l[i]?.getD nd0).es.length → fi l ((l[i]?.getD nd0).es[j]?.getD en0).h < l.length):=hin
 have sL : SG w lo (fun b => L b ∧ b ≠ w.heap.size + 2) _ l:=s.mono (fun b hb h => ⟨h,by omega⟩)
 obtain ⟨L1,hL1⟩ : ∃ M : Nat → Prop,M = fun b => L b ∧ b ≠ w.heap.size + 2:=⟨_,rfl⟩
 rw [← hL1] at sL
 have HLR : Hid (¬ L1 (w.heap.size + 2)):=by rw [hL1]; exact fun h => h.2 rfl
 have HLL : Hid (∀ b,L1 b → L b):=by rw [hL1]; exact fun b h => h.1
 have HLT1 : Hid (¬ L1 tb):=by rw [hL1]; exact fun h => hLt h.1
 have HLN : Hid (∀ b,w.heap.size + 3 ≤ b → L1 b):=by rw [hL1]; exact fun b h => ⟨hLn b (by omega),by omega⟩
 clear hL1 s sm hin r1 r2 hS2
 go_enter Tryz.func34,Tryz.ntmps34
 go_wp2
 obtain ⟨w0,hw0⟩ : ∃ W,W = ((w.alloc (.cells #[.i 2,.i p1,.i q1,.bool d1,.slice ya nm.length yc,.i p2,.i q2,.bool d2,.slice za asn.length zc,.i vl] 53)).alloc (.cells #[.i fp,.i fq,.bool fd] 48)).alloc (.cells #[.i 0,.i 0,.i 0,.bool false,.i 0,.n0] 51):=⟨_,rfl⟩
 have B0 : Below w.heap.size w w0:=by rw [hw0]; exact (((Below.refl _ _).alloc (Nat.le_refl _) _).alloc (by simp) _).alloc (by simp; omega) _
 have HM0 : Hid (MD (fun b => b = tb ∨ b = g) w w0 tb lo (.slice (some ⟨g,0,none⟩) l.length cap) L1 l #[.i 2,.i p1,.i q1,.bool d1,.slice ya nm.length yc,.i p2,.i q2,.bool d2,.slice za asn.length zc,.i vl] #[.i fp,.i fq,.bool fd]):=⟨Turned.ofBelow B0,vT.step B0,sL.step B0,by rw [hw0]; exact ((VarA.new w _ _).alloc _).alloc _,by rw [hw0]; have:=(VarA.new (w.alloc (.cells #[.i 2,.i p1,.i q1,.bool d1,.slice ya nm.length yc,.i p2,.i q2,.bool d2,.slice za asn.length zc,.i vl] 53)) 48 #[.i fp,.i fq,.bool fd]).alloc (.cells #[.i 0,.i 0,.i 0,.bool false,.i 0,.n0] 51); simpa using this,by rw [hw0]; have:=VarA.new ((w.alloc (.cells #[.i 2,.i p1,.i q1,.bool d1,.slice ya nm.length yc,.i p2,.i q2,.bool d2,.slice za asn.length zc,.i vl] 53)).alloc (.cells #[.i fp,.i fq,.bool fd] 48)) 51 #[.i 0,.i 0,.i 0,.bool false,.i 0,.n0]; simpa using this⟩
 have HB0 : Hid (Below w.heap.size w w0):=B0
 have z0:=HM0.out.vR.lt
 rw [← hw0]
 clear hw0 vT sL B0
 have HF0 : Hid (∀ W,Below w0.heap.size w0 W → _):=fun W hW => HFT.out W (HB0.out.trans (hW.mono HB0.out.size))
 haveI : Nonempty (Cls w0):=Cls.ne w0
 have kt:=Cls.cell HM0.out.vT.lt HM0.out.vT.l1
 have k1:=Cls.cell HM0.out.vO.lt (HM0.out.vO.c 1 rfl)
 have k2:=Cls.cell HM0.out.vO.lt (HM0.out.vO.c 2 rfl)
 have k3:=Cls.cell HM0.out.vO.lt (HM0.out.vO.c 3 rfl)
 refine wp_region_cls (by kernel_rfl) (by kernel_rfl) ?_
 repeat (go_big_quiet_step (first | (go_at_call 33; exact Calls.cls (HF0.out _ (Cls.h _)))))
 refine wpQuiet_nil ?_
 rintro w1 ⟨⟨w1,hb_⟩,rfl⟩
 have HM_w1 : Hid (MD (fun b => b = tb ∨ b = g) w w1 tb lo (.slice (some ⟨g,0,none⟩) l.length cap) L1 l #[.i 2,.i p1,.i q1,.bool d1,.slice ya nm.length yc,.i p2,.i q2,.bool d2,.slice za asn.length zc,.i vl] #[.i fp,.i fq,.bool fd]):=HM0.out.step hb_
 have HB1 : Hid (Below w.heap.size w w1):=HB0.out.trans (hb_.mono HB0.out.size)
 have z1:=hb_.size
 clear kt k1 k2 k3 this hb_
 clear HF0 HFT HM0 HB0
 have o0:=HM_w1.out.vO.c 0 rfl
 have o3:=HM_w1.out.vO.c 3 rfl
 cases d1 with
 | true =>
  have HC : Hid (res = (l,rc 6)):=by show res = _; rw [← HRES.out]; rfl
  clear HRES
  go_wp2_with ((with_reducible refine gS 51 ?_); refine sF HM_w1.out.vR rfl rfl (by kernel_rfl) rfl rfl ?_; intro wz vR t_)
  refine bpR Tryz.results34 vR Tryz.underlying51 rfl rfl (by kernel_rfl) rfl ?_
  unfold DoPost
  rw [HC.out]
  exact ⟨_,rfl,rd_nil _ _,Turned.own2 HVW.out (HM_w1.out.fin hvt t_ HLR.out (by omega) (fun e => by have e3 : g = w.heap.size + 2:=(by simpa [Value.ownBlock] using e); omega) HLL.out)⟩
 | false =>
  rcases findH_cases l (p1,q1,false) with ⟨hd,hf⟩ | ⟨hd,hf⟩
  case inr =>
   rw [hf]
   have HC : Hid (res = (l,rc 1)):=by show res = _; rw [← HRES.out]; unfold doD; simp [hd]
   clear HRES hd hf
   go_wp2_with ((with_reducible refine gS 51 ?_); refine sF HM_w1.out.vR rfl rfl (by kernel_rfl) rfl rfl ?_; intro wz vR t_)
   refine bpR Tryz.results34 vR Tryz.underlying51 rfl rfl (by kernel_rfl) rfl ?_
   unfold DoPost
   rw [HC.out]
   exact ⟨_,rfl,rd_nil _ _,Turned.own2 HVW.out (HM_w1.out.fin hvt t_ HLR.out (by omega) (fun e => by have e3 : g = w.heap.size + 2:=(by simpa [Value.ownBlock] using e); omega) HLL.out)⟩
  rw [hf]
  clear hf
  unfold doD at HRES
  dsimp only at HRES
  generalize fi l (p1,q1,false) = d at *
  have hdi : (d : Int) < (l.length : Int):=by omega
  have t1:=HM_w1.out.vT.l1
  obtain ⟨xd,rd,cd⟩:=HM_w1.out.s.at hd
  have HRD : Hid _:=rd
  have HCD : Hid _:=cd
  clear rd cd
  have hgw : g < w1.heap.size:=Nat.lt_of_lt_of_le hg2 HB1.out.size
  have c7 : w1.cell? ⟨g,d * 9 + 7,none⟩ = some (.i (l[d]?.getD nd0).val):=HCD.out 7 (by omega)
  have HC : Hid (res = (l,⟨0,hd0,(l[d]?.getD nd0).val,[]⟩)):=by show res = _; rw [← HRES.out]; simp [hd]
  clear HRES
  generalize (l[d]?.getD nd0).val = vv at *
  go_wp2_with ((with_reducible refine gS 51 ?_); refine sF HM_w1.out.vR rfl rfl (by kernel_rfl) rfl rfl ?_; intro wz vR t_)
  refine bpR Tryz.results34 vR Tryz.underlying51 rfl rfl (by kernel_rfl) rfl ?_
  unfold DoPost
  rw [HC.out]
  exact ⟨_,rfl,rd_nil _ _,Turned.own2 HVW.out (HM_w1.out.fin hvt t_ HLR.out (by omega) (fun e => by have e3 : g = w.heap.size + 2:=(by simpa [Value.ownBlock] using e); omega) HLL.out)⟩
end
section
set_option maxHeartbeats 8000000 in
theorem specDo3 (tb lo : Nat) (o : OpD) (fr : Hd) (y z : Value) (l : List Nd) (S2 L : Nat → Prop) (w : World) (tv : TV w tb lo L l) (hLt : ¬ L tb) (hLn : ∀ b,w.heap.size ≤ b → L b) (h0 : 0 < l.length) (hlo : lo ≤ w.heap.size) (htbl : lo ≤ tb) (sm : Small l) (hsz : szNds l ≤ 2097152) (r1 : RdV w S2 y (.bytes o.nm)) (r2 : RdV w S2 z (.bytes o.asn)) (hS2 : ∀ b,S2 b → b < lo) (hn1 : o.nm.length ≤ 2097152) (hn2 : o.asn.length ≤ 2097152)
  (hin : ∀ i j,i < l.length → j < (l[i]?.getD nd0).es.length → fi l ((l[i]?.getD nd0).es[j]?.getD en0).h < l.length) (hkd : o.kind = 3) :
  Calls Tryz.prog 34 #[.pointer (some ⟨tb,0,none⟩),opV o y z,fr.v] w (DoPost w tb lo L (doD l o fr)):=by
 obtain ⟨v,vT,s,hvt⟩:=tv
 obtain ⟨g,cap,rfl,hg1,hg2,hgf,hcap⟩:=s.head h0
 have htb:=vT.lt
 have hgt : g ≠ tb:=fun e => hvt (by rw [e]; rfl)
 have HVW : Hid (VarA w tb 26 #[.slice (some ⟨g,0,none⟩) l.length cap]):=vT
 obtain ⟨ya,yc,rfl⟩:=r1.sliceB
 obtain ⟨za,zc,rfl⟩:=r2.sliceB
 obtain ⟨kd,⟨p1,q1,d1⟩,nm,⟨p2,q2,d2⟩,asn,vl⟩:=o
 obtain ⟨fp,fq,fd⟩:=fr
 dsimp only at r1 r2 hn1 hn2 hkd ⊢
 subst hkd
 obtain ⟨res,hres⟩ : ∃ r,doD l ⟨3,(p1,q1,d1),nm,(p2,q2,d2),asn,vl⟩ (fp,fq,fd) = r:=⟨_,rfl⟩
 rw [hres]
 have HRES : Hid (doD l ⟨3,(p1,q1,d1),nm,(p2,q2,d2),asn,vl⟩ (fp,fq,fd) = res):=hres
 clear hres
 have hl:=sm.1
 have HEL : Hid (∀ i : Nat,(l[i]?.getD nd0).es.length ≤ 4000 ∧ 0 ≤ (l[i]?.getD nd0).links ∧ (l[i]?.getD nd0).links ≤ 2147483647):=sm.2
 have HFT : Hid (∀ W,Below w.heap.size w W → _):=fun W hW => specFind_any _ l (p1,q1,d1) _ W (RdV.step s.rd hW) (by omega)
 have HRY : Hid (∀ W,Turned (fun b => b = tb ∨ b = g) w W → RdV W S2 (.slice ya nm.length yc) (.bytes nm)):=fun W t => RdV.keep (t.keeps (fun b hb h => by have:=hS2 b hb; rcases h with h | h <;> omega)) r1
 have HRZ : Hid (∀ W,Turned (fun b => b = tb ∨ b = g) w W → RdV W S2 (.slice za asn.length zc) (.bytes asn)):=fun W t => RdV.keep (t.keeps (fun b hb h => by have:=hS2 b hb; rcases h with h | h <;> omega)) r2
 have HS2 : Hid (∀ b,S2 b → b < lo):=hS2
 have HSM : Hid (Small l):=sm
 have HIN : Hid (∀ i j,i < l.length → j < (l[i]?.getD nd0).es.length → fi l ((l[i]?.getD nd0).es[j]?.getD en0).h < l.length):=hin
 have sL : SG w lo (fun b => L b ∧ b ≠ w.heap.size + 2) _ l:=s.mono (fun b hb h => ⟨h,by omega⟩)
 obtain ⟨L1,hL1⟩ : ∃ M : Nat → Prop,M = fun b => L b ∧ b ≠ w.heap.size + 2:=⟨_,rfl⟩
 rw [← hL1] at sL
 have HLR : Hid (¬ L1 (w.heap.size + 2)):=by rw [hL1]; exact fun h => h.2 rfl
 have HLL : Hid (∀ b,L1 b → L b):=by rw [hL1]; exact fun b h => h.1
 have HLT1 : Hid (¬ L1 tb):=by rw [hL1]; exact fun h => hLt h.1
 have HLN : Hid (∀ b,w.heap.size + 3 ≤ b → L1 b):=by rw [hL1]; exact fun b h => ⟨hLn b (by omega),by omega⟩
 clear hL1 s sm hin r1 r2 hS2
 go_enter Tryz.func34,Tryz.ntmps34
 go_wp2
 obtain ⟨w0,hw0⟩ : ∃ W,W = ((w.alloc (.cells #[.i 3,.i p1,.i q1,.bool d1,.slice ya nm.length yc,.i p2,.i q2,.bool d2,.slice za asn.length zc,.i vl] 53)).alloc (.cells #[.i fp,.i fq,.bool fd] 48)).alloc (.cells #[.i 0,.i 0,.i 0,.bool false,.i 0,.n0] 51):=⟨_,rfl⟩
 have B0 : Below w.heap.size w w0:=by rw [hw0]; exact (((Below.refl _ _).alloc (Nat.le_refl _) _).alloc (by simp) _).alloc (by simp; omega) _
 have HM0 : Hid (MD (fun b => b = tb ∨ b = g) w w0 tb lo (.slice (some ⟨g,0,none⟩) l.length cap) L1 l #[.i 3,.i p1,.i q1,.bool d1,.slice ya nm.length yc,.i p2,.i q2,.bool d2,.slice za asn.length zc,.i vl] #[.i fp,.i fq,.bool fd]):=⟨Turned.ofBelow B0,vT.step B0,sL.step B0,by rw [hw0]; exact ((VarA.new w _ _).alloc _).alloc _,by rw [hw0]; have:=(VarA.new (w.alloc (.cells #[.i 3,.i p1,.i q1,.bool d1,.slice ya nm.length yc,.i p2,.i q2,.bool d2,.slice za asn.length zc,.i vl] 53)) 48 #[.i fp,.i fq,.bool fd]).alloc (.cells #[.i 0,.i 0,.i 0,.bool false,.i 0,.n0] 51); simpa using this,by rw [hw0]; have:=VarA.new ((w.alloc (.cells #[.i 3,.i p1,.i q1,.bool d1,.slice ya nm.length yc,.i p2,.i q2,.bool d2,.slice za asn.length zc,.i vl] 53)).alloc (.cells #[.i fp,.i fq,.bool fd] 48)) 51 #[.i 0,.i 0,.i 0,.bool false,.i 0,.n0]; simpa using this⟩
 have HB0 : Hid (Below w.heap.size w w0):=B0
 have z0:=HM0.out.vR.lt
 rw [← hw0]
 clear hw0 vT sL B0
 have HF0 : Hid (∀ W,Below w0.heap.size w0 W → _):=fun W hW => HFT.out W (HB0.out.trans (hW.mono HB0.out.size))
 haveI : Nonempty (Cls w0):=Cls.ne w0
 have kt:=Cls.cell HM0.out.vT.lt HM0.out.vT.l1
 have k1:=Cls.cell HM0.out.vO.lt (HM0.out.vO.c 1 rfl)
 have k2:=Cls.cell HM0.out.vO.lt (HM0.out.vO.c 2 rfl)
 have k3:=Cls.cell HM0.out.vO.lt (HM0.out.vO.c 3 rfl)
 refine wp_region_cls (by kernel_rfl) (by kernel_rfl) ?_
 repeat (go_big_quiet_step (first | (go_at_call 33; exact Calls.cls (HF0.out _ (Cls.h _)))))
 refine wpQuiet_nil ?_
 rintro w1 ⟨⟨w1,hb_⟩,rfl⟩
 have HM_w1 : Hid (MD (fun b => b = tb ∨ b = g) w w1 tb lo (.slice (some ⟨g,0,none⟩) l.length cap) L1 l #[.i 3,.i p1,.i q1,.bool d1,.slice ya nm.length yc,.i p2,.i q2,.bool d2,.slice za asn.length zc,.i vl] #[.i fp,.i fq,.bool fd]):=HM0.out.step hb_
 have HB1 : Hid (Below w.heap.size w w1):=HB0.out.trans (hb_.mono HB0.out.size)
 have z1:=hb_.size
 clear kt k1 k2 k3 this hb_
 clear HF0 HFT HM0 HB0
 have o0:=HM_w1.out.vO.c 0 rfl
 have o3:=HM_w1.out.vO.c 3 rfl
 cases d1 with
 | true =>
  have HC : Hid (res = (l,rc 6)):=by show res = _; rw [← HRES.out]; rfl
  clear HRES
  go_wp2_with ((with_reducible refine gS 51 ?_); refine sF HM_w1.out.vR rfl rfl (by kernel_rfl) rfl rfl ?_; intro wz vR t_)
  refine bpR Tryz.results34 vR Tryz.underlying51 rfl rfl (by kernel_rfl) rfl ?_
  unfold DoPost
  rw [HC.out]
  exact ⟨_,rfl,rd_nil _ _,Turned.own2 HVW.out (HM_w1.out.fin hvt t_ HLR.out (by omega) (fun e => by have e3 : g = w.heap.size + 2:=(by simpa [Value.ownBlock] using e); omega) HLL.out)⟩
 | false =>
  rcases findH_cases l (p1,q1,false) with ⟨hd,hf⟩ | ⟨hd,hf⟩
  case inr =>
   rw [hf]
   have HC : Hid (res = (l,rc 1)):=by show res = _; rw [← HRES.out]; unfold doD; simp [hd]
   clear HRES hd hf
   go_wp2_with ((with_reducible refine gS 51 ?_); refine sF HM_w1.out.vR rfl rfl (by kernel_rfl) rfl rfl ?_; intro wz vR t_)
   refine bpR Tryz.results34 vR Tryz.underlying51 rfl rfl (by kernel_rfl) rfl ?_
   unfold DoPost
   rw [HC.out]
   exact ⟨_,rfl,rd_nil _ _,Turned.own2 HVW.out (HM_w1.out.fin hvt t_ HLR.out (by omega) (fun e => by have e3 : g = w.heap.size + 2:=(by simpa [Value.ownBlock] using e); omega) HLL.out)⟩
  rw [hf]
  clear hf
  unfold doD at HRES
  dsimp only at HRES
  generalize fi l (p1,q1,false) = d at *
  have hdi : (d : Int) < (l.length : Int):=by omega
  have t1:=HM_w1.out.vT.l1
  obtain ⟨xd,rd,cd⟩:=HM_w1.out.s.at hd
  have HRD : Hid _:=rd
  have HCD : Hid _:=cd
  clear rd cd
  have hgw : g < w1.heap.size:=Nat.lt_of_lt_of_le hg2 HB1.out.size
  have HC : Hid (res = (valN l d vl,rc 0)):=by show res = _; rw [← HRES.out]; simp [hd]
  clear HRES
  go_wp2
  refine wp_region_noPanic ?_
  refine wp_region_held_drew (S:=fun W => W.cell? ⟨tb,0,none⟩ = some (.slice (some ⟨g,0,none⟩) l.length cap) ∧ W.cell? ⟨w.heap.size,9,none⟩ = some (.i vl)) (by kernel_rfl) ⟨(HM_w1.out.vT.step (Below.drew (Below.refl w1.heap.size w1))).l1,(HM_w1.out.vO.step (Below.drew (Below.refl w1.heap.size w1))).c 9 rfl⟩ (fun hHeld => ?_)
  apply tkh 0 _ rfl (by kernel_rfl) rfl (by assumption)
  ·(intro _ h; (try dsimp only at h); go_simp; try with_reducible rfl)
  try simp only [qz]
  apply tkh 1 _ rfl (by kernel_rfl) rfl (by assumption)
  ·(intro _ h; (try dsimp only at h); go_simp; try with_reducible rfl)
  try simp only [qz]
  apply tkh 2 _ rfl (by kernel_rfl) rfl (by assumption)
  ·(intro _ h; (try dsimp only at h); go_simp; try with_reducible rfl)
  try simp only [qz]
  apply tkh 3 _ rfl (by kernel_rfl) rfl (by assumption)
  ·(intro _ h; (try dsimp only at h); go_simp; try with_reducible rfl)
  try simp only [qz]
  apply tkh 4 _ rfl (by kernel_rfl) rfl (by assumption)
  ·(intro _ h; (try dsimp only at h); go_simp; try with_reducible rfl)
  try simp only [qz]
  apply tkh 5 _ rfl (by kernel_rfl) rfl (by assumption)
  ·(intro _ h; (try dsimp only at h); go_simp; try with_reducible rfl)
  try simp only [qz]
  apply tkh 6 _ rfl (by kernel_rfl) rfl (by assumption)
  ·(intro _ h; (try dsimp only at h); go_simp; try with_reducible rfl)
  try simp only [qz]
  apply tkh 7 _ rfl (by kernel_rfl) rfl (by assumption)
  ·(intro _ h; (try dsimp only at h); go_simp; try with_reducible rfl)
  try simp only [qz]
  apply tkh 8 _ rfl (by kernel_rfl) rfl (by assumption)
  ·(intro _ h; (try dsimp only at h); go_simp; try with_reducible rfl)
  try simp only [qz]
  refine doH 9 (by kernel_rfl) rfl fun K hK => ?_
  have e7 : w1.drew.cell? ⟨g,d * 9 + 7,none⟩ = some (.i (l[d]?.getD nd0).val):=HCD.out 7 (by omega)
  have fk:=SG.fz g HM_w1.out.s hd (d * 9 + 7)
  go_simp
  have T2 : Turned (fun b => b = g) w1.drew ((w1.setCell ⟨g,d * 9 + 7,none⟩ (.i vl)).drew):=Turned.set (Turned.refl (fun b => b = g) _) ⟨g,d * 9 + 7,none⟩ _ rfl
  have HM2 : Hid (MD (fun b => b = tb ∨ b = g) w ((w1.setCell ⟨g,d * 9 + 7,none⟩ (.i vl)).drew) tb lo (.slice (some ⟨g,0,none⟩) l.length cap) L1 (valN l d vl) #[.i 3,.i p1,.i q1,.bool false,.slice ya nm.length yc,.i p2,.i q2,.bool d2,.slice za asn.length zc,.i vl] #[.i fp,.i fq,.bool fd]):=MD.turn (HM_w1.out.step (Below.drew (Below.refl w1.heap.size w1))) T2 (SG.setVal (HM_w1.out.s.step (Below.drew (Below.refl w1.heap.size w1))) hd vl) (.inr rfl) hg2 hgt
  refine hK.out _ _ ⟨HM2.out.vT.l1,HM2.out.vO.c 9 rfl⟩ (fun hHeld => ?_)
  clear hK K
  try simp only [qz]
  refine wpAnyH_done (by kernel_rfl) (NoPanic.normal ?_) _
  clear hHeld T2 e7 fk
  obtain ⟨w2,hw2⟩ : ∃ W,W = ((w1.setCell ⟨g,d * 9 + 7,none⟩ (.i vl)).drew):=⟨_,rfl⟩
  rw [← hw2] at HM2 ⊢
  clear hw2
  go_wp2_with ((with_reducible refine gS 51 ?_); refine sF HM2.out.vR rfl rfl (by kernel_rfl) rfl rfl ?_; intro wz vR t_)
  refine bpR Tryz.results34 vR Tryz.underlying51 rfl rfl (by kernel_rfl) rfl ?_
  unfold DoPost
  rw [HC.out]
  exact ⟨_,rfl,rd_nil _ _,Turned.own2 HVW.out (HM2.out.fin hvt t_ HLR.out (by omega) (fun e => by have e3 : g = w.heap.size + 2:=(by simpa [Value.ownBlock] using e); omega) HLL.out)⟩
end
section
set_option maxHeartbeats 8000000 in
theorem specDo5 (tb lo : Nat) (o : OpD) (fr : Hd) (y z : Value) (l : List Nd) (S2 L : Nat → Prop) (w : World) (tv : TV w tb lo L l) (hLt : ¬ L tb) (hLn : ∀ b,w.heap.size ≤ b → L b) (h0 : 0 < l.length) (hlo : lo ≤ w.heap.size) (htbl : lo ≤ tb) (sm : Small l) (hsz : szNds l ≤ 2097152) (r1 : RdV w S2 y (.bytes o.nm)) (r2 : RdV w S2 z (.bytes o.asn)) (hS2 : ∀ b,S2 b → b < lo) (hn1 : o.nm.length ≤ 2097152) (hn2 : o.asn.length ≤ 2097152)
  (hin : ∀ i j,i < l.length → j < (l[i]?.getD nd0).es.length → fi l ((l[i]?.getD nd0).es[j]?.getD en0).h < l.length) (hkd : o.kind = 5) :
  Calls Tryz.prog 34 #[.pointer (some ⟨tb,0,none⟩),opV o y z,fr.v] w (DoPost w tb lo L (doD l o fr)):=by
 obtain ⟨v,vT,s,hvt⟩:=tv
 obtain ⟨g,cap,rfl,hg1,hg2,hgf,hcap⟩:=s.head h0
 have htb:=vT.lt
 have hgt : g ≠ tb:=fun e => hvt (by rw [e]; rfl)
 have HVW : Hid (VarA w tb 26 #[.slice (some ⟨g,0,none⟩) l.length cap]):=vT
 obtain ⟨ya,yc,rfl⟩:=r1.sliceB
 obtain ⟨za,zc,rfl⟩:=r2.sliceB
 obtain ⟨kd,⟨p1,q1,d1⟩,nm,⟨p2,q2,d2⟩,asn,vl⟩:=o
 obtain ⟨fp,fq,fd⟩:=fr
 dsimp only at r1 r2 hn1 hn2 hkd ⊢
 subst hkd
 obtain ⟨res,hres⟩ : ∃ r,doD l ⟨5,(p1,q1,d1),nm,(p2,q2,d2),asn,vl⟩ (fp,fq,fd) = r:=⟨_,rfl⟩
 rw [hres]
 have HRES : Hid (doD l ⟨5,(p1,q1,d1),nm,(p2,q2,d2),asn,vl⟩ (fp,fq,fd) = res):=hres
 clear hres
 have hl:=sm.1
 have HEL : Hid (∀ i : Nat,(l[i]?.getD nd0).es.length ≤ 4000 ∧ 0 ≤ (l[i]?.getD nd0).links ∧ (l[i]?.getD nd0).links ≤ 2147483647):=sm.2
 have HFT : Hid (∀ W,Below w.heap.size w W → _):=fun W hW => specFind_any _ l (p1,q1,d1) _ W (RdV.step s.rd hW) (by omega)
 have HRY : Hid (∀ W,Turned (fun b => b = tb ∨ b = g) w W → RdV W S2 (.slice ya nm.length yc) (.bytes nm)):=fun W t => RdV.keep (t.keeps (fun b hb h => by have:=hS2 b hb; rcases h with h | h <;> omega)) r1
 have HRZ : Hid (∀ W,Turned (fun b => b = tb ∨ b = g) w W → RdV W S2 (.slice za asn.length zc) (.bytes asn)):=fun W t => RdV.keep (t.keeps (fun b hb h => by have:=hS2 b hb; rcases h with h | h <;> omega)) r2
 have HS2 : Hid (∀ b,S2 b → b < lo):=hS2
 have HSM : Hid (Small l):=sm
 have HIN : Hid (∀ i j,i < l.length → j < (l[i]?.getD nd0).es.length → fi l ((l[i]?.getD nd0).es[j]?.getD en0).h < l.length):=hin
 have sL : SG w lo (fun b => L b ∧ b ≠ w.heap.size + 2) _ l:=s.mono (fun b hb h => ⟨h,by omega⟩)
 obtain ⟨L1,hL1⟩ : ∃ M : Nat → Prop,M = fun b => L b ∧ b ≠ w.heap.size + 2:=⟨_,rfl⟩
 rw [← hL1] at sL
 have HLR : Hid (¬ L1 (w.heap.size + 2)):=by rw [hL1]; exact fun h => h.2 rfl
 have HLL : Hid (∀ b,L1 b → L b):=by rw [hL1]; exact fun b h => h.1
 have HLT1 : Hid (¬ L1 tb):=by rw [hL1]; exact fun h => hLt h.1
 have HLN : Hid (∀ b,w.heap.size + 3 ≤ b → L1 b):=by rw [hL1]; exact fun b h => ⟨hLn b (by omega),by omega⟩
 clear hL1 s sm hin r1 r2 hS2
 go_enter Tryz.func34,Tryz.ntmps34
 go_wp2
 obtain ⟨w0,hw0⟩ : ∃ W,W = ((w.alloc (.cells #[.i 5,.i p1,.i q1,.bool d1,.slice ya nm.length yc,.i p2,.i q2,.bool d2,.slice za asn.length zc,.i vl] 53)).alloc (.cells #[.i fp,.i fq,.bool fd] 48)).alloc (.cells #[.i 0,.i 0,.i 0,.bool false,.i 0,.n0] 51):=⟨_,rfl⟩
 have B0 : Below w.heap.size w w0:=by rw [hw0]; exact (((Below.refl _ _).alloc (Nat.le_refl _) _).alloc (by simp) _).alloc (by simp; omega) _
 have HM0 : Hid (MD (fun b => b = tb ∨ b = g) w w0 tb lo (.slice (some ⟨g,0,none⟩) l.length cap) L1 l #[.i 5,.i p1,.i q1,.bool d1,.slice ya nm.length yc,.i p2,.i q2,.bool d2,.slice za asn.length zc,.i vl] #[.i fp,.i fq,.bool fd]):=⟨Turned.ofBelow B0,vT.step B0,sL.step B0,by rw [hw0]; exact ((VarA.new w _ _).alloc _).alloc _,by rw [hw0]; have:=(VarA.new (w.alloc (.cells #[.i 5,.i p1,.i q1,.bool d1,.slice ya nm.length yc,.i p2,.i q2,.bool d2,.slice za asn.length zc,.i vl] 53)) 48 #[.i fp,.i fq,.bool fd]).alloc (.cells #[.i 0,.i 0,.i 0,.bool false,.i 0,.n0] 51); simpa using this,by rw [hw0]; have:=VarA.new ((w.alloc (.cells #[.i 5,.i p1,.i q1,.bool d1,.slice ya nm.length yc,.i p2,.i q2,.bool d2,.slice za asn.length zc,.i vl] 53)).alloc (.cells #[.i fp,.i fq,.bool fd] 48)) 51 #[.i 0,.i 0,.i 0,.bool false,.i 0,.n0]; simpa using this⟩
 have HB0 : Hid (Below w.heap.size w w0):=B0
 have z0:=HM0.out.vR.lt
 rw [← hw0]
 clear hw0 vT sL B0
 have HF0 : Hid (∀ W,Below w0.heap.size w0 W → _):=fun W hW => HFT.out W (HB0.out.trans (hW.mono HB0.out.size))
 haveI : Nonempty (Cls w0):=Cls.ne w0
 have kt:=Cls.cell HM0.out.vT.lt HM0.out.vT.l1
 have k1:=Cls.cell HM0.out.vO.lt (HM0.out.vO.c 1 rfl)
 have k2:=Cls.cell HM0.out.vO.lt (HM0.out.vO.c 2 rfl)
 have k3:=Cls.cell HM0.out.vO.lt (HM0.out.vO.c 3 rfl)
 refine wp_region_cls (by kernel_rfl) (by kernel_rfl) ?_
 repeat (go_big_quiet_step (first | (go_at_call 33; exact Calls.cls (HF0.out _ (Cls.h _)))))
 refine wpQuiet_nil ?_
 rintro w1 ⟨⟨w1,hb_⟩,rfl⟩
 have HM_w1 : Hid (MD (fun b => b = tb ∨ b = g) w w1 tb lo (.slice (some ⟨g,0,none⟩) l.length cap) L1 l #[.i 5,.i p1,.i q1,.bool d1,.slice ya nm.length yc,.i p2,.i q2,.bool d2,.slice za asn.length zc,.i vl] #[.i fp,.i fq,.bool fd]):=HM0.out.step hb_
 have HB1 : Hid (Below w.heap.size w w1):=HB0.out.trans (hb_.mono HB0.out.size)
 have z1:=hb_.size
 clear kt k1 k2 k3 this hb_
 clear HF0 HFT HM0 HB0
 have o0:=HM_w1.out.vO.c 0 rfl
 have o3:=HM_w1.out.vO.c 3 rfl
 cases d1 with
 | false =>
  have HC : Hid (res = (l,rc 2)):=by show res = _; rw [← HRES.out]; rfl
  clear HRES
  go_wp2_with ((with_reducible refine gS 51 ?_); refine sF HM_w1.out.vR rfl rfl (by kernel_rfl) rfl rfl ?_; intro wz vR t_)
  refine bpR Tryz.results34 vR Tryz.underlying51 rfl rfl (by kernel_rfl) rfl ?_
  unfold DoPost
  rw [HC.out]
  exact ⟨_,rfl,rd_nil _ _,Turned.own2 HVW.out (HM_w1.out.fin hvt t_ HLR.out (by omega) (fun e => by have e3 : g = w.heap.size + 2:=(by simpa [Value.ownBlock] using e); omega) HLL.out)⟩
 | true =>
  rcases findH_cases l (p1,q1,true) with ⟨hd,hf⟩ | ⟨hd,hf⟩
  case inr =>
   rw [hf]
   have HC : Hid (res = (l,rc 1)):=by show res = _; rw [← HRES.out]; unfold doD; simp [hd]
   clear HRES hd hf
   go_wp2_with ((with_reducible refine gS 51 ?_); refine sF HM_w1.out.vR rfl rfl (by kernel_rfl) rfl rfl ?_; intro wz vR t_)
   refine bpR Tryz.results34 vR Tryz.underlying51 rfl rfl (by kernel_rfl) rfl ?_
   unfold DoPost
   rw [HC.out]
   exact ⟨_,rfl,rd_nil _ _,Turned.own2 HVW.out (HM_w1.out.fin hvt t_ HLR.out (by omega) (fun e => by have e3 : g = w.heap.size + 2:=(by simpa [Value.ownBlock] using e); omega) HLL.out)⟩
  rw [hf]
  clear hf
  unfold doD at HRES
  dsimp only at HRES
  generalize fi l (p1,q1,true) = d at *
  have hdi : (d : Int) < (l.length : Int):=by omega
  have t1:=HM_w1.out.vT.l1
  obtain ⟨xd,rd,cd⟩:=HM_w1.out.s.at hd
  have HRD : Hid _:=rd
  have HCD : Hid _:=cd
  clear rd cd
  have hgw : g < w1.heap.size:=Nat.lt_of_lt_of_le hg2 HB1.out.size
  have HE1 : Hid (∀ W,Below w1.heap.size w1 W → _):=fun W hW => specEntry_any xd _ (l[d]?.getD nd0) nm _ S2 W (RdV.step HRD.out hW) (RdV.step (HRY.out _ (HM_w1.out.t)) hW) (by have:=(HEL.out d).1; omega)
  generalize hnd : l[d]?.getD nd0 = nd at *
  go_wp2
  haveI : Nonempty (Cls w1):=Cls.ne w1
  have kt:=Cls.cell HM_w1.out.vT.lt HM_w1.out.vT.l1
  have k4:=Cls.cell HM_w1.out.vO.lt (HM_w1.out.vO.c 4 rfl)
  have kn0:=Cls.cell (o:=d * 9) hgw (by have:=HCD.out 0 (by omega); simpa [ndVal] using this)
  have kn1:=Cls.cell (o:=d * 9 + 1) hgw (by have:=HCD.out 1 (by omega); simpa [ndVal] using this)
  have kn2:=Cls.cell (o:=d * 9 + 2) hgw (by have:=HCD.out 2 (by omega); simpa [ndVal] using this)
  have kn3:=Cls.cell (o:=d * 9 + 3) hgw (by have:=HCD.out 3 (by omega); simpa [ndVal] using this)
  have kn4:=Cls.cell (o:=d * 9 + 4) hgw (by have:=HCD.out 4 (by omega); simpa [ndVal] using this)
  have kn5:=Cls.cell (o:=d * 9 + 5) hgw (by have:=HCD.out 5 (by omega); simpa [ndVal] using this)
  have kn6:=Cls.cell (o:=d * 9 + 6) hgw (by have:=HCD.out 6 (by omega); simpa [ndVal] using this)
  have kn7:=Cls.cell (o:=d * 9 + 7) hgw (by have:=HCD.out 7 (by omega); simpa [ndVal] using this)
  have kn8:=Cls.cell (o:=d * 9 + 8) hgw (by have:=HCD.out 8 (by omega); simpa [ndVal] using this)
  refine wp_region_cls (by kernel_rfl) (by kernel_rfl) ?_
  repeat (go_big_quiet_step (first | (go_at_call 57; exact Calls.cls (HE1.out _ (Cls.h _)))))
  refine wpQuiet_nil ?_
  rintro w2 ⟨⟨w2,hb_⟩,rfl⟩
  have HM_w2 : Hid (MD (fun b => b = tb ∨ b = g) w w2 tb lo (.slice (some ⟨g,0,none⟩) l.length cap) L1 l #[.i 5,.i p1,.i q1,.bool true,.slice ya nm.length yc,.i p2,.i q2,.bool d2,.slice za asn.length zc,.i vl] #[.i fp,.i fq,.bool fd]):=HM_w1.out.step hb_
  have HB2 : Hid (Below w1.heap.size w1 w2):=hb_
  have z2:=hb_.size
  clear kt k4 kn0 kn1 kn2 kn3 kn4 kn5 kn6 kn7 kn8 this hb_
  clear HE1
  have o20:=HM_w2.out.vO.c 0 rfl
  rcases findE_cases nd.es nm with ⟨he,hf⟩ | ⟨he,hf⟩
  case inr =>
   rw [hf]
   have HC : Hid (res = (l,rc 3)):=by show res = _; rw [← HRES.out]; simp [hd,he]
   clear HRES he hf
   go_wp2_with ((with_reducible refine gS 51 ?_); refine sF HM_w2.out.vR rfl rfl (by kernel_rfl) rfl rfl ?_; intro wz vR t_)
   refine bpR Tryz.results34 vR Tryz.underlying51 rfl rfl (by kernel_rfl) rfl ?_
   unfold DoPost
   rw [HC.out]
   exact ⟨_,rfl,rd_nil _ _,Turned.own2 HVW.out (HM_w2.out.fin hvt t_ HLR.out (by omega) (fun e => by have e3 : g = w.heap.size + 2:=(by simpa [Value.ownBlock] using e); omega) HLL.out)⟩
  rw [hf]
  clear hf
  have HHH : Hid (fi l (nd.es[ei nd.es nm]?.getD en0).h < l.length):=by have:=HIN.out d (ei nd.es nm) hd (by rw [hnd]; exact he); rw [hnd] at this; exact this
  generalize ei nd.es nm = e at *
  obtain ⟨xa,xc,rfl,_⟩:=RdV.sliced (HRD.out)
  have hei : (e : Int) < (nd.es.length : Int):=by omega
  obtain ⟨eb,eo,rfl,hebl,_,hx⟩:=RdV.at (RdV.step HRD.out HB2.out) he
  obtain ⟨x1,g1,s1⟩:=hx 1 (by omega)
  obtain ⟨x2,g2,s2⟩:=hx 2 (by omega)
  obtain ⟨x3,g3,s3⟩:=hx 3 (by omega)
  clear hx
  generalize hen : nd.es[e]?.getD en0 = en at *
  obtain ⟨enm,⟨hp,hq,hdr⟩⟩:=en
  obtain rfl : x1 = .i hp:=s1
  obtain rfl : x2 = .i hq:=s2
  obtain rfl : x3 = .bool hdr:=s3
  have t2:=HM_w2.out.vT.l1
  have n8 : w2.cell? ⟨g,d * 9 + 8,none⟩ = some (.slice (some ⟨eb,eo,none⟩) nd.es.length xc):=(HB2.out.cell (p:=⟨g,d * 9 + 8,none⟩) hgw).trans (HCD.out 8 (by omega))
  have HC : Hid (res = ((dropD l d e (hp,hq,hdr)).1,rc (dropD l d e (hp,hq,hdr)).2)):=by show res = _; rw [← HRES.out]; simp [hd,he,hen]
  clear HRES
  have HM3 : Hid (MD (fun b => b = tb ∨ b = g) w (w2.alloc (.cells #[.i hp,.i hq,.bool hdr] 48)) tb lo (.slice (some ⟨g,0,none⟩) l.length cap) L1 l #[.i 5,.i p1,.i q1,.bool true,.slice ya nm.length yc,.i p2,.i q2,.bool d2,.slice za asn.length zc,.i vl] #[.i fp,.i fq,.bool fd]):=HM_w2.out.step (Below.newH _)
  have HH3:=VarA.new w2 48 #[.i hp,.i hq,.bool hdr]
  obtain ⟨h30,h31,h32⟩:=HH3.l3
  have o30:=HM3.out.vO.c 0 rfl
  have zw:=HB1.out.size
  have HHH2:=HHH.out
  have t3:=HM3.out.vT.l1
  have TW : TV (w2.alloc (.cells #[.i hp,.i hq,.bool hdr] 48)) tb lo L1 l:=⟨_,HM3.out.vT,HM3.out.s,hvt⟩
  have HCA : Hid _:=specDrop_any tb lo d e (hp,hq,hdr) l L1 (w2.alloc (.cells #[.i hp,.i hq,.bool hdr] 48)) TW HLT1.out (fun b hb => HLN.out b (by have e9 : (w2.alloc (.cells #[.i hp,.i hq,.bool hdr] 48)).heap.size = w2.heap.size + 1:=(by simp); omega)) (by simp; omega) HSM.out hd (by rw [hnd]; exact he) HHH2 htbl
  clear TW
  go_wp2_with fail
  refine Calls.mono HCA.out ?_
  rintro r4 w4 ⟨rfl,⟨v4,vT4,s4,hv4⟩,T4⟩
  have T5:=T4 _ HM3.out.vT
  clear T4 HCA
  have T6 : Turned (fun b => b = tb ∨ b = g) (w2.alloc (.cells #[.i hp,.i hq,.bool hdr] 48)) w4:=T5.wide (fun b h => h.imp id (fun e => by have e3 : g = b:=(by simpa [Value.ownBlock] using e); exact e3.symm))
  have HV4 : Hid (VarA w4 (w.heap.size + 2) 51 #[.i 0,.i 0,.i 0,.bool false,.i 0,.n0]):=HM3.out.vR.turn T6 (fun e => by rcases e with e | e <;> omega)
  have HT6 : Hid (Turned (fun b => b = tb ∨ b = g) w w4):=HM3.out.t.trans T6
  have HS4 : Hid (SG w4 lo L1 v4 _):=s4
  have HVT4 : Hid (VarA w4 tb 26 #[v4]):=vT4
  have HV4R : Hid (v4.ownBlock ≠ some (w.heap.size + 2)):=SG.ne_var s4 HV4.out (by decide)
  clear T5 T6 s4 vT4
  go_wp2_with ((with_reducible refine gS 51 ?_); refine sF HV4.out rfl rfl (by kernel_rfl) rfl rfl ?_; intro wz vR t_)
  refine bpR Tryz.results34 vR Tryz.underlying51 rfl rfl (by kernel_rfl) rfl ?_
  unfold DoPost
  rw [HC.out]
  exact ⟨_,rfl,rd_nil _ _,Turned.own2 HVW.out ⟨TV.ret HVT4.out HS4.out hv4 t_ HLR.out (by omega) HV4R.out HLL.out,HT6.out.trans2 t_ (by omega)⟩⟩
end
section
set_option maxHeartbeats 8000000 in
theorem specDo7 (tb lo : Nat) (o : OpD) (fr : Hd) (y z : Value) (l : List Nd) (S2 L : Nat → Prop) (w : World) (tv : TV w tb lo L l) (hLt : ¬ L tb) (hLn : ∀ b,w.heap.size ≤ b → L b) (h0 : 0 < l.length) (hlo : lo ≤ w.heap.size) (htbl : lo ≤ tb) (sm : Small l) (hsz : szNds l ≤ 2097152) (r1 : RdV w S2 y (.bytes o.nm)) (r2 : RdV w S2 z (.bytes o.asn)) (hS2 : ∀ b,S2 b → b < lo) (hn1 : o.nm.length ≤ 2097152) (hn2 : o.asn.length ≤ 2097152)
  (hin : ∀ i j,i < l.length → j < (l[i]?.getD nd0).es.length → fi l ((l[i]?.getD nd0).es[j]?.getD en0).h < l.length) (hkd : o.kind = 7) :
  Calls Tryz.prog 34 #[.pointer (some ⟨tb,0,none⟩),opV o y z,fr.v] w (DoPost w tb lo L (doD l o fr)):=by
 obtain ⟨v,vT,s,hvt⟩:=tv
 obtain ⟨g,cap,rfl,hg1,hg2,hgf,hcap⟩:=s.head h0
 have htb:=vT.lt
 have hgt : g ≠ tb:=fun e => hvt (by rw [e]; rfl)
 have HVW : Hid (VarA w tb 26 #[.slice (some ⟨g,0,none⟩) l.length cap]):=vT
 obtain ⟨ya,yc,rfl⟩:=r1.sliceB
 obtain ⟨za,zc,rfl⟩:=r2.sliceB
 obtain ⟨kd,⟨p1,q1,d1⟩,nm,⟨p2,q2,d2⟩,asn,vl⟩:=o
 obtain ⟨fp,fq,fd⟩:=fr
 dsimp only at r1 r2 hn1 hn2 hkd ⊢
 subst hkd
 obtain ⟨res,hres⟩ : ∃ r,doD l ⟨7,(p1,q1,d1),nm,(p2,q2,d2),asn,vl⟩ (fp,fq,fd) = r:=⟨_,rfl⟩
 rw [hres]
 have HRES : Hid (doD l ⟨7,(p1,q1,d1),nm,(p2,q2,d2),asn,vl⟩ (fp,fq,fd) = res):=hres
 clear hres
 have hl:=sm.1
 have HEL : Hid (∀ i : Nat,(l[i]?.getD nd0).es.length ≤ 4000 ∧ 0 ≤ (l[i]?.getD nd0).links ∧ (l[i]?.getD nd0).links ≤ 2147483647):=sm.2
 have HFT : Hid (∀ W,Below w.heap.size w W → _):=fun W hW => specFind_any _ l (p1,q1,d1) _ W (RdV.step s.rd hW) (by omega)
 have HRY : Hid (∀ W,Turned (fun b => b = tb ∨ b = g) w W → RdV W S2 (.slice ya nm.length yc) (.bytes nm)):=fun W t => RdV.keep (t.keeps (fun b hb h => by have:=hS2 b hb; rcases h with h | h <;> omega)) r1
 have HRZ : Hid (∀ W,Turned (fun b => b = tb ∨ b = g) w W → RdV W S2 (.slice za asn.length zc) (.bytes asn)):=fun W t => RdV.keep (t.keeps (fun b hb h => by have:=hS2 b hb; rcases h with h | h <;> omega)) r2
 have HS2 : Hid (∀ b,S2 b → b < lo):=hS2
 have HSM : Hid (Small l):=sm
 have HIN : Hid (∀ i j,i < l.length → j < (l[i]?.getD nd0).es.length → fi l ((l[i]?.getD nd0).es[j]?.getD en0).h < l.length):=hin
 have sL : SG w lo (fun b => L b ∧ b ≠ w.heap.size + 2) _ l:=s.mono (fun b hb h => ⟨h,by omega⟩)
 obtain ⟨L1,hL1⟩ : ∃ M : Nat → Prop,M = fun b => L b ∧ b ≠ w.heap.size + 2:=⟨_,rfl⟩
 rw [← hL1] at sL
 have HLR : Hid (¬ L1 (w.heap.size + 2)):=by rw [hL1]; exact fun h => h.2 rfl
 have HLL : Hid (∀ b,L1 b → L b):=by rw [hL1]; exact fun b h => h.1
 have HLT1 : Hid (¬ L1 tb):=by rw [hL1]; exact fun h => hLt h.1
 have HLN : Hid (∀ b,w.heap.size + 3 ≤ b → L1 b):=by rw [hL1]; exact fun b h => ⟨hLn b (by omega),by omega⟩
 clear hL1 s sm hin r1 r2 hS2
 go_enter Tryz.func34,Tryz.ntmps34
 go_wp2
 obtain ⟨w0,hw0⟩ : ∃ W,W = ((w.alloc (.cells #[.i 7,.i p1,.i q1,.bool d1,.slice ya nm.length yc,.i p2,.i q2,.bool d2,.slice za asn.length zc,.i vl] 53)).alloc (.cells #[.i fp,.i fq,.bool fd] 48)).alloc (.cells #[.i 0,.i 0,.i 0,.bool false,.i 0,.n0] 51):=⟨_,rfl⟩
 have B0 : Below w.heap.size w w0:=by rw [hw0]; exact (((Below.refl _ _).alloc (Nat.le_refl _) _).alloc (by simp) _).alloc (by simp; omega) _
 have HM0 : Hid (MD (fun b => b = tb ∨ b = g) w w0 tb lo (.slice (some ⟨g,0,none⟩) l.length cap) L1 l #[.i 7,.i p1,.i q1,.bool d1,.slice ya nm.length yc,.i p2,.i q2,.bool d2,.slice za asn.length zc,.i vl] #[.i fp,.i fq,.bool fd]):=⟨Turned.ofBelow B0,vT.step B0,sL.step B0,by rw [hw0]; exact ((VarA.new w _ _).alloc _).alloc _,by rw [hw0]; have:=(VarA.new (w.alloc (.cells #[.i 7,.i p1,.i q1,.bool d1,.slice ya nm.length yc,.i p2,.i q2,.bool d2,.slice za asn.length zc,.i vl] 53)) 48 #[.i fp,.i fq,.bool fd]).alloc (.cells #[.i 0,.i 0,.i 0,.bool false,.i 0,.n0] 51); simpa using this,by rw [hw0]; have:=VarA.new ((w.alloc (.cells #[.i 7,.i p1,.i q1,.bool d1,.slice ya nm.length yc,.i p2,.i q2,.bool d2,.slice za asn.length zc,.i vl] 53)).alloc (.cells #[.i fp,.i fq,.bool fd] 48)) 51 #[.i 0,.i 0,.i 0,.bool false,.i 0,.n0]; simpa using this⟩
 have HB0 : Hid (Below w.heap.size w w0):=B0
 have z0:=HM0.out.vR.lt
 rw [← hw0]
 clear hw0 vT sL B0
 have HF0 : Hid (∀ W,Below w0.heap.size w0 W → _):=fun W hW => HFT.out W (HB0.out.trans (hW.mono HB0.out.size))
 haveI : Nonempty (Cls w0):=Cls.ne w0
 have kt:=Cls.cell HM0.out.vT.lt HM0.out.vT.l1
 have k1:=Cls.cell HM0.out.vO.lt (HM0.out.vO.c 1 rfl)
 have k2:=Cls.cell HM0.out.vO.lt (HM0.out.vO.c 2 rfl)
 have k3:=Cls.cell HM0.out.vO.lt (HM0.out.vO.c 3 rfl)
 refine wp_region_cls (by kernel_rfl) (by kernel_rfl) ?_
 repeat (go_big_quiet_step (first | (go_at_call 33; exact Calls.cls (HF0.out _ (Cls.h _)))))
 refine wpQuiet_nil ?_
 rintro w1 ⟨⟨w1,hb_⟩,rfl⟩
 have HM_w1 : Hid (MD (fun b => b = tb ∨ b = g) w w1 tb lo (.slice (some ⟨g,0,none⟩) l.length cap) L1 l #[.i 7,.i p1,.i q1,.bool d1,.slice ya nm.length yc,.i p2,.i q2,.bool d2,.slice za asn.length zc,.i vl] #[.i fp,.i fq,.bool fd]):=HM0.out.step hb_
 have HB1 : Hid (Below w.heap.size w w1):=HB0.out.trans (hb_.mono HB0.out.size)
 have z1:=hb_.size
 clear kt k1 k2 k3 this hb_
 clear HF0 HFT HM0 HB0
 have o0:=HM_w1.out.vO.c 0 rfl
 have o3:=HM_w1.out.vO.c 3 rfl
 cases d1 with
 | false =>
  have HC : Hid (res = (l,rc 2)):=by show res = _; rw [← HRES.out]; rfl
  clear HRES
  go_wp2_with ((with_reducible refine gS 51 ?_); refine sF HM_w1.out.vR rfl rfl (by kernel_rfl) rfl rfl ?_; intro wz vR t_)
  refine bpR Tryz.results34 vR Tryz.underlying51 rfl rfl (by kernel_rfl) rfl ?_
  unfold DoPost
  rw [HC.out]
  exact ⟨_,rfl,rd_nil _ _,Turned.own2 HVW.out (HM_w1.out.fin hvt t_ HLR.out (by omega) (fun e => by have e3 : g = w.heap.size + 2:=(by simpa [Value.ownBlock] using e); omega) HLL.out)⟩
 | true =>
  rcases findH_cases l (p1,q1,true) with ⟨hd,hf⟩ | ⟨hd,hf⟩
  case inr =>
   rw [hf]
   have HC : Hid (res = (l,rc 1)):=by show res = _; rw [← HRES.out]; unfold doD; simp [hd]
   clear HRES hd hf
   go_wp2_with ((with_reducible refine gS 51 ?_); refine sF HM_w1.out.vR rfl rfl (by kernel_rfl) rfl rfl ?_; intro wz vR t_)
   refine bpR Tryz.results34 vR Tryz.underlying51 rfl rfl (by kernel_rfl) rfl ?_
   unfold DoPost
   rw [HC.out]
   exact ⟨_,rfl,rd_nil _ _,Turned.own2 HVW.out (HM_w1.out.fin hvt t_ HLR.out (by omega) (fun e => by have e3 : g = w.heap.size + 2:=(by simpa [Value.ownBlock] using e); omega) HLL.out)⟩
  rw [hf]
  clear hf
  unfold doD at HRES
  dsimp only at HRES
  generalize fi l (p1,q1,true) = d at *
  have hdi : (d : Int) < (l.length : Int):=by omega
  have t1:=HM_w1.out.vT.l1
  obtain ⟨xd,rd,cd⟩:=HM_w1.out.s.at hd
  have HRD : Hid _:=rd
  have HCD : Hid _:=cd
  clear rd cd
  have hgw : g < w1.heap.size:=Nat.lt_of_lt_of_le hg2 HB1.out.size
  have HC : Hid (res = ((moveD l ⟨7,(p1,q1,true),nm,(p2,q2,d2),asn,vl⟩ d).1,rc (moveD l ⟨7,(p1,q1,true),nm,(p2,q2,d2),asn,vl⟩ d).2)):=by show res = _; rw [← HRES.out]; simp [hd]
  clear HRES o0 o3
  obtain ⟨o0,o1,o2,o3,o4,o5,o6,o7,o8,o9⟩:=HM_w1.out.vO.l10
  have TW : TV w1 tb lo L1 l:=⟨_,HM_w1.out.vT,HM_w1.out.s,hvt⟩
  have HCA : Hid _:=specMove_any tb lo d ⟨7,(p1,q1,true),nm,(p2,q2,d2),asn,vl⟩ _ _ l S2 L1 w1 TW HLT1.out (fun b hb => HLN.out b (by omega)) (Nat.le_trans hlo HB1.out.size) htbl HSM.out hd (HRY.out _ HM_w1.out.t) (HRZ.out _ HM_w1.out.t) HS2.out hn1 hn2 (fun j hj => HIN.out d j hd hj)
  clear TW
  go_wp2_with fail
  refine Calls.mono HCA.out ?_
  rintro r4 w4 ⟨rfl,⟨v4,vT4,s4,hv4⟩,T4⟩
  have T5:=T4 _ HM_w1.out.vT
  clear T4 HCA
  have T6 : Turned (fun b => b = tb ∨ b = g) w1 w4:=T5.wide (fun b h => h.imp id (fun e => by have e3 : g = b:=(by simpa [Value.ownBlock] using e); exact e3.symm))
  have HV4 : Hid (VarA w4 (w.heap.size + 2) 51 #[.i 0,.i 0,.i 0,.bool false,.i 0,.n0]):=HM_w1.out.vR.turn T6 (fun e => by rcases e with e | e <;> omega)
  have HT6 : Hid (Turned (fun b => b = tb ∨ b = g) w w4):=HM_w1.out.t.trans T6
  have HS4 : Hid (SG w4 lo L1 v4 _):=s4
  have HVT4 : Hid (VarA w4 tb 26 #[v4]):=vT4
  have HV4R : Hid (v4.ownBlock ≠ some (w.heap.size + 2)):=SG.ne_var s4 HV4.out (by decide)
  clear T5 T6 s4 vT4
  go_wp2_with ((with_reducible refine gS 51 ?_); refine sF HV4.out rfl rfl (by kernel_rfl) rfl rfl ?_; intro wz vR t_)
  refine bpR Tryz.results34 vR Tryz.underlying51 rfl rfl (by kernel_rfl) rfl ?_
  unfold DoPost
  rw [HC.out]
  exact ⟨_,rfl,rd_nil _ _,Turned.own2 HVW.out ⟨TV.ret HVT4.out HS4.out hv4 t_ HLR.out (by omega) HV4R.out HLL.out,HT6.out.trans2 t_ (by omega)⟩⟩
end
section
open Go.Maps
def DSub (W : World) (b : Nat) (P : Nat → Prop) (res : (Hd → Option Nd) × Nat × RpD) (e : Ending) (w' : World) : Prop:=
 ∃ a n c,∃ (R P' : Nat → Prop),e = .returned (rpV res.2.2 (.slice a n c)) ∧ OwV w' R (.slice a n c) (ensDt res.2.2.list) ∧ NM w' b res.2.1 res.1 P' ∧ (∀ c,R c → ¬ P' c) ∧ (∀ c,R c → W.heap.size ≤ c ∧ c < w'.heap.size) ∧ (∀ c,P' c → P c ∨ W.heap.size ≤ c) ∧ Turned P W w'
theorem DSub.of {W w' : World} {b : Nat} {P : Nat → Prop} {res : (Hd → Option Nd) × Nat × RpD} {e : Ending} (h : MPost W b P res e w') : DSub W b P res e w':=by
 obtain ⟨z,he,ho,rfl,N,t⟩:=h
 by_cases hl : res.2.2.list = []
 ·exact ⟨none,0,0,fun _ => False,_,he,by rw [hl]; exact OwV.nilR _ _ _ _ _,N,fun c hc => hc.elim,fun c hc => hc.elim,fun c hc => by rcases hc with hc | hc; exact .inl hc; exact .inr hc.1,t⟩
 ·refine ⟨none,0,0,fun c => False,P,he,?_,N.mono (fun c hc => by rcases hc with hc | hc; exact hc; exact absurd hc.2.2 hl) (fun c hc => N.sm c (.inl hc)),fun c hc => hc.elim,fun c hc => hc.elim,fun c hc => .inl hc,t⟩
  obtain ⟨V,C,Qs,h1,hS,h3,h4,h5,h6⟩:=OwV.inv ho
  rcases h1.2 with ⟨_,h0⟩ | ⟨g,c,cur,hv,_⟩
  ·exact absurd (List.eq_nil_of_length_eq_zero h0) hl
  ·cases hv
theorem DSub.ret {w W w1 w2 : World} {b rb : Nat} {P : Nat → Prop} {res : (Hd → Option Nd) × Nat × RpD} {a : Option Addr} {n c : Nat} {R P' : Nat → Prop} (hb : Below w.heap.size w W) (ho : OwV w1 R (.slice a n c) (ensDt res.2.2.list)) (N : NM w1 b res.2.1 res.1 P') (hd : ∀ c,R c → ¬ P' c) (hR : ∀ c,R c → W.heap.size ≤ c ∧ c < w1.heap.size) (hP' : ∀ c,P' c → P c ∨ W.heap.size ≤ c) (t : Turned P W w1)
  (t2 : Turned (fun c => c = rb) w1 w2) (h1 : w.heap.size ≤ rb) (h2 : rb < W.heap.size) (hP : ∀ c,P c → c < w.heap.size) : DSub w b P res (.returned (rpV res.2.2 (.slice a n c))) w2:=by
 have s1:=hb.size
 have s2:=t.size
 have s3:=t2.size
 refine ⟨a,n,c,R,P',rfl,OwV.keep (t2.keeps (fun c hc e => by have:=(hR c hc).1; omega)) ho,N.keep (t2.keeps (fun c hc e => by subst e; rcases hP' _ hc with h | h; (have:=hP _ h; omega); omega)),hd,fun c hc => ⟨by have:=(hR c hc).1; omega,by have:=(hR c hc).2; omega⟩,fun c hc => by rcases hP' c hc with h | h; exact .inl h; exact .inr (by omega),?_⟩
 exact Turned.past ((Turned.ofBelow hb).trans t) t2 h1
theorem NX.same {w w' : World} {b s : Nat} {f : Hd → Option Nd} {X : Hd → Value} {Q : Hd → Nat → Prop} {P : Nat → Prop} (N : NX w b s f X Q P) {g : Hd} {n n' : Nd} (hf : f g = some n) (hes : n'.es = n.es) (hn : n'.h = g) (M : MapH (ndX X) w' b s (setN f g n')) (t : Turned (fun c => c = b) w w') : NX w' b s (setN f g n') X Q P:=by
 have hk : ∀ h m,setN f g n' h = some m → ∃ k,f h = some k ∧ k.es = m.es:=by
  intro h m hm
  unfold setN at hm
  by_cases x : h = g
  ·rw [if_pos x] at hm; obtain rfl:=Option.some.inj hm; subst x; exact ⟨n,hf,hes.symm⟩
  ·rw [if_neg x] at hm; exact ⟨m,hm,rfl⟩
 refine ⟨M,setN_key N.key hn,?_,?_,?_,N.bP,fun c hc => Nat.lt_of_lt_of_le (N.small c hc) t.size⟩
 ·intro h m hm
  obtain ⟨k,e,e2⟩:=hk h m hm
  rw [← e2]
  exact OwV.keep (t.keeps (fun c hc x => (N.inP h k c e hc).2 x)) (N.own h k e)
 ·intro h m c hm hc
  obtain ⟨k,e,_⟩:=hk h m hm
  exact N.inP h k c e hc
 ·intro h h' m m' c hm hm' hc hc'
  obtain ⟨k,e,_⟩:=hk h m hm
  obtain ⟨k',e',_⟩:=hk h' m' hm'
  exact N.apart h h' k k' c e e' hc hc'
def lookF (f : Hd → Option Nd) (s : Nat) (o : OpD) : (Hd → Option Nd) × Nat × RpD:=(f,s,if fdB ((f o.dir).getD nd0).es o.nm = true then ⟨0,fdH ((f o.dir).getD nd0).es o.nm,0,[]⟩ else ⟨3,hd0,0,[]⟩)
def writeF (f : Hd → Option Nd) (s : Nat) (o : OpD) : (Hd → Option Nd) × Nat × RpD:=(setN f o.dir { (f o.dir).getD nd0 with val:=o.val },s,rp0)
theorem lookD (b s : Nat) (f : Hd → Option Nd) (o : OpD) (n : Nd) (y : Value) (za : Option Addr) (zn zc : Nat) (S2 P : Nat → Prop) (w : World) (N : NM w b s f P) (hin : HIn o.dir) (hf : f o.dir = some n) (r2 : RdV w S2 y (.bytes o.nm)) (hl : n.es.length ≤ 4000) :
  Calls Tryz.prog 102 #[.map (some b),opV o y (.slice za zn zc)] w (DSub w b P (lookF f s o)):=by
 have NM':=N
 obtain ⟨X,Q,N⟩:=N
 refine (look_any b s f X o y za zn zc P S2 w N.m hin N.rd r2 (by rw [hf]; exact Nat.le_trans hl (by omega))).mono ?_
 rintro e w' ⟨he,hb⟩
 refine ⟨none,0,0,fun _ => False,P,he,?_,NM'.step hb,fun c hc => hc.elim,fun c hc => hc.elim,fun c hc => .inl hc,Turned.ofBelow hb⟩
 have : (lookF f s o).2.2.list = []:=by unfold lookF; dsimp only; split <;> rfl
 rw [this]
 exact OwV.nilR _ _ _ _ _
theorem writeD (b s : Nat) (f : Hd → Option Nd) (o : OpD) (n : Nd) (ya za : Option Addr) (yn yc zn zc : Nat) (P : Nat → Prop) (w : World) (N : NM w b s f P) (hin : HIn o.dir) (hf : f o.dir = some n) (hs : s ≤ 2097000) :
  Calls Tryz.prog 103 #[.map (some b),opV o (.slice ya yn yc) (.slice za zn zc)] w (DSub w b P (writeF f s o)):=by
 obtain ⟨X,Q,N⟩:=N
 obtain ⟨a,c,hx,_⟩:=RdV.sliced (OwV.rd (N.own _ n hf))
 refine (write_any b s f X o ya za yn yc zn zc n w N.m N.key hin hf ⟨a,_,c,hx⟩ (by omega)).mono ?_
 rintro e w' ⟨he,M,t⟩
 refine ⟨none,0,0,fun _ => False,P,he,OwV.nilR _ _ _ _ _,⟨X,Q,?_⟩,fun c hc => hc.elim,fun c hc => hc.elim,fun c hc => .inl hc,t.wide (fun c e => by rw [e]; exact N.bP)⟩
 show NX w' b s (setN f o.dir { (f o.dir).getD nd0 with val:=o.val }) X Q P
 rw [hf]
 exact N.same hf rfl (N.key _ n hf) M t
structure FOk (f : Hd → Option Nd) : Prop where
 len : ∀ g t,f g = some t → t.es.length ≤ 4000 ∧ HIn t.par
 lks : ∀ g t,f g = some t → 0 ≤ t.links ∧ t.links ≤ 2147483647
 sz : ∀ g t,f g = some t → szEns t.es ≤ 2097152
 ent : ∀ g t nm,f g = some t → fdB t.es nm = true → ∃ t',f (fdH t.es nm) = some t' ∧ HIn (fdH t.es nm)
 add : ∀ g t h nm,isNm nm = true → f g = some t → fdB t.es nm = false → (t.es ++ [En.mk nm h]).Perm (addE t.es nm h) ∧ (addE t.es nm h).Pairwise (fun a b => cmpB a.nm b.nm < 0)
 add2 : ∀ g t h nm nm2,isNm nm = true → f g = some t → fdB t.es nm = false → ((outE t.es nm2) ++ [En.mk nm h]).Perm (addE (outE t.es nm2) nm h) ∧ (addE (outE t.es nm2) nm h).Pairwise (fun a b => cmpB a.nm b.nm < 0)
theorem room0 {f : Hd → Option Nd} {g : Hd} {t : Nd} {nm : List Int} (hf : f g = some t) (h : roomI f g nm = 0) : fdB t.es nm = false:=by
 unfold roomI at h
 rw [hf] at h
 simp only [Option.getD_some] at h
 cases hb : fdB t.es nm with
 | false => rfl
 | true => rw [hb] at h; simp at h
theorem makeD (b s : Nat) (f : Hd → Option Nd) (o : OpD) (hq : isNm o.nm = true) (fr : Hd) (n : Nd) (y : Value) (za : Option Addr) (zn zc : Nat) (S2 P : Nat → Prop) (w : World) (N : NM w b s f P) (ok : FOk f) (hin : HIn o.dir) (hfr : HIn fr) (hf : f o.dir = some n) (hnew : f fr = none) (r2 : RdV w S2 y (.bytes o.nm)) (hS2 : ∀ c,S2 c → ¬ P c) (hnm : o.nm.length ≤ 2097152) (hs : s ≤ 2097000) :
  Calls Tryz.prog 104 #[.map (some b),opV o y (.slice za zn zc),fr.v] w (DSub w b P (makeF f s o fr)):=
 (makeNode_any b s f o fr n y za zn zc S2 P w N hin hfr hf hnew r2 hS2 (ok.len _ n hf).1 hnm hs (fun h => ok.add _ n fr o.nm hq hf (room0 hf h))).mono (fun _ _ h => DSub.of h)
theorem linkD (b s : Nat) (f : Hd → Option Nd) (o : OpD) (hq : isNm o.nm = true) (n : Nd) (y : Value) (za : Option Addr) (zn zc : Nat) (S2 P : Nat → Prop) (w : World) (N : NM w b s f P) (ok : FOk f) (hin : HIn o.dir) (hito : HIn o.to) (hf : f o.dir = some n) (hdd : o.dir.dir = true) (r2 : RdV w S2 y (.bytes o.nm)) (hS2 : ∀ c,S2 c → ¬ P c) (hnm : o.nm.length ≤ 2097152) (hs : s ≤ 2097000) :
  Calls Tryz.prog 106 #[.map (some b),opV o y (.slice za zn zc)] w (DSub w b P (linkF f s o)):=
 (link_any b s f o n y za zn zc S2 P w N hin hito hf hdd r2 hS2 (ok.len _ n hf).1 hnm hs (fun t ht => by have:=ok.lks _ t ht; omega) (fun h => ok.add _ n o.to o.nm hq hf (room0 hf h))).mono (fun _ _ h => DSub.of h)
theorem dropD_ (b s : Nat) (f : Hd → Option Nd) (o : OpD) (n : Nd) (y : Value) (za : Option Addr) (zn zc : Nat) (S2 P : Nat → Prop) (w : World) (N : NM w b s f P) (ok : FOk f) (hin : HIn o.dir) (hf : f o.dir = some n) (r2 : RdV w S2 y (.bytes o.nm)) (hS2 : ∀ c,S2 c → ¬ P c) (hs : s ≤ 2097000) :
  Calls Tryz.prog 105 #[.map (some b),opV o y (.slice za zn zc)] w (DSub w b P (dropF f s o)):=
 (drop_any b s f o n y za zn zc S2 P w N hin hf r2 hS2 (ok.len _ n hf).1 hs (ok.ent _ n o.nm hf) ok.lks).mono (fun _ _ h => DSub.of h)
theorem moveD_ (b s : Nat) (f : Hd → Option Nd) (o : OpD) (hq : isNm o.asn = true) (n : Nd) (y z : Value) (S2 P : Nat → Prop) (w : World) (N : NM w b s f P) (ok : FOk f) (hin : HIn o.dir) (hito : HIn o.to) (hf : f o.dir = some n) (r2 : RdV w S2 y (.bytes o.nm)) (r3 : RdV w S2 z (.bytes o.asn)) (hS2 : ∀ c,S2 c → ¬ P c) (hSb : ∀ c,S2 c → c < w.heap.size) (hs : s ≤ 2097000) (hna : o.asn.length ≤ 2097152) :
  Calls Tryz.prog 107 #[.map (some b),opV o y z] w (DSub w b P (moveF f s o)):=by
 refine (move_any b s f o n y z S2 P w N hin hito hf r2 r3 hS2 hSb (ok.len _ n hf).1 hs hna ok.len (ok.ent _ n o.nm hf) ?_).mono (fun _ _ h => DSub.of h)
 intro h1 h2 n2 hn2
 unfold setN at hn2
 by_cases x : o.to = o.dir
 ·rw [if_pos x] at hn2
  obtain rfl:=Option.some.inj hn2
  refine ok.add2 _ n _ _ _ hq hf ?_
  unfold moveI at h2
  rw [x,hf] at h2
  cases hb : fdB n.es o.asn with
  | false => rfl
  | true =>
   simp only [Option.getD_some,Option.isSome_some,hb,if_true] at h2
   by_cases hd : o.dir.dir = false
   ·rw [if_pos hd] at h2; omega
   ·rw [if_neg hd,if_neg (by simp)] at h2; omega
 ·rw [if_neg x] at hn2
  refine ok.add _ n2 _ _ hq hn2 ?_
  unfold moveI at h2
  by_cases hd : o.to.dir = false
  ·rw [if_pos hd] at h2; omega
  ·rw [if_neg hd,if_neg (by rw [hn2]; simp),if_neg x] at h2
   by_cases hr : roomI f o.to o.asn = 0
   ·exact room0 hn2 hr
   ·rw [if_pos (.inl hr)] at h2; exact absurd h2 hr
def doF2 (f : Hd → Option Nd) (s : Nat) (o : OpD) (fr : Hd) : (Hd → Option Nd) × Nat × RpD:=
 if o.kind = 0 then lookF f s o else if o.kind = 1 then (f,s,⟨0,hd0,0,((f o.dir).getD nd0).es⟩) else if o.kind = 2 then (f,s,⟨0,hd0,((f o.dir).getD nd0).val,[]⟩) else if o.kind = 3 then writeF f s o else
 if o.kind = 4 then makeF f s o fr else if o.kind = 5 then dropF f s o else if o.kind = 6 then linkF f s o else moveF f s o
def doF (f : Hd → Option Nd) (s : Nat) (o : OpD) (fr : Hd) : (Hd → Option Nd) × Nat × RpD:=
 if o.kind = 4 ∧ takesB fr o.to (f (fr.sh,fr.ino,false)).isSome (f (fr.sh,fr.ino,true)).isSome s = false then (f,s,rcI 11) else
 if dirC o.kind o.dir.dir (f o.dir).isSome ≠ 0 then (f,s,rcI (dirC o.kind o.dir.dir (f o.dir).isSome)) else
 doF2 f s o fr
end
section
open Go.RowKit Go.Sort
theorem geS_cmp (a b : List Int) : geS a b = false ↔ cmpB a b < 0:=by
 have h:=cmpB_ge a b
 constructor
 ·intro e; rw [e] at h; have:=of_decide_eq_false h; omega
 ·intro e; rw [← h]; exact decide_eq_false (by omega)
theorem low_byte {c : Int} (h : isLow c = true) : 97 ≤ c ∧ c ≤ 122:=by
 simp [isLow] at h
 omega
theorem bytesOf_inj : ∀ {xs ys : List Int},xs.all isLow = true → ys.all isLow = true → Lib.bytesOf xs = Lib.bytesOf ys → xs = ys
 | [],[],_,_,_ => rfl
 | [],_ :: _,_,_,h => by simp [Lib.bytesOf] at h
 | _ :: _,[],_,_,h => by simp [Lib.bytesOf] at h
 | x :: xs,y :: ys,hx,hy,h => by
  simp only [List.all_cons,Bool.and_eq_true] at hx hy
  simp only [Lib.bytesOf,List.map_cons,List.cons.injEq] at h
  have h1:=low_byte hx.1
  have h2:=low_byte hy.1
  have h3 : x.toNat % 256 = y.toNat % 256:=by
   have:=congrArg UInt8.toNat h.1
   simpa using this
  rw [bytesOf_inj hx.2 hy.2 h.2]
  congr 1
  omega
theorem nm_low {nm : List Int} (h : isNm nm = true) : nm.all isLow = true:=by
 simp only [isNm,Bool.and_eq_true] at h
 exact h.2
theorem cmpB_tri {a b : List Int} (ha : isNm a = true) (hb : isNm b = true) (hne : a ≠ b) (h : ¬ cmpB a b < 0) : cmpB b a < 0:=by
 have e1:=cmpB_lt a b
 have e2:=cmpB_lt b a
 rw [decide_eq_false h] at e1
 have h1 : ¬ Lib.bytesOf a < Lib.bytesOf b:=of_decide_eq_false e1.symm
 have h2 : Lib.bytesOf b < Lib.bytesOf a:=by
  by_cases h3 : Lib.bytesOf b < Lib.bytesOf a
  ·exact h3
  ·exact absurd (bytesOf_inj (nm_low hb) (nm_low ha) (List.le_antisymm (List.not_lt.1 h1) (List.not_lt.1 h3))).symm hne
 have h4 : ltStr (Lib.bytesOf b) (Lib.bytesOf a) = true:=decide_eq_true h2
 rw [h4] at e2
 exact of_decide_eq_true e2
theorem cmpB_tr {a b c : List Int} (h1 : cmpB a b < 0) (h2 : cmpB b c < 0) : cmpB a c < 0:=by
 have:=(swo_nm (fun x : List Int => x)).trans a b c (decide_eq_true h1) (decide_eq_true h2)
 exact of_decide_eq_true this
theorem cmpB_ir (a : List Int) : ¬ cmpB a a < 0:=fun h => by
 have:=(swo_nm (fun x : List Int => x)).irrefl a
 rw [show Go.Proofs.ltOf (fun x y : List Int => cmpB x y) a a = decide (cmpB a a < 0) from rfl,decide_eq_true h] at this
 cases this
def AscE (es : List En) : Prop:=es.Pairwise (fun a b => cmpB a.nm b.nm < 0) ∧ ∀ e ∈ es,isNm e.nm = true
theorem ascE_of {es : List En} (h : ∀ i,i < es.length → enAt es i = true) : AscE es:=by
 refine ⟨?_,fun e he => ?_⟩
 ·rw [List.pairwise_iff_getElem]
  intro i j hi hj hij
  have h1:=asc_nm h i (j - i - 1) (by omega)
  rw [show i + (j - i - 1) + 1 = j by omega,List.getElem?_eq_getElem hi,List.getElem?_eq_getElem hj] at h1
  exact (geS_cmp _ _).1 h1
 ·obtain ⟨i,hi,rfl⟩:=List.getElem_of_mem he
  have h1:=h i hi
  rw [show es[i] = es[i]?.getD en0 by rw [List.getElem?_eq_getElem hi]; rfl]
  simp only [enAt,Bool.and_eq_true] at h1
  exact h1.1
theorem fdB_no {es : List En} {nm : List Int} : fdB es nm = false ↔ ∀ e ∈ es,e.nm ≠ nm:=by
 unfold fdB ei
 rw [decide_eq_false_iff_not,List.findIdx_lt_length]
 simp
theorem outE_asc {es : List En} (h : AscE es) (nm : List Int) : AscE (outE es nm):=
 ⟨h.1.sublist List.filter_sublist,fun e he => h.2 e (List.mem_filter.1 he).1⟩
theorem addE_perm (es : List En) (nm : List Int) (h : Hd) : (es ++ [En.mk nm h]).Perm (addE es nm h):=by
 unfold addE
 have h1 : es ++ [En.mk nm h] = (es.take (pl es nm) ++ es.drop (pl es nm)) ++ [En.mk nm h]:=by rw [List.take_append_drop]
 rw [h1,List.append_assoc,List.append_assoc]
 exact (List.perm_append_comm (l₁:=es.drop (pl es nm)) (l₂:=[En.mk nm h])).append_left _
theorem addE_asc {es : List En} (h : AscE es) {nm : List Int} (hn : isNm nm = true) (hf : fdB es nm = false) (hd : Hd) : (addE es nm hd).Pairwise (fun a b => cmpB a.nm b.nm < 0):=by
 have hno:=fdB_no.1 hf
 unfold addE
 have h0:=h.1
 rw [← List.take_append_drop (pl es nm) es,List.pairwise_append] at h0
 have ht : ∀ a ∈ es.take (pl es nm),cmpB a.nm nm < 0:=by
  intro a ha
  obtain ⟨i,hi,rfl⟩:=List.getElem_of_mem ha
  rw [List.length_take] at hi
  have h9:=List.not_of_lt_findIdx (p:=fun e : En => geS e.nm nm) (xs:=es) (i:=i) (by unfold pl at hi; omega)
  rw [List.getElem_take]
  exact (geS_cmp _ _).1 (by simpa using h9)
 have hdr : ∀ b ∈ es.drop (pl es nm),cmpB nm b.nm < 0:=by
  intro b hb
  obtain ⟨j,hj,rfl⟩:=List.getElem_of_mem hb
  rw [List.length_drop] at hj
  rw [List.getElem_drop]
  have hpl : pl es nm < es.length:=by omega
  have hg : geS (es[pl es nm]'hpl).nm nm = true:=List.findIdx_getElem (p:=fun e : En => geS e.nm nm) (w:=hpl)
  have hb0 : cmpB nm (es[pl es nm]'hpl).nm < 0:=by
   refine cmpB_tri (h.2 _ (List.getElem_mem hpl)) hn (hno _ (List.getElem_mem hpl)) (fun hlt => ?_)
   rw [(geS_cmp _ _).2 hlt] at hg
   cases hg
  by_cases hj0 : j = 0
  ·subst hj0; simpa using hb0
  ·have h8:=h.1
   rw [List.pairwise_iff_getElem] at h8
   exact cmpB_tr hb0 (h8 (pl es nm) (pl es nm + j) hpl (by omega) (by omega))
 rw [List.append_assoc,List.pairwise_append]
 refine ⟨h0.1,?_,?_⟩
 ·rw [List.singleton_append,List.pairwise_cons]
  exact ⟨hdr,h0.2.1⟩
 ·intro a ha b hb
  rw [List.singleton_append,List.mem_cons] at hb
  rcases hb with rfl | hb
  ·exact ht a ha
  ·exact h0.2.2 a ha b hb
theorem cut_out {es : List En} (h : AscE es) {nm : List Int} (hf : ei es nm < es.length) : cutE es (ei es nm) = outE es nm:=by
 have hat : (es[ei es nm]'hf).nm = nm:=by
  have:=List.findIdx_getElem (p:=fun e : En => decide (e.nm = nm)) (w:=hf)
  exact of_decide_eq_true this
 obtain ⟨k,hk⟩ : ∃ k,ei es nm = k:=⟨_,rfl⟩
 rw [hk]
 simp only [hk] at hf hat
 unfold cutE outE
 have hsp : es = es.take k ++ es[k]'hf :: es.drop (k + 1):=by rw [List.getElem_cons_drop,List.take_append_drop]
 have h0:=h.1
 rw [hsp,List.pairwise_append,List.pairwise_cons] at h0
 conv => rhs; rw [hsp]
 rw [List.filter_append,List.filter_cons]
 rw [if_neg (by simp [hat])]
 rw [List.filter_eq_self.2,List.filter_eq_self.2]
 ·intro b hb
  have h1:=h0.2.1.1 b hb
  simp only [Bool.not_eq_true',decide_eq_false_iff_not]
  intro e
  rw [hat,e] at h1
  exact cmpB_ir _ h1
 ·intro a ha
  have h1:=h0.2.2 a ha (es[k]'hf) (List.mem_cons_self)
  simp only [Bool.not_eq_true',decide_eq_false_iff_not]
  intro e
  rw [hat,e] at h1
  exact cmpB_ir _ h1
end
section
open Go.Maps
set_option maxHeartbeats 4000000 in
theorem implDo0 (b s : Nat) (f : Hd → Option Nd) (o : OpD) (fr : Hd) (y z : Value) (S2 P : Nat → Prop) (w : World) (N : NM w b s f P) (ok : FOk f) (hin : HIn o.dir) (hito : HIn o.to) (hfr : HIn fr) (r2 : RdV w S2 y (.bytes o.nm)) (r3 : RdV w S2 z (.bytes o.asn)) (hS2 : ∀ c,S2 c → ¬ P c) (hSS : ∀ c,S2 c → c < w.heap.size) (hnm : o.nm.length ≤ 2097152) (hna : o.asn.length ≤ 2097152) (hs : s ≤ 2097000) (hok : OOk o = true) (hk : o.kind = 0) :
  Calls Tryz.prog 85 #[.map (some b),opV o y z,fr.v] w (DSub w b P (doF f s o fr)):=by
 obtain ⟨ya,yc,rfl⟩:=r2.sliceB
 obtain ⟨za,zc,rfl⟩:=r3.sliceB
 have HNM : Hid (NM w b s f P):=N
 have HPS : Hid (∀ c,P c → c < w.heap.size):=N.sm
 have hbw:=N.lt
 obtain ⟨X,Q,N⟩:=N
 have HN : Hid (NX w b s f X Q P):=N
 have hXs : ∀ h n,f h = some n → ∃ a m c,X n.h = .slice a m c:=fun h n hn => by obtain ⟨a,c,e,_⟩:=RdV.sliced (N.rd h n hn); exact ⟨a,_,c,e⟩
 obtain ⟨kd,⟨p,q,d⟩,nm,⟨p2,q2,d2⟩,asn,ov⟩:=o
 obtain ⟨pf,qf,df⟩:=fr
 dsimp only at hin hito hfr r2 r3 hnm hna hk
 subst hk
 clear hok
 have HI : Hid (HIn (p,q,d)):=hin
 have HIT : Hid (HIn (p2,q2,d2)):=hito
 have HIF : Hid (HIn (pf,qf,df)):=hfr
 have HS2 : Hid (∀ c,S2 c → ¬ P c):=hS2
 have HSS : Hid (∀ c,S2 c → c < w.heap.size):=hSS
 have OK : Hid (FOk f):=ok
 obtain ⟨th,hth⟩ : ∃ th,(f (p,q,d)).isSome = th:=⟨_,rfl⟩
 obtain ⟨dc,hdc0⟩ : ∃ r,dirC 0 d th = r:=⟨_,rfl⟩
 obtain ⟨tv,htv⟩ : ∃ r,takesB (pf,qf,df) (p2,q2,d2) (f (pf,qf,false)).isSome (f (pf,qf,true)).isSome s = r:=⟨_,rfl⟩
 have HDC : Hid (∀ W,Below w.heap.size w W → Calls Tryz.prog 101 #[.map (some b),.agg #[.i 0,.i p,.i q,.bool d,.slice ya nm.length yc,.i p2,.i q2,.bool d2,.slice za asn.length zc,.i ov]] W fun e w' => e = .returned (.i dc) ∧ Below W.heap.size W w'):=fun W hW => by
  have h9:=dirCode_any b s f X ⟨0,(p,q,d),nm,(p2,q2,d2),asn,ov⟩ ya za nm.length yc asn.length zc W (N.m.blk (hW.block b hbw)) hin (fun n hn => hXs _ n hn)
  dsimp only at h9
  rw [hth,hdc0] at h9
  exact h9
 have HTK : Hid (∀ W,Below w.heap.size w W → Calls Tryz.prog 100 #[.map (some b),.agg #[.i pf,.i qf,.bool df],.agg #[.i p2,.i q2,.bool d2]] W fun e w' => e = .returned (.bool tv) ∧ Below W.heap.size W w'):=fun W hW => by
  have h9:=takes_any b s f X (pf,qf,df) (p2,q2,d2) W (N.m.blk (hW.block b hbw)) hfr hXs
  rw [show takesB (pf,qf,df) (p2,q2,d2) (f (Hd.sh (pf,qf,df),Hd.ino (pf,qf,df),false)).isSome (f (Hd.sh (pf,qf,df),Hd.ino (pf,qf,df),true)).isSome s = tv from htv] at h9
  exact h9
 obtain ⟨res,hres⟩ : ∃ r,doF f s ⟨0,(p,q,d),nm,(p2,q2,d2),asn,ov⟩ (pf,qf,df) = r:=⟨_,rfl⟩
 have HRES : Hid ((if (0 : Int) = 4 ∧ tv = false then (f,s,rcI 11) else if dc ≠ 0 then (f,s,rcI dc) else doF2 f s ⟨0,(p,q,d),nm,(p2,q2,d2),asn,ov⟩ (pf,qf,df)) = res):=by
  show _ = _
  rw [← hres]
  unfold doF
  dsimp only [Hd.dir,Hd.sh,Hd.ino]
  rw [hth,hdc0,htv]
 rw [hres]
 have HNEW : Hid (tv = true → f (pf,qf,df) = none):=fun h => by
  rw [← htv] at h
  unfold takesB at h
  simp only [Bool.and_eq_true,Bool.not_eq_true',decide_eq_true_eq] at h
  cases df
  ·exact Option.isNone_iff_eq_none.1 (by simpa using h.2.2.2.1)
  ·exact Option.isNone_iff_eq_none.1 (by simpa using h.2.2.2.2.1)
 have HR2 : Hid (RdV w S2 (.slice ya nm.length yc) (.bytes nm)):=r2
 have HR3 : Hid (RdV w S2 (.slice za asn.length zc) (.bytes asn)):=r3
 have HDV : Hid (dirC 0 d th = dc):=hdc0
 have HTH : Hid ((f (p,q,d)).isSome = th):=hth
 clear N hXs r2 r3 hS2 hSS hin hito hfr ok hres htv hdc0 hth
 generalize hyn : nm.length = yn at *
 generalize hzn : asn.length = zn at *
 go_enter Tryz.func85,Tryz.ntmps85
 go_wp2_with fail
 go_at_call 101
 refine Calls.mono (HDC.out _ (by repeat (first | exact Below.refl _ _ | refine Below.al2 ?_ _))) ?_
 rintro e w1 ⟨rfl,hb1⟩
 have vO : VarA w1 w.heap.size 53 #[.i 0,.i p,.i q,.bool d,.slice ya yn yc,.i p2,.i q2,.bool d2,.slice za zn zc,.i ov]:=(((VarA.new w _ _).alloc _).alloc _).step hb1
 have vF : VarA w1 (w.heap.size + 1) 48 #[.i pf,.i qf,.bool df]:=((by simpa using VarA.new (w.alloc _) 48 _ : VarA ((w.alloc _).alloc (.cells #[.i pf,.i qf,.bool df] 48)) (w.heap.size + 1) _ _).alloc _).step hb1
 have vR : VarA w1 (w.heap.size + 2) 51 #[.i 0,.i 0,.i 0,.bool false,.i 0,.n0]:=(by simpa using VarA.new ((w.alloc _).alloc _) 51 _ : VarA (((w.alloc _).alloc _).alloc (.cells #[.i 0,.i 0,.i 0,.bool false,.i 0,.n0] 51)) (w.heap.size + 2) _ _).step hb1
 have HB1 : Hid (Below w.heap.size w w1):=(show Below w.heap.size w (((w.alloc _).alloc _).alloc _) by repeat (first | exact Below.refl _ _ | refine Below.al2 ?_ _)).trans (hb1.mono (by simp <;> omega))
 have HVR : Hid (VarA w1 (w.heap.size + 2) 51 _):=vR
 have HVO : Hid (VarA w1 w.heap.size 53 _):=vO
 have HVF : Hid (VarA w1 (w.heap.size + 1) 48 _):=vF
 have s1 : w.heap.size + 3 ≤ w1.heap.size:=by have:=vR.lt; omega
 obtain ⟨q0,q1,q2_,q3,q4,q5,q6,q7,q8,q9⟩:=vO.l10
 obtain ⟨g0,g1,g2⟩:=vF.l3
 clear hb1 vO vF vR
 by_cases hdc : dc = 0
 case neg =>
  have hres2 : res = (f,s,rcI dc):=by rw [← HRES.out]; simp [hdc]
  subst hres2
  have hc1 : (dc == 0) = false:=by simpa using hdc
  have hc2 : (dc != 0) = true:=by simpa using hdc
  go_wp2_with ((with_reducible refine gS 51 ?_); refine sF HVR.out rfl rfl (by kernel_rfl) rfl rfl ?_; intro w8 v8 t8)
  refine bpR Tryz.results85 v8 Tryz.underlying51 rfl rfl (by kernel_rfl) rfl ?_
  exact DSub.ret (R:=fun _ => False) (P':=P) HB1.out (OwV.nilR _ _ _ _ _) (HNM.out.step HB1.out) (fun c hc => hc.elim) (fun c hc => hc.elim) (fun c hc => .inl hc) (Turned.refl _ _) t8 (by omega) (by omega) HPS.out
 subst hdc
 obtain ⟨rfl,rfl⟩ : d = true ∧ th = true:=by
  have h9:=HDV.out
  cases d <;> cases th <;> simp [dirC] at h9 ⊢
 obtain ⟨n,hf⟩ : ∃ n,f (p,q,true) = some n:=Option.isSome_iff_exists.1 HTH.out
 have hres2 : res = lookF f s ⟨0,(p,q,true),nm,(p2,q2,d2),asn,ov⟩:=by rw [← HRES.out]; simp [doF2]
 subst hres2
 have HSB : Hid (∀ W,Below w.heap.size w W → _):=fun W hW => lookD b s f ⟨0,(p,q,true),nm,(p2,q2,d2),asn,ov⟩ n (.slice ya yn yc) za zn zc S2 P W (HNM.out.step hW) HI.out hf (HR2.out.step hW) (OK.out.len _ n hf).1
 clear HRES HDC HTK HTH HDV
 go_wp2_with (first | (go_at_call 102; refine Calls.mono (HSB.out _ HB1.out) ?_; rintro e w9 ⟨a9,n9,c9,R9,P9,rfl,o9,N9,d9,r9,p9,t9⟩; have s9:=t9.size; have kR:=HVR.out.turn t9 (fun h => by have:=HPS.out _ h; omega); have HR9 : Hid (VarA w9 (w.heap.size + 2) 51 _):=kR; clear kR) | ((with_reducible refine gS 51 ?_); refine sF HR9.out rfl rfl (by kernel_rfl) rfl rfl ?_; intro w8 v8 t8))
 refine bpR Tryz.results85 v8 Tryz.underlying51 rfl rfl (by kernel_rfl) rfl ?_
 exact DSub.ret HB1.out o9 N9 d9 r9 p9 t9 t8 (by omega) (by omega) HPS.out
set_option maxHeartbeats 4000000 in
theorem implDo1 (b s : Nat) (f : Hd → Option Nd) (o : OpD) (fr : Hd) (y z : Value) (S2 P : Nat → Prop) (w : World) (N : NM w b s f P) (ok : FOk f) (hin : HIn o.dir) (hito : HIn o.to) (hfr : HIn fr) (r2 : RdV w S2 y (.bytes o.nm)) (r3 : RdV w S2 z (.bytes o.asn)) (hS2 : ∀ c,S2 c → ¬ P c) (hSS : ∀ c,S2 c → c < w.heap.size) (hnm : o.nm.length ≤ 2097152) (hna : o.asn.length ≤ 2097152) (hs : s ≤ 2097000) (hok : OOk o = true) (hk : o.kind = 1) :
  Calls Tryz.prog 85 #[.map (some b),opV o y z,fr.v] w (DSub w b P (doF f s o fr)):=by
 obtain ⟨ya,yc,rfl⟩:=r2.sliceB
 obtain ⟨za,zc,rfl⟩:=r3.sliceB
 have HNM : Hid (NM w b s f P):=N
 have HPS : Hid (∀ c,P c → c < w.heap.size):=N.sm
 have hbw:=N.lt
 obtain ⟨X,Q,N⟩:=N
 have HN : Hid (NX w b s f X Q P):=N
 have hXs : ∀ h n,f h = some n → ∃ a m c,X n.h = .slice a m c:=fun h n hn => by obtain ⟨a,c,e,_⟩:=RdV.sliced (N.rd h n hn); exact ⟨a,_,c,e⟩
 obtain ⟨kd,⟨p,q,d⟩,nm,⟨p2,q2,d2⟩,asn,ov⟩:=o
 obtain ⟨pf,qf,df⟩:=fr
 dsimp only at hin hito hfr r2 r3 hnm hna hk
 subst hk
 clear hok
 have HI : Hid (HIn (p,q,d)):=hin
 have HIT : Hid (HIn (p2,q2,d2)):=hito
 have HIF : Hid (HIn (pf,qf,df)):=hfr
 have HS2 : Hid (∀ c,S2 c → ¬ P c):=hS2
 have HSS : Hid (∀ c,S2 c → c < w.heap.size):=hSS
 have OK : Hid (FOk f):=ok
 obtain ⟨th,hth⟩ : ∃ th,(f (p,q,d)).isSome = th:=⟨_,rfl⟩
 obtain ⟨dc,hdc0⟩ : ∃ r,dirC 1 d th = r:=⟨_,rfl⟩
 obtain ⟨tv,htv⟩ : ∃ r,takesB (pf,qf,df) (p2,q2,d2) (f (pf,qf,false)).isSome (f (pf,qf,true)).isSome s = r:=⟨_,rfl⟩
 have HDC : Hid (∀ W,Below w.heap.size w W → Calls Tryz.prog 101 #[.map (some b),.agg #[.i 1,.i p,.i q,.bool d,.slice ya nm.length yc,.i p2,.i q2,.bool d2,.slice za asn.length zc,.i ov]] W fun e w' => e = .returned (.i dc) ∧ Below W.heap.size W w'):=fun W hW => by
  have h9:=dirCode_any b s f X ⟨1,(p,q,d),nm,(p2,q2,d2),asn,ov⟩ ya za nm.length yc asn.length zc W (N.m.blk (hW.block b hbw)) hin (fun n hn => hXs _ n hn)
  dsimp only at h9
  rw [hth,hdc0] at h9
  exact h9
 have HTK : Hid (∀ W,Below w.heap.size w W → Calls Tryz.prog 100 #[.map (some b),.agg #[.i pf,.i qf,.bool df],.agg #[.i p2,.i q2,.bool d2]] W fun e w' => e = .returned (.bool tv) ∧ Below W.heap.size W w'):=fun W hW => by
  have h9:=takes_any b s f X (pf,qf,df) (p2,q2,d2) W (N.m.blk (hW.block b hbw)) hfr hXs
  rw [show takesB (pf,qf,df) (p2,q2,d2) (f (Hd.sh (pf,qf,df),Hd.ino (pf,qf,df),false)).isSome (f (Hd.sh (pf,qf,df),Hd.ino (pf,qf,df),true)).isSome s = tv from htv] at h9
  exact h9
 obtain ⟨res,hres⟩ : ∃ r,doF f s ⟨1,(p,q,d),nm,(p2,q2,d2),asn,ov⟩ (pf,qf,df) = r:=⟨_,rfl⟩
 have HRES : Hid ((if (1 : Int) = 4 ∧ tv = false then (f,s,rcI 11) else if dc ≠ 0 then (f,s,rcI dc) else doF2 f s ⟨1,(p,q,d),nm,(p2,q2,d2),asn,ov⟩ (pf,qf,df)) = res):=by
  show _ = _
  rw [← hres]
  unfold doF
  dsimp only [Hd.dir,Hd.sh,Hd.ino]
  rw [hth,hdc0,htv]
 rw [hres]
 have HNEW : Hid (tv = true → f (pf,qf,df) = none):=fun h => by
  rw [← htv] at h
  unfold takesB at h
  simp only [Bool.and_eq_true,Bool.not_eq_true',decide_eq_true_eq] at h
  cases df
  ·exact Option.isNone_iff_eq_none.1 (by simpa using h.2.2.2.1)
  ·exact Option.isNone_iff_eq_none.1 (by simpa using h.2.2.2.2.1)
 have HR2 : Hid (RdV w S2 (.slice ya nm.length yc) (.bytes nm)):=r2
 have HR3 : Hid (RdV w S2 (.slice za asn.length zc) (.bytes asn)):=r3
 have HDV : Hid (dirC 1 d th = dc):=hdc0
 have HTH : Hid ((f (p,q,d)).isSome = th):=hth
 clear N hXs r2 r3 hS2 hSS hin hito hfr ok hres htv hdc0 hth
 generalize hyn : nm.length = yn at *
 generalize hzn : asn.length = zn at *
 go_enter Tryz.func85,Tryz.ntmps85
 go_wp2_with fail
 go_at_call 101
 refine Calls.mono (HDC.out _ (by repeat (first | exact Below.refl _ _ | refine Below.al2 ?_ _))) ?_
 rintro e w1 ⟨rfl,hb1⟩
 have vO : VarA w1 w.heap.size 53 #[.i 1,.i p,.i q,.bool d,.slice ya yn yc,.i p2,.i q2,.bool d2,.slice za zn zc,.i ov]:=(((VarA.new w _ _).alloc _).alloc _).step hb1
 have vF : VarA w1 (w.heap.size + 1) 48 #[.i pf,.i qf,.bool df]:=((by simpa using VarA.new (w.alloc _) 48 _ : VarA ((w.alloc _).alloc (.cells #[.i pf,.i qf,.bool df] 48)) (w.heap.size + 1) _ _).alloc _).step hb1
 have vR : VarA w1 (w.heap.size + 2) 51 #[.i 0,.i 0,.i 0,.bool false,.i 0,.n0]:=(by simpa using VarA.new ((w.alloc _).alloc _) 51 _ : VarA (((w.alloc _).alloc _).alloc (.cells #[.i 0,.i 0,.i 0,.bool false,.i 0,.n0] 51)) (w.heap.size + 2) _ _).step hb1
 have HB1 : Hid (Below w.heap.size w w1):=(show Below w.heap.size w (((w.alloc _).alloc _).alloc _) by repeat (first | exact Below.refl _ _ | refine Below.al2 ?_ _)).trans (hb1.mono (by simp <;> omega))
 have HVR : Hid (VarA w1 (w.heap.size + 2) 51 _):=vR
 have HVO : Hid (VarA w1 w.heap.size 53 _):=vO
 have HVF : Hid (VarA w1 (w.heap.size + 1) 48 _):=vF
 have s1 : w.heap.size + 3 ≤ w1.heap.size:=by have:=vR.lt; omega
 obtain ⟨q0,q1,q2_,q3,q4,q5,q6,q7,q8,q9⟩:=vO.l10
 obtain ⟨g0,g1,g2⟩:=vF.l3
 clear hb1 vO vF vR
 by_cases hdc : dc = 0
 case neg =>
  have hres2 : res = (f,s,rcI dc):=by rw [← HRES.out]; simp [hdc]
  subst hres2
  have hc1 : (dc == 0) = false:=by simpa using hdc
  have hc2 : (dc != 0) = true:=by simpa using hdc
  go_wp2_with ((with_reducible refine gS 51 ?_); refine sF HVR.out rfl rfl (by kernel_rfl) rfl rfl ?_; intro w8 v8 t8)
  refine bpR Tryz.results85 v8 Tryz.underlying51 rfl rfl (by kernel_rfl) rfl ?_
  exact DSub.ret (R:=fun _ => False) (P':=P) HB1.out (OwV.nilR _ _ _ _ _) (HNM.out.step HB1.out) (fun c hc => hc.elim) (fun c hc => hc.elim) (fun c hc => .inl hc) (Turned.refl _ _) t8 (by omega) (by omega) HPS.out
 subst hdc
 obtain ⟨rfl,rfl⟩ : d = true ∧ th = true:=by
  have h9:=HDV.out
  cases d <;> cases th <;> simp [dirC] at h9 ⊢
 obtain ⟨n,hf⟩ : ∃ n,f (p,q,true) = some n:=Option.isSome_iff_exists.1 HTH.out
 obtain ⟨a,cap,hat,rx⟩:=atX_rd f X (p,q,true) P w (HN.out.rd _)
 rw [hf] at hat rx
 simp only [Option.getD_some] at hat rx
 have HA : Hid _:=hat
 have HM1 : Hid (MapH (ndX X) w1 b s f):=HN.out.m.blk (HB1.out.block b hbw)
 have hres2 : res = (f,s,⟨0,hd0,0,n.es⟩):=by rw [← HRES.out]; simp [doF2,hf]
 subst hres2
 have HCP : Hid (∀ W,Below w.heap.size w W → _):=fun W hW => implCopyEn_any (.slice a n.es.length cap) n.es P W (rx.step hW) (OK.out.sz _ n hf) (OK.out.len _ n hf).1
 clear HRES HDC HTK HTH HDV hat rx hf
 obtain ⟨⟨s0,s1_,s2⟩,⟨s3,s4,s5⟩,lk,vl,es⟩:=n
 dsimp only at HA HCP ⊢
 generalize hmm : es.length = m at *
 have kf4 : ∀ W : World,(Instr.field 77 (.agg #[.i s0,.i s1_,.bool s2,.i s3,.i s4,.bool s5,.i lk,.i vl,.slice a m cap]) 4).run Tryz.prog W = .ok (.slice a m cap) W:=fun W => by kernel_rfl
 have kf3 : ∀ W : World,(Instr.field 77 (.agg #[.i s0,.i s1_,.bool s2,.i s3,.i s4,.bool s5,.i lk,.i vl,.slice a m cap]) 3).run Tryz.prog W = .ok (.i vl) W:=fun W => by kernel_rfl
 go_wp2_with (first | (at_lookup; refine wpList_lookX _ rfl (.tmp 39) (.tmp 41) rfl b s f X rfl HM1.out (p,q,true) HI.out rfl ?_; rw [HA.out]) | (go_at_call 99; refine Calls.mono (HCP.out _ HB1.out) ?_; rintro e w9 ⟨a9,n9,c9,rfl,o9,b9⟩; have s9:=b9.size; have kR:=HVR.out.step b9; have HR9 : Hid (VarA w9 (w.heap.size + 2) 51 _):=kR; clear kR) | ((with_reducible refine gS 51 ?_); refine sF HR9.out rfl rfl (by kernel_rfl) rfl rfl ?_; intro w8 v8 t8))
 refine bpR Tryz.results85 v8 Tryz.underlying51 rfl rfl (by kernel_rfl) rfl ?_
 exact DSub.ret (R:=fun c => w1.heap.size ≤ c ∧ c < w9.heap.size) (P':=P) HB1.out o9 ((HNM.out.step HB1.out).step b9) (fun c hc hp => by have:=HPS.out c hp; omega) (fun c hc => hc) (fun c hc => .inl hc) (Turned.ofBelow b9) t8 (by omega) (by omega) HPS.out
set_option maxHeartbeats 4000000 in
theorem implDo2 (b s : Nat) (f : Hd → Option Nd) (o : OpD) (fr : Hd) (y z : Value) (S2 P : Nat → Prop) (w : World) (N : NM w b s f P) (ok : FOk f) (hin : HIn o.dir) (hito : HIn o.to) (hfr : HIn fr) (r2 : RdV w S2 y (.bytes o.nm)) (r3 : RdV w S2 z (.bytes o.asn)) (hS2 : ∀ c,S2 c → ¬ P c) (hSS : ∀ c,S2 c → c < w.heap.size) (hnm : o.nm.length ≤ 2097152) (hna : o.asn.length ≤ 2097152) (hs : s ≤ 2097000) (hok : OOk o = true) (hk : o.kind = 2) :
  Calls Tryz.prog 85 #[.map (some b),opV o y z,fr.v] w (DSub w b P (doF f s o fr)):=by
 obtain ⟨ya,yc,rfl⟩:=r2.sliceB
 obtain ⟨za,zc,rfl⟩:=r3.sliceB
 have HNM : Hid (NM w b s f P):=N
 have HPS : Hid (∀ c,P c → c < w.heap.size):=N.sm
 have hbw:=N.lt
 obtain ⟨X,Q,N⟩:=N
 have HN : Hid (NX w b s f X Q P):=N
 have hXs : ∀ h n,f h = some n → ∃ a m c,X n.h = .slice a m c:=fun h n hn => by obtain ⟨a,c,e,_⟩:=RdV.sliced (N.rd h n hn); exact ⟨a,_,c,e⟩
 obtain ⟨kd,⟨p,q,d⟩,nm,⟨p2,q2,d2⟩,asn,ov⟩:=o
 obtain ⟨pf,qf,df⟩:=fr
 dsimp only at hin hito hfr r2 r3 hnm hna hk
 subst hk
 clear hok
 have HI : Hid (HIn (p,q,d)):=hin
 have HIT : Hid (HIn (p2,q2,d2)):=hito
 have HIF : Hid (HIn (pf,qf,df)):=hfr
 have HS2 : Hid (∀ c,S2 c → ¬ P c):=hS2
 have HSS : Hid (∀ c,S2 c → c < w.heap.size):=hSS
 have OK : Hid (FOk f):=ok
 obtain ⟨th,hth⟩ : ∃ th,(f (p,q,d)).isSome = th:=⟨_,rfl⟩
 obtain ⟨dc,hdc0⟩ : ∃ r,dirC 2 d th = r:=⟨_,rfl⟩
 obtain ⟨tv,htv⟩ : ∃ r,takesB (pf,qf,df) (p2,q2,d2) (f (pf,qf,false)).isSome (f (pf,qf,true)).isSome s = r:=⟨_,rfl⟩
 have HDC : Hid (∀ W,Below w.heap.size w W → Calls Tryz.prog 101 #[.map (some b),.agg #[.i 2,.i p,.i q,.bool d,.slice ya nm.length yc,.i p2,.i q2,.bool d2,.slice za asn.length zc,.i ov]] W fun e w' => e = .returned (.i dc) ∧ Below W.heap.size W w'):=fun W hW => by
  have h9:=dirCode_any b s f X ⟨2,(p,q,d),nm,(p2,q2,d2),asn,ov⟩ ya za nm.length yc asn.length zc W (N.m.blk (hW.block b hbw)) hin (fun n hn => hXs _ n hn)
  dsimp only at h9
  rw [hth,hdc0] at h9
  exact h9
 have HTK : Hid (∀ W,Below w.heap.size w W → Calls Tryz.prog 100 #[.map (some b),.agg #[.i pf,.i qf,.bool df],.agg #[.i p2,.i q2,.bool d2]] W fun e w' => e = .returned (.bool tv) ∧ Below W.heap.size W w'):=fun W hW => by
  have h9:=takes_any b s f X (pf,qf,df) (p2,q2,d2) W (N.m.blk (hW.block b hbw)) hfr hXs
  rw [show takesB (pf,qf,df) (p2,q2,d2) (f (Hd.sh (pf,qf,df),Hd.ino (pf,qf,df),false)).isSome (f (Hd.sh (pf,qf,df),Hd.ino (pf,qf,df),true)).isSome s = tv from htv] at h9
  exact h9
 obtain ⟨res,hres⟩ : ∃ r,doF f s ⟨2,(p,q,d),nm,(p2,q2,d2),asn,ov⟩ (pf,qf,df) = r:=⟨_,rfl⟩
 have HRES : Hid ((if (2 : Int) = 4 ∧ tv = false then (f,s,rcI 11) else if dc ≠ 0 then (f,s,rcI dc) else doF2 f s ⟨2,(p,q,d),nm,(p2,q2,d2),asn,ov⟩ (pf,qf,df)) = res):=by
  show _ = _
  rw [← hres]
  unfold doF
  dsimp only [Hd.dir,Hd.sh,Hd.ino]
  rw [hth,hdc0,htv]
 rw [hres]
 have HNEW : Hid (tv = true → f (pf,qf,df) = none):=fun h => by
  rw [← htv] at h
  unfold takesB at h
  simp only [Bool.and_eq_true,Bool.not_eq_true',decide_eq_true_eq] at h
  cases df
  ·exact Option.isNone_iff_eq_none.1 (by simpa using h.2.2.2.1)
  ·exact Option.isNone_iff_eq_none.1 (by simpa using h.2.2.2.2.1)
 have HR2 : Hid (RdV w S2 (.slice ya nm.length yc) (.bytes nm)):=r2
 have HR3 : Hid (RdV w S2 (.slice za asn.length zc) (.bytes asn)):=r3
 have HDV : Hid (dirC 2 d th = dc):=hdc0
 have HTH : Hid ((f (p,q,d)).isSome = th):=hth
 clear N hXs r2 r3 hS2 hSS hin hito hfr ok hres htv hdc0 hth
 generalize hyn : nm.length = yn at *
 generalize hzn : asn.length = zn at *
 go_enter Tryz.func85,Tryz.ntmps85
 go_wp2_with fail
 go_at_call 101
 refine Calls.mono (HDC.out _ (by repeat (first | exact Below.refl _ _ | refine Below.al2 ?_ _))) ?_
 rintro e w1 ⟨rfl,hb1⟩
 have vO : VarA w1 w.heap.size 53 #[.i 2,.i p,.i q,.bool d,.slice ya yn yc,.i p2,.i q2,.bool d2,.slice za zn zc,.i ov]:=(((VarA.new w _ _).alloc _).alloc _).step hb1
 have vF : VarA w1 (w.heap.size + 1) 48 #[.i pf,.i qf,.bool df]:=((by simpa using VarA.new (w.alloc _) 48 _ : VarA ((w.alloc _).alloc (.cells #[.i pf,.i qf,.bool df] 48)) (w.heap.size + 1) _ _).alloc _).step hb1
 have vR : VarA w1 (w.heap.size + 2) 51 #[.i 0,.i 0,.i 0,.bool false,.i 0,.n0]:=(by simpa using VarA.new ((w.alloc _).alloc _) 51 _ : VarA (((w.alloc _).alloc _).alloc (.cells #[.i 0,.i 0,.i 0,.bool false,.i 0,.n0] 51)) (w.heap.size + 2) _ _).step hb1
 have HB1 : Hid (Below w.heap.size w w1):=(show Below w.heap.size w (((w.alloc _).alloc _).alloc _) by repeat (first | exact Below.refl _ _ | refine Below.al2 ?_ _)).trans (hb1.mono (by simp <;> omega))
 have HVR : Hid (VarA w1 (w.heap.size + 2) 51 _):=vR
 have HVO : Hid (VarA w1 w.heap.size 53 _):=vO
 have HVF : Hid (VarA w1 (w.heap.size + 1) 48 _):=vF
 have s1 : w.heap.size + 3 ≤ w1.heap.size:=by have:=vR.lt; omega
 obtain ⟨q0,q1,q2_,q3,q4,q5,q6,q7,q8,q9⟩:=vO.l10
 obtain ⟨g0,g1,g2⟩:=vF.l3
 clear hb1 vO vF vR
 by_cases hdc : dc = 0
 case neg =>
  have hres2 : res = (f,s,rcI dc):=by rw [← HRES.out]; simp [hdc]
  subst hres2
  have hc1 : (dc == 0) = false:=by simpa using hdc
  have hc2 : (dc != 0) = true:=by simpa using hdc
  go_wp2_with ((with_reducible refine gS 51 ?_); refine sF HVR.out rfl rfl (by kernel_rfl) rfl rfl ?_; intro w8 v8 t8)
  refine bpR Tryz.results85 v8 Tryz.underlying51 rfl rfl (by kernel_rfl) rfl ?_
  exact DSub.ret (R:=fun _ => False) (P':=P) HB1.out (OwV.nilR _ _ _ _ _) (HNM.out.step HB1.out) (fun c hc => hc.elim) (fun c hc => hc.elim) (fun c hc => .inl hc) (Turned.refl _ _) t8 (by omega) (by omega) HPS.out
 subst hdc
 obtain ⟨rfl,rfl⟩ : d = false ∧ th = true:=by
  have h9:=HDV.out
  cases d <;> cases th <;> simp [dirC] at h9 ⊢
 obtain ⟨n,hf⟩ : ∃ n,f (p,q,false) = some n:=Option.isSome_iff_exists.1 HTH.out
 obtain ⟨a,cap,hat,rx⟩:=atX_rd f X (p,q,false) P w (HN.out.rd _)
 rw [hf] at hat rx
 simp only [Option.getD_some] at hat rx
 have HA : Hid _:=hat
 have HM1 : Hid (MapH (ndX X) w1 b s f):=HN.out.m.blk (HB1.out.block b hbw)
 have hres2 : res = (f,s,⟨0,hd0,n.val,[]⟩):=by rw [← HRES.out]; simp [doF2,hf]
 subst hres2
 have HCP : Hid (∀ W,Below w.heap.size w W → _):=fun W hW => implCopyEn_any (.slice a n.es.length cap) n.es P W (rx.step hW) (OK.out.sz _ n hf) (OK.out.len _ n hf).1
 clear HRES HDC HTK HTH HDV hat rx hf
 obtain ⟨⟨s0,s1_,s2⟩,⟨s3,s4,s5⟩,lk,vl,es⟩:=n
 dsimp only at HA HCP ⊢
 generalize hmm : es.length = m at *
 have kf4 : ∀ W : World,(Instr.field 77 (.agg #[.i s0,.i s1_,.bool s2,.i s3,.i s4,.bool s5,.i lk,.i vl,.slice a m cap]) 4).run Tryz.prog W = .ok (.slice a m cap) W:=fun W => by kernel_rfl
 have kf3 : ∀ W : World,(Instr.field 77 (.agg #[.i s0,.i s1_,.bool s2,.i s3,.i s4,.bool s5,.i lk,.i vl,.slice a m cap]) 3).run Tryz.prog W = .ok (.i vl) W:=fun W => by kernel_rfl
 go_wp2_with (first | (at_lookup; refine wpList_lookX _ rfl (.tmp 48) (.tmp 50) rfl b s f X rfl HM1.out (p,q,false) HI.out rfl ?_; rw [HA.out]) | ((with_reducible refine gS 51 ?_); refine sF HVR.out rfl rfl (by kernel_rfl) rfl rfl ?_; intro w8 v8 t8))
 refine bpR Tryz.results85 v8 Tryz.underlying51 rfl rfl (by kernel_rfl) rfl ?_
 exact DSub.ret (R:=fun _ => False) (P':=P) HB1.out (OwV.nilR _ _ _ _ _) (HNM.out.step HB1.out) (fun c hc => hc.elim) (fun c hc => hc.elim) (fun c hc => .inl hc) (Turned.refl _ _) t8 (by omega) (by omega) HPS.out
set_option maxHeartbeats 4000000 in
theorem implDo3 (b s : Nat) (f : Hd → Option Nd) (o : OpD) (fr : Hd) (y z : Value) (S2 P : Nat → Prop) (w : World) (N : NM w b s f P) (ok : FOk f) (hin : HIn o.dir) (hito : HIn o.to) (hfr : HIn fr) (r2 : RdV w S2 y (.bytes o.nm)) (r3 : RdV w S2 z (.bytes o.asn)) (hS2 : ∀ c,S2 c → ¬ P c) (hSS : ∀ c,S2 c → c < w.heap.size) (hnm : o.nm.length ≤ 2097152) (hna : o.asn.length ≤ 2097152) (hs : s ≤ 2097000) (hok : OOk o = true) (hk : o.kind = 3) :
  Calls Tryz.prog 85 #[.map (some b),opV o y z,fr.v] w (DSub w b P (doF f s o fr)):=by
 obtain ⟨ya,yc,rfl⟩:=r2.sliceB
 obtain ⟨za,zc,rfl⟩:=r3.sliceB
 have HNM : Hid (NM w b s f P):=N
 have HPS : Hid (∀ c,P c → c < w.heap.size):=N.sm
 have hbw:=N.lt
 obtain ⟨X,Q,N⟩:=N
 have HN : Hid (NX w b s f X Q P):=N
 have hXs : ∀ h n,f h = some n → ∃ a m c,X n.h = .slice a m c:=fun h n hn => by obtain ⟨a,c,e,_⟩:=RdV.sliced (N.rd h n hn); exact ⟨a,_,c,e⟩
 obtain ⟨kd,⟨p,q,d⟩,nm,⟨p2,q2,d2⟩,asn,ov⟩:=o
 obtain ⟨pf,qf,df⟩:=fr
 dsimp only at hin hito hfr r2 r3 hnm hna hk
 subst hk
 clear hok
 have HI : Hid (HIn (p,q,d)):=hin
 have HIT : Hid (HIn (p2,q2,d2)):=hito
 have HIF : Hid (HIn (pf,qf,df)):=hfr
 have HS2 : Hid (∀ c,S2 c → ¬ P c):=hS2
 have HSS : Hid (∀ c,S2 c → c < w.heap.size):=hSS
 have OK : Hid (FOk f):=ok
 obtain ⟨th,hth⟩ : ∃ th,(f (p,q,d)).isSome = th:=⟨_,rfl⟩
 obtain ⟨dc,hdc0⟩ : ∃ r,dirC 3 d th = r:=⟨_,rfl⟩
 obtain ⟨tv,htv⟩ : ∃ r,takesB (pf,qf,df) (p2,q2,d2) (f (pf,qf,false)).isSome (f (pf,qf,true)).isSome s = r:=⟨_,rfl⟩
 have HDC : Hid (∀ W,Below w.heap.size w W → Calls Tryz.prog 101 #[.map (some b),.agg #[.i 3,.i p,.i q,.bool d,.slice ya nm.length yc,.i p2,.i q2,.bool d2,.slice za asn.length zc,.i ov]] W fun e w' => e = .returned (.i dc) ∧ Below W.heap.size W w'):=fun W hW => by
  have h9:=dirCode_any b s f X ⟨3,(p,q,d),nm,(p2,q2,d2),asn,ov⟩ ya za nm.length yc asn.length zc W (N.m.blk (hW.block b hbw)) hin (fun n hn => hXs _ n hn)
  dsimp only at h9
  rw [hth,hdc0] at h9
  exact h9
 have HTK : Hid (∀ W,Below w.heap.size w W → Calls Tryz.prog 100 #[.map (some b),.agg #[.i pf,.i qf,.bool df],.agg #[.i p2,.i q2,.bool d2]] W fun e w' => e = .returned (.bool tv) ∧ Below W.heap.size W w'):=fun W hW => by
  have h9:=takes_any b s f X (pf,qf,df) (p2,q2,d2) W (N.m.blk (hW.block b hbw)) hfr hXs
  rw [show takesB (pf,qf,df) (p2,q2,d2) (f (Hd.sh (pf,qf,df),Hd.ino (pf,qf,df),false)).isSome (f (Hd.sh (pf,qf,df),Hd.ino (pf,qf,df),true)).isSome s = tv from htv] at h9
  exact h9
 obtain ⟨res,hres⟩ : ∃ r,doF f s ⟨3,(p,q,d),nm,(p2,q2,d2),asn,ov⟩ (pf,qf,df) = r:=⟨_,rfl⟩
 have HRES : Hid ((if (3 : Int) = 4 ∧ tv = false then (f,s,rcI 11) else if dc ≠ 0 then (f,s,rcI dc) else doF2 f s ⟨3,(p,q,d),nm,(p2,q2,d2),asn,ov⟩ (pf,qf,df)) = res):=by
  show _ = _
  rw [← hres]
  unfold doF
  dsimp only [Hd.dir,Hd.sh,Hd.ino]
  rw [hth,hdc0,htv]
 rw [hres]
 have HNEW : Hid (tv = true → f (pf,qf,df) = none):=fun h => by
  rw [← htv] at h
  unfold takesB at h
  simp only [Bool.and_eq_true,Bool.not_eq_true',decide_eq_true_eq] at h
  cases df
  ·exact Option.isNone_iff_eq_none.1 (by simpa using h.2.2.2.1)
  ·exact Option.isNone_iff_eq_none.1 (by simpa using h.2.2.2.2.1)
 have HR2 : Hid (RdV w S2 (.slice ya nm.length yc) (.bytes nm)):=r2
 have HR3 : Hid (RdV w S2 (.slice za asn.length zc) (.bytes asn)):=r3
 have HDV : Hid (dirC 3 d th = dc):=hdc0
 have HTH : Hid ((f (p,q,d)).isSome = th):=hth
 clear N hXs r2 r3 hS2 hSS hin hito hfr ok hres htv hdc0 hth
 generalize hyn : nm.length = yn at *
 generalize hzn : asn.length = zn at *
 go_enter Tryz.func85,Tryz.ntmps85
 go_wp2_with fail
 go_at_call 101
 refine Calls.mono (HDC.out _ (by repeat (first | exact Below.refl _ _ | refine Below.al2 ?_ _))) ?_
 rintro e w1 ⟨rfl,hb1⟩
 have vO : VarA w1 w.heap.size 53 #[.i 3,.i p,.i q,.bool d,.slice ya yn yc,.i p2,.i q2,.bool d2,.slice za zn zc,.i ov]:=(((VarA.new w _ _).alloc _).alloc _).step hb1
 have vF : VarA w1 (w.heap.size + 1) 48 #[.i pf,.i qf,.bool df]:=((by simpa using VarA.new (w.alloc _) 48 _ : VarA ((w.alloc _).alloc (.cells #[.i pf,.i qf,.bool df] 48)) (w.heap.size + 1) _ _).alloc _).step hb1
 have vR : VarA w1 (w.heap.size + 2) 51 #[.i 0,.i 0,.i 0,.bool false,.i 0,.n0]:=(by simpa using VarA.new ((w.alloc _).alloc _) 51 _ : VarA (((w.alloc _).alloc _).alloc (.cells #[.i 0,.i 0,.i 0,.bool false,.i 0,.n0] 51)) (w.heap.size + 2) _ _).step hb1
 have HB1 : Hid (Below w.heap.size w w1):=(show Below w.heap.size w (((w.alloc _).alloc _).alloc _) by repeat (first | exact Below.refl _ _ | refine Below.al2 ?_ _)).trans (hb1.mono (by simp <;> omega))
 have HVR : Hid (VarA w1 (w.heap.size + 2) 51 _):=vR
 have HVO : Hid (VarA w1 w.heap.size 53 _):=vO
 have HVF : Hid (VarA w1 (w.heap.size + 1) 48 _):=vF
 have s1 : w.heap.size + 3 ≤ w1.heap.size:=by have:=vR.lt; omega
 obtain ⟨q0,q1,q2_,q3,q4,q5,q6,q7,q8,q9⟩:=vO.l10
 obtain ⟨g0,g1,g2⟩:=vF.l3
 clear hb1 vO vF vR
 by_cases hdc : dc = 0
 case neg =>
  have hres2 : res = (f,s,rcI dc):=by rw [← HRES.out]; simp [hdc]
  subst hres2
  have hc1 : (dc == 0) = false:=by simpa using hdc
  have hc2 : (dc != 0) = true:=by simpa using hdc
  go_wp2_with ((with_reducible refine gS 51 ?_); refine sF HVR.out rfl rfl (by kernel_rfl) rfl rfl ?_; intro w8 v8 t8)
  refine bpR Tryz.results85 v8 Tryz.underlying51 rfl rfl (by kernel_rfl) rfl ?_
  exact DSub.ret (R:=fun _ => False) (P':=P) HB1.out (OwV.nilR _ _ _ _ _) (HNM.out.step HB1.out) (fun c hc => hc.elim) (fun c hc => hc.elim) (fun c hc => .inl hc) (Turned.refl _ _) t8 (by omega) (by omega) HPS.out
 subst hdc
 obtain ⟨rfl,rfl⟩ : d = false ∧ th = true:=by
  have h9:=HDV.out
  cases d <;> cases th <;> simp [dirC] at h9 ⊢
 obtain ⟨n,hf⟩ : ∃ n,f (p,q,false) = some n:=Option.isSome_iff_exists.1 HTH.out
 have hres2 : res = writeF f s ⟨3,(p,q,false),nm,(p2,q2,d2),asn,ov⟩:=by rw [← HRES.out]; simp [doF2]
 subst hres2
 have HSB : Hid (∀ W,Below w.heap.size w W → _):=fun W hW => writeD b s f ⟨3,(p,q,false),nm,(p2,q2,d2),asn,ov⟩ n ya za yn yc zn zc P W (HNM.out.step hW) HI.out hf hs
 clear HRES HDC HTK HTH HDV
 go_wp2_with (first | (go_at_call 103; refine Calls.mono (HSB.out _ HB1.out) ?_; rintro e w9 ⟨a9,n9,c9,R9,P9,rfl,o9,N9,d9,r9,p9,t9⟩; have s9:=t9.size; have kR:=HVR.out.turn t9 (fun h => by have:=HPS.out _ h; omega); have HR9 : Hid (VarA w9 (w.heap.size + 2) 51 _):=kR; clear kR) | ((with_reducible refine gS 51 ?_); refine sF HR9.out rfl rfl (by kernel_rfl) rfl rfl ?_; intro w8 v8 t8))
 refine bpR Tryz.results85 v8 Tryz.underlying51 rfl rfl (by kernel_rfl) rfl ?_
 exact DSub.ret HB1.out o9 N9 d9 r9 p9 t9 t8 (by omega) (by omega) HPS.out
end
section
open Go.Maps
set_option maxHeartbeats 4000000 in
theorem implDo4 (b s : Nat) (f : Hd → Option Nd) (o : OpD) (fr : Hd) (y z : Value) (S2 P : Nat → Prop) (w : World) (N : NM w b s f P) (ok : FOk f) (hin : HIn o.dir) (hito : HIn o.to) (hfr : HIn fr) (r2 : RdV w S2 y (.bytes o.nm)) (r3 : RdV w S2 z (.bytes o.asn)) (hS2 : ∀ c,S2 c → ¬ P c) (hSS : ∀ c,S2 c → c < w.heap.size) (hnm : o.nm.length ≤ 2097152) (hna : o.asn.length ≤ 2097152) (hs : s ≤ 2097000) (hok : OOk o = true) (hk : o.kind = 4) :
  Calls Tryz.prog 85 #[.map (some b),opV o y z,fr.v] w (DSub w b P (doF f s o fr)):=by
 obtain ⟨ya,yc,rfl⟩:=r2.sliceB
 obtain ⟨za,zc,rfl⟩:=r3.sliceB
 have HNM : Hid (NM w b s f P):=N
 have HPS : Hid (∀ c,P c → c < w.heap.size):=N.sm
 have hbw:=N.lt
 obtain ⟨X,Q,N⟩:=N
 have HN : Hid (NX w b s f X Q P):=N
 have hXs : ∀ h n,f h = some n → ∃ a m c,X n.h = .slice a m c:=fun h n hn => by obtain ⟨a,c,e,_⟩:=RdV.sliced (N.rd h n hn); exact ⟨a,_,c,e⟩
 obtain ⟨kd,⟨p,q,d⟩,nm,⟨p2,q2,d2⟩,asn,ov⟩:=o
 obtain ⟨pf,qf,df⟩:=fr
 dsimp only at hin hito hfr r2 r3 hnm hna hk
 subst hk
 have HQ : Hid (isNm nm = true):=by simp [OOk,nmB,nmP] at hok; exact hok.2.1
 clear hok
 have HI : Hid (HIn (p,q,d)):=hin
 have HIT : Hid (HIn (p2,q2,d2)):=hito
 have HIF : Hid (HIn (pf,qf,df)):=hfr
 have HS2 : Hid (∀ c,S2 c → ¬ P c):=hS2
 have HSS : Hid (∀ c,S2 c → c < w.heap.size):=hSS
 have OK : Hid (FOk f):=ok
 obtain ⟨th,hth⟩ : ∃ th,(f (p,q,d)).isSome = th:=⟨_,rfl⟩
 obtain ⟨dc,hdc0⟩ : ∃ r,dirC 4 d th = r:=⟨_,rfl⟩
 obtain ⟨tv,htv⟩ : ∃ r,takesB (pf,qf,df) (p2,q2,d2) (f (pf,qf,false)).isSome (f (pf,qf,true)).isSome s = r:=⟨_,rfl⟩
 have HDC : Hid (∀ W,Below w.heap.size w W → Calls Tryz.prog 101 #[.map (some b),.agg #[.i 4,.i p,.i q,.bool d,.slice ya nm.length yc,.i p2,.i q2,.bool d2,.slice za asn.length zc,.i ov]] W fun e w' => e = .returned (.i dc) ∧ Below W.heap.size W w'):=fun W hW => by
  have h9:=dirCode_any b s f X ⟨4,(p,q,d),nm,(p2,q2,d2),asn,ov⟩ ya za nm.length yc asn.length zc W (N.m.blk (hW.block b hbw)) hin (fun n hn => hXs _ n hn)
  dsimp only at h9
  rw [hth,hdc0] at h9
  exact h9
 have HTK : Hid (∀ W,Below w.heap.size w W → Calls Tryz.prog 100 #[.map (some b),.agg #[.i pf,.i qf,.bool df],.agg #[.i p2,.i q2,.bool d2]] W fun e w' => e = .returned (.bool tv) ∧ Below W.heap.size W w'):=fun W hW => by
  have h9:=takes_any b s f X (pf,qf,df) (p2,q2,d2) W (N.m.blk (hW.block b hbw)) hfr hXs
  rw [show takesB (pf,qf,df) (p2,q2,d2) (f (Hd.sh (pf,qf,df),Hd.ino (pf,qf,df),false)).isSome (f (Hd.sh (pf,qf,df),Hd.ino (pf,qf,df),true)).isSome s = tv from htv] at h9
  exact h9
 obtain ⟨res,hres⟩ : ∃ r,doF f s ⟨4,(p,q,d),nm,(p2,q2,d2),asn,ov⟩ (pf,qf,df) = r:=⟨_,rfl⟩
 have HRES : Hid ((if (4 : Int) = 4 ∧ tv = false then (f,s,rcI 11) else if dc ≠ 0 then (f,s,rcI dc) else doF2 f s ⟨4,(p,q,d),nm,(p2,q2,d2),asn,ov⟩ (pf,qf,df)) = res):=by
  show _ = _
  rw [← hres]
  unfold doF
  dsimp only [Hd.dir,Hd.sh,Hd.ino]
  rw [hth,hdc0,htv]
 rw [hres]
 have HNEW : Hid (tv = true → f (pf,qf,df) = none):=fun h => by
  rw [← htv] at h
  unfold takesB at h
  simp only [Bool.and_eq_true,Bool.not_eq_true',decide_eq_true_eq] at h
  cases df
  ·exact Option.isNone_iff_eq_none.1 (by simpa using h.2.2.2.1)
  ·exact Option.isNone_iff_eq_none.1 (by simpa using h.2.2.2.2.1)
 have HR2 : Hid (RdV w S2 (.slice ya nm.length yc) (.bytes nm)):=r2
 have HR3 : Hid (RdV w S2 (.slice za asn.length zc) (.bytes asn)):=r3
 have HDV : Hid (dirC 4 d th = dc):=hdc0
 have HTH : Hid ((f (p,q,d)).isSome = th):=hth
 clear N hXs r2 r3 hS2 hSS hin hito hfr ok hres htv hdc0 hth
 generalize hyn : nm.length = yn at *
 generalize hzn : asn.length = zn at *
 go_enter Tryz.func85,Tryz.ntmps85
 go_wp2_with fail
 go_at_call 100
 refine Calls.mono (HTK.out _ (by repeat (first | exact Below.refl _ _ | refine Below.al2 ?_ _))) ?_
 rintro e wt ⟨rfl,hbt⟩
 have vO : VarA wt w.heap.size 53 #[.i 4,.i p,.i q,.bool d,.slice ya yn yc,.i p2,.i q2,.bool d2,.slice za zn zc,.i ov]:=(((VarA.new w _ _).alloc _).alloc _).step hbt
 have vF : VarA wt (w.heap.size + 1) 48 #[.i pf,.i qf,.bool df]:=((by simpa using VarA.new (w.alloc _) 48 _ : VarA ((w.alloc _).alloc (.cells #[.i pf,.i qf,.bool df] 48)) (w.heap.size + 1) _ _).alloc _).step hbt
 have vR : VarA wt (w.heap.size + 2) 51 #[.i 0,.i 0,.i 0,.bool false,.i 0,.n0]:=(by simpa using VarA.new ((w.alloc _).alloc _) 51 _ : VarA (((w.alloc _).alloc _).alloc (.cells #[.i 0,.i 0,.i 0,.bool false,.i 0,.n0] 51)) (w.heap.size + 2) _ _).step hbt
 have HBt : Hid (Below w.heap.size w wt):=(show Below w.heap.size w (((w.alloc _).alloc _).alloc _) by repeat (first | exact Below.refl _ _ | refine Below.al2 ?_ _)).trans (hbt.mono (by simp <;> omega))
 have HVR : Hid (VarA wt (w.heap.size + 2) 51 _):=vR
 have HVO : Hid (VarA wt w.heap.size 53 _):=vO
 have HVF : Hid (VarA wt (w.heap.size + 1) 48 _):=vF
 have s1 : w.heap.size + 3 ≤ wt.heap.size:=by have:=vR.lt; omega
 obtain ⟨q0,q1,q2_,q3,q4,q5,q6,q7,q8,q9⟩:=vO.l10
 clear hbt vO vF vR
 cases tv
 case false =>
  have hres2 : res = (f,s,rcI 11):=by rw [← HRES.out]; simp
  subst hres2
  go_wp2_with ((with_reducible refine gS 51 ?_); refine sF HVR.out rfl rfl (by kernel_rfl) rfl rfl ?_; intro w8 v8 t8)
  refine bpR Tryz.results85 v8 Tryz.underlying51 rfl rfl (by kernel_rfl) rfl ?_
  exact DSub.ret (R:=fun _ => False) (P':=P) HBt.out (OwV.nilR _ _ _ _ _) (HNM.out.step HBt.out) (fun c hc => hc.elim) (fun c hc => hc.elim) (fun c hc => .inl hc) (Turned.refl _ _) t8 (by omega) (by omega) HPS.out
 go_wp2_with fail
 go_at_call 101
 refine Calls.mono (HDC.out _ HBt.out) ?_
 rintro e w1 ⟨rfl,hb1⟩
 have vO:=HVO.out.step hb1
 have vF:=HVF.out.step hb1
 have vR:=HVR.out.step hb1
 have HB1 : Hid (Below w.heap.size w w1):=HBt.out.trans (hb1.mono HBt.out.size)
 clear HVO HVF HVR q0 q1 q2_ q3 q4 q5 q6 q7 q8 q9 s1
 have HVR : Hid (VarA w1 (w.heap.size + 2) 51 _):=vR
 have HVO : Hid (VarA w1 w.heap.size 53 _):=vO
 have HVF : Hid (VarA w1 (w.heap.size + 1) 48 _):=vF
 have s1 : w.heap.size + 3 ≤ w1.heap.size:=by have:=vR.lt; omega
 obtain ⟨q0,q1,q2_,q3,q4,q5,q6,q7,q8,q9⟩:=vO.l10
 obtain ⟨g0,g1,g2⟩:=vF.l3
 clear hb1 vO vF vR
 by_cases hdc : dc = 0
 case neg =>
  have hres2 : res = (f,s,rcI dc):=by rw [← HRES.out]; simp [hdc]
  subst hres2
  have hc1 : (dc == 0) = false:=by simpa using hdc
  have hc2 : (dc != 0) = true:=by simpa using hdc
  go_wp2_with ((with_reducible refine gS 51 ?_); refine sF HVR.out rfl rfl (by kernel_rfl) rfl rfl ?_; intro w8 v8 t8)
  refine bpR Tryz.results85 v8 Tryz.underlying51 rfl rfl (by kernel_rfl) rfl ?_
  exact DSub.ret (R:=fun _ => False) (P':=P) HB1.out (OwV.nilR _ _ _ _ _) (HNM.out.step HB1.out) (fun c hc => hc.elim) (fun c hc => hc.elim) (fun c hc => .inl hc) (Turned.refl _ _) t8 (by omega) (by omega) HPS.out
 subst hdc
 obtain ⟨rfl,rfl⟩ : d = true ∧ th = true:=by
  have h9:=HDV.out
  cases d <;> cases th <;> simp [dirC] at h9 ⊢
 obtain ⟨n,hf⟩ : ∃ n,f (p,q,true) = some n:=Option.isSome_iff_exists.1 HTH.out
 have hres2 : res = makeF f s ⟨4,(p,q,true),nm,(p2,q2,d2),asn,ov⟩ (pf,qf,df):=by rw [← HRES.out]; simp [doF2]
 subst hres2
 have HSB : Hid (∀ W,Below w.heap.size w W → _):=fun W hW => makeD b s f ⟨4,(p,q,true),nm,(p2,q2,d2),asn,ov⟩ HQ.out (pf,qf,df) n (.slice ya yn yc) za zn zc S2 P W (HNM.out.step hW) OK.out HI.out HIF.out hf (HNEW.out (by simp)) (HR2.out.step hW) HS2.out (by dsimp only; omega) hs
 clear HRES HDC HTK HTH HDV
 go_wp2_with (first | (go_at_call 104; refine Calls.mono (HSB.out _ HB1.out) ?_; rintro e w9 ⟨a9,n9,c9,R9,P9,rfl,o9,N9,d9,r9,p9,t9⟩; have s9:=t9.size; have kR:=HVR.out.turn t9 (fun h => by have:=HPS.out _ h; omega); have HR9 : Hid (VarA w9 (w.heap.size + 2) 51 _):=kR; clear kR) | ((with_reducible refine gS 51 ?_); refine sF HR9.out rfl rfl (by kernel_rfl) rfl rfl ?_; intro w8 v8 t8))
 refine bpR Tryz.results85 v8 Tryz.underlying51 rfl rfl (by kernel_rfl) rfl ?_
 exact DSub.ret HB1.out o9 N9 d9 r9 p9 t9 t8 (by omega) (by omega) HPS.out
set_option maxHeartbeats 4000000 in
theorem implDo5 (b s : Nat) (f : Hd → Option Nd) (o : OpD) (fr : Hd) (y z : Value) (S2 P : Nat → Prop) (w : World) (N : NM w b s f P) (ok : FOk f) (hin : HIn o.dir) (hito : HIn o.to) (hfr : HIn fr) (r2 : RdV w S2 y (.bytes o.nm)) (r3 : RdV w S2 z (.bytes o.asn)) (hS2 : ∀ c,S2 c → ¬ P c) (hSS : ∀ c,S2 c → c < w.heap.size) (hnm : o.nm.length ≤ 2097152) (hna : o.asn.length ≤ 2097152) (hs : s ≤ 2097000) (hok : OOk o = true) (hk : o.kind = 5) :
  Calls Tryz.prog 85 #[.map (some b),opV o y z,fr.v] w (DSub w b P (doF f s o fr)):=by
 obtain ⟨ya,yc,rfl⟩:=r2.sliceB
 obtain ⟨za,zc,rfl⟩:=r3.sliceB
 have HNM : Hid (NM w b s f P):=N
 have HPS : Hid (∀ c,P c → c < w.heap.size):=N.sm
 have hbw:=N.lt
 obtain ⟨X,Q,N⟩:=N
 have HN : Hid (NX w b s f X Q P):=N
 have hXs : ∀ h n,f h = some n → ∃ a m c,X n.h = .slice a m c:=fun h n hn => by obtain ⟨a,c,e,_⟩:=RdV.sliced (N.rd h n hn); exact ⟨a,_,c,e⟩
 obtain ⟨kd,⟨p,q,d⟩,nm,⟨p2,q2,d2⟩,asn,ov⟩:=o
 obtain ⟨pf,qf,df⟩:=fr
 dsimp only at hin hito hfr r2 r3 hnm hna hk
 subst hk
 clear hok
 have HI : Hid (HIn (p,q,d)):=hin
 have HIT : Hid (HIn (p2,q2,d2)):=hito
 have HIF : Hid (HIn (pf,qf,df)):=hfr
 have HS2 : Hid (∀ c,S2 c → ¬ P c):=hS2
 have HSS : Hid (∀ c,S2 c → c < w.heap.size):=hSS
 have OK : Hid (FOk f):=ok
 obtain ⟨th,hth⟩ : ∃ th,(f (p,q,d)).isSome = th:=⟨_,rfl⟩
 obtain ⟨dc,hdc0⟩ : ∃ r,dirC 5 d th = r:=⟨_,rfl⟩
 obtain ⟨tv,htv⟩ : ∃ r,takesB (pf,qf,df) (p2,q2,d2) (f (pf,qf,false)).isSome (f (pf,qf,true)).isSome s = r:=⟨_,rfl⟩
 have HDC : Hid (∀ W,Below w.heap.size w W → Calls Tryz.prog 101 #[.map (some b),.agg #[.i 5,.i p,.i q,.bool d,.slice ya nm.length yc,.i p2,.i q2,.bool d2,.slice za asn.length zc,.i ov]] W fun e w' => e = .returned (.i dc) ∧ Below W.heap.size W w'):=fun W hW => by
  have h9:=dirCode_any b s f X ⟨5,(p,q,d),nm,(p2,q2,d2),asn,ov⟩ ya za nm.length yc asn.length zc W (N.m.blk (hW.block b hbw)) hin (fun n hn => hXs _ n hn)
  dsimp only at h9
  rw [hth,hdc0] at h9
  exact h9
 have HTK : Hid (∀ W,Below w.heap.size w W → Calls Tryz.prog 100 #[.map (some b),.agg #[.i pf,.i qf,.bool df],.agg #[.i p2,.i q2,.bool d2]] W fun e w' => e = .returned (.bool tv) ∧ Below W.heap.size W w'):=fun W hW => by
  have h9:=takes_any b s f X (pf,qf,df) (p2,q2,d2) W (N.m.blk (hW.block b hbw)) hfr hXs
  rw [show takesB (pf,qf,df) (p2,q2,d2) (f (Hd.sh (pf,qf,df),Hd.ino (pf,qf,df),false)).isSome (f (Hd.sh (pf,qf,df),Hd.ino (pf,qf,df),true)).isSome s = tv from htv] at h9
  exact h9
 obtain ⟨res,hres⟩ : ∃ r,doF f s ⟨5,(p,q,d),nm,(p2,q2,d2),asn,ov⟩ (pf,qf,df) = r:=⟨_,rfl⟩
 have HRES : Hid ((if (5 : Int) = 4 ∧ tv = false then (f,s,rcI 11) else if dc ≠ 0 then (f,s,rcI dc) else doF2 f s ⟨5,(p,q,d),nm,(p2,q2,d2),asn,ov⟩ (pf,qf,df)) = res):=by
  show _ = _
  rw [← hres]
  unfold doF
  dsimp only [Hd.dir,Hd.sh,Hd.ino]
  rw [hth,hdc0,htv]
 rw [hres]
 have HNEW : Hid (tv = true → f (pf,qf,df) = none):=fun h => by
  rw [← htv] at h
  unfold takesB at h
  simp only [Bool.and_eq_true,Bool.not_eq_true',decide_eq_true_eq] at h
  cases df
  ·exact Option.isNone_iff_eq_none.1 (by simpa using h.2.2.2.1)
  ·exact Option.isNone_iff_eq_none.1 (by simpa using h.2.2.2.2.1)
 have HR2 : Hid (RdV w S2 (.slice ya nm.length yc) (.bytes nm)):=r2
 have HR3 : Hid (RdV w S2 (.slice za asn.length zc) (.bytes asn)):=r3
 have HDV : Hid (dirC 5 d th = dc):=hdc0
 have HTH : Hid ((f (p,q,d)).isSome = th):=hth
 clear N hXs r2 r3 hS2 hSS hin hito hfr ok hres htv hdc0 hth
 generalize hyn : nm.length = yn at *
 generalize hzn : asn.length = zn at *
 go_enter Tryz.func85,Tryz.ntmps85
 go_wp2_with fail
 go_at_call 101
 refine Calls.mono (HDC.out _ (by repeat (first | exact Below.refl _ _ | refine Below.al2 ?_ _))) ?_
 rintro e w1 ⟨rfl,hb1⟩
 have vO : VarA w1 w.heap.size 53 #[.i 5,.i p,.i q,.bool d,.slice ya yn yc,.i p2,.i q2,.bool d2,.slice za zn zc,.i ov]:=(((VarA.new w _ _).alloc _).alloc _).step hb1
 have vF : VarA w1 (w.heap.size + 1) 48 #[.i pf,.i qf,.bool df]:=((by simpa using VarA.new (w.alloc _) 48 _ : VarA ((w.alloc _).alloc (.cells #[.i pf,.i qf,.bool df] 48)) (w.heap.size + 1) _ _).alloc _).step hb1
 have vR : VarA w1 (w.heap.size + 2) 51 #[.i 0,.i 0,.i 0,.bool false,.i 0,.n0]:=(by simpa using VarA.new ((w.alloc _).alloc _) 51 _ : VarA (((w.alloc _).alloc _).alloc (.cells #[.i 0,.i 0,.i 0,.bool false,.i 0,.n0] 51)) (w.heap.size + 2) _ _).step hb1
 have HB1 : Hid (Below w.heap.size w w1):=(show Below w.heap.size w (((w.alloc _).alloc _).alloc _) by repeat (first | exact Below.refl _ _ | refine Below.al2 ?_ _)).trans (hb1.mono (by simp <;> omega))
 have HVR : Hid (VarA w1 (w.heap.size + 2) 51 _):=vR
 have HVO : Hid (VarA w1 w.heap.size 53 _):=vO
 have HVF : Hid (VarA w1 (w.heap.size + 1) 48 _):=vF
 have s1 : w.heap.size + 3 ≤ w1.heap.size:=by have:=vR.lt; omega
 obtain ⟨q0,q1,q2_,q3,q4,q5,q6,q7,q8,q9⟩:=vO.l10
 obtain ⟨g0,g1,g2⟩:=vF.l3
 clear hb1 vO vF vR
 by_cases hdc : dc = 0
 case neg =>
  have hres2 : res = (f,s,rcI dc):=by rw [← HRES.out]; simp [hdc]
  subst hres2
  have hc1 : (dc == 0) = false:=by simpa using hdc
  have hc2 : (dc != 0) = true:=by simpa using hdc
  go_wp2_with ((with_reducible refine gS 51 ?_); refine sF HVR.out rfl rfl (by kernel_rfl) rfl rfl ?_; intro w8 v8 t8)
  refine bpR Tryz.results85 v8 Tryz.underlying51 rfl rfl (by kernel_rfl) rfl ?_
  exact DSub.ret (R:=fun _ => False) (P':=P) HB1.out (OwV.nilR _ _ _ _ _) (HNM.out.step HB1.out) (fun c hc => hc.elim) (fun c hc => hc.elim) (fun c hc => .inl hc) (Turned.refl _ _) t8 (by omega) (by omega) HPS.out
 subst hdc
 obtain ⟨rfl,rfl⟩ : d = true ∧ th = true:=by
  have h9:=HDV.out
  cases d <;> cases th <;> simp [dirC] at h9 ⊢
 obtain ⟨n,hf⟩ : ∃ n,f (p,q,true) = some n:=Option.isSome_iff_exists.1 HTH.out
 have hres2 : res = dropF f s ⟨5,(p,q,true),nm,(p2,q2,d2),asn,ov⟩:=by rw [← HRES.out]; simp [doF2]
 subst hres2
 have HSB : Hid (∀ W,Below w.heap.size w W → _):=fun W hW => dropD_ b s f ⟨5,(p,q,true),nm,(p2,q2,d2),asn,ov⟩ n (.slice ya yn yc) za zn zc S2 P W (HNM.out.step hW) OK.out HI.out hf (HR2.out.step hW) HS2.out hs
 clear HRES HDC HTK HTH HDV
 go_wp2_with (first | (go_at_call 105; refine Calls.mono (HSB.out _ HB1.out) ?_; rintro e w9 ⟨a9,n9,c9,R9,P9,rfl,o9,N9,d9,r9,p9,t9⟩; have s9:=t9.size; have kR:=HVR.out.turn t9 (fun h => by have:=HPS.out _ h; omega); have HR9 : Hid (VarA w9 (w.heap.size + 2) 51 _):=kR; clear kR) | ((with_reducible refine gS 51 ?_); refine sF HR9.out rfl rfl (by kernel_rfl) rfl rfl ?_; intro w8 v8 t8))
 refine bpR Tryz.results85 v8 Tryz.underlying51 rfl rfl (by kernel_rfl) rfl ?_
 exact DSub.ret HB1.out o9 N9 d9 r9 p9 t9 t8 (by omega) (by omega) HPS.out
set_option maxHeartbeats 4000000 in
theorem implDo6 (b s : Nat) (f : Hd → Option Nd) (o : OpD) (fr : Hd) (y z : Value) (S2 P : Nat → Prop) (w : World) (N : NM w b s f P) (ok : FOk f) (hin : HIn o.dir) (hito : HIn o.to) (hfr : HIn fr) (r2 : RdV w S2 y (.bytes o.nm)) (r3 : RdV w S2 z (.bytes o.asn)) (hS2 : ∀ c,S2 c → ¬ P c) (hSS : ∀ c,S2 c → c < w.heap.size) (hnm : o.nm.length ≤ 2097152) (hna : o.asn.length ≤ 2097152) (hs : s ≤ 2097000) (hok : OOk o = true) (hk : o.kind = 6) :
  Calls Tryz.prog 85 #[.map (some b),opV o y z,fr.v] w (DSub w b P (doF f s o fr)):=by
 obtain ⟨ya,yc,rfl⟩:=r2.sliceB
 obtain ⟨za,zc,rfl⟩:=r3.sliceB
 have HNM : Hid (NM w b s f P):=N
 have HPS : Hid (∀ c,P c → c < w.heap.size):=N.sm
 have hbw:=N.lt
 obtain ⟨X,Q,N⟩:=N
 have HN : Hid (NX w b s f X Q P):=N
 have hXs : ∀ h n,f h = some n → ∃ a m c,X n.h = .slice a m c:=fun h n hn => by obtain ⟨a,c,e,_⟩:=RdV.sliced (N.rd h n hn); exact ⟨a,_,c,e⟩
 obtain ⟨kd,⟨p,q,d⟩,nm,⟨p2,q2,d2⟩,asn,ov⟩:=o
 obtain ⟨pf,qf,df⟩:=fr
 dsimp only at hin hito hfr r2 r3 hnm hna hk
 subst hk
 have HQ : Hid (isNm nm = true):=by simp [OOk,nmB,nmP] at hok; exact hok.2.1
 clear hok
 have HI : Hid (HIn (p,q,d)):=hin
 have HIT : Hid (HIn (p2,q2,d2)):=hito
 have HIF : Hid (HIn (pf,qf,df)):=hfr
 have HS2 : Hid (∀ c,S2 c → ¬ P c):=hS2
 have HSS : Hid (∀ c,S2 c → c < w.heap.size):=hSS
 have OK : Hid (FOk f):=ok
 obtain ⟨th,hth⟩ : ∃ th,(f (p,q,d)).isSome = th:=⟨_,rfl⟩
 obtain ⟨dc,hdc0⟩ : ∃ r,dirC 6 d th = r:=⟨_,rfl⟩
 obtain ⟨tv,htv⟩ : ∃ r,takesB (pf,qf,df) (p2,q2,d2) (f (pf,qf,false)).isSome (f (pf,qf,true)).isSome s = r:=⟨_,rfl⟩
 have HDC : Hid (∀ W,Below w.heap.size w W → Calls Tryz.prog 101 #[.map (some b),.agg #[.i 6,.i p,.i q,.bool d,.slice ya nm.length yc,.i p2,.i q2,.bool d2,.slice za asn.length zc,.i ov]] W fun e w' => e = .returned (.i dc) ∧ Below W.heap.size W w'):=fun W hW => by
  have h9:=dirCode_any b s f X ⟨6,(p,q,d),nm,(p2,q2,d2),asn,ov⟩ ya za nm.length yc asn.length zc W (N.m.blk (hW.block b hbw)) hin (fun n hn => hXs _ n hn)
  dsimp only at h9
  rw [hth,hdc0] at h9
  exact h9
 have HTK : Hid (∀ W,Below w.heap.size w W → Calls Tryz.prog 100 #[.map (some b),.agg #[.i pf,.i qf,.bool df],.agg #[.i p2,.i q2,.bool d2]] W fun e w' => e = .returned (.bool tv) ∧ Below W.heap.size W w'):=fun W hW => by
  have h9:=takes_any b s f X (pf,qf,df) (p2,q2,d2) W (N.m.blk (hW.block b hbw)) hfr hXs
  rw [show takesB (pf,qf,df) (p2,q2,d2) (f (Hd.sh (pf,qf,df),Hd.ino (pf,qf,df),false)).isSome (f (Hd.sh (pf,qf,df),Hd.ino (pf,qf,df),true)).isSome s = tv from htv] at h9
  exact h9
 obtain ⟨res,hres⟩ : ∃ r,doF f s ⟨6,(p,q,d),nm,(p2,q2,d2),asn,ov⟩ (pf,qf,df) = r:=⟨_,rfl⟩
 have HRES : Hid ((if (6 : Int) = 4 ∧ tv = false then (f,s,rcI 11) else if dc ≠ 0 then (f,s,rcI dc) else doF2 f s ⟨6,(p,q,d),nm,(p2,q2,d2),asn,ov⟩ (pf,qf,df)) = res):=by
  show _ = _
  rw [← hres]
  unfold doF
  dsimp only [Hd.dir,Hd.sh,Hd.ino]
  rw [hth,hdc0,htv]
 rw [hres]
 have HNEW : Hid (tv = true → f (pf,qf,df) = none):=fun h => by
  rw [← htv] at h
  unfold takesB at h
  simp only [Bool.and_eq_true,Bool.not_eq_true',decide_eq_true_eq] at h
  cases df
  ·exact Option.isNone_iff_eq_none.1 (by simpa using h.2.2.2.1)
  ·exact Option.isNone_iff_eq_none.1 (by simpa using h.2.2.2.2.1)
 have HR2 : Hid (RdV w S2 (.slice ya nm.length yc) (.bytes nm)):=r2
 have HR3 : Hid (RdV w S2 (.slice za asn.length zc) (.bytes asn)):=r3
 have HDV : Hid (dirC 6 d th = dc):=hdc0
 have HTH : Hid ((f (p,q,d)).isSome = th):=hth
 clear N hXs r2 r3 hS2 hSS hin hito hfr ok hres htv hdc0 hth
 generalize hyn : nm.length = yn at *
 generalize hzn : asn.length = zn at *
 go_enter Tryz.func85,Tryz.ntmps85
 go_wp2_with fail
 go_at_call 101
 refine Calls.mono (HDC.out _ (by repeat (first | exact Below.refl _ _ | refine Below.al2 ?_ _))) ?_
 rintro e w1 ⟨rfl,hb1⟩
 have vO : VarA w1 w.heap.size 53 #[.i 6,.i p,.i q,.bool d,.slice ya yn yc,.i p2,.i q2,.bool d2,.slice za zn zc,.i ov]:=(((VarA.new w _ _).alloc _).alloc _).step hb1
 have vF : VarA w1 (w.heap.size + 1) 48 #[.i pf,.i qf,.bool df]:=((by simpa using VarA.new (w.alloc _) 48 _ : VarA ((w.alloc _).alloc (.cells #[.i pf,.i qf,.bool df] 48)) (w.heap.size + 1) _ _).alloc _).step hb1
 have vR : VarA w1 (w.heap.size + 2) 51 #[.i 0,.i 0,.i 0,.bool false,.i 0,.n0]:=(by simpa using VarA.new ((w.alloc _).alloc _) 51 _ : VarA (((w.alloc _).alloc _).alloc (.cells #[.i 0,.i 0,.i 0,.bool false,.i 0,.n0] 51)) (w.heap.size + 2) _ _).step hb1
 have HB1 : Hid (Below w.heap.size w w1):=(show Below w.heap.size w (((w.alloc _).alloc _).alloc _) by repeat (first | exact Below.refl _ _ | refine Below.al2 ?_ _)).trans (hb1.mono (by simp <;> omega))
 have HVR : Hid (VarA w1 (w.heap.size + 2) 51 _):=vR
 have HVO : Hid (VarA w1 w.heap.size 53 _):=vO
 have HVF : Hid (VarA w1 (w.heap.size + 1) 48 _):=vF
 have s1 : w.heap.size + 3 ≤ w1.heap.size:=by have:=vR.lt; omega
 obtain ⟨q0,q1,q2_,q3,q4,q5,q6,q7,q8,q9⟩:=vO.l10
 obtain ⟨g0,g1,g2⟩:=vF.l3
 clear hb1 vO vF vR
 by_cases hdc : dc = 0
 case neg =>
  have hres2 : res = (f,s,rcI dc):=by rw [← HRES.out]; simp [hdc]
  subst hres2
  have hc1 : (dc == 0) = false:=by simpa using hdc
  have hc2 : (dc != 0) = true:=by simpa using hdc
  go_wp2_with ((with_reducible refine gS 51 ?_); refine sF HVR.out rfl rfl (by kernel_rfl) rfl rfl ?_; intro w8 v8 t8)
  refine bpR Tryz.results85 v8 Tryz.underlying51 rfl rfl (by kernel_rfl) rfl ?_
  exact DSub.ret (R:=fun _ => False) (P':=P) HB1.out (OwV.nilR _ _ _ _ _) (HNM.out.step HB1.out) (fun c hc => hc.elim) (fun c hc => hc.elim) (fun c hc => .inl hc) (Turned.refl _ _) t8 (by omega) (by omega) HPS.out
 subst hdc
 obtain ⟨rfl,rfl⟩ : d = true ∧ th = true:=by
  have h9:=HDV.out
  cases d <;> cases th <;> simp [dirC] at h9 ⊢
 obtain ⟨n,hf⟩ : ∃ n,f (p,q,true) = some n:=Option.isSome_iff_exists.1 HTH.out
 have hres2 : res = linkF f s ⟨6,(p,q,true),nm,(p2,q2,d2),asn,ov⟩:=by rw [← HRES.out]; simp [doF2]
 subst hres2
 have HSB : Hid (∀ W,Below w.heap.size w W → _):=fun W hW => linkD b s f ⟨6,(p,q,true),nm,(p2,q2,d2),asn,ov⟩ HQ.out n (.slice ya yn yc) za zn zc S2 P W (HNM.out.step hW) OK.out HI.out HIT.out hf rfl (HR2.out.step hW) HS2.out (by dsimp only; omega) hs
 clear HRES HDC HTK HTH HDV
 go_wp2_with (first | (go_at_call 106; refine Calls.mono (HSB.out _ HB1.out) ?_; rintro e w9 ⟨a9,n9,c9,R9,P9,rfl,o9,N9,d9,r9,p9,t9⟩; have s9:=t9.size; have kR:=HVR.out.turn t9 (fun h => by have:=HPS.out _ h; omega); have HR9 : Hid (VarA w9 (w.heap.size + 2) 51 _):=kR; clear kR) | ((with_reducible refine gS 51 ?_); refine sF HR9.out rfl rfl (by kernel_rfl) rfl rfl ?_; intro w8 v8 t8))
 refine bpR Tryz.results85 v8 Tryz.underlying51 rfl rfl (by kernel_rfl) rfl ?_
 exact DSub.ret HB1.out o9 N9 d9 r9 p9 t9 t8 (by omega) (by omega) HPS.out
set_option maxHeartbeats 4000000 in
theorem implDo7 (b s : Nat) (f : Hd → Option Nd) (o : OpD) (fr : Hd) (y z : Value) (S2 P : Nat → Prop) (w : World) (N : NM w b s f P) (ok : FOk f) (hin : HIn o.dir) (hito : HIn o.to) (hfr : HIn fr) (r2 : RdV w S2 y (.bytes o.nm)) (r3 : RdV w S2 z (.bytes o.asn)) (hS2 : ∀ c,S2 c → ¬ P c) (hSS : ∀ c,S2 c → c < w.heap.size) (hnm : o.nm.length ≤ 2097152) (hna : o.asn.length ≤ 2097152) (hs : s ≤ 2097000) (hok : OOk o = true) (hk : o.kind = 7) :
  Calls Tryz.prog 85 #[.map (some b),opV o y z,fr.v] w (DSub w b P (doF f s o fr)):=by
 obtain ⟨ya,yc,rfl⟩:=r2.sliceB
 obtain ⟨za,zc,rfl⟩:=r3.sliceB
 have HNM : Hid (NM w b s f P):=N
 have HPS : Hid (∀ c,P c → c < w.heap.size):=N.sm
 have hbw:=N.lt
 obtain ⟨X,Q,N⟩:=N
 have HN : Hid (NX w b s f X Q P):=N
 have hXs : ∀ h n,f h = some n → ∃ a m c,X n.h = .slice a m c:=fun h n hn => by obtain ⟨a,c,e,_⟩:=RdV.sliced (N.rd h n hn); exact ⟨a,_,c,e⟩
 obtain ⟨kd,⟨p,q,d⟩,nm,⟨p2,q2,d2⟩,asn,ov⟩:=o
 obtain ⟨pf,qf,df⟩:=fr
 dsimp only at hin hito hfr r2 r3 hnm hna hk
 subst hk
 have HQ : Hid (isNm asn = true):=by simp [OOk,asB,asP] at hok; exact hok.2.2.2.1
 clear hok
 have HI : Hid (HIn (p,q,d)):=hin
 have HIT : Hid (HIn (p2,q2,d2)):=hito
 have HIF : Hid (HIn (pf,qf,df)):=hfr
 have HS2 : Hid (∀ c,S2 c → ¬ P c):=hS2
 have HSS : Hid (∀ c,S2 c → c < w.heap.size):=hSS
 have OK : Hid (FOk f):=ok
 obtain ⟨th,hth⟩ : ∃ th,(f (p,q,d)).isSome = th:=⟨_,rfl⟩
 obtain ⟨dc,hdc0⟩ : ∃ r,dirC 7 d th = r:=⟨_,rfl⟩
 obtain ⟨tv,htv⟩ : ∃ r,takesB (pf,qf,df) (p2,q2,d2) (f (pf,qf,false)).isSome (f (pf,qf,true)).isSome s = r:=⟨_,rfl⟩
 have HDC : Hid (∀ W,Below w.heap.size w W → Calls Tryz.prog 101 #[.map (some b),.agg #[.i 7,.i p,.i q,.bool d,.slice ya nm.length yc,.i p2,.i q2,.bool d2,.slice za asn.length zc,.i ov]] W fun e w' => e = .returned (.i dc) ∧ Below W.heap.size W w'):=fun W hW => by
  have h9:=dirCode_any b s f X ⟨7,(p,q,d),nm,(p2,q2,d2),asn,ov⟩ ya za nm.length yc asn.length zc W (N.m.blk (hW.block b hbw)) hin (fun n hn => hXs _ n hn)
  dsimp only at h9
  rw [hth,hdc0] at h9
  exact h9
 have HTK : Hid (∀ W,Below w.heap.size w W → Calls Tryz.prog 100 #[.map (some b),.agg #[.i pf,.i qf,.bool df],.agg #[.i p2,.i q2,.bool d2]] W fun e w' => e = .returned (.bool tv) ∧ Below W.heap.size W w'):=fun W hW => by
  have h9:=takes_any b s f X (pf,qf,df) (p2,q2,d2) W (N.m.blk (hW.block b hbw)) hfr hXs
  rw [show takesB (pf,qf,df) (p2,q2,d2) (f (Hd.sh (pf,qf,df),Hd.ino (pf,qf,df),false)).isSome (f (Hd.sh (pf,qf,df),Hd.ino (pf,qf,df),true)).isSome s = tv from htv] at h9
  exact h9
 obtain ⟨res,hres⟩ : ∃ r,doF f s ⟨7,(p,q,d),nm,(p2,q2,d2),asn,ov⟩ (pf,qf,df) = r:=⟨_,rfl⟩
 have HRES : Hid ((if (7 : Int) = 4 ∧ tv = false then (f,s,rcI 11) else if dc ≠ 0 then (f,s,rcI dc) else doF2 f s ⟨7,(p,q,d),nm,(p2,q2,d2),asn,ov⟩ (pf,qf,df)) = res):=by
  show _ = _
  rw [← hres]
  unfold doF
  dsimp only [Hd.dir,Hd.sh,Hd.ino]
  rw [hth,hdc0,htv]
 rw [hres]
 have HNEW : Hid (tv = true → f (pf,qf,df) = none):=fun h => by
  rw [← htv] at h
  unfold takesB at h
  simp only [Bool.and_eq_true,Bool.not_eq_true',decide_eq_true_eq] at h
  cases df
  ·exact Option.isNone_iff_eq_none.1 (by simpa using h.2.2.2.1)
  ·exact Option.isNone_iff_eq_none.1 (by simpa using h.2.2.2.2.1)
 have HR2 : Hid (RdV w S2 (.slice ya nm.length yc) (.bytes nm)):=r2
 have HR3 : Hid (RdV w S2 (.slice za asn.length zc) (.bytes asn)):=r3
 have HDV : Hid (dirC 7 d th = dc):=hdc0
 have HTH : Hid ((f (p,q,d)).isSome = th):=hth
 clear N hXs r2 r3 hS2 hSS hin hito hfr ok hres htv hdc0 hth
 generalize hyn : nm.length = yn at *
 generalize hzn : asn.length = zn at *
 go_enter Tryz.func85,Tryz.ntmps85
 go_wp2_with fail
 go_at_call 101
 refine Calls.mono (HDC.out _ (by repeat (first | exact Below.refl _ _ | refine Below.al2 ?_ _))) ?_
 rintro e w1 ⟨rfl,hb1⟩
 have vO : VarA w1 w.heap.size 53 #[.i 7,.i p,.i q,.bool d,.slice ya yn yc,.i p2,.i q2,.bool d2,.slice za zn zc,.i ov]:=(((VarA.new w _ _).alloc _).alloc _).step hb1
 have vF : VarA w1 (w.heap.size + 1) 48 #[.i pf,.i qf,.bool df]:=((by simpa using VarA.new (w.alloc _) 48 _ : VarA ((w.alloc _).alloc (.cells #[.i pf,.i qf,.bool df] 48)) (w.heap.size + 1) _ _).alloc _).step hb1
 have vR : VarA w1 (w.heap.size + 2) 51 #[.i 0,.i 0,.i 0,.bool false,.i 0,.n0]:=(by simpa using VarA.new ((w.alloc _).alloc _) 51 _ : VarA (((w.alloc _).alloc _).alloc (.cells #[.i 0,.i 0,.i 0,.bool false,.i 0,.n0] 51)) (w.heap.size + 2) _ _).step hb1
 have HB1 : Hid (Below w.heap.size w w1):=(show Below w.heap.size w (((w.alloc _).alloc _).alloc _) by repeat (first | exact Below.refl _ _ | refine Below.al2 ?_ _)).trans (hb1.mono (by simp <;> omega))
 have HVR : Hid (VarA w1 (w.heap.size + 2) 51 _):=vR
 have HVO : Hid (VarA w1 w.heap.size 53 _):=vO
 have HVF : Hid (VarA w1 (w.heap.size + 1) 48 _):=vF
 have s1 : w.heap.size + 3 ≤ w1.heap.size:=by have:=vR.lt; omega
 obtain ⟨q0,q1,q2_,q3,q4,q5,q6,q7,q8,q9⟩:=vO.l10
 obtain ⟨g0,g1,g2⟩:=vF.l3
 clear hb1 vO vF vR
 by_cases hdc : dc = 0
 case neg =>
  have hres2 : res = (f,s,rcI dc):=by rw [← HRES.out]; simp [hdc]
  subst hres2
  have hc1 : (dc == 0) = false:=by simpa using hdc
  have hc2 : (dc != 0) = true:=by simpa using hdc
  go_wp2_with ((with_reducible refine gS 51 ?_); refine sF HVR.out rfl rfl (by kernel_rfl) rfl rfl ?_; intro w8 v8 t8)
  refine bpR Tryz.results85 v8 Tryz.underlying51 rfl rfl (by kernel_rfl) rfl ?_
  exact DSub.ret (R:=fun _ => False) (P':=P) HB1.out (OwV.nilR _ _ _ _ _) (HNM.out.step HB1.out) (fun c hc => hc.elim) (fun c hc => hc.elim) (fun c hc => .inl hc) (Turned.refl _ _) t8 (by omega) (by omega) HPS.out
 subst hdc
 obtain ⟨rfl,rfl⟩ : d = true ∧ th = true:=by
  have h9:=HDV.out
  cases d <;> cases th <;> simp [dirC] at h9 ⊢
 obtain ⟨n,hf⟩ : ∃ n,f (p,q,true) = some n:=Option.isSome_iff_exists.1 HTH.out
 have hres2 : res = moveF f s ⟨7,(p,q,true),nm,(p2,q2,d2),asn,ov⟩:=by rw [← HRES.out]; simp [doF2]
 subst hres2
 have HSB : Hid (∀ W,Below w.heap.size w W → _):=fun W hW => moveD_ b s f ⟨7,(p,q,true),nm,(p2,q2,d2),asn,ov⟩ HQ.out n (.slice ya yn yc) (.slice za zn zc) S2 P W (HNM.out.step hW) OK.out HI.out HIT.out hf (HR2.out.step hW) (HR3.out.step hW) HS2.out (fun c hc => Nat.lt_of_lt_of_le (HSS.out c hc) hW.size) hs (by dsimp only; omega)
 clear HRES HDC HTK HTH HDV
 go_wp2_with (first | (go_at_call 107; refine Calls.mono (HSB.out _ HB1.out) ?_; rintro e w9 ⟨a9,n9,c9,R9,P9,rfl,o9,N9,d9,r9,p9,t9⟩; have s9:=t9.size; have kR:=HVR.out.turn t9 (fun h => by have:=HPS.out _ h; omega); have HR9 : Hid (VarA w9 (w.heap.size + 2) 51 _):=kR; clear kR) | ((with_reducible refine gS 51 ?_); refine sF HR9.out rfl rfl (by kernel_rfl) rfl rfl ?_; intro w8 v8 t8))
 refine bpR Tryz.results85 v8 Tryz.underlying51 rfl rfl (by kernel_rfl) rfl ?_
 exact DSub.ret HB1.out o9 N9 d9 r9 p9 t9 t8 (by omega) (by omega) HPS.out
end
end Go.Proofs.YtblahkhniabhiaaGreatDoor
