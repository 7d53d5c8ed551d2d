/- The specification's moving of an entry. Condition: at most 3,000 nodes, of at most 4,000 entries each; each entry's node is there. -/
import Derived.Test.YtblahkhniabhiaaGreatDoorFA01
import Derived.Test.YtblahkhniabhiaaGreatDoorFA06
namespace Go.Proofs.YtblahkhniabhiaaGreatDoor
open Go.RowKit
set_option linter.unusedVariables false
set_option linter.unusedSimpArgs false
set_option maxRecDepth 100000

structure MV (w wc : World) (tb lo : Nat) (v : Value) (L1 : Nat → Prop) (l : List Nd) (oc : Array Value) : Prop where
 B : Below w.heap.size w wc
 vT : VarA wc tb 26 #[v]
 s : SG wc lo L1 v l
 vO : VarA wc w.heap.size 53 oc
 vR : VarA wc (w.heap.size + 1) 51 #[.i 0,.i 0,.i 0,.bool false,.i 0,.n0]
theorem MV.step {w wc wd : World} {tb lo : Nat} {v : Value} {L1 : Nat → Prop} {l : List Nd} {oc : Array Value} (m : MV w wc tb lo v L1 l oc) (h : Below wc.heap.size wc wd) : MV w wd tb lo v L1 l oc:=
 ⟨m.B.trans (h.mono m.B.size),m.vT.step h,m.s.step h,m.vO.step h,m.vR.step h⟩
theorem MV.fin {F L : Nat → Prop} {w wc wz : World} {tb lo : Nat} {v : Value} {L1 : Nat → Prop} {l : List Nd} {oc : Array Value} (m : MV w wc tb lo v L1 l oc) (hvt : v.ownBlock ≠ some tb) (t_ : Turned (fun b => b = w.heap.size + 1) wc wz) (hR : ¬ L1 (w.heap.size + 1)) (hRt : tb ≠ w.heap.size + 1) (hRv : v.ownBlock ≠ some (w.heap.size + 1)) (hL : ∀ b,L1 b → L b) :
  TV wz tb lo L l ∧ Turned F w wz:=
 ⟨TV.ret m.vT m.s hvt t_ hR hRt hRv hL,Turned.of2 m.B t_ (by omega)⟩
structure MW (F : Nat → Prop) (w wc : World) (tb lo : Nat) (v : Value) (L1 : Nat → Prop) (l : List Nd) (oc : Array Value) : Prop where
 t : Turned F w wc
 vT : VarA wc tb 26 #[v]
 s : SG wc lo L1 v l
 vO : VarA wc w.heap.size 53 oc
 vR : VarA wc (w.heap.size + 1) 51 #[.i 0,.i 0,.i 0,.bool false,.i 0,.n0]
theorem MW.turn {F : Nat → Prop} {w wc wd : World} {tb lo g : Nat} {v : Value} {L1 : Nat → Prop} {l l' : List Nd} {oc : Array Value} (m : MW F w wc tb lo v L1 l oc) (t : Turned (fun b => b = g) wc wd) (s : SG wd lo L1 v l') (hF : F g) (hg : g < w.heap.size) (hgt : g ≠ tb) : MW F w wd tb lo v L1 l' oc:=
 ⟨m.t.trans (t.wide (fun b e => by subst e; exact hF)),m.vT.turn t (fun e => hgt e.symm),s,m.vO.turn t (fun e => by omega),m.vR.turn t (fun e => by omega)⟩
theorem MV.w {F : Nat → Prop} {w wc : World} {tb lo : Nat} {v : Value} {L1 : Nat → Prop} {l : List Nd} {oc : Array Value} (m : MV w wc tb lo v L1 l oc) : MW F w wc tb lo v L1 l oc:=⟨Turned.ofBelow m.B,m.vT,m.s,m.vO,m.vR⟩
theorem MW.fin {F L : Nat → Prop} {w wc wz : World} {tb lo : Nat} {v : Value} {L1 : Nat → Prop} {l : List Nd} {oc : Array Value} (m : MW F w wc tb lo v L1 l oc) (hvt : v.ownBlock ≠ some tb) (t_ : Turned (fun b => b = w.heap.size + 1) wc wz) (hR : ¬ L1 (w.heap.size + 1)) (hRt : tb ≠ w.heap.size + 1) (hRv : v.ownBlock ≠ some (w.heap.size + 1)) (hL : ∀ b,L1 b → L b) :
  TV wz tb lo L l ∧ Turned F w wz:=
 ⟨TV.ret m.vT m.s hvt t_ hR hRt hRv hL,m.t.trans2 t_ (by omega)⟩
theorem Turned.own2 {w w' : World} {tb g n cap : Nat} {p : Prop} (vT : VarA w tb 26 #[.slice (some ⟨g,0,none⟩) n cap]) (t : p ∧ Turned (fun b => b = tb ∨ b = g) w w') : p ∧ ∀ v',VarA w tb 26 #[v'] → Turned (fun b => b = tb ∨ v'.ownBlock = some b) w w':=⟨t.1,Turned.own vT t.2⟩
theorem length_addN (l : List Nd) (d : Nat) (nm : List Int) (h : Hd) : (addN l d nm h).length = l.length:=List.length_set
theorem length_cutN (l : List Nd) (d e : Nat) : (cutN l d e).length = l.length:=List.length_set
theorem length_parN (l : List Nd) (d : Nat) (h : Hd) : (parN l d h).length = l.length:=List.length_set
theorem cutN_es (l : List Nd) (d e i : Nat) (hd : d < l.length) : ((cutN l d e)[i]?.getD nd0).es.length ≤ (l[i]?.getD nd0).es.length:=by
 unfold cutN
 by_cases h : i = d
 ·subst h; rw [List.getElem?_set_self hd]; exact length_cutE _ _
 ·rw [List.getElem?_set_ne (by omega)]; exact Nat.le_refl _
theorem parN_es (l : List Nd) (d i : Nat) (h : Hd) (hd : d < l.length) : ((parN l d h)[i]?.getD nd0).es = (l[i]?.getD nd0).es:=by
 unfold parN
 by_cases hi : i = d
 ·subst hi; rw [List.getElem?_set_self hd]; rfl
 ·rw [List.getElem?_set_ne (by omega)]
set_option maxHeartbeats 8000000 in
theorem specMove_any (tb lo d : Nat) (o : OpD) (y z : Value) (l : List Nd) (S2 L : Nat → Prop) (w : World) (tv : TV w tb lo L l) (hLt : ¬ L tb) (hLn : ∀ b,w.heap.size ≤ b → L b) (hlo : lo ≤ w.heap.size) (htbl : lo ≤ tb) (sm : Small l) (hd : d < l.length) (r1 : RdV w S2 y (.bytes o.nm)) (r2 : RdV w S2 z (.bytes o.asn)) (hS2 : ∀ b,S2 b → b < lo) (hn1 : o.nm.length ≤ 2097152) (hn2 : o.asn.length ≤ 2097152)
  (hin : ∀ j,j < (l[d]?.getD nd0).es.length → fi l ((l[d]?.getD nd0).es[j]?.getD en0).h < l.length) :
  Calls Tryz.prog 56 #[.pointer (some ⟨tb,0,none⟩),opV o y z,.i d] w fun r w' => r = .returned (rpV ⟨(moveD l o d).2,hd0,0,[]⟩ (.n0)) ∧ TV w' tb lo L (moveD l o d).1 ∧ (∀ v',VarA w tb 26 #[v'] → Turned (fun b => b = tb ∨ v'.ownBlock = some b) w w'):=by
 obtain ⟨v,vT,s,hvt⟩:=tv
 obtain ⟨g,cap,rfl,hg1,hg2,hgf,hcap⟩:=s.head (by omega)
 have htb:=vT.lt
 have hgt : g ≠ tb:=fun e => hvt (by rw [e]; rfl)
 have HVW : Hid (VarA w tb 26 #[.slice (some ⟨g,0,none⟩) l.length cap]):=vT
 obtain ⟨ya,yc,rfl⟩:=r1.sliceB
 obtain ⟨za,zc,rfl⟩:=r2.sliceB
 obtain ⟨kd,⟨p1,q1,d1⟩,nm,⟨p2,q2,d2⟩,asn,vl⟩:=o
 dsimp only at r1 r2 hn1 hn2 ⊢
 obtain ⟨res,hres⟩ : ∃ r,moveD l ⟨kd,(p1,q1,d1),nm,(p2,q2,d2),asn,vl⟩ d = r:=⟨_,rfl⟩
 rw [hres]
 unfold moveD at hres
 dsimp only at hres
 have hl:=sm.1
 have HEL : Hid (∀ i : Nat,(l[i]?.getD nd0).es.length ≤ 4000 ∧ 0 ≤ (l[i]?.getD nd0).links ∧ (l[i]?.getD nd0).links ≤ 2147483647):=sm.2
 obtain ⟨xd,rd,cd⟩:=s.at hd
 have HD0 : Hid (∀ W,Below w.heap.size w W → ∀ j,j < 9 → W.cell? ⟨g,d * 9 + j,none⟩ = some (ndVal (l[d]?.getD nd0) xd j)):=fun W hW j hj => (hW.cell (p:=⟨g,d * 9 + j,none⟩) hg2).trans (cd j hj)
 have HEN : Hid (∀ W,Below w.heap.size w W → _):=fun W hW => specEntry_any xd _ (l[d]?.getD nd0) nm _ S2 W (RdV.step rd hW) (RdV.step r1 hW) (by have:=(HEL.out d).1; omega)
 have HEA : Hid (∀ W,Below w.heap.size w W → _):=fun W hW => specEntry_any xd _ (l[d]?.getD nd0) asn _ S2 W (RdV.step rd hW) (RdV.step r2 hW) (by have:=(HEL.out d).1; omega)
 have HFT : Hid (∀ W,Below w.heap.size w W → _):=fun W hW => specFind_any _ l (p2,q2,d2) _ W (RdV.step s.rd hW) (by omega)
 have HRD : Hid (∀ W,Below w.heap.size w W → RdV W (fun b => L b ∧ b < w.heap.size ∧ b ≠ g) xd (ensDt (l[d]?.getD nd0).es)):=fun W hW => RdV.step rd hW
 have HUN : Hid (∀ h W,Below w.heap.size w W → _):=fun h W hW => specUnder_any _ l (p2,q2,d2) h _ W (RdV.step s.rd hW) (by omega)
 have HFH : Hid (∀ h W,Below w.heap.size w W → _):=fun h W hW => specFind_any _ l h _ W (RdV.step s.rd hW) (by omega)
 have HRZ : Hid (∀ W,Turned (fun b => b = tb ∨ b = g) w W → RdV W S2 (.slice za asn.length zc) (.bytes asn)):=fun W t => RdV.keep (t.keeps (fun b hb h => by have:=hS2 b hb; rcases h with h | h <;> omega)) r2
 have HRF : Hid (∀ t : Nat,t < l.length → ∃ xt,(∀ W,Below w.heap.size w W → ∀ j,j < 9 → W.cell? ⟨g,t * 9 + j,none⟩ = some (ndVal (l[t]?.getD nd0) xt j)) ∧ ∀ W,Below w.heap.size w W → Calls Tryz.prog 59 #[ndV (l[t]?.getD nd0) xt,.slice za asn.length zc] W fun e w' => e = .returned (.i (refD (l[t]?.getD nd0).es asn)) ∧ Below W.heap.size W w'):=fun t ht => by
  obtain ⟨xt,rt,ct⟩:=s.at ht
  exact ⟨xt,fun W hW j hj => (hW.cell (p:=⟨g,t * 9 + j,none⟩) hg2).trans (ct j hj),fun W hW => specRefuse_any xt _ _ asn _ S2 W (RdV.step rt hW) (RdV.step r2 hW) (by have:=(HEL.out t).1; omega)⟩
 have sL : SG w lo (fun b => L b ∧ b ≠ w.heap.size + 1) _ l:=s.mono (fun b hb h => ⟨h,by omega⟩)
 obtain ⟨L1,hL1⟩ : ∃ M : Nat → Prop,M = fun b => L b ∧ b ≠ w.heap.size + 1:=⟨_,rfl⟩
 rw [← hL1] at sL
 have HLR : Hid (¬ L1 (w.heap.size + 1)):=by rw [hL1]; exact fun h => h.2 rfl
 have HLL : Hid (∀ b,L1 b → L b):=by rw [hL1]; exact fun b h => h.1
 have HLN : Hid (∀ b,w.heap.size + 2 ≤ b → L1 b):=by rw [hL1]; exact fun b h => ⟨hLn b (by omega),by omega⟩
 have HIN : Hid (∀ j,j < (l[d]?.getD nd0).es.length → fi l ((l[d]?.getD nd0).es[j]?.getD en0).h < l.length):=hin
 clear hL1 s rd cd sm hin
 generalize hnd : l[d]?.getD nd0 = nd at *
 have HRES : Hid _:=hres
 clear hres
 have hdi : (d : Int) < (l.length : Int):=by omega
 go_enter Tryz.func56,Tryz.ntmps56
 go_wp2
 obtain ⟨w0,hw0⟩ : ∃ W,W = (w.alloc (.cells #[.i kd,.i p1,.i q1,.bool d1,.slice ya nm.length yc,.i p2,.i q2,.bool d2,.slice za asn.length zc,.i vl] 53)).alloc (.cells #[.i 0,.i 0,.i 0,.bool false,.i 0,.n0] 51):=⟨_,rfl⟩
 have HM0 : Hid (MV w w0 tb lo (.slice (some ⟨g,0,none⟩) l.length cap) L1 l #[.i kd,.i p1,.i q1,.bool d1,.slice ya nm.length yc,.i p2,.i q2,.bool d2,.slice za asn.length zc,.i vl]):=by
  have B0 : Below w.heap.size w w0:=by rw [hw0]; exact Below.newH2 _ _
  exact ⟨B0,vT.step B0,sL.step B0,by rw [hw0]; exact (VarA.new w _ _).alloc _,by rw [hw0]; have:=VarA.new (w.alloc (.cells #[.i kd,.i p1,.i q1,.bool d1,.slice ya nm.length yc,.i p2,.i q2,.bool d2,.slice za asn.length zc,.i vl] 53)) 51 #[.i 0,.i 0,.i 0,.bool false,.i 0,.n0]; simpa using this⟩
 rw [← hw0]
 clear hw0 vT sL
 have hgw : g < w0.heap.size:=Nat.lt_of_lt_of_le hg2 HM0.out.B.size
 haveI : Nonempty (Cls w0):=Cls.ne w0
 have kt:=Cls.cell HM0.out.vT.lt HM0.out.vT.l1
 have k4:=Cls.cell HM0.out.vO.lt (HM0.out.vO.c 4 rfl)
 have kn0:=Cls.cell (o:=d * 9) hgw (by have:=HD0.out _ HM0.out.B 0 (by omega); simpa [ndVal] using this)
 have kn1:=Cls.cell (o:=d * 9 + 1) hgw (by have:=HD0.out _ HM0.out.B 1 (by omega); simpa [ndVal] using this)
 have kn2:=Cls.cell (o:=d * 9 + 2) hgw (by have:=HD0.out _ HM0.out.B 2 (by omega); simpa [ndVal] using this)
 have kn3:=Cls.cell (o:=d * 9 + 3) hgw (by have:=HD0.out _ HM0.out.B 3 (by omega); simpa [ndVal] using this)
 have kn4:=Cls.cell (o:=d * 9 + 4) hgw (by have:=HD0.out _ HM0.out.B 4 (by omega); simpa [ndVal] using this)
 have kn5:=Cls.cell (o:=d * 9 + 5) hgw (by have:=HD0.out _ HM0.out.B 5 (by omega); simpa [ndVal] using this)
 have kn6:=Cls.cell (o:=d * 9 + 6) hgw (by have:=HD0.out _ HM0.out.B 6 (by omega); simpa [ndVal] using this)
 have kn7:=Cls.cell (o:=d * 9 + 7) hgw (by have:=HD0.out _ HM0.out.B 7 (by omega); simpa [ndVal] using this)
 have kn8:=Cls.cell (o:=d * 9 + 8) hgw (by have:=HD0.out _ HM0.out.B 8 (by omega); simpa [ndVal] using this)
 have HE0 : Hid (∀ W,Below w0.heap.size w0 W → _):=fun W hW => HEN.out W (HM0.out.B.trans (hW.mono HM0.out.B.size))
 refine wp_region_cls (by kernel_rfl) (by kernel_rfl) ?_
 repeat (go_big_quiet_step (first | (go_at_call 57; exact Calls.cls (HE0.out _ (Cls.h _)))))
 refine wpQuiet_nil ?_
 rintro w1 ⟨⟨w1,hb_⟩,rfl⟩
 have HM_w1 : Hid (MV w w1 tb lo (.slice (some ⟨g,0,none⟩) l.length cap) L1 l #[.i kd,.i p1,.i q1,.bool d1,.slice ya nm.length yc,.i p2,.i q2,.bool d2,.slice za asn.length zc,.i vl]):=HM0.out.step hb_
 clear kt k4 kn0 kn1 kn2 kn3 kn4 kn5 kn6 kn7 kn8 this hb_
 clear HE0 HEN hgw
 rcases findE_cases nd.es nm with ⟨he,hf⟩ | ⟨he,hf⟩
 case inr =>
  rw [hf]
  have HC : Hid (res = (l,3)):=HRES.out.symm.trans (if_pos he)
  clear HRES he hf
  have HE9 : Hid (res = _):=HC.out
  go_wp2_with ((with_reducible refine gS 51 ?_); refine sF HM_w1.out.vR rfl rfl (by kernel_rfl) rfl rfl ?_; intro wz vR t_)
  refine bpR Tryz.results56 vR Tryz.underlying51 rfl rfl (by kernel_rfl) rfl ?_
  rw [HE9.out]
  exact ⟨rfl,Turned.own2 HVW.out (HM_w1.out.fin hvt t_ HLR.out (by omega) (fun e => by have e3 : g = w.heap.size + 1:=(by simpa [Value.ownBlock] using e); omega) HLL.out)⟩
 have HR1 : Hid _:=HRES.out.symm.trans (if_neg (fun h => h he))
 rw [hf]
 clear HRES hf
 generalize ei nd.es nm = e at *
 obtain ⟨xa,xc,rfl,_⟩:=RdV.sliced (HRD.out w (Below.refl _ _))
 have hei : (e : Int) < (nd.es.length : Int):=by omega
 obtain ⟨eb,eo,rfl,hebl,_,hx⟩:=RdV.at (HRD.out w1 HM_w1.out.B) he
 obtain ⟨x1,g1,s1⟩:=hx 1 (by omega)
 obtain ⟨x2,g2,s2⟩:=hx 2 (by omega)
 obtain ⟨x3,g3,s3⟩:=hx 3 (by omega)
 have HHH : Hid (fi l (nd.es[e]?.getD en0).h < l.length):=HIN.out e he
 clear hx HIN
 generalize nd.es[e]?.getD en0 = en at *
 obtain ⟨enm,⟨hp,hq,hdr⟩⟩:=en
 obtain rfl : x1 = .i hp:=s1
 obtain rfl : x2 = .i hq:=s2
 obtain rfl : x3 = .bool hdr:=s3
 have t1:=HM_w1.out.vT.l1
 have n8 : w1.cell? ⟨g,d * 9 + 8,none⟩ = some (.slice (some ⟨eb,eo,none⟩) nd.es.length xc):=HD0.out _ HM_w1.out.B 8 (by omega)
 go_wp2
 obtain ⟨w2,hw2⟩ : ∃ W,W = w1.alloc (.cells #[.i hp,.i hq,.bool hdr] 48):=⟨_,rfl⟩
 have HM2 : Hid (MV w w2 tb lo (.slice (some ⟨g,0,none⟩) l.length cap) L1 l #[.i kd,.i p1,.i q1,.bool d1,.slice ya nm.length yc,.i p2,.i q2,.bool d2,.slice za asn.length zc,.i vl]):=HM_w1.out.step (by rw [hw2]; exact Below.newH _)
 have HH2 : Hid (VarA w2 w1.heap.size 48 #[.i hp,.i hq,.bool hdr]):=by rw [hw2]; exact VarA.new _ _ _
 have z1:=HM_w1.out.B.size
 have z0:=HM_w1.out.vR.lt
 have z2 : w1.heap.size ≤ w2.heap.size:=by rw [hw2]; simp
 rw [← hw2]
 clear hw2 t1 n8 g1 g2 g3 hebl HRD
 have HF2 : Hid (∀ W,Below w2.heap.size w2 W → _):=fun W hW => HFT.out W (HM2.out.B.trans (hW.mono HM2.out.B.size))
 haveI : Nonempty (Cls w2):=Cls.ne w2
 have kt:=Cls.cell HM2.out.vT.lt HM2.out.vT.l1
 have k5:=Cls.cell HM2.out.vO.lt (HM2.out.vO.c 5 rfl)
 have k6:=Cls.cell HM2.out.vO.lt (HM2.out.vO.c 6 rfl)
 have k7:=Cls.cell HM2.out.vO.lt (HM2.out.vO.c 7 rfl)
 refine wp_region_cls (by kernel_rfl) (by kernel_rfl) ?_
 repeat (go_big_quiet_step (first | (go_at_call 33; exact Calls.cls (HF2.out _ (Cls.h _)))))
 refine wpQuiet_nil ?_
 rintro w3 ⟨⟨w3,hb_⟩,rfl⟩
 have HM_w3 : Hid (MV w w3 tb lo (.slice (some ⟨g,0,none⟩) l.length cap) L1 l #[.i kd,.i p1,.i q1,.bool d1,.slice ya nm.length yc,.i p2,.i q2,.bool d2,.slice za asn.length zc,.i vl]):=HM2.out.step hb_
 have HH3 : Hid (VarA w3 w1.heap.size 48 #[.i hp,.i hq,.bool hdr]):=HH2.out.step hb_
 have z3:=hb_.size
 clear kt k5 k6 k7 this hb_
 clear HF2 HFT HH2 HM2
 have o7:=HM_w3.out.vO.c 7 rfl
 cases d2 with
 | false =>
  have HC : Hid (res = (l,2)):=HR1.out.trans (if_pos rfl)
  clear HR1
  have HE9 : Hid (res = _):=HC.out
  go_wp2_with ((with_reducible refine gS 51 ?_); refine sF HM_w3.out.vR rfl rfl (by kernel_rfl) rfl rfl ?_; intro wz vR t_)
  refine bpR Tryz.results56 vR Tryz.underlying51 rfl rfl (by kernel_rfl) rfl ?_
  rw [HE9.out]
  exact ⟨rfl,Turned.own2 HVW.out (HM_w3.out.fin hvt t_ HLR.out (by omega) (fun e => by have e3 : g = w.heap.size + 1:=(by simpa [Value.ownBlock] using e); omega) HLL.out)⟩
 | true =>
  have HR2 : Hid _:=HR1.out.trans (if_neg (by simp))
  clear HR1
  rcases findH_cases l (p2,q2,true) with ⟨ht,hf⟩ | ⟨ht,hf⟩
  case inr =>
   rw [hf]
   have HC : Hid (res = (l,1)):=HR2.out.trans (if_pos ht)
   clear HR2 ht hf
   have HE9 : Hid (res = _):=HC.out
   go_wp2_with ((with_reducible refine gS 51 ?_); refine sF HM_w3.out.vR rfl rfl (by kernel_rfl) rfl rfl ?_; intro wz vR t_)
   refine bpR Tryz.results56 vR Tryz.underlying51 rfl rfl (by kernel_rfl) rfl ?_
   rw [HE9.out]
   exact ⟨rfl,Turned.own2 HVW.out (HM_w3.out.fin hvt t_ HLR.out (by omega) (fun e => by have e3 : g = w.heap.size + 1:=(by simpa [Value.ownBlock] using e); omega) HLL.out)⟩
  rw [hf]
  have HR3 : Hid _:=HR2.out.trans (if_neg (fun h => h ht))
  clear HR2 hf
  generalize fi l (p2,q2,true) = t at *
  have hti : (t : Int) < (l.length : Int):=by omega
  have hS9 : w.heap.size + 2 ≤ w1.heap.size:=by omega
  by_cases htd : d = t
  ·subst htd
   have HR4 : Hid _:=HR3.out.trans (if_pos rfl)
   clear HR3
   go_wp2
   have HE3 : Hid (∀ W,Below w3.heap.size w3 W → _):=fun W hW => HEA.out W (HM_w3.out.B.trans (hW.mono HM_w3.out.B.size))
   have hgw : g < w3.heap.size:=Nat.lt_of_lt_of_le hg2 HM_w3.out.B.size
   haveI : Nonempty (Cls w3):=Cls.ne w3
   have kt:=Cls.cell HM_w3.out.vT.lt HM_w3.out.vT.l1
   have k8:=Cls.cell HM_w3.out.vO.lt (HM_w3.out.vO.c 8 rfl)
   have kn0:=Cls.cell (o:=d * 9) hgw (by have:=HD0.out _ HM_w3.out.B 0 (by omega); simpa [ndVal] using this)
   have kn1:=Cls.cell (o:=d * 9 + 1) hgw (by have:=HD0.out _ HM_w3.out.B 1 (by omega); simpa [ndVal] using this)
   have kn2:=Cls.cell (o:=d * 9 + 2) hgw (by have:=HD0.out _ HM_w3.out.B 2 (by omega); simpa [ndVal] using this)
   have kn3:=Cls.cell (o:=d * 9 + 3) hgw (by have:=HD0.out _ HM_w3.out.B 3 (by omega); simpa [ndVal] using this)
   have kn4:=Cls.cell (o:=d * 9 + 4) hgw (by have:=HD0.out _ HM_w3.out.B 4 (by omega); simpa [ndVal] using this)
   have kn5:=Cls.cell (o:=d * 9 + 5) hgw (by have:=HD0.out _ HM_w3.out.B 5 (by omega); simpa [ndVal] using this)
   have kn6:=Cls.cell (o:=d * 9 + 6) hgw (by have:=HD0.out _ HM_w3.out.B 6 (by omega); simpa [ndVal] using this)
   have kn7:=Cls.cell (o:=d * 9 + 7) hgw (by have:=HD0.out _ HM_w3.out.B 7 (by omega); simpa [ndVal] using this)
   have kn8:=Cls.cell (o:=d * 9 + 8) hgw (by have:=HD0.out _ HM_w3.out.B 8 (by omega); simpa [ndVal] using this)
   refine wp_region_cls (by kernel_rfl) (by kernel_rfl) ?_
   repeat (go_big_quiet_step (first | (go_at_call 57; exact Calls.cls (HE3.out _ (Cls.h _)))))
   refine wpQuiet_nil ?_
   rintro w4 ⟨⟨w4,hb_⟩,rfl⟩
   have HM_w4 : Hid (MV w w4 tb lo (.slice (some ⟨g,0,none⟩) l.length cap) L1 l #[.i kd,.i p1,.i q1,.bool d1,.slice ya nm.length yc,.i p2,.i q2,.bool true,.slice za asn.length zc,.i vl]):=HM_w3.out.step hb_
   have HH4 : Hid (VarA w4 w1.heap.size 48 #[.i hp,.i hq,.bool hdr]):=HH3.out.step hb_
   have z4:=hb_.size
   clear kt k8 kn0 kn1 kn2 kn3 kn4 kn5 kn6 kn7 kn8 this hb_
   clear HE3 HEA hgw
   generalize findE nd.es asn = f at *
   by_cases hf0 : 0 ≤ f
   ·have HC : Hid (res = (l,4)):=HR4.out.trans (if_pos hf0)
    clear HR4
    have HE9 : Hid (res = _):=HC.out
    go_wp2_with ((with_reducible refine gS 51 ?_); refine sF HM_w4.out.vR rfl rfl (by kernel_rfl) rfl rfl ?_; intro wz vR t_)
    refine bpR Tryz.results56 vR Tryz.underlying51 rfl rfl (by kernel_rfl) rfl ?_
    rw [HE9.out]
    exact ⟨rfl,Turned.own2 HVW.out (HM_w4.out.fin hvt t_ HLR.out (by omega) (fun e => by have e3 : g = w.heap.size + 1:=(by simpa [Value.ownBlock] using e); omega) HLL.out)⟩
   ·have HC : Hid (res = (addN (cutN l d e) d asn (hp,hq,hdr),0)):=HR4.out.trans (if_neg hf0)
    clear HR4
    have HW4 : Hid (MW (fun b => b = tb ∨ b = g) w w4 tb lo (.slice (some ⟨g,0,none⟩) l.length cap) L1 l #[.i kd,.i p1,.i q1,.bool d1,.slice ya nm.length yc,.i p2,.i q2,.bool true,.slice za asn.length zc,.i vl]):=HM_w4.out.w
    have tc:=HW4.out.vT.l1
    have HCUT : Hid _:=cutTV HW4.out.s (rfl) (fun b hb => HLN.out b (by omega)) (d:=d) (e:=e) (hd) (by rw [hnd]; exact he) ((HEL.out d).1)
    go_wp2_with fail
    refine Calls.mono HCUT.out ?_
    rintro r5 w5 ⟨rfl,s5,t5⟩
    have HM5 : Hid (MW (fun b => b = tb ∨ b = g) w w5 tb lo (.slice (some ⟨g,0,none⟩) l.length cap) L1 (cutN l d e) #[.i kd,.i p1,.i q1,.bool d1,.slice ya nm.length yc,.i p2,.i q2,.bool true,.slice za asn.length zc,.i vl]):=MW.turn HW4.out t5 s5 (.inr rfl) hg2 hgt
    have HH5 : Hid (VarA w5 w1.heap.size 48 #[.i hp,.i hq,.bool hdr]):=HH4.out.turn t5 (by show w1.heap.size ≠ g; omega)
    have z5:=t5.size
    clear tc HCUT s5 t5
    go_wp2
    refine wp_region_noPanic ?_
    refine wp_region_held_drew (S:=fun W => W.cell? ⟨tb,0,none⟩ = some (.slice (some ⟨g,0,none⟩) l.length cap) ∧ W.cell? ⟨w.heap.size,8,none⟩ = some (.slice za asn.length zc) ∧ W.cell? ⟨w1.heap.size,0,none⟩ = some (.i hp) ∧ W.cell? ⟨w1.heap.size,1,none⟩ = some (.i hq) ∧ W.cell? ⟨w1.heap.size,2,none⟩ = some (.bool hdr)) (by kernel_rfl) ⟨(HM5.out.vT.step (Below.drew (Below.refl w5.heap.size w5))).l1,(HM5.out.vO.step (Below.drew (Below.refl w5.heap.size w5))).c 8 rfl,(HH5.out.step (Below.drew (Below.refl w5.heap.size w5))).l3⟩ (fun hHeld => ?_)
    apply tkh 0 _ rfl (by kernel_rfl) rfl (by assumption)
    ·(intro _ h; (try dsimp only at h); go_simp; try with_reducible rfl)
    try simp only [qz]
    apply tkh 1 _ rfl (by kernel_rfl) rfl (by assumption)
    ·(intro _ h; (try dsimp only at h); go_simp; try with_reducible rfl)
    try simp only [qz]
    apply tkh 2 _ rfl (by kernel_rfl) rfl (by assumption)
    ·(intro _ h; (try dsimp only at h); go_simp; try with_reducible rfl)
    try simp only [qz]
    apply tkh 3 _ rfl (by kernel_rfl) rfl (by assumption)
    ·(intro _ h; (try dsimp only at h); go_simp; try with_reducible rfl)
    try simp only [qz]
    apply tkh 4 _ rfl (by kernel_rfl) rfl (by assumption)
    ·(intro _ h; (try dsimp only at h); go_simp; try with_reducible rfl)
    try simp only [qz]
    apply tkh 5 _ rfl (by kernel_rfl) rfl (by assumption)
    ·(intro _ h; (try dsimp only at h); go_simp; try with_reducible rfl)
    try simp only [qz]
    apply tkh 6 _ rfl (by kernel_rfl) rfl (by assumption)
    ·(intro _ h; (try dsimp only at h); go_simp; try with_reducible rfl)
    try simp only [qz]
    apply tkh 7 _ rfl (by kernel_rfl) rfl (by assumption)
    ·(intro _ h; (try dsimp only at h); go_simp; try with_reducible rfl)
    try simp only [qz]
    apply tkh 8 _ rfl (by kernel_rfl) rfl (by assumption)
    ·(intro _ h; (try dsimp only at h); go_simp; try with_reducible rfl)
    try simp only [qz]
    refine doH 9 (by kernel_rfl) rfl fun K hK => ?_
    go_simp
    refine Calls.mono (addTV (HM5.out.s.step (Below.drew (Below.refl w5.heap.size w5))) (by rw [length_cutN]) (fun b hb => HLN.out b (by have e1 : w5.drew.heap.size = w5.heap.size:=rfl; omega)) (by rw [length_cutN]; exact hd) _ asn (hp,hq,hdr) S2 (HRZ.out _ (HM5.out.t.andThen (Below.drew (Below.refl w5.heap.size w5)))) (Nat.le_trans (cutN_es l d e d hd) (HEL.out d).1) hn2) ?_
    rintro r6 w6 ⟨rfl,s6,t6⟩
    dsimp only
    have HM6 : Hid (MW (fun b => b = tb ∨ b = g) w w6 tb lo (.slice (some ⟨g,0,none⟩) l.length cap) L1 (addN (cutN l d e) d asn (hp,hq,hdr)) #[.i kd,.i p1,.i q1,.bool d1,.slice ya nm.length yc,.i p2,.i q2,.bool true,.slice za asn.length zc,.i vl]):=MW.turn ⟨HM5.out.t.andThen (Below.drew (Below.refl w5.heap.size w5)),HM5.out.vT.step (Below.drew (Below.refl w5.heap.size w5)),HM5.out.s.step (Below.drew (Below.refl w5.heap.size w5)),HM5.out.vO.step (Below.drew (Below.refl w5.heap.size w5)),HM5.out.vR.step (Below.drew (Below.refl w5.heap.size w5))⟩ t6 s6 (.inr rfl) hg2 hgt
    have HH6:=VarA.turn (HH5.out.step (Below.drew (Below.refl w5.heap.size w5))) t6 (by show w1.heap.size ≠ g; omega)
    refine hK.out _ _ ⟨HM6.out.vT.l1,HM6.out.vO.c 8 rfl,HH6.l3⟩ (fun hHeld => ?_)
    clear hK K
    try simp only [qz]
    refine wpAnyH_done (by kernel_rfl) (NoPanic.normal ?_) _
    clear hHeld HH6 s6 t6
    go_wp2_with ((with_reducible refine gS 51 ?_); refine sF HM6.out.vR rfl rfl (by kernel_rfl) rfl rfl ?_; intro wz vR t_)
    refine bpR Tryz.results56 vR Tryz.underlying51 rfl rfl (by kernel_rfl) rfl ?_
    rw [HC.out]
    exact ⟨rfl,Turned.own2 HVW.out (HM6.out.fin hvt t_ HLR.out (by omega) (fun e => by have e3 : g = w.heap.size + 1:=(by simpa [Value.ownBlock] using e); omega) HLL.out)⟩
  ·have HR4 : Hid _:=HR3.out.trans (if_neg (fun h => htd h.symm))
   clear HR3
   have htdi : ¬ ((t : Int) = (d : Int)):=by omega
   obtain ⟨xt,hct,hrf⟩:=HRF.out t ht
   go_wp2
   have HE3 : Hid (∀ W,Below w3.heap.size w3 W → _):=fun W hW => hrf W (HM_w3.out.B.trans (hW.mono HM_w3.out.B.size))
   have HCT : Hid _:=hct
   clear hct hrf
   have hgw : g < w3.heap.size:=Nat.lt_of_lt_of_le hg2 HM_w3.out.B.size
   generalize l[t]?.getD nd0 = nt at *
   haveI : Nonempty (Cls w3):=Cls.ne w3
   have kt:=Cls.cell HM_w3.out.vT.lt HM_w3.out.vT.l1
   have k8:=Cls.cell HM_w3.out.vO.lt (HM_w3.out.vO.c 8 rfl)
   have kn0:=Cls.cell (o:=t * 9) hgw (by have:=HCT.out _ HM_w3.out.B 0 (by omega); simpa [ndVal] using this)
   have kn1:=Cls.cell (o:=t * 9 + 1) hgw (by have:=HCT.out _ HM_w3.out.B 1 (by omega); simpa [ndVal] using this)
   have kn2:=Cls.cell (o:=t * 9 + 2) hgw (by have:=HCT.out _ HM_w3.out.B 2 (by omega); simpa [ndVal] using this)
   have kn3:=Cls.cell (o:=t * 9 + 3) hgw (by have:=HCT.out _ HM_w3.out.B 3 (by omega); simpa [ndVal] using this)
   have kn4:=Cls.cell (o:=t * 9 + 4) hgw (by have:=HCT.out _ HM_w3.out.B 4 (by omega); simpa [ndVal] using this)
   have kn5:=Cls.cell (o:=t * 9 + 5) hgw (by have:=HCT.out _ HM_w3.out.B 5 (by omega); simpa [ndVal] using this)
   have kn6:=Cls.cell (o:=t * 9 + 6) hgw (by have:=HCT.out _ HM_w3.out.B 6 (by omega); simpa [ndVal] using this)
   have kn7:=Cls.cell (o:=t * 9 + 7) hgw (by have:=HCT.out _ HM_w3.out.B 7 (by omega); simpa [ndVal] using this)
   have kn8:=Cls.cell (o:=t * 9 + 8) hgw (by have:=HCT.out _ HM_w3.out.B 8 (by omega); simpa [ndVal] using this)
   refine wp_region_cls (by kernel_rfl) (by kernel_rfl) ?_
   repeat (go_big_quiet_step (first | (go_at_call 59; exact Calls.cls (HE3.out _ (Cls.h _)))))
   refine wpQuiet_nil ?_
   rintro w4 ⟨⟨w4,hb_⟩,rfl⟩
   have HM_w4 : Hid (MV w w4 tb lo (.slice (some ⟨g,0,none⟩) l.length cap) L1 l #[.i kd,.i p1,.i q1,.bool d1,.slice ya nm.length yc,.i p2,.i q2,.bool true,.slice za asn.length zc,.i vl]):=HM_w3.out.step hb_
   have HH4 : Hid (VarA w4 w1.heap.size 48 #[.i hp,.i hq,.bool hdr]):=HH3.out.step hb_
   have z4:=hb_.size
   clear kt k8 kn0 kn1 kn2 kn3 kn4 kn5 kn6 kn7 kn8 this hb_
   clear HE3 HCT hgw
   generalize refD nt.es asn = f at *
   by_cases hf0 : f = 0
   case neg =>
    have HC : Hid (res = (l,f)):=HR4.out.trans (if_pos hf0)
    clear HR4
    have HE9 : Hid (res = _):=HC.out
    go_wp2_with ((with_reducible refine gS 51 ?_); refine sF HM_w4.out.vR rfl rfl (by kernel_rfl) rfl rfl ?_; intro wz vR t_)
    refine bpR Tryz.results56 vR Tryz.underlying51 rfl rfl (by kernel_rfl) rfl ?_
    rw [HE9.out]
    exact ⟨rfl,Turned.own2 HVW.out (HM_w4.out.fin hvt t_ HLR.out (by omega) (fun e => by have e3 : g = w.heap.size + 1:=(by simpa [Value.ownBlock] using e); omega) HLL.out)⟩
   subst hf0
   have HR5 : Hid _:=HR4.out.trans (if_neg (fun h => h rfl))
   clear HR4
   have h2:=HH4.out.c 2 rfl
   cases hdr with
   | false =>
    have HC : Hid (res = (addN (cutN l d e) t asn (hp,hq,false),0)):=HR5.out.trans (if_neg (by simp))
    clear HR5
    have HW4 : Hid (MW (fun b => b = tb ∨ b = g) w w4 tb lo (.slice (some ⟨g,0,none⟩) l.length cap) L1 l #[.i kd,.i p1,.i q1,.bool d1,.slice ya nm.length yc,.i p2,.i q2,.bool true,.slice za asn.length zc,.i vl]):=HM_w4.out.w
    have tc:=HW4.out.vT.l1
    have HCUT : Hid _:=cutTV HW4.out.s (rfl) (fun b hb => HLN.out b (by omega)) (d:=d) (e:=e) (hd) (by rw [hnd]; exact he) ((HEL.out d).1)
    go_wp2_with fail
    refine Calls.mono HCUT.out ?_
    rintro r5 w5 ⟨rfl,s5,t5⟩
    have HM5 : Hid (MW (fun b => b = tb ∨ b = g) w w5 tb lo (.slice (some ⟨g,0,none⟩) l.length cap) L1 (cutN l d e) #[.i kd,.i p1,.i q1,.bool d1,.slice ya nm.length yc,.i p2,.i q2,.bool true,.slice za asn.length zc,.i vl]):=MW.turn HW4.out t5 s5 (.inr rfl) hg2 hgt
    have HH5 : Hid (VarA w5 w1.heap.size 48 #[.i hp,.i hq,.bool false]):=HH4.out.turn t5 (by show w1.heap.size ≠ g; omega)
    have z5:=t5.size
    clear tc HCUT s5 t5
    go_wp2
    refine wp_region_noPanic ?_
    refine wp_region_held_drew (S:=fun W => W.cell? ⟨tb,0,none⟩ = some (.slice (some ⟨g,0,none⟩) l.length cap) ∧ W.cell? ⟨w.heap.size,8,none⟩ = some (.slice za asn.length zc) ∧ W.cell? ⟨w1.heap.size,0,none⟩ = some (.i hp) ∧ W.cell? ⟨w1.heap.size,1,none⟩ = some (.i hq) ∧ W.cell? ⟨w1.heap.size,2,none⟩ = some (.bool false)) (by kernel_rfl) ⟨(HM5.out.vT.step (Below.drew (Below.refl w5.heap.size w5))).l1,(HM5.out.vO.step (Below.drew (Below.refl w5.heap.size w5))).c 8 rfl,(HH5.out.step (Below.drew (Below.refl w5.heap.size w5))).l3⟩ (fun hHeld => ?_)
    apply tkh 0 _ rfl (by kernel_rfl) rfl (by assumption)
    ·(intro _ h; (try dsimp only at h); go_simp; try with_reducible rfl)
    try simp only [qz]
    apply tkh 1 _ rfl (by kernel_rfl) rfl (by assumption)
    ·(intro _ h; (try dsimp only at h); go_simp; try with_reducible rfl)
    try simp only [qz]
    apply tkh 2 _ rfl (by kernel_rfl) rfl (by assumption)
    ·(intro _ h; (try dsimp only at h); go_simp; try with_reducible rfl)
    try simp only [qz]
    apply tkh 3 _ rfl (by kernel_rfl) rfl (by assumption)
    ·(intro _ h; (try dsimp only at h); go_simp; try with_reducible rfl)
    try simp only [qz]
    apply tkh 4 _ rfl (by kernel_rfl) rfl (by assumption)
    ·(intro _ h; (try dsimp only at h); go_simp; try with_reducible rfl)
    try simp only [qz]
    apply tkh 5 _ rfl (by kernel_rfl) rfl (by assumption)
    ·(intro _ h; (try dsimp only at h); go_simp; try with_reducible rfl)
    try simp only [qz]
    apply tkh 6 _ rfl (by kernel_rfl) rfl (by assumption)
    ·(intro _ h; (try dsimp only at h); go_simp; try with_reducible rfl)
    try simp only [qz]
    apply tkh 7 _ rfl (by kernel_rfl) rfl (by assumption)
    ·(intro _ h; (try dsimp only at h); go_simp; try with_reducible rfl)
    try simp only [qz]
    apply tkh 8 _ rfl (by kernel_rfl) rfl (by assumption)
    ·(intro _ h; (try dsimp only at h); go_simp; try with_reducible rfl)
    try simp only [qz]
    refine doH 9 (by kernel_rfl) rfl fun K hK => ?_
    go_simp
    refine Calls.mono (addTV (HM5.out.s.step (Below.drew (Below.refl w5.heap.size w5))) (by rw [length_cutN]) (fun b hb => HLN.out b (by have e1 : w5.drew.heap.size = w5.heap.size:=rfl; omega)) (by rw [length_cutN]; exact ht) _ asn (hp,hq,false) S2 (HRZ.out _ (HM5.out.t.andThen (Below.drew (Below.refl w5.heap.size w5)))) (Nat.le_trans (cutN_es l d e t hd) (HEL.out t).1) hn2) ?_
    rintro r6 w6 ⟨rfl,s6,t6⟩
    dsimp only
    have HM6 : Hid (MW (fun b => b = tb ∨ b = g) w w6 tb lo (.slice (some ⟨g,0,none⟩) l.length cap) L1 (addN (cutN l d e) t asn (hp,hq,false)) #[.i kd,.i p1,.i q1,.bool d1,.slice ya nm.length yc,.i p2,.i q2,.bool true,.slice za asn.length zc,.i vl]):=MW.turn ⟨HM5.out.t.andThen (Below.drew (Below.refl w5.heap.size w5)),HM5.out.vT.step (Below.drew (Below.refl w5.heap.size w5)),HM5.out.s.step (Below.drew (Below.refl w5.heap.size w5)),HM5.out.vO.step (Below.drew (Below.refl w5.heap.size w5)),HM5.out.vR.step (Below.drew (Below.refl w5.heap.size w5))⟩ t6 s6 (.inr rfl) hg2 hgt
    have HH6:=VarA.turn (HH5.out.step (Below.drew (Below.refl w5.heap.size w5))) t6 (by show w1.heap.size ≠ g; omega)
    refine hK.out _ _ ⟨HM6.out.vT.l1,HM6.out.vO.c 8 rfl,HH6.l3⟩ (fun hHeld => ?_)
    clear hK K
    try simp only [qz]
    refine wpAnyH_done (by kernel_rfl) (NoPanic.normal ?_) _
    clear hHeld HH6 s6 t6
    go_wp2_with ((with_reducible refine gS 51 ?_); refine sF HM6.out.vR rfl rfl (by kernel_rfl) rfl rfl ?_; intro wz vR t_)
    refine bpR Tryz.results56 vR Tryz.underlying51 rfl rfl (by kernel_rfl) rfl ?_
    rw [HC.out]
    exact ⟨rfl,Turned.own2 HVW.out (HM6.out.fin hvt t_ HLR.out (by omega) (fun e => by have e3 : g = w.heap.size + 1:=(by simpa [Value.ownBlock] using e); omega) HLL.out)⟩
   | true =>
    have HR6 : Hid _:=HR5.out.trans (if_pos rfl)
    clear HR5
    go_wp2
    have HU4 : Hid (∀ W,Below w4.heap.size w4 W → _):=fun W hW => HUN.out (hp,hq,true) W (HM_w4.out.B.trans (hW.mono HM_w4.out.B.size))
    haveI : Nonempty (Cls w4):=Cls.ne w4
    have kt:=Cls.cell HM_w4.out.vT.lt HM_w4.out.vT.l1
    have k5:=Cls.cell HM_w4.out.vO.lt (HM_w4.out.vO.c 5 rfl)
    have k6:=Cls.cell HM_w4.out.vO.lt (HM_w4.out.vO.c 6 rfl)
    have k7:=Cls.cell HM_w4.out.vO.lt (HM_w4.out.vO.c 7 rfl)
    have kh0:=Cls.cell HH4.out.lt (HH4.out.c 0 rfl)
    have kh1:=Cls.cell HH4.out.lt (HH4.out.c 1 rfl)
    have kh2:=Cls.cell HH4.out.lt (HH4.out.c 2 rfl)
    refine wp_region_cls (by kernel_rfl) (by kernel_rfl) ?_
    repeat (go_big_quiet_step (first | (go_at_call 79; exact Calls.cls (HU4.out _ (Cls.h _)))))
    refine wpQuiet_nil ?_
    rintro w7 ⟨⟨w7,hb_⟩,rfl⟩
    have HM_w7 : Hid (MV w w7 tb lo (.slice (some ⟨g,0,none⟩) l.length cap) L1 l #[.i kd,.i p1,.i q1,.bool d1,.slice ya nm.length yc,.i p2,.i q2,.bool true,.slice za asn.length zc,.i vl]):=HM_w4.out.step hb_
    have HH7 : Hid (VarA w7 w1.heap.size 48 #[.i hp,.i hq,.bool true]):=HH4.out.step hb_
    have z7:=hb_.size
    clear kt k5 k6 k7 kh0 kh1 kh2 this hb_
    clear HU4 HUN
    generalize undN l (hp,hq,true) 12 (p2,q2,true) = f at *
    by_cases hf1 : f = 1
    ·subst hf1
     have HC : Hid (res = (l,8)):=HR6.out.trans (if_pos rfl)
     clear HR6
     have HE9 : Hid (res = _):=HC.out
     go_wp2_with ((with_reducible refine gS 51 ?_); refine sF HM_w7.out.vR rfl rfl (by kernel_rfl) rfl rfl ?_; intro wz vR t_)
     refine bpR Tryz.results56 vR Tryz.underlying51 rfl rfl (by kernel_rfl) rfl ?_
     rw [HE9.out]
     exact ⟨rfl,Turned.own2 HVW.out (HM_w7.out.fin hvt t_ HLR.out (by omega) (fun e => by have e3 : g = w.heap.size + 1:=(by simpa [Value.ownBlock] using e); omega) HLL.out)⟩
    have HR7 : Hid _:=HR6.out.trans (if_neg hf1)
    clear HR6
    by_cases hf2 : f = 2
    ·subst hf2
     have HC : Hid (res = (l,9)):=HR7.out.trans (if_pos rfl)
     clear HR7 hf1
     have HE9 : Hid (res = _):=HC.out
     go_wp2_with ((with_reducible refine gS 51 ?_); refine sF HM_w7.out.vR rfl rfl (by kernel_rfl) rfl rfl ?_; intro wz vR t_)
     refine bpR Tryz.results56 vR Tryz.underlying51 rfl rfl (by kernel_rfl) rfl ?_
     rw [HE9.out]
     exact ⟨rfl,Turned.own2 HVW.out (HM_w7.out.fin hvt t_ HLR.out (by omega) (fun e => by have e3 : g = w.heap.size + 1:=(by simpa [Value.ownBlock] using e); omega) HLL.out)⟩
    have HR8 : Hid _:=HR7.out.trans (if_neg hf2)
    clear HR7
    have HF7 : Hid (∀ W,Below w7.heap.size w7 W → _):=fun W hW => HFH.out (hp,hq,true) W (HM_w7.out.B.trans (hW.mono HM_w7.out.B.size))
    have hfh : findH l (hp,hq,true) = (fi l (hp,hq,true) : Int):=by unfold findH; rw [if_pos HHH.out]
    rw [hfh] at HF7
    have hkh:=HHH.out
    clear HFH HHH hfh
    generalize fi l (hp,hq,true) = kh at *
    have hkhi : (kh : Int) < (l.length : Int):=by omega
    go_wp2
    refine wp_region_noPanic ?_
    refine wp_region_held_drew (S:=fun W => W.cell? ⟨tb,0,none⟩ = some (.slice (some ⟨g,0,none⟩) l.length cap) ∧ W.cell? ⟨w1.heap.size,0,none⟩ = some (.i hp) ∧ W.cell? ⟨w1.heap.size,1,none⟩ = some (.i hq) ∧ W.cell? ⟨w1.heap.size,2,none⟩ = some (.bool true) ∧ W.cell? ⟨w.heap.size,5,none⟩ = some (.i p2) ∧ W.cell? ⟨w.heap.size,6,none⟩ = some (.i q2) ∧ W.cell? ⟨w.heap.size,7,none⟩ = some (.bool true)) (by kernel_rfl) ⟨(HM_w7.out.step (Below.drew (Below.refl w7.heap.size w7))).vT.l1,(HH7.out.step (Below.drew (Below.refl w7.heap.size w7))).c 0 rfl,(HH7.out.step (Below.drew (Below.refl w7.heap.size w7))).c 1 rfl,(HH7.out.step (Below.drew (Below.refl w7.heap.size w7))).c 2 rfl,(HM_w7.out.step (Below.drew (Below.refl w7.heap.size w7))).vO.c 5 rfl,(HM_w7.out.step (Below.drew (Below.refl w7.heap.size w7))).vO.c 6 rfl,(HM_w7.out.step (Below.drew (Below.refl w7.heap.size w7))).vO.c 7 rfl⟩ (fun hHeld => ?_)
    apply tkh 0 _ rfl (by kernel_rfl) rfl (by assumption)
    ·(intro _ h; (try dsimp only at h); go_simp; try with_reducible rfl)
    try simp only [qz]
    apply tkh 1 _ rfl (by kernel_rfl) rfl (by assumption)
    ·(intro _ h; (try dsimp only at h); go_simp; try with_reducible rfl)
    try simp only [qz]
    apply tkh 2 _ rfl (by kernel_rfl) rfl (by assumption)
    ·(intro _ h; (try dsimp only at h); go_simp; try with_reducible rfl)
    try simp only [qz]
    apply tkh 3 _ rfl (by kernel_rfl) rfl (by assumption)
    ·(intro _ h; (try dsimp only at h); go_simp; try with_reducible rfl)
    try simp only [qz]
    apply tkh 4 _ rfl (by kernel_rfl) rfl (by assumption)
    ·(intro _ h; (try dsimp only at h); go_simp; try with_reducible rfl)
    try simp only [qz]
    apply tkh 5 _ rfl (by kernel_rfl) rfl (by assumption)
    ·(intro _ h; (try dsimp only at h); go_simp; try with_reducible rfl)
    try simp only [qz]
    apply tkh 6 _ rfl (by kernel_rfl) rfl (by assumption)
    ·(intro _ h; (try dsimp only at h); go_simp; try with_reducible rfl)
    try simp only [qz]
    apply tkh 7 _ rfl (by kernel_rfl) rfl (by assumption)
    ·(intro _ h; (try dsimp only at h); go_simp; try with_reducible rfl)
    try simp only [qz]
    apply tkh 9 _ rfl (by kernel_rfl) rfl (by assumption)
    ·(intro _ h; (try dsimp only at h); go_simp; try with_reducible rfl)
    try simp only [qz]
    apply tkh 10 _ rfl (by kernel_rfl) rfl (by assumption)
    ·(intro _ h; (try dsimp only at h); go_simp; try with_reducible rfl)
    try simp only [qz]
    refine doH 8 (by kernel_rfl) rfl fun K hK => ?_
    go_simp
    refine Calls.mono (HF7.out _ (Below.drew (Below.refl w7.heap.size w7))) ?_
    rintro r8 w8 ⟨rfl,b8⟩
    dsimp only
    have b8w : Below w7.heap.size w7 w8:=(Below.drew (Below.refl w7.heap.size w7)).trans b8
    have HM8 : Hid (MV w w8 tb lo (.slice (some ⟨g,0,none⟩) l.length cap) L1 l #[.i kd,.i p1,.i q1,.bool d1,.slice ya nm.length yc,.i p2,.i q2,.bool true,.slice za asn.length zc,.i vl]):=HM_w7.out.step b8w
    have HH8 : Hid (VarA w8 w1.heap.size 48 #[.i hp,.i hq,.bool true]):=HH7.out.step b8w
    refine hK.out _ _ ⟨HM8.out.vT.l1,HH8.out.c 0 rfl,HH8.out.c 1 rfl,HH8.out.c 2 rfl,HM8.out.vO.c 5 rfl,HM8.out.vO.c 6 rfl,HM8.out.vO.c 7 rfl⟩ (fun hHeld => ?_)
    clear hK K
    try simp only [qz]
    apply tkh 11 _ rfl (by kernel_rfl) rfl (by assumption)
    ·(intro _ h; (try dsimp only at h); go_simp; try with_reducible rfl)
    try simp only [qz]
    apply tkh 12 _ rfl (by kernel_rfl) rfl (by assumption)
    ·(intro _ h; (try dsimp only at h); go_simp; try with_reducible rfl)
    try simp only [qz]
    refine doH 13 (by kernel_rfl) rfl fun K hK => ?_
    obtain ⟨xk,_,ck⟩:=HM8.out.s.at hkh
    have e3:=ck 3 (by omega)
    have e4:=ck 4 (by omega)
    have e5:=ck 5 (by omega)
    have fk:=SG.fz g HM8.out.s hkh
    go_simp
    have T9 : Turned (fun b => b = g) w8 (((w8.setCell ⟨g,kh * 9 + 3,none⟩ (.i p2)).setCell ⟨g,kh * 9 + 4,none⟩ (.i q2)).setCell ⟨g,kh * 9 + 5,none⟩ (.bool true)):=Turned.set (Turned.set (Turned.set (Turned.refl (fun b => b = g) w8) ⟨g,kh * 9 + 3,none⟩ _ rfl) ⟨g,kh * 9 + 4,none⟩ _ rfl) ⟨g,kh * 9 + 5,none⟩ _ rfl
    have HM9 : Hid (MW (fun b => b = tb ∨ b = g) w (((w8.setCell ⟨g,kh * 9 + 3,none⟩ (.i p2)).setCell ⟨g,kh * 9 + 4,none⟩ (.i q2)).setCell ⟨g,kh * 9 + 5,none⟩ (.bool true)) tb lo (.slice (some ⟨g,0,none⟩) l.length cap) L1 (parN l kh (p2,q2,true)) #[.i kd,.i p1,.i q1,.bool d1,.slice ya nm.length yc,.i p2,.i q2,.bool true,.slice za asn.length zc,.i vl]):=MW.turn HM8.out.w T9 (SG.setPar HM8.out.s hkh (p2,q2,true)) (.inr rfl) hg2 hgt
    have HH9 : Hid (VarA (((w8.setCell ⟨g,kh * 9 + 3,none⟩ (.i p2)).setCell ⟨g,kh * 9 + 4,none⟩ (.i q2)).setCell ⟨g,kh * 9 + 5,none⟩ (.bool true)) w1.heap.size 48 #[.i hp,.i hq,.bool true]):=HH8.out.turn T9 (by show w1.heap.size ≠ g; omega)
    refine hK.out _ _ ⟨HM9.out.vT.l1,HH9.out.c 0 rfl,HH9.out.c 1 rfl,HH9.out.c 2 rfl,HM9.out.vO.c 5 rfl,HM9.out.vO.c 6 rfl,HM9.out.vO.c 7 rfl⟩ (fun hHeld => ?_)
    clear hK K
    try simp only [qz]
    refine wpAnyH_done (by kernel_rfl) (NoPanic.normal ?_) _
    clear hHeld
    have z8:=b8w.size
    obtain ⟨w9,hw9⟩ : ∃ W,W = (((w8.setCell ⟨g,kh * 9 + 3,none⟩ (.i p2)).setCell ⟨g,kh * 9 + 4,none⟩ (.i q2)).setCell ⟨g,kh * 9 + 5,none⟩ (.bool true)):=⟨_,rfl⟩
    have z9 : w8.heap.size ≤ w9.heap.size:=by rw [hw9]; simp
    rw [← hw9] at HM9 HH9 ⊢
    clear hw9 T9 e3 e4 e5 ck fk b8 b8w HM8 HH8
    have HC : Hid (res = (addN (cutN (parN l kh (p2,q2,true)) d e) t asn (hp,hq,true),0)):=HR8.out
    clear HR8
    have tc:=HM9.out.vT.l1
    have HCUT : Hid _:=cutTV HM9.out.s (by rw [length_parN]) (fun b hb => HLN.out b (by omega)) (d:=d) (e:=e) (by rw [length_parN]; exact hd) (by rw [parN_es _ _ _ _ hkh,hnd]; exact he) (by rw [parN_es _ _ _ _ hkh]; exact (HEL.out d).1)
    go_wp2_with fail
    refine Calls.mono HCUT.out ?_
    rintro r5 w5 ⟨rfl,s5,t5⟩
    have HM5 : Hid (MW (fun b => b = tb ∨ b = g) w w5 tb lo (.slice (some ⟨g,0,none⟩) l.length cap) L1 (cutN (parN l kh (p2,q2,true)) d e) #[.i kd,.i p1,.i q1,.bool d1,.slice ya nm.length yc,.i p2,.i q2,.bool true,.slice za asn.length zc,.i vl]):=MW.turn HM9.out t5 s5 (.inr rfl) hg2 hgt
    have HH5 : Hid (VarA w5 w1.heap.size 48 #[.i hp,.i hq,.bool true]):=HH9.out.turn t5 (by show w1.heap.size ≠ g; omega)
    have z5:=t5.size
    clear tc HCUT s5 t5
    go_wp2
    refine wp_region_noPanic ?_
    refine wp_region_held_drew (S:=fun W => W.cell? ⟨tb,0,none⟩ = some (.slice (some ⟨g,0,none⟩) l.length cap) ∧ W.cell? ⟨w.heap.size,8,none⟩ = some (.slice za asn.length zc) ∧ W.cell? ⟨w1.heap.size,0,none⟩ = some (.i hp) ∧ W.cell? ⟨w1.heap.size,1,none⟩ = some (.i hq) ∧ W.cell? ⟨w1.heap.size,2,none⟩ = some (.bool true)) (by kernel_rfl) ⟨(HM5.out.vT.step (Below.drew (Below.refl w5.heap.size w5))).l1,(HM5.out.vO.step (Below.drew (Below.refl w5.heap.size w5))).c 8 rfl,(HH5.out.step (Below.drew (Below.refl w5.heap.size w5))).l3⟩ (fun hHeld => ?_)
    apply tkh 0 _ rfl (by kernel_rfl) rfl (by assumption)
    ·(intro _ h; (try dsimp only at h); go_simp; try with_reducible rfl)
    try simp only [qz]
    apply tkh 1 _ rfl (by kernel_rfl) rfl (by assumption)
    ·(intro _ h; (try dsimp only at h); go_simp; try with_reducible rfl)
    try simp only [qz]
    apply tkh 2 _ rfl (by kernel_rfl) rfl (by assumption)
    ·(intro _ h; (try dsimp only at h); go_simp; try with_reducible rfl)
    try simp only [qz]
    apply tkh 3 _ rfl (by kernel_rfl) rfl (by assumption)
    ·(intro _ h; (try dsimp only at h); go_simp; try with_reducible rfl)
    try simp only [qz]
    apply tkh 4 _ rfl (by kernel_rfl) rfl (by assumption)
    ·(intro _ h; (try dsimp only at h); go_simp; try with_reducible rfl)
    try simp only [qz]
    apply tkh 5 _ rfl (by kernel_rfl) rfl (by assumption)
    ·(intro _ h; (try dsimp only at h); go_simp; try with_reducible rfl)
    try simp only [qz]
    apply tkh 6 _ rfl (by kernel_rfl) rfl (by assumption)
    ·(intro _ h; (try dsimp only at h); go_simp; try with_reducible rfl)
    try simp only [qz]
    apply tkh 7 _ rfl (by kernel_rfl) rfl (by assumption)
    ·(intro _ h; (try dsimp only at h); go_simp; try with_reducible rfl)
    try simp only [qz]
    apply tkh 8 _ rfl (by kernel_rfl) rfl (by assumption)
    ·(intro _ h; (try dsimp only at h); go_simp; try with_reducible rfl)
    try simp only [qz]
    refine doH 9 (by kernel_rfl) rfl fun K hK => ?_
    go_simp
    refine Calls.mono (addTV (HM5.out.s.step (Below.drew (Below.refl w5.heap.size w5))) (by rw [length_cutN,length_parN]) (fun b hb => HLN.out b (by have e1 : w5.drew.heap.size = w5.heap.size:=rfl; omega)) (by rw [length_cutN,length_parN]; exact ht) _ asn (hp,hq,true) S2 (HRZ.out _ (HM5.out.t.andThen (Below.drew (Below.refl w5.heap.size w5)))) (Nat.le_trans (cutN_es _ d e t (by rw [length_parN]; exact hd)) (by rw [parN_es _ _ _ _ hkh]; exact (HEL.out t).1)) hn2) ?_
    rintro r6 w6 ⟨rfl,s6,t6⟩
    dsimp only
    have HM6 : Hid (MW (fun b => b = tb ∨ b = g) w w6 tb lo (.slice (some ⟨g,0,none⟩) l.length cap) L1 (addN (cutN (parN l kh (p2,q2,true)) d e) t asn (hp,hq,true)) #[.i kd,.i p1,.i q1,.bool d1,.slice ya nm.length yc,.i p2,.i q2,.bool true,.slice za asn.length zc,.i vl]):=MW.turn ⟨HM5.out.t.andThen (Below.drew (Below.refl w5.heap.size w5)),HM5.out.vT.step (Below.drew (Below.refl w5.heap.size w5)),HM5.out.s.step (Below.drew (Below.refl w5.heap.size w5)),HM5.out.vO.step (Below.drew (Below.refl w5.heap.size w5)),HM5.out.vR.step (Below.drew (Below.refl w5.heap.size w5))⟩ t6 s6 (.inr rfl) hg2 hgt
    have HH6:=VarA.turn (HH5.out.step (Below.drew (Below.refl w5.heap.size w5))) t6 (by show w1.heap.size ≠ g; omega)
    refine hK.out _ _ ⟨HM6.out.vT.l1,HM6.out.vO.c 8 rfl,HH6.l3⟩ (fun hHeld => ?_)
    clear hK K
    try simp only [qz]
    refine wpAnyH_done (by kernel_rfl) (NoPanic.normal ?_) _
    clear hHeld HH6 s6 t6
    go_wp2_with ((with_reducible refine gS 51 ?_); refine sF HM6.out.vR rfl rfl (by kernel_rfl) rfl rfl ?_; intro wz vR t_)
    refine bpR Tryz.results56 vR Tryz.underlying51 rfl rfl (by kernel_rfl) rfl ?_
    rw [HC.out]
    exact ⟨rfl,Turned.own2 HVW.out (HM6.out.fin hvt t_ HLR.out (by omega) (fun e => by have e3 : g = w.heap.size + 1:=(by simpa [Value.ownBlock] using e); omega) HLL.out)⟩
end Go.Proofs.YtblahkhniabhiaaGreatDoor
