/- The specification's Do. Condition: at most 2^21 of all. -/
import Derived.Test.YtblahkhniabhiaaGreatDoorFA01
import Derived.Test.YtblahkhniabhiaaGreatDoorFA08
namespace Go.Proofs.YtblahkhniabhiaaGreatDoor
open Go.RowKit
set_option linter.unusedVariables false
set_option linter.unusedSimpArgs false
set_option maxRecDepth 100000

theorem step_stF {ty t' : TypeId} {dst : Option Tmp} {x y : Operand} {pos : String} {af : Array Edge} {ops : Array Oper} {a : Act} {K : Act → World → Prop} {Q : Exit → Act → World → Prop} {E : Prop} {w : World} {g off : Nat} {T : TypeId} {old vs new : Array Value}
  (hv : VarA w g T old) (hx : a.eval x = .pointer (some ⟨g,off,none⟩)) (hy : a.eval y = .agg vs) (hi : (Tryz.prog.info? ty).map (·.size) = some vs.size) (h1 : vs.toList.all (·.oneCell') = true) (hl : off + vs.size ≤ old.size)
  (hnew : (old.toList.take off ++ vs.toList ++ old.toList.drop (off + vs.size)).toArray = new)
  (hK : ∀ w',VarA w' g T new → Turned (fun b => b = g) w w' → K (a.put dst undef) w') :
  if Region.wanted ⟨dst,.store ty x y,t',pos,af,none⟩ (yielded ops a.tmps) = true then Oper.wp Tryz.prog ⟨dst,.store ty x y,t',pos,af,none⟩ a w K Q else E:=by
 rw [if_pos (by simp [Region.wanted])]
 unfold Oper.wp execOp
 simp only [hx,hy,Instr.storeAt,Instr.sureAddr,Sem.run_bind,Sem.run_pure,Result.andThen_ok,storeF_run hv hl hi h1]
 rw [hnew]
 exact hK _ (VarA.row hv) (turned_row w g new)
theorem results_two {fn : Func} {p q : Tmp} {ty ty2 : TypeId} (h : fn.results = #[.cell p ty,.cell q ty2]) (tmps : Array Value) (w : World) (g g2 : Nat) (t t2 : TypeId) (cs cs2 : Array Value) (d d2 : TypeDesc)
  (hp : tmps.getD p undef = .pointer (some ⟨g,0,none⟩)) (hq : tmps.getD q undef = .pointer (some ⟨g2,0,none⟩)) (hg : VarA w g t cs) (hg2 : VarA w g2 t2 cs2)
  (hu : Tryz.prog.underlying ty = some d) (hd : d.isRow = true) (hi : (Tryz.prog.info? ty).map (·.size) = some cs.size) (hu2 : Tryz.prog.underlying ty2 = some d2) (hd2 : d2.isRow = true) (hi2 : (Tryz.prog.info? ty2).map (·.size) = some cs2.size) :
  (results fn tmps).run Tryz.prog w = .ok (.tuple #[.agg cs,.agg cs2]) w:=by
 have hp' : tmps[p]?.getD undef = .pointer (some ⟨g,0,none⟩):=by simpa using hp
 have hq' : tmps[q]?.getD undef = .pointer (some ⟨g2,0,none⟩):=by simpa using hq
 simp only [results,h]
 simp [Sem.run_bind,Result.andThen,hp',hq',asAddr,loadA_run hg hu hd hi,loadA_run hg2 hu2 hd2 hi2]
structure DS (w wc : World) (x : Value) (oc fc : Array Value) : Prop where
 B : Below w.heap.size w wc
 vT : VarA wc w.heap.size 26 #[x]
 vO : VarA wc (w.heap.size + 1) 53 oc
 vF : VarA wc (w.heap.size + 2) 48 fc
 vX : VarA wc (w.heap.size + 3) 26 #[.n0]
 vR : VarA wc (w.heap.size + 4) 51 #[.i 0,.i 0,.i 0,.bool false,.i 0,.n0]
theorem DS.step {w wc wd : World} {x : Value} {oc fc : Array Value} (m : DS w wc x oc fc) (h : Below wc.heap.size wc wd) : DS w wd x oc fc:=
 ⟨m.B.trans (h.mono m.B.size),m.vT.step h,m.vO.step h,m.vF.step h,m.vX.step h,m.vR.step h⟩
structure DT (w wc : World) (x : Value) (oc fc : Array Value) (tb lo : Nat) (v : Value) (l : List Nd) : Prop where
 m : DS w wc x oc fc
 vU : VarA wc tb 26 #[v]
 s : SG wc lo (LT lo tb) v l
theorem DT.step {w wc wd : World} {x : Value} {oc fc : Array Value} {tb lo : Nat} {v : Value} {l : List Nd} (t : DT w wc x oc fc tb lo v l) (h : Below wc.heap.size wc wd) : DT w wd x oc fc tb lo v l:=⟨t.m.step h,t.vU.step h,t.s.step h⟩
theorem below2 {w wc wy wz : World} {a b : Nat} (h : Below w.heap.size w wc) (t : Turned (fun k => k = a) wc wy) (u : Turned (fun k => k = b) wy wz) (ha : w.heap.size ≤ a) (hb : w.heap.size ≤ b) : Below w.heap.size w wz:=
 Turned.below (Turned.below h t h.size (fun i e => by omega)) u (Nat.le_trans h.size t.size) (fun i e => by omega)
def DoSaid (w : World) (res : List Nd × RpD) (e : Ending) (w' : World) : Prop:=
 ∃ ta tn tc zx,e = .returned (.tuple #[.agg #[.slice ta tn tc],rpV res.2 zx]) ∧ RdV w' (fun b => w.heap.size ≤ b ∧ b < w'.heap.size) (.slice ta tn tc) (ndsO res.1) ∧ RdV w' (fun b => w.heap.size ≤ b ∧ b < w'.heap.size) zx (ensDt res.2.list) ∧ Below w.heap.size w w'
theorem rdN_nil (w : World) (S : Nat → Prop) : RdV w S (.n0) (ndsO []):=⟨SG.nil _ _ _,fun b hb => by cases hb⟩
set_option maxHeartbeats 8000000 in
theorem specDo_any (x y z : Value) (l : List Nd) (o : OpD) (fr : Hd) (S : Nat → Prop) (w : World) (r : RdV w S x (ndsDt l)) (r1 : RdV w S y (.bytes o.nm)) (r2 : RdV w S z (.bytes o.asn)) (hS : ∀ b,S b → b < w.heap.size) (hsz : szNds l ≤ 2097152) (hn1 : o.nm.length ≤ 2097152) (hn2 : o.asn.length ≤ 2097152) :
  Calls Tryz.prog 15 #[.agg #[x],opV o y z,fr.v] w (DoSaid w (dO l o fr)):=by
 obtain ⟨xa,xc,rfl,_⟩:=RdV.sliced r
 obtain ⟨ya,yc,rfl⟩:=r1.sliceB
 obtain ⟨za,zc,rfl⟩:=r2.sliceB
 obtain ⟨kd,⟨p1,q1,d1⟩,nm,⟨p2,q2,d2⟩,asn,vl⟩:=o
 obtain ⟨fp,fq,fd⟩:=fr
 dsimp only at r1 r2 hn1 hn2 ⊢
 obtain ⟨res,hres⟩ : ∃ r,dO l ⟨kd,(p1,q1,d1),nm,(p2,q2,d2),asn,vl⟩ (fp,fq,fd) = r:=⟨_,rfl⟩
 rw [hres]
 unfold dO at hres
 have HRES : Hid _:=hres
 have HTO : Hid (∀ W,Below w.heap.size w W → _):=fun W hW => specTree_any _ l S W (RdV.step r hW) hsz
 have HOO : Hid (∀ W,Below w.heap.size w W → _):=fun W hW => specOpOk_any _ _ ⟨kd,(p1,q1,d1),nm,(p2,q2,d2),asn,vl⟩ S W (RdV.step r1 hW) (RdV.step r2 hW) hn1 hn2
 have hn : l.length ≤ 2097152:=by have : l.length ≤ szNds l:=Nat.le_add_right _ _; omega
 have HCP : Hid (treeOk l = true → ∀ W,Below w.heap.size w W → _):=fun ht W hW => specCopy4_any _ l S W (RdV.step r hW) hsz (by have:=(treeOk_small ht).1; omega) (fun i => ((treeOk_small ht).2 i).1)
 have HHO : Hid (∀ W,_):=fun W => specHandleOk_any (fp,fq,fd) W
 have HF1 : Hid (∀ W,Below w.heap.size w W → _):=fun W hW => specFind_any _ l (fp,fq,fd) S W (RdV.step r hW) (by omega)
 have HF2 : Hid (∀ W,Below w.heap.size w W → _):=fun W hW => specFind_any _ l (fp,fq,!fd) S W (RdV.step r hW) (by omega)
 have HRY : Hid (∀ W,Below w.heap.size w W → RdV W S (.slice ya nm.length yc) (.bytes nm)):=fun W hW => RdV.step r1 hW
 have HRZ : Hid (∀ W,Below w.heap.size w W → RdV W S (.slice za asn.length zc) (.bytes asn)):=fun W hW => RdV.step r2 hW
 have HS : Hid (∀ b,S b → b < w.heap.size):=hS
 clear hres r r1 r2 hS
 go_enter Tryz.func15,Tryz.ntmps15
 go_wp2_with fail
 obtain ⟨w0,hw0⟩ : ∃ W,W = ((((w.alloc (.cells #[(.slice xa l.length xc)] 26)).alloc (.cells #[.i kd,.i p1,.i q1,.bool d1,.slice ya nm.length yc,.i p2,.i q2,.bool d2,.slice za asn.length zc,.i vl] 53)).alloc (.cells #[.i fp,.i fq,.bool fd] 48)).alloc (.cells #[.n0] 26)).alloc (.cells #[.i 0,.i 0,.i 0,.bool false,.i 0,.n0] 51):=⟨_,rfl⟩
 have B0 : Below w.heap.size w w0:=by rw [hw0]; exact (((((Below.refl _ _).alloc (Nat.le_refl _) _).alloc (by simp) _).alloc (by simp; omega) _).alloc (by simp; omega) _).alloc (by simp; omega) _
 have HM0 : Hid (DS w w0 (.slice xa l.length xc) #[.i kd,.i p1,.i q1,.bool d1,.slice ya nm.length yc,.i p2,.i q2,.bool d2,.slice za asn.length zc,.i vl] #[.i fp,.i fq,.bool fd]):=⟨B0,by rw [hw0]; exact ((((VarA.new w _ _).alloc _).alloc _).alloc _).alloc _,by rw [hw0]; have:=(((VarA.new (w.alloc (.cells #[(.slice xa l.length xc)] 26)) 53 #[.i kd,.i p1,.i q1,.bool d1,.slice ya nm.length yc,.i p2,.i q2,.bool d2,.slice za asn.length zc,.i vl]).alloc (.cells #[.i fp,.i fq,.bool fd] 48)).alloc (.cells #[.n0] 26)).alloc (.cells #[.i 0,.i 0,.i 0,.bool false,.i 0,.n0] 51); simpa using this,
  by rw [hw0]; have:=((VarA.new ((w.alloc (.cells #[(.slice xa l.length xc)] 26)).alloc (.cells #[.i kd,.i p1,.i q1,.bool d1,.slice ya nm.length yc,.i p2,.i q2,.bool d2,.slice za asn.length zc,.i vl] 53)) 48 #[.i fp,.i fq,.bool fd]).alloc (.cells #[.n0] 26)).alloc (.cells #[.i 0,.i 0,.i 0,.bool false,.i 0,.n0] 51); simpa using this,
  by rw [hw0]; have:=(VarA.new (((w.alloc (.cells #[(.slice xa l.length xc)] 26)).alloc (.cells #[.i kd,.i p1,.i q1,.bool d1,.slice ya nm.length yc,.i p2,.i q2,.bool d2,.slice za asn.length zc,.i vl] 53)).alloc (.cells #[.i fp,.i fq,.bool fd] 48)) 26 #[.n0]).alloc (.cells #[.i 0,.i 0,.i 0,.bool false,.i 0,.n0] 51); simpa using this,
  by rw [hw0]; have:=VarA.new ((((w.alloc (.cells #[(.slice xa l.length xc)] 26)).alloc (.cells #[.i kd,.i p1,.i q1,.bool d1,.slice ya nm.length yc,.i p2,.i q2,.bool d2,.slice za asn.length zc,.i vl] 53)).alloc (.cells #[.i fp,.i fq,.bool fd] 48)).alloc (.cells #[.n0] 26)) 51 #[.i 0,.i 0,.i 0,.bool false,.i 0,.n0]; simpa using this⟩
 rw [← hw0]
 clear hw0 B0
 refine Calls.mono (HTO.out _ HM0.out.B) ?_
 rintro e1 w1 ⟨rfl,b1⟩
 have HM1 : Hid (DS w w1 (.slice xa l.length xc) #[.i kd,.i p1,.i q1,.bool d1,.slice ya nm.length yc,.i p2,.i q2,.bool d2,.slice za asn.length zc,.i vl] #[.i fp,.i fq,.bool fd]):=HM0.out.step b1
 clear HM0 b1
 have HTE : Hid (treeOk l = treeOk l):=rfl
 obtain ⟨tr,htr⟩ : ∃ b,treeOk l = b:=⟨_,rfl⟩
 rw [htr]
 have HTR0 : Hid (treeOk l = tr):=htr
 clear htr HTE
 cases tr with
 | false =>
  have HC : Hid (res = ([],rc 11)):=by show res = _; rw [← HRES.out,if_neg (by rw [HTR0.out]; simp)]
  clear HRES
  go_wp2_with (first | ((with_reducible refine gS 26 ?_); refine sF HM1.out.vX rfl rfl (by kernel_rfl) rfl rfl ?_; intro wy vY tY) | ((with_reducible refine gS 51 ?_); refine wpList_storeF (HM1.out.vR.turn tY (by show w.heap.size + 4 ≠ w.heap.size + 3; omega)) rfl rfl (by kernel_rfl) rfl (of_decide_eq_true rfl) rfl ?_; intro wz vZ t_))
  refine bodyPost_ret (results_two Tryz.results15 _ _ _ _ _ _ _ _ _ _ rfl rfl (vY.turn t_ (by show w.heap.size + 3 ≠ w.heap.size + 4; omega)) vZ Tryz.underlying26 rfl (by kernel_rfl) Tryz.underlying51 rfl (by kernel_rfl)) rfl ?_
  unfold DoSaid
  rw [HC.out]
  exact ⟨_,_,_,_,rfl,rdN_nil _ _,rd_nil _ _,below2 HM1.out.B tY t_ (by omega) (by omega)⟩
 | true =>
  have HTR : Hid (treeOk l = true):=HTR0.out
  obtain ⟨o0,o1,o2,o3,o4,o5,o6,o7,o8,o9⟩:=HM1.out.vO.l10
  go_wp2_with fail
  refine Calls.mono (HOO.out _ HM1.out.B) ?_
  rintro e2 w2 ⟨rfl,b_⟩
  have HM2 : Hid (DS w w2 (.slice xa l.length xc) #[.i kd,.i p1,.i q1,.bool d1,.slice ya nm.length yc,.i p2,.i q2,.bool d2,.slice za asn.length zc,.i vl] #[.i fp,.i fq,.bool fd]):=HM1.out.step b_
  clear o0 o1 o2 o3 o4 o5 o6 o7 o8 o9 b_
  obtain ⟨oo,hoo⟩ : ∃ b,OOk ⟨kd,(p1,q1,d1),nm,(p2,q2,d2),asn,vl⟩ = b:=⟨_,rfl⟩
  rw [hoo]
  have HOK0 : Hid (OOk ⟨kd,(p1,q1,d1),nm,(p2,q2,d2),asn,vl⟩ = oo):=hoo
  clear hoo
  cases oo with
  | false =>
   have HC : Hid (res = ([],rc 11)):=by show res = _; rw [← HRES.out,if_neg (by rw [HOK0.out]; simp)]
   clear HRES
   go_wp2_with (first | ((with_reducible refine gS 26 ?_); refine sF HM2.out.vX rfl rfl (by kernel_rfl) rfl rfl ?_; intro wy vY tY) | ((with_reducible refine gS 51 ?_); refine wpList_storeF (HM2.out.vR.turn tY (by show w.heap.size + 4 ≠ w.heap.size + 3; omega)) rfl rfl (by kernel_rfl) rfl (of_decide_eq_true rfl) rfl ?_; intro wz vZ t_))
   refine bodyPost_ret (results_two Tryz.results15 _ _ _ _ _ _ _ _ _ _ rfl rfl (vY.turn t_ (by show w.heap.size + 3 ≠ w.heap.size + 4; omega)) vZ Tryz.underlying26 rfl (by kernel_rfl) Tryz.underlying51 rfl (by kernel_rfl)) rfl ?_
   unfold DoSaid
   rw [HC.out]
   exact ⟨_,_,_,_,rfl,rdN_nil _ _,rd_nil _ _,below2 HM2.out.B tY t_ (by omega) (by omega)⟩
  | true =>
   have HOK : Hid (OOk ⟨kd,(p1,q1,d1),nm,(p2,q2,d2),asn,vl⟩ = true):=HOK0.out
   have HR1 : Hid _:=HRES.out.symm.trans (if_pos (by rw [HTR.out,HOK.out]; rfl))
   clear HRES
   have t2:=HM2.out.vT.l1
   have z2:=HM2.out.vR.lt
   go_wp2_with fail
   refine Calls.mono (HCP.out HTR.out _ HM2.out.B) ?_
   rintro e3 w3 ⟨ca,cn,cc,rfl,sn,b3⟩
   have z3:=b3.size
   have HSN : Hid (SN w3 w2.heap.size (.slice ca cn cc) l):=sn
   have HD4 : Hid (DT w (w3.alloc (.cells #[.slice ca cn cc] 26)) (.slice xa l.length xc) #[.i kd,.i p1,.i q1,.bool d1,.slice ya nm.length yc,.i p2,.i q2,.bool d2,.slice za asn.length zc,.i vl] #[.i fp,.i fq,.bool fd] w3.heap.size w2.heap.size (.slice ca cn cc) l):=⟨(HM2.out.step b3).step (Below.newH _),VarA.new _ _ _,(SG.mono sn.sg (fun b hb h => ⟨h,by omega⟩)).step (Below.newH _)⟩
   have zw:=HM2.out.B.size
   clear sn b3 t2
   by_cases hk4 : kd = 4
   case neg =>
    have HC : Hid (res = doD l ⟨kd,(p1,q1,d1),nm,(p2,q2,d2),asn,vl⟩ (fp,fq,fd)):=HR1.out.trans (if_neg (fun h => hk4 h.1))
    clear HR1
    have z4 : (w3.alloc (.cells #[.slice ca cn cc] 26)).heap.size = w3.heap.size + 1:=by simp
    obtain ⟨o0,o1,o2,o3,o4,o5,o6,o7,o8,o9⟩:=HD4.out.m.vO.l10
    obtain ⟨f0,f1,f2⟩:=HD4.out.m.vF.l3
    have zc:=HD4.out.m.B.size
    have HV9 : (Value.slice ca cn cc).ownBlock ≠ some w3.heap.size:=fun e => by have:=(HSN.out.lt _ e).2; omega
    have HDO : Hid _:=specL4do_any w3.heap.size w2.heap.size ⟨kd,(p1,q1,d1),nm,(p2,q2,d2),asn,vl⟩ (fp,fq,fd) _ _ l S (LT w2.heap.size w3.heap.size) (w3.alloc (.cells #[.slice ca cn cc] 26)) ⟨_,HD4.out.vU,HD4.out.s,HV9⟩ (fun h => h.2 rfl) (fun b hb => ⟨by omega,by omega⟩) (by omega) (by omega) HTR.out hsz (HRY.out _ HD4.out.m.B) (HRZ.out _ HD4.out.m.B) (fun b hb => by have:=HS.out b hb; omega) hn1 hn2 (OOk_kind HOK.out)
    go_wp2_with fail
    refine Calls.mono HDO.out ?_
    rintro e8 w8 ⟨zz,rfl,rz,⟨v8,vU8,s8,hv8⟩,T8⟩
    have T8:=T8 _ HD4.out.vU
    obtain ⟨ra,rn,rfl,_⟩:=RdV.sliced rz
    obtain ⟨ta,tc,rfl⟩:=s8.shape
    generalize doD l ⟨kd,(p1,q1,d1),nm,(p2,q2,d2),asn,vl⟩ (fp,fq,fd) = rr at *
    obtain ⟨rl,⟨rcode,⟨rh0,rh1,rh2⟩,rval,rlist⟩⟩:=rr
    dsimp only at *
    have z8:=T8.size
    have hown : ∀ b,(b = w3.heap.size ∨ (Value.slice ca cn cc).ownBlock = some b) → w2.heap.size ≤ b ∧ b < (w3.alloc (.cells #[.slice ca cn cc] 26)).heap.size:=fun b hb => by rcases hb with rfl | h; exact ⟨by omega,by omega⟩; exact ⟨(HSN.out.lt _ h).1,by have:=(HSN.out.lt _ h).2; omega⟩
    have HB8 : Hid (Below w.heap.size w w8):=Turned.below HD4.out.m.B T8 HD4.out.m.B.size (fun i hi => by have:=hown i hi; omega)
    have HX8 : Hid (VarA w8 (w.heap.size + 3) 26 #[.n0]):=HD4.out.m.vX.turn T8 (fun e => by have:=hown _ e; omega)
    have HR8 : Hid (VarA w8 (w.heap.size + 4) 51 #[.i 0,.i 0,.i 0,.bool false,.i 0,.n0]):=HD4.out.m.vR.turn T8 (fun e => by have:=hown _ e; omega)
    generalize hrn : rl.length = tn at *
    generalize hzn : rlist.length = zn at *
    have HU8 : Hid (VarA w8 w3.heap.size 26 #[.slice ta tn tc]):=vU8
    have HS8 : Hid (SN w8 w2.heap.size (.slice ta tn tc) rl):=s8.sn (fun b h => h.1)
    have HZ8 : Hid _:=rz
    clear T8 s8 vU8 rz HDO hrn hzn o0 o1 o2 o3 o4 o5 o6 o7 o8 o9 f0 f1 f2 HV9 hown
    go_wp2
    obtain ⟨w9,hw9⟩ : ∃ W,W = (w8.alloc (.cells #[.i rcode,.i rh0,.i rh1,.bool rh2,.i rval,.slice ra zn rn] 51)):=⟨_,rfl⟩
    have b9 : Below w8.heap.size w8 w9:=by rw [hw9]; exact Below.newH _
    have HP9 : Hid (VarA w9 w8.heap.size 51 #[.i rcode,.i rh0,.i rh1,.bool rh2,.i rval,.slice ra zn rn]):=by rw [hw9]; exact VarA.new _ _ _
    rw [← hw9]
    clear hw9
    have HX9 : Hid _:=HX8.out.step b9
    have HR9 : Hid _:=HR8.out.step b9
    have HU9 : Hid _:=HU8.out.step b9
    have HS9 : Hid (SN w9 w2.heap.size (.slice ta tn tc) rl):=SN.step HS8.out b9
    have HZ9 : Hid _:=RdV.step HZ8.out b9
    have HB9 : Hid (Below w.heap.size w w9):=HB8.out.trans (b9.mono HB8.out.size)
    have z9:=b9.size
    have z90:=HX8.out.lt
    clear b9 HX8 HR8 HU8 HS8 HZ8 HB8
    refine wp_region_noPanic ?_
    refine wp_region_held_drew (S:=fun W => W.cell? ⟨w3.heap.size,0,none⟩ = some (.slice ta tn tc) ∧ W.cell? ⟨w8.heap.size,0,none⟩ = some (.i rcode) ∧ W.cell? ⟨w8.heap.size,1,none⟩ = some (.i rh0) ∧ W.cell? ⟨w8.heap.size,2,none⟩ = some (.i rh1) ∧ W.cell? ⟨w8.heap.size,3,none⟩ = some (.bool rh2) ∧ W.cell? ⟨w8.heap.size,4,none⟩ = some (.i rval) ∧ W.cell? ⟨w8.heap.size,5,none⟩ = some (.slice ra zn rn)) (by kernel_rfl) ⟨VarA.c (VarA.dr HU9.out) 0 rfl,VarA.c (VarA.dr HP9.out) 0 rfl,VarA.c (VarA.dr HP9.out) 1 rfl,VarA.c (VarA.dr HP9.out) 2 rfl,VarA.c (VarA.dr HP9.out) 3 rfl,VarA.c (VarA.dr HP9.out) 4 rfl,VarA.c (VarA.dr HP9.out) 5 rfl⟩ (fun hHeld => ?_)
    apply tkh 0 _ rfl (by kernel_rfl) rfl (by assumption)
    ·(intro _ h; (try dsimp only at h); go_simp; try with_reducible rfl)
    try simp only [qz]
    apply tkh 1 _ rfl (by kernel_rfl) rfl (by assumption)
    ·(intro _ h; (try dsimp only at h); go_simp; try with_reducible rfl)
    try simp only [qz]
    refine doH 2 (by kernel_rfl) rfl fun K hK => ?_
    refine step_stF (VarA.dr HX9.out) (by rfl) (by rfl) (by kernel_rfl) rfl (of_decide_eq_true rfl) rfl ?_
    intro wy vY tY
    have uY:=(VarA.dr HU9.out).turn tY (by show w3.heap.size ≠ w.heap.size + 3; omega)
    have pY:=(VarA.dr HP9.out).turn tY (by show w8.heap.size ≠ w.heap.size + 3; omega)
    refine hK.out _ _ ⟨VarA.c uY 0 rfl,VarA.c pY 0 rfl,VarA.c pY 1 rfl,VarA.c pY 2 rfl,VarA.c pY 3 rfl,VarA.c pY 4 rfl,VarA.c pY 5 rfl⟩ (fun hHeld => ?_)
    clear hK K
    try simp only [qz]
    refine doH 3 (by kernel_rfl) rfl fun K hK => ?_
    refine step_stF ((VarA.dr HR9.out).turn tY (by show w.heap.size + 4 ≠ w.heap.size + 3; omega)) (by rfl) (by rfl) (by kernel_rfl) rfl (of_decide_eq_true rfl) rfl ?_
    intro wz vZ t_
    have uZ:=uY.turn t_ (by show w3.heap.size ≠ w.heap.size + 4; omega)
    have pZ:=pY.turn t_ (by show w8.heap.size ≠ w.heap.size + 4; omega)
    refine hK.out _ _ ⟨VarA.c uZ 0 rfl,VarA.c pZ 0 rfl,VarA.c pZ 1 rfl,VarA.c pZ 2 rfl,VarA.c pZ 3 rfl,VarA.c pZ 4 rfl,VarA.c pZ 5 rfl⟩ (fun hHeld => ?_)
    clear hK K
    try simp only [qz]
    refine wpAnyH_done (by kernel_rfl) (NoPanic.normal ?_) _
    clear hHeld uZ pZ uY pY
    go_wp2
    refine bodyPost_ret (results_two Tryz.results15 _ _ _ _ _ _ _ _ _ _ rfl rfl (vY.turn t_ (by show w.heap.size + 3 ≠ w.heap.size + 4; omega)) vZ Tryz.underlying26 rfl (by kernel_rfl) Tryz.underlying51 rfl (by kernel_rfl)) rfl ?_
    unfold DoSaid
    rw [HC.out]
    have zY : w9.heap.size ≤ wy.heap.size:=tY.size
    exact ⟨_,_,_,_,rfl,RdV.mono (fun b hb => ⟨by omega,by have:=t_.size; have:=hb.2; omega⟩) (RdV.keep (t_.keeps (fun b hb e => by have e2 : b = w.heap.size + 4:=e; omega)) (RdV.keep (tY.keeps (fun b hb e => by have e2 : b = w.heap.size + 3:=e; omega)) (RdV.step (SN.rdO HS9.out) (Below.drew (Below.refl w9.heap.size w9))))),RdV.mono (fun b hb => ⟨by omega,by have:=t_.size; have:=hb.2; omega⟩) (RdV.keep (t_.keeps (fun b hb e => by have e2 : b = w.heap.size + 4:=e; omega)) (RdV.keep (tY.keeps (fun b hb e => by have e2 : b = w.heap.size + 3:=e; omega)) (RdV.step HZ9.out (Below.drew (Below.refl w9.heap.size w9))))),below2 (HB9.out.trans ((Below.drew (Below.refl w9.heap.size w9)).mono HB9.out.size)) tY t_ (by omega) (by omega)⟩
   subst hk4
   obtain ⟨o0,o1,o2,o3,o4,o5,o6,o7,o8,o9⟩:=HD4.out.m.vO.l10
   obtain ⟨f0,f1,f2⟩:=HD4.out.m.vF.l3
   go_wp2_with fail
   refine Calls.mono (HHO.out _) ?_
   rintro e5 w5 ⟨rfl,b_⟩
   have HD5 : Hid (DT w w5 (.slice xa l.length xc) #[.i 4,.i p1,.i q1,.bool d1,.slice ya nm.length yc,.i p2,.i q2,.bool d2,.slice za asn.length zc,.i vl] #[.i fp,.i fq,.bool fd] w3.heap.size w2.heap.size (.slice ca cn cc) l):=HD4.out.step b_
   clear b_
   clear o0 o1 o2 o3 o4 o5 o6 o7 o8 o9 f0 f1 f2
   obtain ⟨bo,hbo⟩ : ∃ b,HOk (fp,fq,fd) = b:=⟨_,rfl⟩
   rw [hbo]
   have z5 : w3.heap.size < w5.heap.size:=HD5.out.vU.lt
   cases bo with
   | false =>
    have HC : Hid (res = (l,rc 11)):=HR1.out.trans (if_pos (by simp [badFr,hbo]))
    clear HR1
    skip
    have tu:=HD5.out.vU.l1
    go_wp2_with (first | ((with_reducible refine gS 26 ?_); refine sF HD5.out.m.vX rfl rfl (by kernel_rfl) rfl rfl ?_; intro wy vY tY) | ((with_reducible refine gS 51 ?_); refine wpList_storeF (HD5.out.m.vR.turn tY (by show w.heap.size + 4 ≠ w.heap.size + 3; omega)) rfl rfl (by kernel_rfl) rfl (of_decide_eq_true rfl) rfl ?_; intro wz vZ t_))
    refine bodyPost_ret (results_two Tryz.results15 _ _ _ _ _ _ _ _ _ _ rfl rfl (vY.turn t_ (by show w.heap.size + 3 ≠ w.heap.size + 4; omega)) vZ Tryz.underlying26 rfl (by kernel_rfl) Tryz.underlying51 rfl (by kernel_rfl)) rfl ?_
    unfold DoSaid
    rw [HC.out]
    exact ⟨_,_,_,_,rfl,RdV.mono (fun b hb => ⟨by omega,Nat.lt_of_lt_of_le hb.2 (Nat.le_trans tY.size t_.size)⟩) (RdV.keep (t_.keeps (fun b hb e => by have e2 : b = w.heap.size + 4:=e; omega)) (RdV.keep (tY.keeps (fun b hb e => by have e2 : b = w.heap.size + 3:=e; omega)) (SN.rdO (HD5.out.s.sn (fun b h => h.1))))),rd_nil _ _,below2 HD5.out.m.B tY t_ (by omega) (by omega)⟩
   | true =>
    obtain ⟨o0,o1,o2,o3,o4,o5,o6,o7,o8,o9⟩:=HD5.out.m.vO.l10
    obtain ⟨f0,f1,f2⟩:=HD5.out.m.vF.l3
    have tv:=HD5.out.m.vT.l1
    by_cases h1 : fp = p2
    case neg =>
     have HC : Hid (res = (l,rc 11)):=HR1.out.trans (if_pos (by simp [badFr,h1]))
     clear HR1
     skip
     have tu:=HD5.out.vU.l1
     go_wp2_with (first | ((with_reducible refine gS 26 ?_); refine sF HD5.out.m.vX rfl rfl (by kernel_rfl) rfl rfl ?_; intro wy vY tY) | ((with_reducible refine gS 51 ?_); refine wpList_storeF (HD5.out.m.vR.turn tY (by show w.heap.size + 4 ≠ w.heap.size + 3; omega)) rfl rfl (by kernel_rfl) rfl (of_decide_eq_true rfl) rfl ?_; intro wz vZ t_))
     refine bodyPost_ret (results_two Tryz.results15 _ _ _ _ _ _ _ _ _ _ rfl rfl (vY.turn t_ (by show w.heap.size + 3 ≠ w.heap.size + 4; omega)) vZ Tryz.underlying26 rfl (by kernel_rfl) Tryz.underlying51 rfl (by kernel_rfl)) rfl ?_
     unfold DoSaid
     rw [HC.out]
     exact ⟨_,_,_,_,rfl,RdV.mono (fun b hb => ⟨by omega,Nat.lt_of_lt_of_le hb.2 (Nat.le_trans tY.size t_.size)⟩) (RdV.keep (t_.keeps (fun b hb e => by have e2 : b = w.heap.size + 4:=e; omega)) (RdV.keep (tY.keeps (fun b hb e => by have e2 : b = w.heap.size + 3:=e; omega)) (SN.rdO (HD5.out.s.sn (fun b h => h.1))))),rd_nil _ _,below2 HD5.out.m.B tY t_ (by omega) (by omega)⟩
    subst h1
    by_cases h2 : fd = d2
    case neg =>
     have HC : Hid (res = (l,rc 11)):=HR1.out.trans (if_pos (by simp [badFr,h2]))
     clear HR1
     skip
     have tu:=HD5.out.vU.l1
     go_wp2_with (first | ((with_reducible refine gS 26 ?_); refine sF HD5.out.m.vX rfl rfl (by kernel_rfl) rfl rfl ?_; intro wy vY tY) | ((with_reducible refine gS 51 ?_); refine wpList_storeF (HD5.out.m.vR.turn tY (by show w.heap.size + 4 ≠ w.heap.size + 3; omega)) rfl rfl (by kernel_rfl) rfl (of_decide_eq_true rfl) rfl ?_; intro wz vZ t_))
     refine bodyPost_ret (results_two Tryz.results15 _ _ _ _ _ _ _ _ _ _ rfl rfl (vY.turn t_ (by show w.heap.size + 3 ≠ w.heap.size + 4; omega)) vZ Tryz.underlying26 rfl (by kernel_rfl) Tryz.underlying51 rfl (by kernel_rfl)) rfl ?_
     unfold DoSaid
     rw [HC.out]
     exact ⟨_,_,_,_,rfl,RdV.mono (fun b hb => ⟨by omega,Nat.lt_of_lt_of_le hb.2 (Nat.le_trans tY.size t_.size)⟩) (RdV.keep (t_.keeps (fun b hb e => by have e2 : b = w.heap.size + 4:=e; omega)) (RdV.keep (tY.keeps (fun b hb e => by have e2 : b = w.heap.size + 3:=e; omega)) (SN.rdO (HD5.out.s.sn (fun b h => h.1))))),rd_nil _ _,below2 HD5.out.m.B tY t_ (by omega) (by omega)⟩
    subst h2
    go_wp2_with fail
    refine Calls.mono (HF1.out _ HD5.out.m.B) ?_
    rintro e6 w6 ⟨rfl,b_⟩
    have HD6 : Hid (DT w w6 (.slice xa l.length xc) #[.i 4,.i p1,.i q1,.bool d1,.slice ya nm.length yc,.i fp,.i q2,.bool fd,.slice za asn.length zc,.i vl] #[.i fp,.i fq,.bool fd] w3.heap.size w2.heap.size (.slice ca cn cc) l):=HD5.out.step b_
    clear b_
    clear o0 o1 o2 o3 o4 o5 o6 o7 o8 o9 f0 f1 f2 tv
    have z6 : w3.heap.size < w6.heap.size:=HD6.out.vU.lt
    rcases findH_cases l (fp,fq,fd) with ⟨h3,hf⟩ | ⟨h3,hf⟩
    ·rw [hf]
     have HC : Hid (res = (l,rc 11)):=HR1.out.trans (if_pos (by simp [badFr,h3]))
     clear HR1 hf
     skip
     have tu:=HD6.out.vU.l1
     go_wp2_with (first | ((with_reducible refine gS 26 ?_); refine sF HD6.out.m.vX rfl rfl (by kernel_rfl) rfl rfl ?_; intro wy vY tY) | ((with_reducible refine gS 51 ?_); refine wpList_storeF (HD6.out.m.vR.turn tY (by show w.heap.size + 4 ≠ w.heap.size + 3; omega)) rfl rfl (by kernel_rfl) rfl (of_decide_eq_true rfl) rfl ?_; intro wz vZ t_))
     refine bodyPost_ret (results_two Tryz.results15 _ _ _ _ _ _ _ _ _ _ rfl rfl (vY.turn t_ (by show w.heap.size + 3 ≠ w.heap.size + 4; omega)) vZ Tryz.underlying26 rfl (by kernel_rfl) Tryz.underlying51 rfl (by kernel_rfl)) rfl ?_
     unfold DoSaid
     rw [HC.out]
     exact ⟨_,_,_,_,rfl,RdV.mono (fun b hb => ⟨by omega,Nat.lt_of_lt_of_le hb.2 (Nat.le_trans tY.size t_.size)⟩) (RdV.keep (t_.keeps (fun b hb e => by have e2 : b = w.heap.size + 4:=e; omega)) (RdV.keep (tY.keeps (fun b hb e => by have e2 : b = w.heap.size + 3:=e; omega)) (SN.rdO (HD6.out.s.sn (fun b h => h.1))))),rd_nil _ _,below2 HD6.out.m.B tY t_ (by omega) (by omega)⟩
    rw [hf]
    clear hf
    obtain ⟨o0,o1,o2,o3,o4,o5,o6,o7,o8,o9⟩:=HD6.out.m.vO.l10
    obtain ⟨f0,f1,f2⟩:=HD6.out.m.vF.l3
    have tv:=HD6.out.m.vT.l1
    go_wp2_with fail
    refine Calls.mono (HF2.out _ HD6.out.m.B) ?_
    rintro e7 w7 ⟨rfl,b_⟩
    have HD7 : Hid (DT w w7 (.slice xa l.length xc) #[.i 4,.i p1,.i q1,.bool d1,.slice ya nm.length yc,.i fp,.i q2,.bool fd,.slice za asn.length zc,.i vl] #[.i fp,.i fq,.bool fd] w3.heap.size w2.heap.size (.slice ca cn cc) l):=HD6.out.step b_
    clear b_
    clear o0 o1 o2 o3 o4 o5 o6 o7 o8 o9 f0 f1 f2 tv
    have z7 : w3.heap.size < w7.heap.size:=HD7.out.vU.lt
    have tv:=HD7.out.m.vT.l1
    rcases findH_cases l (fp,fq,!fd) with ⟨h4,hf⟩ | ⟨h4,hf⟩
    ·rw [hf]
     have HC : Hid (res = (l,rc 11)):=HR1.out.trans (if_pos (by simp [badFr,h4]))
     clear HR1 hf
     skip
     have tu:=HD7.out.vU.l1
     go_wp2_with (first | ((with_reducible refine gS 26 ?_); refine sF HD7.out.m.vX rfl rfl (by kernel_rfl) rfl rfl ?_; intro wy vY tY) | ((with_reducible refine gS 51 ?_); refine wpList_storeF (HD7.out.m.vR.turn tY (by show w.heap.size + 4 ≠ w.heap.size + 3; omega)) rfl rfl (by kernel_rfl) rfl (of_decide_eq_true rfl) rfl ?_; intro wz vZ t_))
     refine bodyPost_ret (results_two Tryz.results15 _ _ _ _ _ _ _ _ _ _ rfl rfl (vY.turn t_ (by show w.heap.size + 3 ≠ w.heap.size + 4; omega)) vZ Tryz.underlying26 rfl (by kernel_rfl) Tryz.underlying51 rfl (by kernel_rfl)) rfl ?_
     unfold DoSaid
     rw [HC.out]
     exact ⟨_,_,_,_,rfl,RdV.mono (fun b hb => ⟨by omega,Nat.lt_of_lt_of_le hb.2 (Nat.le_trans tY.size t_.size)⟩) (RdV.keep (t_.keeps (fun b hb e => by have e2 : b = w.heap.size + 4:=e; omega)) (RdV.keep (tY.keeps (fun b hb e => by have e2 : b = w.heap.size + 3:=e; omega)) (SN.rdO (HD7.out.s.sn (fun b h => h.1))))),rd_nil _ _,below2 HD7.out.m.B tY t_ (by omega) (by omega)⟩
    rw [hf]
    clear hf
    by_cases h5 : 240 ≤ l.length
    ·have h5i : (240 : Int) ≤ (l.length : Int):=by omega
     have HC : Hid (res = (l,rc 11)):=HR1.out.trans (if_pos (by simp [badFr,h5]))
     clear HR1
     skip
     have tu:=HD7.out.vU.l1
     go_wp2_with (first | ((with_reducible refine gS 26 ?_); refine sF HD7.out.m.vX rfl rfl (by kernel_rfl) rfl rfl ?_; intro wy vY tY) | ((with_reducible refine gS 51 ?_); refine wpList_storeF (HD7.out.m.vR.turn tY (by show w.heap.size + 4 ≠ w.heap.size + 3; omega)) rfl rfl (by kernel_rfl) rfl (of_decide_eq_true rfl) rfl ?_; intro wz vZ t_))
     refine bodyPost_ret (results_two Tryz.results15 _ _ _ _ _ _ _ _ _ _ rfl rfl (vY.turn t_ (by show w.heap.size + 3 ≠ w.heap.size + 4; omega)) vZ Tryz.underlying26 rfl (by kernel_rfl) Tryz.underlying51 rfl (by kernel_rfl)) rfl ?_
     unfold DoSaid
     rw [HC.out]
     exact ⟨_,_,_,_,rfl,RdV.mono (fun b hb => ⟨by omega,Nat.lt_of_lt_of_le hb.2 (Nat.le_trans tY.size t_.size)⟩) (RdV.keep (t_.keeps (fun b hb e => by have e2 : b = w.heap.size + 4:=e; omega)) (RdV.keep (tY.keeps (fun b hb e => by have e2 : b = w.heap.size + 3:=e; omega)) (SN.rdO (HD7.out.s.sn (fun b h => h.1))))),rd_nil _ _,below2 HD7.out.m.B tY t_ (by omega) (by omega)⟩
    have h5i : ¬ (240 : Int) ≤ (l.length : Int):=by omega
    have HC : Hid (res = doD l ⟨4,(p1,q1,d1),nm,(fp,q2,fd),asn,vl⟩ (fp,fq,fd)):=HR1.out.trans (if_neg (fun h => by simp [badFr,hbo,h3,h4,h5] at h))
    clear HR1
    obtain ⟨o0,o1,o2,o3,o4,o5,o6,o7,o8,o9⟩:=HD7.out.m.vO.l10
    obtain ⟨f0,f1,f2⟩:=HD7.out.m.vF.l3
    have zc:=HD7.out.m.B.size
    have HV9 : (Value.slice ca cn cc).ownBlock ≠ some w3.heap.size:=fun e => by have:=(HSN.out.lt _ e).2; omega
    have HDO : Hid _:=specL4do_any w3.heap.size w2.heap.size ⟨4,(p1,q1,d1),nm,(fp,q2,fd),asn,vl⟩ (fp,fq,fd) _ _ l S (LT w2.heap.size w3.heap.size) w7 ⟨_,HD7.out.vU,HD7.out.s,HV9⟩ (fun h => h.2 rfl) (fun b hb => ⟨by omega,by omega⟩) (by omega) (by omega) HTR.out hsz (HRY.out _ HD7.out.m.B) (HRZ.out _ HD7.out.m.B) (fun b hb => by have:=HS.out b hb; omega) hn1 hn2 (OOk_kind HOK.out)
    go_wp2_with fail
    refine Calls.mono HDO.out ?_
    rintro e8 w8 ⟨zz,rfl,rz,⟨v8,vU8,s8,hv8⟩,T8⟩
    have T8:=T8 _ HD7.out.vU
    obtain ⟨ra,rn,rfl,_⟩:=RdV.sliced rz
    obtain ⟨ta,tc,rfl⟩:=s8.shape
    generalize doD l ⟨4,(p1,q1,d1),nm,(fp,q2,fd),asn,vl⟩ (fp,fq,fd) = rr at *
    obtain ⟨rl,⟨rcode,⟨rh0,rh1,rh2⟩,rval,rlist⟩⟩:=rr
    dsimp only at *
    have z8:=T8.size
    have hown : ∀ b,(b = w3.heap.size ∨ (Value.slice ca cn cc).ownBlock = some b) → w2.heap.size ≤ b ∧ b < w7.heap.size:=fun b hb => by rcases hb with rfl | h; exact ⟨by omega,by omega⟩; exact ⟨(HSN.out.lt _ h).1,by have:=(HSN.out.lt _ h).2; omega⟩
    have HB8 : Hid (Below w.heap.size w w8):=Turned.below HD7.out.m.B T8 HD7.out.m.B.size (fun i hi => by have:=hown i hi; omega)
    have HX8 : Hid (VarA w8 (w.heap.size + 3) 26 #[.n0]):=HD7.out.m.vX.turn T8 (fun e => by have:=hown _ e; omega)
    have HR8 : Hid (VarA w8 (w.heap.size + 4) 51 #[.i 0,.i 0,.i 0,.bool false,.i 0,.n0]):=HD7.out.m.vR.turn T8 (fun e => by have:=hown _ e; omega)
    generalize hrn : rl.length = tn at *
    generalize hzn : rlist.length = zn at *
    have HU8 : Hid (VarA w8 w3.heap.size 26 #[.slice ta tn tc]):=vU8
    have HS8 : Hid (SN w8 w2.heap.size (.slice ta tn tc) rl):=s8.sn (fun b h => h.1)
    have HZ8 : Hid _:=rz
    clear T8 s8 vU8 rz HDO hrn hzn o0 o1 o2 o3 o4 o5 o6 o7 o8 o9 f0 f1 f2 HV9 hown
    go_wp2
    obtain ⟨w9,hw9⟩ : ∃ W,W = (w8.alloc (.cells #[.i rcode,.i rh0,.i rh1,.bool rh2,.i rval,.slice ra zn rn] 51)):=⟨_,rfl⟩
    have b9 : Below w8.heap.size w8 w9:=by rw [hw9]; exact Below.newH _
    have HP9 : Hid (VarA w9 w8.heap.size 51 #[.i rcode,.i rh0,.i rh1,.bool rh2,.i rval,.slice ra zn rn]):=by rw [hw9]; exact VarA.new _ _ _
    rw [← hw9]
    clear hw9
    have HX9 : Hid _:=HX8.out.step b9
    have HR9 : Hid _:=HR8.out.step b9
    have HU9 : Hid _:=HU8.out.step b9
    have HS9 : Hid (SN w9 w2.heap.size (.slice ta tn tc) rl):=SN.step HS8.out b9
    have HZ9 : Hid _:=RdV.step HZ8.out b9
    have HB9 : Hid (Below w.heap.size w w9):=HB8.out.trans (b9.mono HB8.out.size)
    have z9:=b9.size
    have z90:=HX8.out.lt
    clear b9 HX8 HR8 HU8 HS8 HZ8 HB8
    refine wp_region_noPanic ?_
    refine wp_region_held_drew (S:=fun W => W.cell? ⟨w3.heap.size,0,none⟩ = some (.slice ta tn tc) ∧ W.cell? ⟨w8.heap.size,0,none⟩ = some (.i rcode) ∧ W.cell? ⟨w8.heap.size,1,none⟩ = some (.i rh0) ∧ W.cell? ⟨w8.heap.size,2,none⟩ = some (.i rh1) ∧ W.cell? ⟨w8.heap.size,3,none⟩ = some (.bool rh2) ∧ W.cell? ⟨w8.heap.size,4,none⟩ = some (.i rval) ∧ W.cell? ⟨w8.heap.size,5,none⟩ = some (.slice ra zn rn)) (by kernel_rfl) ⟨VarA.c (VarA.dr HU9.out) 0 rfl,VarA.c (VarA.dr HP9.out) 0 rfl,VarA.c (VarA.dr HP9.out) 1 rfl,VarA.c (VarA.dr HP9.out) 2 rfl,VarA.c (VarA.dr HP9.out) 3 rfl,VarA.c (VarA.dr HP9.out) 4 rfl,VarA.c (VarA.dr HP9.out) 5 rfl⟩ (fun hHeld => ?_)
    apply tkh 0 _ rfl (by kernel_rfl) rfl (by assumption)
    ·(intro _ h; (try dsimp only at h); go_simp; try with_reducible rfl)
    try simp only [qz]
    apply tkh 1 _ rfl (by kernel_rfl) rfl (by assumption)
    ·(intro _ h; (try dsimp only at h); go_simp; try with_reducible rfl)
    try simp only [qz]
    refine doH 2 (by kernel_rfl) rfl fun K hK => ?_
    refine step_stF (VarA.dr HX9.out) (by rfl) (by rfl) (by kernel_rfl) rfl (of_decide_eq_true rfl) rfl ?_
    intro wy vY tY
    have uY:=(VarA.dr HU9.out).turn tY (by show w3.heap.size ≠ w.heap.size + 3; omega)
    have pY:=(VarA.dr HP9.out).turn tY (by show w8.heap.size ≠ w.heap.size + 3; omega)
    refine hK.out _ _ ⟨VarA.c uY 0 rfl,VarA.c pY 0 rfl,VarA.c pY 1 rfl,VarA.c pY 2 rfl,VarA.c pY 3 rfl,VarA.c pY 4 rfl,VarA.c pY 5 rfl⟩ (fun hHeld => ?_)
    clear hK K
    try simp only [qz]
    refine doH 3 (by kernel_rfl) rfl fun K hK => ?_
    refine step_stF ((VarA.dr HR9.out).turn tY (by show w.heap.size + 4 ≠ w.heap.size + 3; omega)) (by rfl) (by rfl) (by kernel_rfl) rfl (of_decide_eq_true rfl) rfl ?_
    intro wz vZ t_
    have uZ:=uY.turn t_ (by show w3.heap.size ≠ w.heap.size + 4; omega)
    have pZ:=pY.turn t_ (by show w8.heap.size ≠ w.heap.size + 4; omega)
    refine hK.out _ _ ⟨VarA.c uZ 0 rfl,VarA.c pZ 0 rfl,VarA.c pZ 1 rfl,VarA.c pZ 2 rfl,VarA.c pZ 3 rfl,VarA.c pZ 4 rfl,VarA.c pZ 5 rfl⟩ (fun hHeld => ?_)
    clear hK K
    try simp only [qz]
    refine wpAnyH_done (by kernel_rfl) (NoPanic.normal ?_) _
    clear hHeld uZ pZ uY pY
    go_wp2
    refine bodyPost_ret (results_two Tryz.results15 _ _ _ _ _ _ _ _ _ _ rfl rfl (vY.turn t_ (by show w.heap.size + 3 ≠ w.heap.size + 4; omega)) vZ Tryz.underlying26 rfl (by kernel_rfl) Tryz.underlying51 rfl (by kernel_rfl)) rfl ?_
    unfold DoSaid
    rw [HC.out]
    have zY : w9.heap.size ≤ wy.heap.size:=tY.size
    exact ⟨_,_,_,_,rfl,RdV.mono (fun b hb => ⟨by omega,by have:=t_.size; have:=hb.2; omega⟩) (RdV.keep (t_.keeps (fun b hb e => by have e2 : b = w.heap.size + 4:=e; omega)) (RdV.keep (tY.keeps (fun b hb e => by have e2 : b = w.heap.size + 3:=e; omega)) (RdV.step (SN.rdO HS9.out) (Below.drew (Below.refl w9.heap.size w9))))),RdV.mono (fun b hb => ⟨by omega,by have:=t_.size; have:=hb.2; omega⟩) (RdV.keep (t_.keeps (fun b hb e => by have e2 : b = w.heap.size + 4:=e; omega)) (RdV.keep (tY.keeps (fun b hb e => by have e2 : b = w.heap.size + 3:=e; omega)) (RdV.step HZ9.out (Below.drew (Below.refl w9.heap.size w9))))),below2 (HB9.out.trans ((Below.drew (Below.refl w9.heap.size w9)).mono HB9.out.size)) tY t_ (by omega) (by omega)⟩
end Go.Proofs.YtblahkhniabhiaaGreatDoor
