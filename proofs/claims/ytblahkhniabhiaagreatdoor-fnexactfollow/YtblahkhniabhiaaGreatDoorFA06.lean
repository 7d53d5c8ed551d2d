/- Joined: SpecD14 IC6 IC7 IC8 IC9 IC10 IC11 IC12 IC13 IC14 IC15 IC16 IC17 IC18 IC19 IC20 IC21 IC22 IC23 IC24 ImplT10a TreePure IC28. -/
import Derived.Test.YtblahkhniabhiaaGreatDoorFSpecD13
import Derived.Test.YtblahkhniabhiaaGreatDoorFIC5
import Derived.Test.YtblahkhniabhiaaGreatDoorFA02
import Derived.Test.YtblahkhniabhiaaGreatDoorFWSame
import Derived.Maps.OwnSet
import Derived.Test.YtblahkhniabhiaaGreatDoorFA01
import Derived.Deep.CutRange
import Derived.Deep.CutBlock
import Derived.Test.YtblahkhniabhiaaGreatDoorFA00
import Derived.Sort.OwnSorted
import Derived.Test.YtblahkhniabhiaaGreatDoorFA03
import Derived.Test.YtblahkhniabhiaaGreatDoorFSpecD9
import Derived.Test.YtblahkhniabhiaaGreatDoorFA04
import Derived.Test.YtblahkhniabhiaaGreatDoorFImplT9
import Derived.Test.YtblahkhniabhiaaGreatDoorFSpecT6
import Derived.Maps.RangeWalk

namespace Go.Proofs.YtblahkhniabhiaaGreatDoor
open Go.RowKit
set_option linter.unusedVariables false
set_option linter.unusedSimpArgs false
set_option maxRecDepth 100000
section
theorem addTV {w : World} {lo g cap n : Nat} {L : Nat → Prop} {l : List Nd} (s : SG w lo L (.slice (some ⟨g,0,none⟩) n cap) l) (hnl : n = l.length) (hL : ∀ b,w.heap.size ≤ b → L b) {d : Nat} (hd : d < l.length) (y : Value) (nm : List Int) (h : Hd) (S2 : Nat → Prop) (r2 : RdV w S2 y (.bytes nm)) (hn : (l[d]?.getD nd0).es.length ≤ 4000) (hnm : nm.length ≤ 2097152) :
  Calls Tryz.prog 60 #[.pointer (some ⟨g,d * 9,none⟩),y,h.v] w fun e w' => e = .returned (.tuple #[]) ∧ SG w' lo L (.slice (some ⟨g,0,none⟩) n cap) (addN l d nm h) ∧ Turned (fun b => b = g) w w':=by
 subst hnl
 obtain ⟨xd,rd,cd⟩:=s.at hd
 obtain ⟨xa,xc,rfl,_⟩:=RdV.sliced rd
 have c8 : w.cell? ⟨g,d * 9 + 8,none⟩ = some (.slice xa (l[d]?.getD nd0).es.length xc):=cd 8 (by omega)
 obtain ⟨g',c',hv,_,hg,_⟩:=s.head (by omega)
 simp only [Value.slice.injEq,Option.some.injEq,Addr.mk.injEq,and_true] at hv
 obtain ⟨rfl,-,-⟩:=hv
 refine Calls.mono (specAdd_any g (d * 9) xa xc y _ nm h _ S2 w c8 (SG.fz g s hd _) rd (fun b hb => hb.2.1) r2 hn hnm) ?_
 rintro e w' ⟨he,W,x,rfl,hB,hx⟩
 exact ⟨he,SG.callE s hL hd hB hg hx,Turned.set (Turned.ofBelow hB) ⟨g,d * 9 + 8,none⟩ x rfl⟩
theorem cutTV {w : World} {lo g cap n : Nat} {L : Nat → Prop} {l : List Nd} (s : SG w lo L (.slice (some ⟨g,0,none⟩) n cap) l) (hnl : n = l.length) (hL : ∀ b,w.heap.size ≤ b → L b) {d e : Nat} (hd : d < l.length) (he : e < (l[d]?.getD nd0).es.length) (hn : (l[d]?.getD nd0).es.length ≤ 4000) :
  Calls Tryz.prog 78 #[.pointer (some ⟨g,d * 9,none⟩),.i e] w fun r w' => r = .returned (.tuple #[]) ∧ SG w' lo L (.slice (some ⟨g,0,none⟩) n cap) (cutN l d e) ∧ Turned (fun b => b = g) w w':=by
 subst hnl
 obtain ⟨xd,rd,cd⟩:=s.at hd
 obtain ⟨xa,xc,rfl,_⟩:=RdV.sliced rd
 have c8 : w.cell? ⟨g,d * 9 + 8,none⟩ = some (.slice xa (l[d]?.getD nd0).es.length xc):=cd 8 (by omega)
 obtain ⟨g',c',hv,_,hg,_⟩:=s.head (by omega)
 simp only [Value.slice.injEq,Option.some.injEq,Addr.mk.injEq,and_true] at hv
 obtain ⟨rfl,-,-⟩:=hv
 refine Calls.mono (specCut_any g (d * 9) xa xc _ e _ w c8 (SG.fz g s hd _) rd (fun b hb => hb.2.1) hn he) ?_
 rintro r w' ⟨hr,W,x,rfl,hB,hx⟩
 exact ⟨hr,SG.callE s hL hd hB hg hx,Turned.set (Turned.ofBelow hB) ⟨g,d * 9 + 8,none⟩ x rfl⟩
theorem TV.ret {w wz : World} {tb lo R : Nat} {L L1 : Nat → Prop} {v : Value} {l : List Nd} (vT : VarA w tb 26 #[v]) (s : SG w lo L1 v l) (hvt : v.ownBlock ≠ some tb) (t_ : Turned (fun b => b = R) w wz) (hR : ¬ L1 R) (hRt : tb ≠ R) (hRv : v.ownBlock ≠ some R) (hL : ∀ b,L1 b → L b) : TV wz tb lo L l:=
 ⟨v,vT.turn t_ hRt,(s.keep (t_.keeps (fun b hb e => by
  subst e
  exact hb.2.elim hR hRv))).mono (fun b _ h => hL b h),hvt⟩
theorem SG.ne_var {w : World} {lo b : Nat} {L : Nat → Prop} {v : Value} {l : List Nd} {T : TypeId} {cs : Array Value} (s : SG w lo L v l) (hv : VarA w b T cs) (hT : T ≠ 77) : v.ownBlock ≠ some b:=by
 obtain ⟨V,C,h1,h2,h3⟩:=s
 rcases h1.2 with ⟨hv',_⟩ | ⟨g,c,cur,hv',hg,hh,_⟩
 ·subst hv'; intro e; cases e
 ·subst hv'
  intro e
  have e3 : g = b:=by simpa [Value.ownBlock] using e
  subst e3
  have:=hh.symm.trans hv
  simp only [Option.some.injEq,Obj.cells.injEq] at this
  exact hT this.2.1.symm
theorem findE_cases (es : List En) (nm : List Int) : (ei es nm < es.length ∧ findE es nm = (ei es nm : Int)) ∨ (¬ ei es nm < es.length ∧ findE es nm = -1):=by
 unfold findE
 by_cases hh : ei es nm < es.length
 ·exact .inl ⟨hh,by rw [if_pos hh]⟩
 ·exact .inr ⟨hh,by rw [if_neg hh]⟩
def parN (l : List Nd) (k : Nat) (h : Hd) : List Nd:=l.set k ((l[k]?.getD nd0).setPar h)
def moveD (l : List Nd) (o : OpD) (d : Nat) : List Nd × Int:=
 if ¬ ei (l[d]?.getD nd0).es o.nm < (l[d]?.getD nd0).es.length then (l,3) else
 if o.to.dir = false then (l,2) else
 if ¬ fi l o.to < l.length then (l,1) else
 if fi l o.to = d then
  if 0 ≤ findE (l[d]?.getD nd0).es o.asn then (l,4)
  else (addN (cutN l d (ei (l[d]?.getD nd0).es o.nm)) d o.asn ((l[d]?.getD nd0).es[ei (l[d]?.getD nd0).es o.nm]?.getD en0).h,0)
 else
 if refD (l[fi l o.to]?.getD nd0).es o.asn ≠ 0 then (l,refD (l[fi l o.to]?.getD nd0).es o.asn) else
 if ((l[d]?.getD nd0).es[ei (l[d]?.getD nd0).es o.nm]?.getD en0).h.dir = true then
  if undN l ((l[d]?.getD nd0).es[ei (l[d]?.getD nd0).es o.nm]?.getD en0).h 12 o.to = 1 then (l,8) else
  if undN l ((l[d]?.getD nd0).es[ei (l[d]?.getD nd0).es o.nm]?.getD en0).h 12 o.to = 2 then (l,9) else
  (addN (cutN (parN l (fi l ((l[d]?.getD nd0).es[ei (l[d]?.getD nd0).es o.nm]?.getD en0).h) o.to) d (ei (l[d]?.getD nd0).es o.nm)) (fi l o.to) o.asn ((l[d]?.getD nd0).es[ei (l[d]?.getD nd0).es o.nm]?.getD en0).h,0)
 else (addN (cutN l d (ei (l[d]?.getD nd0).es o.nm)) (fi l o.to) o.asn ((l[d]?.getD nd0).es[ei (l[d]?.getD nd0).es o.nm]?.getD en0).h,0)
end
section
def takesB (fr tq : Hd) (i1 i2 : Bool) (s : Nat) : Bool:=HOk fr && (decide (fr.sh = tq.sh) && (decide (fr.dir = tq.dir) && (!i1 && (!i2 && decide ((s : Int) < 240)))))
set_option maxHeartbeats 8000000 in
theorem takes_any (b s : Nat) (f : Hd → Option Nd) (X : Hd → Value) (fr tq : Hd) (w : World) (M : MapH (ndX X) w b s f) (hin : HIn fr) (hX : ∀ h n,f h = some n → ∃ a m c,X n.h = .slice a m c) :
  Calls Tryz.prog 100 #[.map (some b),fr.v,tq.v] w fun e w' => e = .returned (.bool (takesB fr tq (f (fr.sh,fr.ino,false)).isSome (f (fr.sh,fr.ino,true)).isSome s)) ∧ Below w.heap.size w w':=by
 obtain ⟨p,q,d⟩:=fr
 obtain ⟨p2,q2,d2⟩:=tq
 show Calls _ _ _ _ fun e w' => e = .returned (.bool (takesB (p,q,d) (p2,q2,d2) (f (p,q,false)).isSome (f (p,q,true)).isSome s)) ∧ Below w.heap.size w w'
 have hi1 : HIn (p,q,false):=hin
 have hi2 : HIn (p,q,true):=hin
 obtain ⟨n,na,nm_,nc,hat⟩:=atX_form f X (p,q,false) (fun n h => hX _ n h)
 obtain ⟨⟨s0,s1,s2⟩,⟨s3,s4,s5⟩,lk,vl2,es⟩:=n
 obtain ⟨n',na',nm',nc',hat'⟩:=atX_form f X (p,q,true) (fun n h => hX _ n h)
 obtain ⟨⟨t0,t1,t2⟩,⟨t3,t4,t5⟩,lk',vl2',es'⟩:=n'
 have HM : Hid (∀ W,Below w.heap.size w W → MapH (ndX X) W b s f):=fun W hW => M.blk (hW.block b M.lt)
 have HI1 : Hid (HIn (p,q,false)):=hi1
 have HI2 : Hid (HIn (p,q,true)):=hi2
 have HA : Hid _:=hat
 have HA' : Hid _:=hat'
 have HHO : Hid (∀ W,_):=fun W => implHandleOk_w (p,q,d) W
 generalize hth : (f (p,q,false)).isSome = i1
 generalize hth' : (f (p,q,true)).isSome = i2
 have HT : Hid ((f (p,q,false)).isSome = i1):=hth
 have HT' : Hid ((f (p,q,true)).isSome = i2):=hth'
 clear M hin hX hat hat' hth hth' hi1 hi2
 obtain ⟨res,hres⟩ : ∃ r,takesB (p,q,d) (p2,q2,d2) i1 i2 s = r:=⟨_,rfl⟩
 rw [hres]
 have hres2 : (HOk (p,q,d) && (decide (p = p2) && (decide (d = d2) && (!i1 && (!i2 && decide ((s : Int) < 240)))))) = res:=hres
 have HRES : Hid _:=hres2
 clear hres hres2
 generalize HOk (p,q,d) = c1 at HHO HRES
 go_enter Tryz.func100,Tryz.ntmps100
 go_wp2_with (first | (at_lookup; first | (refine wpList_lookOkX _ rfl (.tmp 12) (.tmp 17) rfl b s f X rfl (HM.out _ ?_) (p,q,false) HI1.out rfl ?_; (repeat (first | exact Below.refl _ _ | refine Below.al2 ?_ _)); rw [HA.out,HT.out]) | (refine wpList_lookOkX _ rfl (.tmp 22) (.tmp 27) rfl b s f X rfl (HM.out _ ?_) (p,q,true) HI2.out rfl ?_; (repeat (first | exact Below.refl _ _ | refine Below.al2 ?_ _)); rw [HA'.out,HT'.out])))
 go_at_call 94
 refine Calls.mono (HHO.out _) ?_
 rintro e w2 ⟨rfl,rfl⟩
 rcases (show c1 = false ∨ c1 = true ∧ (¬ p = p2 ∨ p = p2 ∧ (¬ d = d2 ∨ d = d2 ∧ (i1 = true ∨ i1 = false ∧ (i2 = true ∨ i2 = false ∧ (¬ (s : Int) < 240 ∨ (s : Int) < 240))))) by by_cases h1 : p = p2 <;> by_cases h2 : d = d2 <;> by_cases h3 : (s : Int) < 240 <;> cases c1 <;> cases i1 <;> cases i2 <;> simp [h1,h2,h3]) with rfl | ⟨rfl,hp | ⟨rfl,hd | ⟨rfl,rfl | ⟨rfl,rfl | ⟨rfl,hs | hs⟩⟩⟩⟩⟩
 all_goals
  try have hp1 : (p == p2) = false:=by simpa using hp
  try have hd1 : (d == d2) = false:=by simpa using hd
  try have hs1 : decide ((s : Int) < 240) = false:=by simpa using hs
  try have hs1 : decide ((s : Int) < 240) = true:=by simpa using hs
  have hlen:=fun o1 o2 o3 o4 o5 => (HM.out ((((w.alloc o1).alloc o2).alloc o3).alloc o4 |>.alloc o5) (by repeat (first | exact Below.refl _ _ | refine Below.al2 ?_ _))).len Tryz.underlying148
  go_wp2
  try go_ret
 all_goals (refine ⟨?_,?_⟩; (rw [← HRES.out]; simp [*]); (repeat (first | exact Below.refl _ _ | refine Below.al2 ?_ _)))
end
section
open Go.Maps
def wayI (f : Hd → Option Nd) (h : Hd) : Nat → Hd → Int
  | 0,_ => 9
  | k + 1,g => if g = h then 8 else if g = rootH then 0 else wayI f h k ((f g).getD nd0).par
set_option maxRecDepth 100000 in
set_option maxHeartbeats 1000000 in
theorem wayCode_any (b s : Nat) (f : Hd → Option Nd) (h g0 : Hd) (w : World) (M : MapH ndP w b s f) (hh : HIn g0) (hp : ∀ g n,f g = some n → HIn n.par) :
    Calls Tryz.prog 135 #[.map (some b),h.v,g0.v] w fun e w' => e = .returned (.i (wayI f h 12 g0)) ∧ Below w.heap.size w w':=by
  have hbs:=M.lt
  have HM : Hid (∀ W,Below w.heap.size w W → MapH ndP W b s f):=fun W hW => M.blk (hW.block b hbs)
  have HP : Hid (∀ g,HIn ((f g).getD nd0).par):=fun g => by
    cases hf : f g with
    | none => exact hd0_in
    | some n => exact hp g n hf
  have HRT : Hid (∀ W,_):=fun W => implRootH_any W
  obtain ⟨res,hres⟩ : ∃ res,wayI f h 12 g0 = res:=⟨_,rfl⟩
  have HC : Hid (wayI f h (12 - 0) g0 = res):=hres
  have HH : Hid (HIn g0):=hh
  rw [hres]
  obtain ⟨ph,qh,dh⟩:=h
  obtain ⟨p0,q0,d0⟩:=g0
  clear M hp hres hh
  go_enter Tryz.func135,Tryz.ntmps135
  go_wp2
  go_loopw [7] (fun i wr => ∃ k : Nat,k ≤ 12 ∧ i = .i k ∧ Below w.heap.size w wr ∧ VarA wr w.heap.size 48 #[.i ph,.i qh,.bool dh] ∧ ∃ g : Hd,VarA wr (w.heap.size + 1) 48 #[.i g.sh,.i g.ino,.bool g.dir] ∧ Hid (HIn g) ∧ Hid (wayI f (ph,qh,dh) (12 - k) g = res)) (fun i _ => 12 - (intOf i).toNat)
  case atStart => exact ⟨0,Nat.zero_le _,rfl,Below.newH2 _ _,(VarA.new w _ _).alloc _,(p0,q0,d0),(by simpa using VarA.new (w.alloc _) 48 _),HH.out,HC.out⟩
  case round =>
    clear HH HC
    obtain ⟨k,hk,rfl,hbel,vh,⟨p,q,d⟩,v0,HG,HC⟩:=hrel
    replace v0 : VarA wr (w.heap.size + 1) 48 #[.i p,.i q,.bool d]:=v0
    by_cases hlt : k < 12
    case neg =>
      have HF : Hid (9 = res):=by rw [← HC.out]; show _ = _; rw [show 12 - k = 0 by omega]; rfl
      clear v0 vh
      go_wp2
      go_ret
      exact ⟨by rw [← HF.out]; rfl,hbel⟩
    have HC2 : Hid ((if ((p,q,d) : Hd) = (ph,qh,dh) then 8 else if ((p,q,d) : Hd) = rootH then 0 else wayI f (ph,qh,dh) (12 - (k + 1)) ((f (p,q,d)).getD nd0).par) = res):=by
      rw [← HC.out]; show _ = _; rw [show 12 - k = (12 - (k + 1)) + 1 by omega]; rfl
    clear HC
    obtain ⟨b0,b1,b2⟩:=v0.l3
    obtain ⟨c0,c1,c2⟩:=vh.l3
    have hl0:=v0.lt
    haveI : Nonempty (Cls wr):=Cls.ne wr
    have k0:=Cls.cell hl0 b0
    have k1:=Cls.cell hl0 b1
    have k2:=Cls.cell hl0 b2
    by_cases hx : ((p,q,d) : Hd) = (ph,qh,dh)
    · have HF : Hid (8 = res):=by rw [← HC2.out,if_pos hx]; rfl
      have heq : ∀ W : World,(binOp .eql 48 (.agg #[.i p,.i q,.bool d]) (.agg #[.i ph,.i qh,.bool dh])).run Tryz.prog W = .ok (.bool true) W:=fun W => by rw [eqH_run,decH_true hx]
      clear HC2 hx k0 k1 k2
      go_wp2
      go_ret
      exact ⟨by rw [← HF.out]; rfl,hbel⟩
    have hne : ∀ W : World,(binOp .eql 48 (.agg #[.i p,.i q,.bool d]) (.agg #[.i ph,.i qh,.bool dh])).run Tryz.prog W = .ok (.bool false) W:=fun W => by rw [eqH_run,decH_false hx]
    by_cases hr : ((p,q,d) : Hd) = rootH
    · have HF : Hid (0 = res):=by rw [← HC2.out,if_neg hx,if_pos hr]; rfl
      have heq : ∀ W : World,(binOp .eql 48 (.agg #[.i p,.i q,.bool d]) (.agg #[.i 0,.i 1,.bool true])).run Tryz.prog W = .ok (.bool true) W:=fun W => by rw [eqH_run,decH_true hr]
      clear HC2 hr hx
      go_wp2
      refine wp_region_cls (by kernel_rfl) (by kernel_rfl) ?_
      clear b0 b1 b2 c0 c1 c2
      repeat (go_big_quiet_step (first | (go_at_call 65; exact Calls.cls_new (HRT.out _))))
      refine wpQuiet_nil ?_
      rintro w' ⟨⟨w',hb'⟩,rfl⟩
      go_wp2
      go_ret
      exact ⟨by rw [← HF.out]; rfl,hbel.trans (hb'.mono hbel.size)⟩
    have HF : Hid (wayI f (ph,qh,dh) (12 - (k + 1)) ((f (p,q,d)).getD nd0).par = res):=by rw [← HC2.out,if_neg hx,if_neg hr]; rfl
    have heq : ∀ W : World,(binOp .eql 48 (.agg #[.i p,.i q,.bool d]) (.agg #[.i 0,.i 1,.bool true])).run Tryz.prog W = .ok (.bool false) W:=fun W => by rw [eqH_run,decH_false hr]
    clear HC2 hr hx
    go_wp2
    refine wp_region_cls (by kernel_rfl) (by kernel_rfl) ?_
    clear b0 b1 b2 c0 c1 c2
    repeat (go_big_quiet_step (first | (go_at_call 65; exact Calls.cls_new (HRT.out _))))
    refine wpQuiet_nil ?_
    rintro w' ⟨⟨w',hb'⟩,rfl⟩
    have v1:=v0.step hb'
    have VH : Hid (VarA w' w.heap.size 48 _):=vh.step hb'
    have hb3:=hbel.trans (hb'.mono hbel.size)
    clear k0 k1 k2 v0 hbel hb' heq hne hl0 vh
    obtain ⟨b0,b1,b2⟩:=v1.l3
    have fz:=v1.fz
    have HP2:=HP.out (p,q,d)
    obtain ⟨nd,hnd⟩ : ∃ nd,(f (p,q,d)).getD nd0 = nd:=⟨_,rfl⟩
    rw [hnd] at HP2 HF
    have HND : Hid _:=hnd
    have HPP : Hid (HIn nd.par):=HP2
    clear hnd HP2
    obtain ⟨hh9,⟨p2,q2,d2⟩,lk,vl,es⟩:=nd
    have V1 : Hid (VarA w' (w.heap.size + 1) 48 _):=v1
    clear v1
    go_wp2_with (first | (at_lookup; refine wpList_lookN _ rfl _ _ rfl b s f rfl (HM.out _ hb3) (p,q,d) HG.out rfl ?_; intro la ln lc; rw [HND.out]) | (refine wpList_parN _ rfl (.tmp 17) rfl (Nd.mk hh9 (p2,q2,d2) lk vl es) _ rfl ?_))
    have hne9 : w.heap.size ≠ w.heap.size + 1:=by omega
    first
    | exact ⟨⟨k + 1,by omega,by go_num,Below.set3 hb3 (by omega),((VH.out.aside (p:=⟨_,0,none⟩) hne9 _).aside (p:=⟨_,1,none⟩) hne9 _).aside (p:=⟨_,2,none⟩) hne9 _,(p2,q2,d2),VarA.set3 V1.out,HPP.out,HF.out⟩,by simp [intOf]; omega⟩
    | (go_roundw
       case rel => exact ⟨k + 1,by omega,by go_num,Below.set3 hb3 (by omega),((VH.out.aside (p:=⟨_,0,none⟩) hne9 _).aside (p:=⟨_,1,none⟩) hne9 _).aside (p:=⟨_,2,none⟩) hne9 _,(p2,q2,d2),VarA.set3 V1.out,HPP.out,HF.out⟩
       case measure => simp [intOf]; omega)
end
section
theorem findC_any (vb : Nat) (x0 y : Value) (p q : Int) (d : Bool) (nm1 nm : List Int) (S S2 : Nat → Prop) (w : World) (r : RdV w S x0 (.bytes nm1)) (r2 : RdV w S2 y (.bytes nm)) (v : VarA w vb 39 #[y]) :
  Calls Tryz.prog 131 #[.agg #[x0,.i p,.i q,.bool d],.pointer (some ⟨vb,0,none⟩)] w fun e w' => e = .returned (.bool (decide (nm1 = nm))) ∧ Below w.heap.size w w':=by
 obtain ⟨xa,xc,rfl⟩:=r.sliceB
 obtain ⟨ya,yc,rfl⟩:=r2.sliceB
 have HE : Hid (∀ o,Calls Tryz.prog 111 #[.slice xa nm1.length xc,.slice ya nm.length yc] (w.alloc o) fun e w' => e = .returned (.bool (decide (nm1 = nm))) ∧ w' = w.alloc o):=fun o => bytesEq_any _ _ _ _ _ _ _ (r.step (Below.newH _)) (r2.step (Below.newH _))
 have c0:=fun o => (v.alloc o).l1
 clear r r2 v
 generalize nm1.length = xn at *
 generalize nm.length = yn at *
 generalize decide (nm1 = nm) = bb at *
 go_enter Tryz.func131,Tryz.ntmps131
 go_wp2_with (go_at_call 111; refine Calls.mono (HE.out _) ?_; rintro e w2 ⟨rfl,rfl⟩)
 go_ret
 exact ⟨rfl,Below.newH _⟩

set_option maxHeartbeats 1000000 in
theorem idxEn_any (vb : Nat) (x y : Value) (es : List En) (nm : List Int) (S S2 : Nat → Prop) (w : World) (r : RdV w S x (ensDt es)) (r2 : RdV w S2 y (.bytes nm)) (v : VarA w vb 39 #[y]) (hl : es.length ≤ 2097152) :
  Calls Tryz.prog 130 #[x,.func (.func 131) #[] #[.pointer (some ⟨vb,0,none⟩)]] w fun e w' => e = .returned (.i (findE es nm)) ∧ Below w.heap.size w w':=by
 obtain ⟨a,cap,rfl,_⟩:=RdV.sliced r
 have HR : Hid (∀ W,Below w.heap.size w W → RdV W S (.slice a es.length cap) (.rows 86 4 es.length (fun i j => enCell (es[i]?.getD en0) j))):=RdV.old r
 have HC : Hid (∀ (x0 : Value) p q d nm1 W,Below w.heap.size w W → RdV W S x0 (.bytes nm1) → _):=fun x0 p q d nm1 W hW hr => findC_any vb x0 y p q d nm1 nm S S2 W hr (r2.step hW) (v.step hW)
 obtain ⟨m,hm⟩ : ∃ m,es.length = m:=⟨_,rfl⟩
 rw [hm] at hl HR ⊢
 have HN : Hid _:=hm
 clear r r2 hm v
 go_enter Tryz.func130,Tryz.ntmps130
 go_wp2
 go_loopw [8] (fun i wr => ∃ k : Nat,k ≤ m ∧ i = .i k ∧ Below w.heap.size w wr ∧ Hid (∀ i,i < k → (es[i]?.getD en0).nm ≠ nm)) (fun i _ => m - (intOf i).toNat)
 case atStart => exact ⟨0,Nat.zero_le _,rfl,Below.refl _ _,fun i hi => absurd hi (Nat.not_lt_zero _)⟩
 case round =>
  obtain ⟨k,hk,rfl,hbel,HA⟩:=hrel
  by_cases hlt : k < m
  ·obtain ⟨b,off,rfl,hbl,_,hx⟩:=RdV.at (HR.out wr hbel) hlt
   obtain ⟨e,he⟩ : ∃ e,es[k]?.getD en0 = e:=⟨_,rfl⟩
   obtain ⟨x0,c0,r0⟩:=hx 0 (by omega)
   obtain ⟨x1,c1,r1⟩:=hx 1 (by omega)
   obtain ⟨x2,c2,r2⟩:=hx 2 (by omega)
   obtain ⟨x3,c3,r3⟩:=hx 3 (by omega)
   rw [he] at r0 r1 r2 r3
   have HE : Hid _:=he
   clear hx he
   obtain ⟨nm1,⟨p,q,d⟩⟩:=e
   simp only [Nat.add_zero] at c0
   have RB : RdV wr S x0 (.bytes nm1):=r0
   obtain rfl : x1 = .i p:=r1
   obtain rfl : x2 = .i q:=r2
   obtain rfl : x3 = .bool d:=r3
   have HCC : Hid (Calls Tryz.prog 131 #[.agg #[x0,.i p,.i q,.bool d],.pointer (some ⟨vb,0,none⟩)] wr fun e w' => e = .returned (.bool (decide (nm1 = nm))) ∧ Below wr.heap.size wr w'):=HC.out x0 p q d nm1 wr hbel RB
   obtain ⟨xa,xc,rfl⟩:=RB.sliceB
   generalize nm1.length = xn at *
   clear r0 RB
   by_cases heq : nm1 = nm
   ·have HF : Hid (findE es nm = (k : Int)):=by
     have:=ei_at es nm k (by rw [HN.out]; exact hlt) (by rw [HE.out]; exact heq) HA.out
     show _ = _
     unfold findE
     rw [this,if_pos (by rw [HN.out]; exact hlt)]
    simp only [heq,decide_true] at HCC
    clear HA
    go_wp2_with (go_at_call 131; refine Calls.mono HCC.out ?_; rintro e w2 ⟨rfl,hb2⟩)
    go_ret
    exact ⟨by rw [HF.out]; rfl,hbel.trans (hb2.mono hbel.size)⟩
   ·have HF : Hid (∀ i,i < k + 1 → (es[i]?.getD en0).nm ≠ nm):=fun i hi => by
     by_cases h1 : i < k
     ·exact HA.out i h1
     ·obtain rfl : i = k:=by omega
      rw [HE.out]; exact heq
    simp only [heq,decide_false] at HCC
    clear HA
    go_wp2_with (go_at_call 131; refine Calls.mono HCC.out ?_; rintro e w2 ⟨rfl,hb2⟩)
    go_roundw
    case rel => exact ⟨k + 1,by omega,by go_num,hbel.trans (hb2.mono hbel.size),HF.out⟩
    case measure => simp [intOf]; omega
  ·have he : k = m:=by omega
   subst he
   have HF : Hid (findE es nm = -1):=ei_none es _ (fun i hi => HA.out i (by rw [HN.out] at hi; exact hi))
   go_wp2
   go_ret
   exact ⟨by rw [HF.out]; rfl,hbel⟩
end
section
theorem results_rowIC {fn : Func} {p u : Tmp} {ty : TypeId} (h : fn.results = #[.cell p ty,.tmp u]) (tmps : Array Value) (w : World) (g : Nat) (t : TypeId) (cs : Array Value) (d : TypeDesc)
  (hp : tmps.getD p undef = .pointer (some ⟨g,0,none⟩)) (hg : VarA w g t cs)
  (hu : Tryz.prog.underlying ty = some d) (hd : d.isRow = true) (hi : (Tryz.prog.info? ty).map (·.size) = some cs.size) :
  (results fn tmps).run Tryz.prog w = .ok (.tuple #[.agg cs,tmps.getD u undef]) w:=by
 rw [results_cell_tmp h,hp]
 simp [asAddr,loadA_run hg hu hd hi]
def fdH (es : List En) (nm : List Int) : Hd:=if ei es nm < es.length then (es[ei es nm]?.getD en0).h else hd0
def fdB (es : List En) (nm : List Int) : Bool:=decide (ei es nm < es.length)
set_option maxHeartbeats 1000000 in
theorem find_any (x y : Value) (n : Nd) (nm : List Int) (S S2 : Nat → Prop) (w : World) (r : RdV w S x (ensDt n.es)) (r2 : RdV w S2 y (.bytes nm)) (hl : n.es.length ≤ 2097152) :
  Calls Tryz.prog 119 #[ndV n x,y] w fun e w' => e = .returned (.tuple #[(fdH n.es nm).v,.bool (fdB n.es nm)]) ∧ Below w.heap.size w w':=by
 obtain ⟨a,cap,rfl,_⟩:=RdV.sliced r
 obtain ⟨ya,yc,rfl⟩:=r2.sliceB
 obtain ⟨⟨p,q,d⟩,⟨p2,q2,d2⟩,lk,vl,es⟩:=n
 dsimp only at r hl ⊢
 have HR : Hid (∀ W,Below w.heap.size w W → RdV W S (.slice a es.length cap) (.rows 86 4 es.length (fun i j => enCell (es[i]?.getD en0) j))):=RdV.old r
 have HI : Hid (∀ vb W,Below w.heap.size w W → VarA W vb 39 #[.slice ya nm.length yc] → _):=fun vb W hW hv => idxEn_any vb (.slice a es.length cap) (.slice ya nm.length yc) es nm S S2 W (HR.out W hW) (r2.step hW) hv hl
 obtain ⟨m,hm⟩ : ∃ m,es.length = m:=⟨_,rfl⟩
 have HN : Hid _:=hm
 generalize nm.length = yn at *
 obtain ⟨⟨ph,qh,dh⟩,hres⟩ : ∃ r,fdH es nm = r:=⟨_,rfl⟩
 obtain ⟨bh,hbh⟩ : ∃ r,fdB es nm = r:=⟨_,rfl⟩
 rw [hres,hbh]
 have HF : Hid (fdH es nm = (ph,qh,dh)):=hres
 have HB : Hid (fdB es nm = bh):=hbh
 obtain ⟨t,ht⟩ : ∃ t,findE es nm = t:=⟨_,rfl⟩
 rw [ht,hm] at HI
 rw [hm] at HR hl ⊢
 have HT : Hid (findE es nm = t):=ht
 clear r r2 hm hres hbh ht
 go_enter Tryz.func119,Tryz.ntmps119
 go_wp2_with fail
 go_at_call 130
 refine Calls.mono (HI.out (w.heap.size + 1) _ (by repeat (first | exact Below.refl _ _ | refine Below.al2 ?_ _)) ((by simpa using VarA.new (w.alloc _) 39 _ : VarA ((w.alloc _).alloc (.cells #[.slice ya yn yc] 39)) (w.heap.size + 1) _ _).alloc _)) ?_
 rintro e w1 ⟨rfl,hb1⟩
 have vN : VarA w1 w.heap.size 77 #[.i p,.i q,.bool d,.i p2,.i q2,.bool d2,.i lk,.i vl,.slice a m cap]:=(((VarA.new w _ _).alloc _).alloc _).step hb1
 have vR : VarA w1 (w.heap.size + 2) 48 #[.i 0,.i 0,.bool false]:=(by simpa using VarA.new ((w.alloc _).alloc _) 48 _ : VarA (((w.alloc _).alloc _).alloc (.cells #[.i 0,.i 0,.bool false] 48)) (w.heap.size + 2) _ _).step hb1
 have HB1 : Hid (Below w.heap.size w w1):=(show Below w.heap.size w (((w.alloc _).alloc _).alloc _) by repeat (first | exact Below.refl _ _ | refine Below.al2 ?_ _)).trans (hb1.mono (by simp <;> omega))
 clear HI hb1
 by_cases hlt : ei es nm < es.length
 ·have hk : t = ((ei es nm : Nat) : Int):=by rw [← HT.out]; unfold findE; rw [if_pos hlt]
  obtain ⟨k,hk2⟩ : ∃ k,ei es nm = k:=⟨_,rfl⟩
  rw [hk2] at hk hlt
  rw [HN.out] at hlt
  subst hk
  have hh : (es[k]?.getD en0).h = (ph,qh,dh):=by rw [← HF.out]; unfold fdH; rw [hk2,HN.out,if_pos hlt]
  have hbt : true = bh:=by rw [← HB.out]; unfold fdB; rw [hk2,HN.out]; simp [hlt]
  subst hbt
  obtain ⟨b,off,rfl,hbl,_,hx⟩:=RdV.at (HR.out w1 HB1.out) hlt
  obtain ⟨x1,c1,r1⟩:=hx 1 (by omega)
  obtain ⟨x2,c2,r2⟩:=hx 2 (by omega)
  obtain ⟨x3,c3,r3⟩:=hx 3 (by omega)
  obtain rfl : x1 = .i ph:=by have h9 : x1 = .i (es[k]?.getD en0).h.1:=r1; rw [hh] at h9; exact h9
  obtain rfl : x2 = .i qh:=by have h9 : x2 = .i (es[k]?.getD en0).h.2.1:=r2; rw [hh] at h9; exact h9
  obtain rfl : x3 = .bool dh:=by have h9 : x3 = .bool (es[k]?.getD en0).h.2.2:=r3; rw [hh] at h9; exact h9
  clear hx HT HF HB hh hk2
  have c8:=vN.c 8 rfl
  dsimp at c8
  obtain ⟨b0,b1,b2⟩:=vR.l3
  have fz:=vR.fz
  have VR : Hid (VarA w1 (w.heap.size + 2) 48 _):=vR
  clear vR vN
  go_wp2
  refine bodyPost_ret (results_rowIC Tryz.results119 _ _ _ _ _ _ rfl (VarA.set3 VR.out) Tryz.underlying48 rfl (by kernel_rfl)) rfl ?_
  exact ⟨rfl,Below.set3 HB1.out (by omega)⟩
 ·have hk : t = -1:=by rw [← HT.out]; unfold findE; rw [if_neg hlt]
  subst hk
  have hh : hd0 = (ph,qh,dh):=by rw [← HF.out]; unfold fdH; rw [if_neg hlt]
  have hbt : false = bh:=by rw [← HB.out]; unfold fdB; simp [hlt]
  subst hbt
  obtain ⟨rfl,rfl,rfl⟩ : (0 : Int) = ph ∧ (0 : Int) = qh ∧ false = dh:=by have h9:=hh; unfold hd0 at h9; simpa using h9
  clear HT HF HB hh HN hlt
  obtain ⟨b0,b1,b2⟩:=vR.l3
  have fz:=vR.fz
  have VR : Hid (VarA w1 (w.heap.size + 2) 48 _):=vR
  clear vR vN HR
  go_wp2
  refine bodyPost_ret (results_rowIC Tryz.results119 _ _ _ _ _ _ rfl (VarA.set3 VR.out) Tryz.underlying48 rfl (by kernel_rfl)) rfl ?_
  exact ⟨rfl,Below.set3 HB1.out (by omega)⟩
end
section
theorem has_any (x y : Value) (n : Nd) (nm : List Int) (S S2 : Nat → Prop) (w : World) (r : RdV w S x (ensDt n.es)) (r2 : RdV w S2 y (.bytes nm)) (hl : n.es.length ≤ 2097152) :
  Calls Tryz.prog 132 #[ndV n x,y] w fun e w' => e = .returned (.bool (fdB n.es nm)) ∧ Below w.heap.size w w':=by
 obtain ⟨a,cap,rfl,_⟩:=RdV.sliced r
 obtain ⟨ya,yc,rfl⟩:=r2.sliceB
 have HF : Hid (∀ o,_):=fun o => find_any (.slice a n.es.length cap) (.slice ya nm.length yc) n nm S S2 (w.alloc o) (r.step (Below.newH _)) (r2.step (Below.newH _)) hl
 obtain ⟨⟨p,q,d⟩,⟨p2,q2,d2⟩,lk,vl,es⟩:=n
 dsimp only at HF ⊢
 obtain ⟨⟨ph,qh,dh⟩,hres⟩ : ∃ r,fdH es nm = r:=⟨_,rfl⟩
 rw [hres] at HF
 generalize fdB es nm = bh at HF ⊢
 clear r r2 hl hres
 generalize nm.length = yn at *
 generalize es.length = m at *
 go_enter Tryz.func132,Tryz.ntmps132
 go_wp2_with (go_at_call 119; refine Calls.mono (HF.out _) ?_; rintro e w1 ⟨rfl,hb1⟩)
 go_ret
 exact ⟨rfl,Below.al2 ((Below.newH (w:=w) _).trans (hb1.mono (by simp))) _⟩
theorem atX_rd (f : Hd → Option Nd) (X : Hd → Value) (g : Hd) (S : Nat → Prop) (w : World) (hX : ∀ n,f g = some n → RdV w S (X n.h) (ensDt n.es)) : ∃ a c,atX f X g = ndV ((f g).getD nd0) (.slice a ((f g).getD nd0).es.length c) ∧ RdV w S (.slice a ((f g).getD nd0).es.length c) (ensDt ((f g).getD nd0).es):=by
 unfold atX
 cases hf : f g with
 | none => exact ⟨none,0,rfl,OwV.rd (OwV.nilR _ _ _ _ _)⟩
 | some n =>
  have r:=hX n hf
  obtain ⟨a,c,e,_⟩:=RdV.sliced r
  exact ⟨a,c,by show ndV n (X n.h) = _; rw [e]; rfl,by rw [e] at r; exact r⟩
def roomI (f : Hd → Option Nd) (g : Hd) (nm : List Int) : Int:=if fdB ((f g).getD nd0).es nm = true then 4 else if 12 ≤ ((f g).getD nd0).es.length then 5 else 0
set_option maxHeartbeats 1000000 in
theorem roomCode_any (b s : Nat) (f : Hd → Option Nd) (X : Hd → Value) (g : Hd) (y : Value) (nm : List Int) (S S2 : Nat → Prop) (w : World) (M : MapH (ndX X) w b s f) (hin : HIn g) (hX : ∀ n,f g = some n → RdV w S (X n.h) (ensDt n.es)) (r2 : RdV w S2 y (.bytes nm)) (hl : ((f g).getD nd0).es.length ≤ 2097152) :
  Calls Tryz.prog 120 #[.map (some b),g.v,y] w fun e w' => e = .returned (.i (roomI f g nm)) ∧ Below w.heap.size w w':=by
 obtain ⟨a,cap,hat,rx⟩:=atX_rd f X g S w hX
 obtain ⟨ya,yc,rfl⟩:=r2.sliceB
 have hbs:=M.lt
 have HM : Hid (∀ W,Below w.heap.size w W → MapH (ndX X) W b s f):=fun W hW => M.blk (hW.block b hbs)
 have HH : Hid (∀ W,Below w.heap.size w W → _):=fun W hW => has_any (.slice a ((f g).getD nd0).es.length cap) (.slice ya nm.length yc) ((f g).getD nd0) nm S S2 W (rx.step hW) (r2.step hW) hl
 have HI : Hid (HIn g):=hin
 obtain ⟨res,hres⟩ : ∃ r,roomI f g nm = r:=⟨_,rfl⟩
 have HRES : Hid ((if fdB ((f g).getD nd0).es nm = true then 4 else if 12 ≤ ((f g).getD nd0).es.length then 5 else 0) = res):=hres
 rw [hres]
 have HA : Hid _:=hat
 obtain ⟨nd,hnd⟩ : ∃ nd,(f g).getD nd0 = nd:=⟨_,rfl⟩
 rw [hnd] at HH HRES HA hl
 clear M hin hX r2 rx hat hres hnd
 obtain ⟨p,q,d⟩:=g
 obtain ⟨⟨s0,s1,s2⟩,⟨s3,s4,s5⟩,lk,vl,es⟩:=nd
 dsimp only at HH HRES HA hl
 generalize fdB es nm = bh at HH HRES
 generalize nm.length = yn at *
 generalize es.length = m at *
 go_enter Tryz.func120,Tryz.ntmps120
 go_wp2_with (first | (at_lookup; refine wpList_lookX _ rfl (.tmp 8) (.tmp 9) rfl b s f X rfl (HM.out _ (by repeat (first | exact Below.refl _ _ | refine Below.al2 ?_ _))) (p,q,d) HI.out rfl ?_; rw [HA.out]))
 go_at_call 132
 refine Calls.mono (HH.out _ (by repeat (first | exact Below.refl _ _ | refine Below.al2 ?_ _))) ?_
 rintro e w1 ⟨rfl,hb1⟩
 have vN : VarA w1 (w.heap.size + 1) 77 #[.i s0,.i s1,.bool s2,.i s3,.i s4,.bool s5,.i lk,.i vl,.slice a m cap]:=(by simpa using VarA.new (w.alloc _) 77 _ : VarA ((w.alloc _).alloc (.cells #[.i s0,.i s1,.bool s2,.i s3,.i s4,.bool s5,.i lk,.i vl,.slice a m cap] 77)) (w.heap.size + 1) _ _).step hb1
 have HB1 : Hid (Below w.heap.size w w1):=(show Below w.heap.size w ((w.alloc _).alloc _) by repeat (first | exact Below.refl _ _ | refine Below.al2 ?_ _)).trans (hb1.mono (by simp <;> omega))
 have c8:=vN.c 8 rfl
 dsimp at c8
 clear vN hb1
 rcases (show bh = true ∨ bh = false ∧ (12 ≤ m ∨ m < 12) by cases bh <;> simp <;> omega) with rfl | ⟨rfl,hm | hm⟩
 all_goals
  go_wp2
  go_ret
  exact ⟨by rw [← HRES.out]; simp [*] <;> omega,HB1.out⟩
end
section
def setX (X : Hd → Value) (h : Hd) (x : Value) : Hd → Value:=fun g => if g = h then x else X g
def setN (f : Hd → Option Nd) (h : Hd) (n : Nd) : Hd → Option Nd:=fun g => if g = h then some n else f g
theorem MapH.putX {w : World} {b s : Nat} {f : Hd → Option Nd} {X : Hd → Value} {t e : TypeId} (M : MapH (ndX X) w b s f) (hk : ∀ g n,f g = some n → n.h = g) (ht : Tryz.prog.underlying t = some (.map 48 e)) (hn : s < maxLen) {h : Hd} (hh : HIn h) (n : Nd) (x : Value) (hnh : n.h = h) :
  ∃ w',(Instr.mapUpdate t (.map (some b)) h.v (ndV n x)).run Tryz.prog w = .ok () w' ∧ MapH (ndX (setX X h x)) w' b (if (f h).isSome then s else s + 1) (setN f h n) ∧ w.grownBy w' (some b):=by
 have M2 : MapH (fun (c : Nd × Value) v => v = ndV c.1 c.2) w b s (fun g => (f g).map fun n => (n,X n.h)):=M.to _ (fun g hg => by simpa using hg) (fun g c hc => by
  cases hf : f g with
  | none => simp [hf] at hc
  | some a => simp [hf] at hc; subst hc; exact ⟨a,rfl,fun v hv => hv⟩)
 obtain ⟨w',hrun,M3,hg⟩:=M2.put ht hn hh (a:=(n,x)) (v:=ndV n x) rfl
 refine ⟨w',hrun,?_,hg⟩
 have hs : ((fun g => (f g).map fun n => (n,X n.h)) h).isSome = (f h).isSome:=by simp
 rw [hs] at M3
 refine M3.to _ (fun g hg => ?_) (fun g c hc => ?_)
 ·by_cases e : g = h
  ·simp [setN,e] at hg
  ·simp [setN,e] at hg; simp [e,hg]
 ·by_cases e : g = h
  ·simp [setN,e] at hc
   subst hc
   exact ⟨(n,x),by simp [e],fun v hv => by rw [hv]; show _ = ndV n (setX X h x n.h); simp [setX,hnh]⟩
  ·simp [setN,e] at hc
   refine ⟨(c,X c.h),by simp [e,hc],fun v hv => ?_⟩
   rw [hv]
   show _ = ndV c (setX X h x c.h)
   have:=hk g c hc
   simp [setX,this,e]
theorem setN_key {f : Hd → Option Nd} {h : Hd} {n : Nd} (hk : ∀ g n,f g = some n → n.h = g) (hn : n.h = h) : ∀ g m,setN f h n g = some m → m.h = g:=by
 intro g m hg
 by_cases e : g = h
 ·simp [setN,e] at hg; subst hg; rw [hn,e]
 ·simp [setN,e] at hg; exact hk g m hg
theorem wpList_putX (w : World) {ops : Array Oper} {rest : List Oper} {o : Oper} {a : Act} {Q : Exit → Act → World → Prop}
  (hg : o.guard = none) (m x v : Operand) (hop : o.op = Op.mapUpdate 148 m x v) (b s : Nat) (f : Hd → Option Nd) (X : Hd → Value)
  (hm : a.eval m = .map (some b)) (M : MapH (ndX X) w b s f) (hk : ∀ g n,f g = some n → n.h = g) (hn : s < maxLen) (h : Hd) (hh : HIn h) (hx : a.eval x = h.v) (n : Nd) (y : Value) (hnh : n.h = h) (hv : a.eval v = ndV n y)
  (hK : ∀ w',MapH (ndX (setX X h y)) w' b (if (f h).isSome then s else s + 1) (setN f h n) → w.grownBy w' (some b) → wpList Tryz.prog ops Q rest (a.put o.dst undef) w') :
  wpList Tryz.prog ops Q (o :: rest) a w:=by
 refine wpList_plain hg fun K' hK' => ?_
 obtain ⟨w',hrun,r1,r2⟩:=M.putX hk Tryz.underlying148 hn hh n y hnh
 unfold Oper.wp
 simp [execOp,hop,hm,hx,hv,hrun,Result.andThen]
 exact hK' _ _ (hK w' r1 r2)
end
section
open Go.Maps
def delN (f : Hd → Option Nd) (h : Hd) : Hd → Option Nd:=fun g => if g = h then none else f g
theorem MapH.drop {α : Type} {V : α → Value → Prop} {w : World} {b s : Nat} {f : Hd → Option α} {t e : TypeId} (m : MapH V w b s f) (ht : Tryz.prog.underlying t = some (.map 48 e)) {h : Hd} (hh : HIn h) (ty : TypeId) :
  ∃ w',(Builtin.delete_ #[t,48] ty #[.map (some b),h.v]).run Tryz.prog w = .ok (.tuple #[]) w' ∧ MapH V w' b (if (f h).isSome then s - 1 else s) (fun g => if g = h then none else f g) ∧ w.grownBy w' (some b):=by
 obtain ⟨D,hD,h1,h2⟩:=m
 obtain ⟨w',hrun,ho,hg⟩:=hD.drop lawHd ht (keyHd hh) ty
 have hty:=hD.tidy lawHd
 have hsz:=Maps.size_del (k:=klH h) hty
 have hss : Maps.size (D.del (klH h)) = if (f h).isSome then s - 1 else s:=by
  cases hf : f h with
  | none => rw [(h2 h hh).1 hf] at hsz; simp at hsz ⊢; omega
  | some a => rw [((h2 h hh).2 a hf).1] at hsz; simp at hsz ⊢; omega
 refine ⟨w',hrun,⟨D.del (klH h),?_,hss,?_⟩,hg.grown⟩
 ·have h3:=ownsMap_tight ho
  rw [hss] at h3
  exact h3
 ·intro g hgi
  by_cases hgh : g = h
  ·subst hgh
   exact ⟨fun _ => Maps.has_del_same,fun c hc => by simp at hc⟩
  ·have hne:=klH_ne hgi hh hgh
   simp only [if_neg hgh]
   refine ⟨fun hc => ?_,fun c hc => ?_⟩
   ·rw [Maps.has_del_other hne]; exact (h2 g hgi).1 hc
   ·obtain ⟨x1,u,x2,x3⟩:=(h2 g hgi).2 c hc
    exact ⟨by rw [Maps.has_del_other hne]; exact x1,u,x2,fun z => by rw [Maps.atKey_del_other hne]; exact x3 z⟩
theorem wpList_dropX (w : World) {ops : Array Oper} {rest : List Oper} {o : Oper} {a : Act} {Q : Exit → Act → World → Prop}
  (hg : o.guard = none) (m x : Operand) (hop : o.op = Op.call { callee:=Callee.builtin Builtin.delete,args:=#[m,x],argTypes:=#[148,48] }) (b s : Nat) (f : Hd → Option Nd) (X : Hd → Value)
  (hm : a.eval m = .map (some b)) (M : MapH (ndX X) w b s f) (h : Hd) (hh : HIn h) (hx : a.eval x = h.v)
  (hK : ∀ w',MapH (ndX X) w' b (if (f h).isSome then s - 1 else s) (delN f h) → w.grownBy w' (some b) → wpList Tryz.prog ops Q rest (a.put o.dst (.tuple #[])) w') :
  wpList Tryz.prog ops Q (o :: rest) a w:=by
 refine wpList_plain hg fun K' hK' => ?_
 obtain ⟨w',hrun,r1,r2⟩:=M.drop Tryz.underlying148 hh o.type
 unfold Oper.wp
 simp [execOp,hop,resolve,invoke,builtin,hm,hx,hrun,Result.andThen]
 exact hK' _ _ (hK w' r1 r2)
theorem setX_same (X : Hd → Value) (h : Hd) : setX X h (X h) = X:=by
 funext g
 unfold setX
 by_cases e : g = h
 ·rw [if_pos e,e]
 ·rw [if_neg e]
end
section
open Go.Maps
def unlN (f : Hd → Option Nd) (h : Hd) (n : Nd) : Hd → Option Nd:=if n.links - 1 ≤ 0 then delN f h else setN f h { n with links:=n.links - 1 }
def unlS (s : Nat) (n : Nd) : Nat:=if n.links - 1 ≤ 0 then s - 1 else s
set_option maxHeartbeats 1000000 in
theorem unlink_any (b s : Nat) (f : Hd → Option Nd) (X : Hd → Value) (g : Hd) (n : Nd) (w : World) (M : MapH (ndX X) w b s f) (hk : ∀ g n,f g = some n → n.h = g) (hin : HIn g) (hf : f g = some n) (hX : ∃ a m c,X g = .slice a m c) (hs : s ≤ 2097152) (hlk : -1000000000000 ≤ n.links ∧ n.links ≤ 1000000000000) :
  Calls Tryz.prog 123 #[.map (some b),g.v] w fun e w' => e = .returned (.tuple #[]) ∧ MapH (ndX X) w' b (unlS s n) (unlN f g n) ∧ Turned (fun c => c = b) w w':=by
 obtain ⟨a,m,c,hx⟩:=hX
 have hnh:=hk g n hf
 have hat : atX f X g = ndV n (.slice a m c):=by unfold atX; rw [hf]; show ndV n (X n.h) = _; rw [hnh,hx]
 have HA : Hid _:=hat
 have hbs:=M.lt
 have HM : Hid (∀ W,Below w.heap.size w W → MapH (ndX X) W b s f):=fun W hW => M.blk (hW.block b hbs)
 have HK : Hid _:=hk
 have HI : Hid (HIn g):=hin
 have HNH : Hid (n.h = g):=hnh
 have HX : Hid (X g = .slice a m c):=hx
 have HF : Hid (f g = some n):=hf
 have hsm : s < maxLen:=by unfold maxLen; omega
 obtain ⟨p,q,d⟩:=g
 obtain ⟨⟨s0,s1,s2⟩,⟨s3,s4,s5⟩,lk,vl,es⟩:=n
 dsimp only at hlk
 clear M hk hin hf hx hnh hat
 go_enter Tryz.func123,Tryz.ntmps123
 by_cases hl : lk - 1 ≤ 0
 ·go_wp2_with (first | (at_lookup; refine wpList_lookX _ rfl (.tmp 5) (.tmp 6) rfl b s f X rfl (HM.out _ (by repeat (first | exact Below.refl _ _ | refine Below.al2 ?_ _))) (p,q,d) HI.out rfl ?_; rw [HA.out]) | (at_delete; refine wpList_dropX _ rfl (.tmp 15) (.tmp 16) rfl b s f X rfl (HM.out _ (by repeat (first | exact Below.refl _ _ | refine Below.al2 ?_ _))) (p,q,d) HI.out rfl ?_; intro w9 M9 g9))
  refine bodyPost_ret (results_none (by first | rfl | kernel_rfl) _ _ _) rfl ?_
  refine ⟨rfl,?_,(Turned.ofBelow (by repeat (first | exact Below.refl _ _ | refine Below.al2 ?_ _))).trans (Turned.ofGrown g9 (fun k hk => by simpa using hk.symm))⟩
  rw [HF.out] at M9
  unfold unlS unlN
  rw [if_pos hl,if_pos hl]
  exact M9
 ·go_wp2_with (first | (at_lookup; refine wpList_lookX _ rfl (.tmp 5) (.tmp 6) rfl b s f X rfl (HM.out _ (by repeat (first | exact Below.refl _ _ | refine Below.al2 ?_ _))) (p,q,d) HI.out rfl ?_; rw [HA.out]) | (at_mapUpdate; refine wpList_putX _ rfl (.tmp 17) (.tmp 18) (.tmp 19) rfl b s f X rfl (HM.out _ (by repeat (first | exact Below.refl _ _ | refine Below.al2 ?_ _))) HK.out hsm (p,q,d) HI.out rfl (Nd.mk (s0,s1,s2) (s3,s4,s5) (lk - 1) vl es) (.slice a m c) HNH.out rfl ?_; intro w9 M9 g9))
  go_end0
  refine ⟨rfl,?_,(Turned.ofBelow (by repeat (first | exact Below.refl _ _ | refine Below.al2 ?_ _))).trans (Turned.ofGrown g9 (fun k hk => by simpa using hk.symm))⟩
  rw [HF.out,← HX.out,setX_same] at M9
  unfold unlS unlN
  rw [if_neg (by show ¬ lk - 1 ≤ 0; omega),if_neg (by show ¬ lk - 1 ≤ 0; omega)]
  exact M9
end
section
open Go.Maps
theorem Turned.past {S : Nat → Prop} {w w1 w2 : World} {r : Nat} (b : Turned S w w1) (t : Turned (fun k => k = r) w1 w2) (hr : w.heap.size ≤ r) : Turned S w w2:=
 ⟨t.os.trans b.os,t.tape.trans b.tape,t.output.trans b.output,Nat.le_trans b.size t.size,fun k hk hs => (t.block k (Nat.lt_of_lt_of_le hk b.size) (fun e => by omega)).trans (b.block k hk hs)⟩
set_option maxHeartbeats 1000000 in
theorem write_any (b s : Nat) (f : Hd → Option Nd) (X : Hd → Value) (o : OpD) (ya za : Option Addr) (yn yc zn zc : Nat) (n : Nd) (w : World) (M : MapH (ndX X) w b s f) (hk : ∀ g n,f g = some n → n.h = g) (hin : HIn o.dir) (hf : f o.dir = some n) (hX : ∃ a m c,X o.dir = .slice a m c) (hs : s ≤ 2097152) :
  Calls Tryz.prog 103 #[.map (some b),opV o (.slice ya yn yc) (.slice za zn zc)] w fun e w' => e = .returned (rpV rp0 (.n0)) ∧ MapH (ndX X) w' b s (setN f o.dir { n with val:=o.val }) ∧ Turned (fun c => c = b) w w':=by
 obtain ⟨kd,⟨p,q,d⟩,nm,⟨p2,q2,d2⟩,asn,ov⟩:=o
 dsimp only at hin hf hX ⊢
 obtain ⟨a,m,c,hx⟩:=hX
 have hnh:=hk _ n hf
 have hat : atX f X (p,q,d) = ndV n (.slice a m c):=by unfold atX; rw [hf]; show ndV n (X n.h) = _; rw [hnh,hx]
 have HA : Hid _:=hat
 have hbs:=M.lt
 have HM : Hid (∀ W,Below w.heap.size w W → MapH (ndX X) W b s f):=fun W hW => M.blk (hW.block b hbs)
 have HK : Hid _:=hk
 have HI : Hid (HIn (p,q,d)):=hin
 have HNH : Hid (n.h = (p,q,d)):=hnh
 have HX : Hid (X (p,q,d) = .slice a m c):=hx
 have HF : Hid (f (p,q,d) = some n):=hf
 have hsm : s < maxLen:=by unfold maxLen; omega
 obtain ⟨⟨s0,s1,s2⟩,⟨s3,s4,s5⟩,lk,vl,es⟩:=n
 clear M hk hin hf hx hnh hat
 go_enter Tryz.func103,Tryz.ntmps103
 go_wp2_with (first | (at_lookup; refine wpList_lookX _ rfl (.tmp 6) (.tmp 8) rfl b s f X rfl (HM.out _ (by repeat (first | exact Below.refl _ _ | refine Below.al2 ?_ _))) (p,q,d) HI.out rfl ?_; rw [HA.out]) | (at_mapUpdate; refine wpList_putX _ rfl (.tmp 13) (.tmp 15) (.tmp 16) rfl b s f X rfl (HM.out _ (by repeat (first | exact Below.refl _ _ | refine Below.al2 ?_ _))) HK.out hsm (p,q,d) HI.out rfl (Nd.mk (s0,s1,s2) (s3,s4,s5) lk ov es) (.slice a m c) HNH.out rfl ?_; intro w9 M9 g9; have v9 : VarA w9 (w.heap.size + 1) 51 #[.i 0,.i 0,.i 0,.bool false,.i 0,.n0]:=((by simpa using VarA.new (w.alloc _) 51 _ : VarA ((w.alloc _).alloc (.cells #[.i 0,.i 0,.i 0,.bool false,.i 0,.n0] 51)) (w.heap.size + 1) _ _).alloc _).turn (Turned.ofGrown (S:=fun c => c = b) g9 (fun k hk => by simpa using hk.symm)) (by show ¬ w.heap.size + 1 = b; omega)) | ((with_reducible refine gS 51 ?_); refine sF v9 rfl rfl (by kernel_rfl) rfl rfl ?_; intro w8 v8 t8))
 refine bpR Tryz.results103 v8 Tryz.underlying51 rfl rfl (by kernel_rfl) rfl ?_
 have M8:=M9
 rw [HF.out,← HX.out,setX_same] at M8
 exact ⟨rfl,M8.blk (t8.block b M9.lt (by show ¬ b = w.heap.size + 1; omega)),Turned.past ((Turned.ofBelow (by repeat (first | exact Below.refl _ _ | refine Below.al2 ?_ _))).trans (Turned.ofGrown g9 (fun k hk => by simpa using hk.symm))) t8 (by omega)⟩
end
section
open Go.Maps
theorem gen_world {P : World → Prop} {W : World} (I : World → Prop) (hI : I W) (h : ∀ W',I W' → P W') : P W:=h W hI
theorem lookX_run {w : World} {b s : Nat} {f : Hd → Option Nd} {X : Hd → Value} (M : MapH (ndX X) w b s f) {h : Hd} (hh : HIn h) : (Instr.lookup 148 (.map (some b)) h.v false).run Tryz.prog w = .ok (atX f X h) w:=by
 obtain ⟨v,hrun,r1,r2⟩:=M.look Tryz.underlying148 (zeroNd w) hh
 obtain rfl : v = atX f X h:=by
  unfold atX
  cases hf : f h with
  | none => exact r1 hf
  | some n => exact r2 n hf
 exact hrun
def moveI (f : Hd → Option Nd) (dir tq : Hd) (asn : List Int) (h : Hd) : Int:=
 if tq.dir = false then 2 else if (f tq).isSome = false then 1 else if tq = dir then (if fdB ((f tq).getD nd0).es asn = true then 4 else 0)
 else if roomI f tq asn ≠ 0 ∨ h.dir = false then roomI f tq asn else wayI f h 12 tq
set_option maxHeartbeats 2000000 in
theorem moveCode_any (b s : Nat) (f : Hd → Option Nd) (X : Hd → Value) (o : OpD) (h : Hd) (y : Value) (za : Option Addr) (zn zc : Nat) (S S2 : Nat → Prop) (w : World) (M : MapH (ndX X) w b s f) (hin : HIn o.to)
  (hX : ∀ g n,f g = some n → RdV w S (X n.h) (ensDt n.es)) (hp : ∀ g n,f g = some n → HIn n.par) (r2 : RdV w S2 y (.bytes o.asn)) (hl : ((f o.to).getD nd0).es.length ≤ 2097152) :
  Calls Tryz.prog 124 #[.map (some b),opV o (.slice za zn zc) y,h.v] w fun e w' => e = .returned (.i (moveI f o.dir o.to o.asn h)) ∧ Below w.heap.size w w':=by
 obtain ⟨kd,⟨p,q,d⟩,nm,⟨p2,q2,d2⟩,asn,ov⟩:=o
 obtain ⟨ph,qh,dh⟩:=h
 dsimp only at hin r2 hl ⊢
 obtain ⟨a,cap,hat,rx⟩:=atX_rd f X (p2,q2,d2) S w (hX _)
 obtain ⟨ya,yc,rfl⟩:=r2.sliceB
 have hbs:=M.lt
 have HM : Hid (∀ W,Below w.heap.size w W → MapH (ndX X) W b s f):=fun W hW => M.blk (hW.block b hbs)
 have HH : Hid (∀ W,Below w.heap.size w W → _):=fun W hW => has_any (.slice a ((f (p2,q2,d2)).getD nd0).es.length cap) (.slice ya asn.length yc) ((f (p2,q2,d2)).getD nd0) asn S S2 W (rx.step hW) (r2.step hW) hl
 have HR : Hid (∀ W,Below w.heap.size w W → _):=fun W hW => roomCode_any b s f X (p2,q2,d2) (.slice ya asn.length yc) asn S S2 W (HM.out W hW) hin (fun n hn => (hX _ n hn).step hW) (r2.step hW) hl
 have HW : Hid (∀ W,Below w.heap.size w W → _):=fun W hW => wayCode_any b s f (ph,qh,dh) (p2,q2,d2) W ((HM.out W hW).to f (fun _ h => h) (fun g n hn => ⟨n,hn,fun v hv => by
  obtain ⟨a9,c9,e9,_⟩:=RdV.sliced (hX g n hn)
  exact ⟨a9,_,c9,by rw [hv,e9]⟩⟩)) hin hp
 have HI : Hid (HIn (p2,q2,d2)):=hin
 have HA : Hid _:=hat
 obtain ⟨res,hres⟩ : ∃ r,moveI f (p,q,d) (p2,q2,d2) asn (ph,qh,dh) = r:=⟨_,rfl⟩
 have HRES : Hid ((if d2 = false then 2 else if (f (p2,q2,d2)).isSome = false then 1 else if ((p2,q2,d2) : Hd) = (p,q,d) then (if fdB ((f (p2,q2,d2)).getD nd0).es asn = true then 4 else 0)
  else if roomI f (p2,q2,d2) asn ≠ 0 ∨ dh = false then roomI f (p2,q2,d2) asn else wayI f (ph,qh,dh) 12 (p2,q2,d2)) = res):=hres
 rw [hres]
 generalize hth : (f (p2,q2,d2)).isSome = th at HRES
 have HT : Hid ((f (p2,q2,d2)).isSome = th):=hth
 obtain ⟨nd,hnd⟩ : ∃ nd,(f (p2,q2,d2)).getD nd0 = nd:=⟨_,rfl⟩
 rw [hnd] at HH HRES HA hl
 clear M hin hX r2 rx hat hres hnd hp hth
 obtain ⟨⟨s0,s1,s2⟩,⟨s3,s4,s5⟩,lk,vl,es⟩:=nd
 dsimp only at HH HRES HA hl
 generalize fdB es asn = bh at HH HRES
 generalize roomI f (p2,q2,d2) asn = rm at HR HRES
 generalize wayI f (ph,qh,dh) 12 (p2,q2,d2) = wy at HW HRES
 generalize asn.length = yn at *
 generalize es.length = m at *
 have hdec : d2 = false ∨ d2 = true ∧ (th = false ∨ th = true ∧ (((p2,q2,d2) : Hd) = (p,q,d) ∨ ¬ ((p2,q2,d2) : Hd) = (p,q,d))):=by cases d2 <;> cases th <;> simp <;> exact Classical.em _
 go_enter Tryz.func124,Tryz.ntmps124
 rcases hdec with rfl | ⟨rfl,rfl | ⟨rfl,hq | hq⟩⟩
 case inl =>
  go_wp2_with (at_lookup; refine wpList_lookOkX _ rfl (.tmp 11) (.tmp 13) rfl b s f X rfl (HM.out _ (by repeat (first | exact Below.refl _ _ | refine Below.al2 ?_ _))) (p2,q2,_) HI.out rfl ?_; rw [HA.out,HT.out])
  go_ret
  exact ⟨by rw [← HRES.out]; rfl,by repeat (first | exact Below.refl _ _ | refine Below.al2 ?_ _)⟩
 case inr.inl =>
  go_wp2_with (at_lookup; refine wpList_lookOkX _ rfl (.tmp 11) (.tmp 13) rfl b s f X rfl (HM.out _ (by repeat (first | exact Below.refl _ _ | refine Below.al2 ?_ _))) (p2,q2,_) HI.out rfl ?_; rw [HA.out,HT.out])
  go_ret
  exact ⟨by rw [← HRES.out]; rfl,by repeat (first | exact Below.refl _ _ | refine Below.al2 ?_ _)⟩
 case inr.inr.inl =>
  have heq : ∀ W : World,(binOp .eql 48 (.agg #[.i p2,.i q2,.bool true]) (.agg #[.i p,.i q,.bool d])).run Tryz.prog W = .ok (.bool true) W:=fun W => by rw [eqH_run,decH_true hq]
  have HRES2 : Hid ((if bh = true then 4 else 0) = res):=by have h9:=HRES.out; rw [if_pos hq] at h9; exact h9
  clear HRES hq
  go_wp2_with (at_lookup; refine wpList_lookOkX _ rfl (.tmp 11) (.tmp 13) rfl b s f X rfl (HM.out _ (by repeat (first | exact Below.refl _ _ | refine Below.al2 ?_ _))) (p2,q2,_) HI.out rfl ?_; rw [HA.out,HT.out])
  refine gen_world (P:=fun W => Code.wp _ _ _ _ W) (fun W => VarA W w.heap.size 53 #[.i kd,.i p,.i q,.bool d,.slice za zn zc,.i p2,.i q2,.bool true,.slice ya yn yc,.i ov] ∧ Below w.heap.size w W) ⟨((VarA.new w _ _).alloc _).alloc _,(by repeat (first | exact Below.refl _ _ | refine Below.al2 ?_ _))⟩ ?_
  rintro wr ⟨vO,hbel⟩
  haveI : Nonempty (Cls wr):=Cls.ne wr
  have k5:=Cls.cell vO.lt (vO.c 5 rfl)
  have k6:=Cls.cell vO.lt (vO.c 6 rfl)
  have k7:=Cls.cell vO.lt (vO.c 7 rfl)
  have k8:=Cls.cell vO.lt (vO.c 8 rfl)
  have kl : ∀ i : Cls wr,(Instr.lookup 148 (.map (some b)) (.agg #[.i p2,.i q2,.bool true]) false).run Tryz.prog i.W = .ok (.agg #[.i s0,.i s1,.bool s2,.i s3,.i s4,.bool s5,.i lk,.i vl,.slice a m cap]) i.W:=fun i => by
   have h9:=lookX_run (HM.out _ (hbel.trans (i.h.mono hbel.size))) HI.out
   rw [HA.out] at h9
   exact h9
  clear vO
  refine wp_region_cls (by kernel_rfl) (by kernel_rfl) ?_
  repeat (go_big_quiet_step (first | (go_at_call 132; exact Calls.cls (HH.out _ (hbel.trans ((Cls.h _).mono hbel.size))))))
  refine wpQuiet_nil ?_
  rintro w' ⟨⟨w',hb'⟩,rfl⟩
  clear k5 k6 k7 k8 kl
  cases bh
  all_goals
   go_wp2
   go_ret
   exact ⟨by rw [← HRES2.out]; rfl,hbel.trans (hb'.mono hbel.size)⟩
 case inr.inr.inr =>
  have hne : ∀ W : World,(binOp .eql 48 (.agg #[.i p2,.i q2,.bool true]) (.agg #[.i p,.i q,.bool d])).run Tryz.prog W = .ok (.bool false) W:=fun W => by rw [eqH_run,decH_false hq]
  have HRES2 : Hid ((if rm ≠ 0 ∨ dh = false then rm else wy) = res):=by have h9:=HRES.out; rw [if_neg hq] at h9; exact h9
  clear HRES hq
  go_wp2_with (at_lookup; refine wpList_lookOkX _ rfl (.tmp 11) (.tmp 13) rfl b s f X rfl (HM.out _ (by repeat (first | exact Below.refl _ _ | refine Below.al2 ?_ _))) (p2,q2,_) HI.out rfl ?_; rw [HA.out,HT.out])
  go_at_call 120
  refine Calls.mono (HR.out _ (by repeat (first | exact Below.refl _ _ | refine Below.al2 ?_ _))) ?_
  rintro e w1 ⟨rfl,hb1⟩
  have vO : VarA w1 w.heap.size 53 #[.i kd,.i p,.i q,.bool d,.slice za zn zc,.i p2,.i q2,.bool true,.slice ya yn yc,.i ov]:=(((VarA.new w _ _).alloc _).alloc _).step hb1
  have vH : VarA w1 (w.heap.size + 1) 48 #[.i ph,.i qh,.bool dh]:=((by simpa using VarA.new (w.alloc _) 48 _ : VarA ((w.alloc _).alloc (.cells #[.i ph,.i qh,.bool dh] 48)) (w.heap.size + 1) _ _).alloc _).step hb1
  have HB1 : Hid (Below w.heap.size w w1):=(show Below w.heap.size w (((w.alloc _).alloc _).alloc _) by repeat (first | exact Below.refl _ _ | refine Below.al2 ?_ _)).trans (hb1.mono (by simp <;> omega))
  have k5:=vO.c 5 rfl
  have k6:=vO.c 6 rfl
  have k7:=vO.c 7 rfl
  obtain ⟨c0,c1,c2⟩:=vH.l3
  dsimp at k5 k6 k7
  clear vO vH hb1
  rcases (show ¬ rm = 0 ∨ rm = 0 ∧ (dh = false ∨ dh = true) by cases dh <;> simp <;> omega) with hr | ⟨rfl,rfl | rfl⟩
  ·have HF : Hid (rm = res):=by have h9:=HRES2.out; rw [if_pos (Or.inl hr)] at h9; exact h9
   have hr1 : (rm == 0) = false:=by simpa using hr
   have hr2 : (rm != 0) = true:=by simpa using hr
   go_wp2
   go_ret
   exact ⟨by rw [← HF.out]; rfl,HB1.out⟩
  ·have HF : Hid ((0 : Int) = res):=by have h9:=HRES2.out; rw [if_pos (Or.inr rfl)] at h9; exact h9
   go_wp2
   go_ret
   exact ⟨by rw [← HF.out]; rfl,HB1.out⟩
  ·have HF : Hid (wy = res):=by have h9:=HRES2.out; rw [if_neg (by simp)] at h9; exact h9
   go_wp2_with (go_at_call 135; refine Calls.mono (HW.out _ HB1.out) ?_; rintro e w2 ⟨rfl,hb2⟩)
   go_ret
   exact ⟨by rw [← HF.out]; rfl,HB1.out.trans (hb2.mono HB1.out.size)⟩
end
section
open Go.Maps
set_option maxHeartbeats 2000000 in
theorem look_any (b s : Nat) (f : Hd → Option Nd) (X : Hd → Value) (o : OpD) (y : Value) (za : Option Addr) (zn zc : Nat) (S S2 : Nat → Prop) (w : World) (M : MapH (ndX X) w b s f) (hin : HIn o.dir)
    (hX : ∀ g n,f g = some n → RdV w S (X n.h) (ensDt n.es)) (r2 : RdV w S2 y (.bytes o.nm)) (hl : ((f o.dir).getD nd0).es.length ≤ 2097152) :
    Calls Tryz.prog 102 #[.map (some b),opV o y (.slice za zn zc)] w fun e w' => e = .returned (rpV (if fdB ((f o.dir).getD nd0).es o.nm = true then ⟨0,fdH ((f o.dir).getD nd0).es o.nm,0,[]⟩ else ⟨3,hd0,0,[]⟩) (.n0)) ∧ Below w.heap.size w w':=by
  obtain ⟨kd,⟨p,q,d⟩,nm,⟨p2,q2,d2⟩,asn,ov⟩:=o
  dsimp only at hin r2 hl ⊢
  obtain ⟨a,cap,hat,rx⟩:=atX_rd f X (p,q,d) S w (hX _)
  obtain ⟨ya,yc,rfl⟩:=r2.sliceB
  have hbs:=M.lt
  have HM : Hid (∀ W,Below w.heap.size w W → MapH (ndX X) W b s f):=fun W hW => M.blk (hW.block b hbs)
  have HH : Hid (∀ W,Below w.heap.size w W → _):=fun W hW => find_any (.slice a ((f (p,q,d)).getD nd0).es.length cap) (.slice ya nm.length yc) ((f (p,q,d)).getD nd0) nm S S2 W (rx.step hW) (r2.step hW) hl
  have HI : Hid (HIn (p,q,d)):=hin
  have HA : Hid _:=hat
  obtain ⟨nd,hnd⟩ : ∃ nd,(f (p,q,d)).getD nd0 = nd:=⟨_,rfl⟩
  rw [hnd] at HH HA hl ⊢
  clear M hin hX r2 rx hat hnd
  obtain ⟨⟨s0,s1,s2⟩,⟨s3,s4,s5⟩,lk,vl,es⟩:=nd
  dsimp only at HH HA hl ⊢
  generalize fdB es nm = bh at HH ⊢
  obtain ⟨⟨ph,qh,dh⟩,hfd⟩ : ∃ r,fdH es nm = r:=⟨_,rfl⟩
  rw [hfd] at HH ⊢
  clear hfd
  generalize nm.length = yn at *
  generalize es.length = m at *
  obtain ⟨res,hres⟩ : ∃ r,rpV (if bh = true then ⟨0,(ph,qh,dh),0,[]⟩ else ⟨3,hd0,0,[]⟩) (.n0) = r:=⟨_,rfl⟩
  rw [hres]
  have HRES : Hid _:=hres
  clear hres
  go_enter Tryz.func102,Tryz.ntmps102
  go_upto_region 1 with fail
  go_cut [5,6] from 7 (fun s5 s6 wx => ∃ C,s5 = .pointer (some ⟨C,0,none⟩) ∧ s6 = .bool bh ∧ VarA wx C 48 #[.i ph,.i qh,.bool dh] ∧ VarA wx (w.heap.size + 1) 51 #[.i 0,.i 0,.i 0,.bool false,.i 0,.n0] ∧ Below w.heap.size w wx)
  case first =>
    refine gen_world (P:=fun W => Code.wp _ _ _ _ W) (fun W => VarA W w.heap.size 53 #[.i kd,.i p,.i q,.bool d,.slice ya yn yc,.i p2,.i q2,.bool d2,.slice za zn zc,.i ov] ∧ VarA W (w.heap.size + 1) 51 #[.i 0,.i 0,.i 0,.bool false,.i 0,.n0] ∧ Below w.heap.size w W) ⟨(VarA.new w _ _).alloc _,(by simpa using VarA.new (w.alloc _) 51 _ : VarA ((w.alloc _).alloc (.cells #[.i 0,.i 0,.i 0,.bool false,.i 0,.n0] 51)) (w.heap.size + 1) _ _),(by repeat (first | exact Below.refl _ _ | refine Below.al2 ?_ _))⟩ ?_
    rintro wr ⟨vO,vR,hbel⟩
    have HS : Hid (∀ W : World,Below wr.heap.size wr W → W.cell? ⟨w.heap.size,1,none⟩ = some (.i p) ∧ W.cell? ⟨w.heap.size,2,none⟩ = some (.i q) ∧ W.cell? ⟨w.heap.size,3,none⟩ = some (.bool d) ∧ W.cell? ⟨w.heap.size,4,none⟩ = some (.slice ya yn yc) ∧ (Instr.lookup 148 (.map (some b)) (.agg #[.i p,.i q,.bool d]) false).run Tryz.prog W = .ok (.agg #[.i s0,.i s1,.bool s2,.i s3,.i s4,.bool s5,.i lk,.i vl,.slice a m cap]) W):=fun W hW => ⟨(vO.step hW).c 1 rfl,(vO.step hW).c 2 rfl,(vO.step hW).c 3 rfl,(vO.step hW).c 4 rfl,by have h9:=lookX_run (HM.out _ (hbel.trans (hW.mono hbel.size))) HI.out; rw [HA.out] at h9; exact h9⟩
    refine wp_region_noPanic ?_
    refine wp_region_held_drew (S:=fun W => W.cell? ⟨w.heap.size,1,none⟩ = some (.i p) ∧ W.cell? ⟨w.heap.size,2,none⟩ = some (.i q) ∧ W.cell? ⟨w.heap.size,3,none⟩ = some (.bool d) ∧ W.cell? ⟨w.heap.size,4,none⟩ = some (.slice ya yn yc) ∧ (Instr.lookup 148 (.map (some b)) (.agg #[.i p,.i q,.bool d]) false).run Tryz.prog W = .ok (.agg #[.i s0,.i s1,.bool s2,.i s3,.i s4,.bool s5,.i lk,.i vl,.slice a m cap]) W) (by kernel_rfl) (HS.out _ (Below.drew (Below.refl wr.heap.size wr))) (fun hHeld => ?_)
    apply tkh 0 _ rfl (by kernel_rfl) rfl (by assumption)
    · (intro _ h; (try dsimp only at h); go_simp; try with_reducible rfl)
    try simp only [qz]
    apply tkh 1 _ rfl (by kernel_rfl) rfl (by assumption)
    · (intro _ h; (try dsimp only at h); go_simp; try with_reducible rfl)
    try simp only [qz]
    apply tkh 2 _ rfl (by kernel_rfl) rfl (by assumption)
    · (intro _ h; (try dsimp only at h); go_simp; try with_reducible rfl)
    try simp only [qz]
    apply tkh 3 _ rfl (by kernel_rfl) rfl (by assumption)
    · (intro _ h; (try dsimp only at h); go_simp; try with_reducible rfl)
    try simp only [qz]
    apply tkh 4 _ rfl (by kernel_rfl) rfl (by assumption)
    · (intro _ h; (try dsimp only at h); go_simp; try with_reducible rfl)
    try simp only [qz]
    apply tkh 5 _ rfl (by kernel_rfl) rfl (by assumption)
    · (intro _ h; (try dsimp only at h); go_simp; try with_reducible rfl)
    try simp only [qz]
    refine wpAnyH_ready (rs:=[6,10]) (by kernel_rfl) (by simp) ?_
    refine AllReadyH.cons rfl (fun K hK => ?_) ?_
    · go_simp
      refine Calls.mono (HH.out _ (hbel.trans (((Below.drew (Below.refl wr.heap.size wr))).mono hbel.size))) ?_
      rintro e w8 ⟨rfl,b8⟩
      have b8p : Below wr.heap.size wr w8:=((Below.drew (Below.refl wr.heap.size wr))).trans (b8.mono ((Below.drew (Below.refl wr.heap.size wr))).size)
      dsimp only
      refine hK.out _ _ (HS.out _ b8p) (fun hHeld => ?_)
      clear hK K
      try simp only [qz]
      apply tkh 7 _ rfl (by kernel_rfl) rfl (by assumption)
      · (intro _ h; (try dsimp only at h); go_simp; try with_reducible rfl)
      try simp only [qz]
      apply tkh 8 _ rfl (by kernel_rfl) rfl (by assumption)
      · (intro _ h; (try dsimp only at h); go_simp; try with_reducible rfl)
      try simp only [qz]
      apply tkh 9 _ rfl (by kernel_rfl) rfl (by assumption)
      · (intro _ h; (try dsimp only at h); go_simp; try with_reducible rfl)
      try simp only [qz]
      refine doH 10 (by kernel_rfl) rfl fun K hK => ?_
      go_simp
      refine hK.out _ _ (HS.out _ (b8p.alloc b8p.size _)) (fun hHeld => ?_)
      clear hK K
      try simp only [qz]
      refine doH 11 (by kernel_rfl) rfl fun K hK => ?_
      go_simp
      refine hK.out _ _ (HS.out _ (b8p.alloc b8p.size _)) (fun hHeld => ?_)
      clear hK K
      try simp only [qz]
      apply tkh 12 _ rfl (by kernel_rfl) rfl (by assumption)
      · (intro _ h; (try dsimp only at h); go_simp; try with_reducible rfl)
      try simp only [qz]
      refine wpAnyH_done (by kernel_rfl) (NoPanic.normal ?_) _
      clear hHeld
      go_wp2_with fail
      go_meet
      exact ⟨_,rfl,rfl,VarA.new w8 48 #[.i ph,.i qh,.bool dh],(vR.step b8p).alloc _,(hbel.trans (b8p.mono hbel.size)).alloc (Nat.le_trans hbel.size b8p.size) _⟩
    refine AllReadyH.cons rfl (fun K hK => ?_) AllReadyH.nil
    go_simp
    refine hK.out _ _ (HS.out _ (Below.alloc (Below.drew (Below.refl wr.heap.size wr)) (Nat.le_refl _) (.cells #[.i 0,.i 0,.bool false] 48))) (fun hHeld => ?_)
    clear hK K
    try simp only [qz]
    refine doH 6 (by kernel_rfl) rfl fun K hK => ?_
    go_simp
    refine Calls.mono (HH.out _ (hbel.trans (((Below.alloc (Below.drew (Below.refl wr.heap.size wr)) (Nat.le_refl _) (.cells #[.i 0,.i 0,.bool false] 48))).mono hbel.size))) ?_
    rintro e w8 ⟨rfl,b8⟩
    have b8p : Below wr.heap.size wr w8:=((Below.alloc (Below.drew (Below.refl wr.heap.size wr)) (Nat.le_refl _) (.cells #[.i 0,.i 0,.bool false] 48))).trans (b8.mono ((Below.alloc (Below.drew (Below.refl wr.heap.size wr)) (Nat.le_refl _) (.cells #[.i 0,.i 0,.bool false] 48))).size)
    dsimp only
    refine hK.out _ _ (HS.out _ b8p) (fun hHeld => ?_)
    clear hK K
    try simp only [qz]
    apply tkh 7 _ rfl (by kernel_rfl) rfl (by assumption)
    · (intro _ h; (try dsimp only at h); go_simp; try with_reducible rfl)
    try simp only [qz]
    apply tkh 8 _ rfl (by kernel_rfl) rfl (by assumption)
    · (intro _ h; (try dsimp only at h); go_simp; try with_reducible rfl)
    try simp only [qz]
    apply tkh 9 _ rfl (by kernel_rfl) rfl (by assumption)
    · (intro _ h; (try dsimp only at h); go_simp; try with_reducible rfl)
    try simp only [qz]
    refine doH 11 (by kernel_rfl) rfl fun K hK => ?_
    have vZ : VarA w8 wr.heap.size 48 #[.i 0,.i 0,.bool false]:=VarA.step (VarA.new wr.drew 48 #[.i 0,.i 0,.bool false]) b8
    obtain ⟨z0,z1,z2⟩:=vZ.l3
    have zf:=vZ.fz
    go_simp
    clear z0 z1 z2 zf
    refine hK.out _ _ (HS.out _ (Below.set3 b8p (Nat.le_refl _))) (fun hHeld => ?_)
    clear hK K
    try simp only [qz]
    apply tkh 12 _ rfl (by kernel_rfl) rfl (by assumption)
    · (intro _ h; (try dsimp only at h); go_simp; try with_reducible rfl)
    try simp only [qz]
    refine wpAnyH_done (by kernel_rfl) (NoPanic.normal ?_) _
    clear hHeld
    go_wp2_with fail
    go_meet
    exact ⟨_,rfl,rfl,VarA.set3 vZ,((((vR.step b8p).aside (p:=⟨wr.heap.size,0,none⟩) (by have:=vR.lt; dsimp only; omega) _).aside (p:=⟨wr.heap.size,1,none⟩) (by have:=vR.lt; dsimp only; omega) _).aside (p:=⟨wr.heap.size,2,none⟩) (by have:=vR.lt; dsimp only; omega) _),Below.set3 (hbel.trans (b8p.mono hbel.size)) hbel.size⟩
  case rest =>
   obtain ⟨C,rfl,rfl,vC,vR,hb⟩:=hcut
   cases bh
   all_goals
    obtain ⟨c0,c1,c2⟩:=vC.l3
    go_wp2_with ((with_reducible refine gS 51 ?_); refine sF vR rfl rfl (by kernel_rfl) rfl rfl ?_; intro w8 v8 t8)
    refine bpR Tryz.results102 v8 Tryz.underlying51 rfl rfl (by kernel_rfl) rfl ?_
    exact ⟨by rw [← HRES.out]; rfl,Turned.below hb t8 hb.size (fun i e => by omega)⟩
end
section
open Go.Maps
theorem OwV.snocEnP {w w' : World} {S U : Nat → Prop} {g cap : Nat} {v u : Value} {l : List En} {e : En} (hown : OwV w S v (ensDt l)) (hu : OwV w U u (.bytes e.nm)) (hSs : ∀ b,S b → b < w.heap.size) (hU : ∀ b,U b → b < w.heap.size ∧ ¬ S b)
  (C : List Value) (hC : w.ownsRow 0 86 4 v l.length C) (V : Nat → Nat → Value) (Q : Nat → Nat → Nat → Prop) (hS : ∀ b,v.ownBlock = some b → S b) (hV : ∀ i j,i < l.length → j < 4 → C[i * 4 + j]? = some (V i j)) (hQ : ∀ i j,i < l.length → j < 4 → OwV w (Q i j) (V i j) (enCell (l[i]?.getD en0) j))
  (hq1 : ∀ i j b,i < l.length → j < 4 → Q i j b → S b ∧ v.ownBlock ≠ some b) (hq2 : ∀ i j i' j' b,i < l.length → j < 4 → i' < l.length → j' < 4 → Q i j b → Q i' j' b → i = i' ∧ j = j')
  (ho : w'.ownsRow 0 86 4 (.slice (some ⟨g,0,none⟩) (l.length + 1) cap) (l.length + 1) (C ++ [u,.i e.h.sh,.i e.h.ino,.bool e.h.dir])) (hg : w.grownBy w' v.ownBlock) (hgg : v.ownBlock = some g ∨ g = w.heap.size) (hgl : g < w'.heap.size) :
  OwV w' (fun b => S b ∨ U b ∨ w.heap.size ≤ b ∧ b < w'.heap.size) (.slice (some ⟨g,0,none⟩) (l.length + 1) cap) (ensDt (l ++ [e])):=by
 have hsz:=hg.size
 have hCl : C.length = l.length * 4:=hC.1
 have hkeep : ∀ (R : Nat → Prop),(∀ b,R b → v.ownBlock ≠ some b) → Keeps R w w':=fun R hR => ⟨hsz,fun b hb hlt => hg.block b hlt (fun h => hR b hb h.symm)⟩
 have hln : (l ++ [e]).length = l.length + 1:=by simp
 unfold ensDt
 rw [hln]
 refine OwV.mkRows ⟨fun i j => if i < l.length then V i j else enVal e u j,_,fun i j => if i < l.length then Q i j else if j = 0 then U else (fun _ => False),ho,?_,?_,?_,?_,?_⟩
 ·intro b hb
  obtain rfl : g = b:=by simpa [Value.ownBlock] using hb
  rcases hgg with h | h
  ·exact .inl (hS _ h)
  ·exact .inr (.inr ⟨by omega,hgl⟩)
 ·intro i j hi' hj
  by_cases hlt : i < l.length
  ·simp only [hlt,if_true]
   rw [List.getElem?_append_left (by rw [hCl]; exact place_lt hlt hj)]
   exact hV i j hlt hj
  ·obtain rfl : i = l.length:=by omega
   simp only [Nat.lt_irrefl,if_false]
   rw [List.getElem?_append_right (by omega),hCl,show l.length * 4 + j - l.length * 4 = j by omega]
   match j,hj with
   | 0,_ => rfl
   | 1,_ => rfl
   | 2,_ => rfl
   | 3,_ => rfl
 ·intro i j hi' hj
  by_cases hlt : i < l.length
  ·simp only [hlt,if_true]
   rw [show (l ++ [e])[i]?.getD en0 = l[i]?.getD en0 by rw [List.getElem?_append_left hlt]]
   exact OwV.keep (hkeep _ (fun b hb => (hq1 i j b hlt hj hb).2)) (hQ i j hlt hj)
  ·obtain rfl : i = l.length:=by omega
   simp only [Nat.lt_irrefl,if_false]
   rw [show (l ++ [e])[l.length]?.getD en0 = e by simp]
   match j,hj with
   | 0,_ => exact OwV.keep (hkeep U (fun b hb h => (hU b hb).2 (hS b h))) hu
   | 1,_ => rfl
   | 2,_ => rfl
   | 3,_ => rfl
 ·intro i j b hi' hj hb
  by_cases hlt : i < l.length
  ·simp only [hlt,if_true] at hb
   have h1:=hq1 i j b hlt hj hb
   refine ⟨.inl h1.1,?_⟩
   intro h
   obtain rfl : g = b:=by simpa [Value.ownBlock] using h
   rcases hgg with h3 | h3
   ·exact h1.2 h3
   ·have:=hSs _ h1.1; omega
  ·simp only [hlt,if_false] at hb
   by_cases hj0 : j = 0
   ·simp only [hj0,if_true] at hb
    refine ⟨.inr (.inl hb),?_⟩
    intro h
    obtain rfl : g = b:=by simpa [Value.ownBlock] using h
    rcases hgg with h3 | h3
    ·exact (hU _ hb).2 (hS _ h3)
    ·have:=(hU _ hb).1; omega
   ·simp only [hj0,if_false] at hb
 ·intro i j i' j' b hi' hj hi2' hj' hb hb'
  by_cases hlt : i < l.length <;> by_cases hlt' : i' < l.length
  ·simp only [hlt,hlt',if_true] at hb hb'
   exact hq2 i j i' j' b hlt hj hlt' hj' hb hb'
  ·simp only [hlt,hlt',if_true,if_false] at hb hb'
   have h1:=hq1 i j b hlt hj hb
   by_cases hj0 : j' = 0
   ·simp only [hj0,if_true] at hb'; exact absurd h1.1 (hU _ hb').2
   ·simp only [hj0,if_false] at hb'
  ·simp only [hlt,hlt',if_true,if_false] at hb hb'
   have h1:=hq1 i' j' b hlt' hj' hb'
   by_cases hj0 : j = 0
   ·simp only [hj0,if_true] at hb; exact absurd h1.1 (hU _ hb).2
   ·simp only [hj0,if_false] at hb
  ·simp only [hlt,hlt',if_false] at hb hb'
   by_cases hj0 : j = 0 <;> by_cases hj0' : j' = 0
   ·exact ⟨by omega,by omega⟩
   ·simp only [hj0',if_false] at hb'
   ·simp only [hj0,if_false] at hb
   ·simp only [hj0,if_false] at hb
theorem wpList_appEnP {ops : Array Oper} {rest : List Oper} {o : Oper} {a : Act} {Q : Exit → Act → World → Prop} (w : World) (hgd : o.guard = none) (s x : Operand)
  (ho : o.op = .call { callee:=.builtin .append,args:=#[s,x],argTypes:=#[49,49] })
  (v : Value) (hs : a.eval s = v) (l : List En) (e : En) (u : Value) (S U : Nat → Prop) (q : Nat) (hx : a.eval x = .slice (some ⟨q,0,none⟩) 1 1) (hone : u.oneCell' = true) (fr : Nat × Nat) (hq : w.heap[q]? = some (.cells #[u,.i e.h.sh,.i e.h.ino,.bool e.h.dir] 86 fr))
  (hown : OwV w S v (ensDt l)) (hu : OwV w U u (.bytes e.nm)) (hSs : ∀ b,S b → b < w.heap.size) (hU : ∀ b,U b → b < w.heap.size ∧ ¬ S b) (hl : l.length ≤ 4000)
  (h : ∀ g n cap w',OwV w' (fun b => S b ∨ U b ∨ w.heap.size ≤ b ∧ b < w'.heap.size) (.slice g n cap) (ensDt (l ++ [e])) → Turned (fun b => v.ownBlock = some b) w w' → (∀ c,(Value.slice g n cap).ownBlock = some c → v.ownBlock = some c ∨ c = w.heap.size) → wpList Tryz.prog ops Q rest (a.put o.dst (.slice g n cap)) w') : wpList Tryz.prog ops Q (o :: rest) a w:=by
 obtain ⟨i0,hi0,hz0,hz1,hz2⟩:=info_parts Tryz.infoEn
 have hown':=hown
 unfold ensDt at hown'
 obtain ⟨V,C,Qs,h1,hS,h3,h4,h5,h6⟩:=OwV.inv hown'
 refine wpList_append_lies w hgd s x 49 ho 0 86 i0 (.agg #[.n0,.i 0,.i 0,.bool false]) 4 48 Tryz.underlying49 hi0 hz0 hz1 hz2 rfl (by decide) v l.length C hs h1 ⟨q,0,none⟩ 1 1 [u,.i e.h.sh,.i e.h.ino,.bool e.h.dir] hx rfl (World.news_of_block hq) (fun y hy => ?_) (by decide) (by unfold maxLen; omega) (by omega) (Nat.zero_le _) w.heap.size rfl ?_
 ·simp only [List.mem_cons,List.not_mem_nil,or_false] at hy
  rcases hy with rfl | rfl | rfl | rfl
  ·exact hone
  ·rfl
  ·rfl
  ·rfl
 intro g cap w' ho' hg hgg hgl
 exact h _ _ _ w' (OwV.snocEnP hown hu hSs hU C h1 V Qs hS h3 h4 h5 h6 ho' hg hgg hgl) (Turned.ofGrown hg (fun k hk => hk)) (fun c hc => by obtain rfl : g = c:=(by simpa [Value.ownBlock] using hc); exact hgg)
theorem OwV.snocNdP {w w' : World} {S U : Nat → Prop} {g cap : Nat} {v u : Value} {l : List Nd} {e : Nd} (hown : OwV w S v (ndsDt l)) (hu : OwV w U u (ensDt e.es)) (hSs : ∀ b,S b → b < w.heap.size) (hU : ∀ b,U b → b < w.heap.size ∧ ¬ S b)
  (C : List Value) (hC : w.ownsRow 0 77 9 v l.length C) (V : Nat → Nat → Value) (Q : Nat → Nat → Nat → Prop) (hS : ∀ b,v.ownBlock = some b → S b) (hV : ∀ i j,i < l.length → j < 9 → C[i * 9 + j]? = some (V i j)) (hQ : ∀ i j,i < l.length → j < 9 → OwV w (Q i j) (V i j) (ndCell (l[i]?.getD nd0) j))
  (hq1 : ∀ i j b,i < l.length → j < 9 → Q i j b → S b ∧ v.ownBlock ≠ some b) (hq2 : ∀ i j i' j' b,i < l.length → j < 9 → i' < l.length → j' < 9 → Q i j b → Q i' j' b → i = i' ∧ j = j')
  (ho : w'.ownsRow 0 77 9 (.slice (some ⟨g,0,none⟩) (l.length + 1) cap) (l.length + 1) (C ++ [.i e.h.sh,.i e.h.ino,.bool e.h.dir,.i e.par.sh,.i e.par.ino,.bool e.par.dir,.i e.links,.i e.val,u])) (hg : w.grownBy w' v.ownBlock) (hgg : v.ownBlock = some g ∨ g = w.heap.size) (hgl : g < w'.heap.size) :
  OwV w' (fun b => S b ∨ U b ∨ w.heap.size ≤ b ∧ b < w'.heap.size) (.slice (some ⟨g,0,none⟩) (l.length + 1) cap) (ndsDt (l ++ [e])):=by
 have hsz:=hg.size
 have hCl : C.length = l.length * 9:=hC.1
 have hkeep : ∀ (R : Nat → Prop),(∀ b,R b → v.ownBlock ≠ some b) → Keeps R w w':=fun R hR => ⟨hsz,fun b hb hlt => hg.block b hlt (fun h => hR b hb h.symm)⟩
 have hln : (l ++ [e]).length = l.length + 1:=by simp
 unfold ndsDt
 rw [hln]
 refine OwV.mkRows ⟨fun i j => if i < l.length then V i j else ndVal e u j,_,fun i j => if i < l.length then Q i j else if j = 8 then U else (fun _ => False),ho,?_,?_,?_,?_,?_⟩
 ·intro b hb
  obtain rfl : g = b:=by simpa [Value.ownBlock] using hb
  rcases hgg with h | h
  ·exact .inl (hS _ h)
  ·exact .inr (.inr ⟨by omega,hgl⟩)
 ·intro i j hi' hj
  by_cases hlt : i < l.length
  ·simp only [hlt,if_true]
   rw [List.getElem?_append_left (by rw [hCl]; exact place_lt hlt hj)]
   exact hV i j hlt hj
  ·obtain rfl : i = l.length:=by omega
   simp only [Nat.lt_irrefl,if_false]
   rw [List.getElem?_append_right (by omega),hCl,show l.length * 9 + j - l.length * 9 = j by omega]
   match j,hj with
   | 0,_ => rfl
   | 1,_ => rfl
   | 2,_ => rfl
   | 3,_ => rfl
   | 4,_ => rfl
   | 5,_ => rfl
   | 6,_ => rfl
   | 7,_ => rfl
   | 8,_ => rfl
 ·intro i j hi' hj
  by_cases hlt : i < l.length
  ·simp only [hlt,if_true]
   rw [show (l ++ [e])[i]?.getD nd0 = l[i]?.getD nd0 by rw [List.getElem?_append_left hlt]]
   exact OwV.keep (hkeep _ (fun b hb => (hq1 i j b hlt hj hb).2)) (hQ i j hlt hj)
  ·obtain rfl : i = l.length:=by omega
   simp only [Nat.lt_irrefl,if_false]
   rw [show (l ++ [e])[l.length]?.getD nd0 = e by simp]
   match j,hj with
   | 0,_ => rfl
   | 1,_ => rfl
   | 2,_ => rfl
   | 3,_ => rfl
   | 4,_ => rfl
   | 5,_ => rfl
   | 6,_ => rfl
   | 7,_ => rfl
   | 8,_ => exact OwV.keep (hkeep U (fun b hb h => (hU b hb).2 (hS b h))) hu
 ·intro i j b hi' hj hb
  by_cases hlt : i < l.length
  ·simp only [hlt,if_true] at hb
   have h1:=hq1 i j b hlt hj hb
   refine ⟨.inl h1.1,?_⟩
   intro h
   obtain rfl : g = b:=by simpa [Value.ownBlock] using h
   rcases hgg with h3 | h3
   ·exact h1.2 h3
   ·have:=hSs _ h1.1; omega
  ·simp only [hlt,if_false] at hb
   by_cases hj0 : j = 8
   ·simp only [hj0,if_true] at hb
    refine ⟨.inr (.inl hb),?_⟩
    intro h
    obtain rfl : g = b:=by simpa [Value.ownBlock] using h
    rcases hgg with h3 | h3
    ·exact (hU _ hb).2 (hS _ h3)
    ·have:=(hU _ hb).1; omega
   ·simp only [hj0,if_false] at hb
 ·intro i j i' j' b hi' hj hi2' hj' hb hb'
  by_cases hlt : i < l.length <;> by_cases hlt' : i' < l.length
  ·simp only [hlt,hlt',if_true] at hb hb'
   exact hq2 i j i' j' b hlt hj hlt' hj' hb hb'
  ·simp only [hlt,hlt',if_true,if_false] at hb hb'
   have h1:=hq1 i j b hlt hj hb
   by_cases hj0 : j' = 8
   ·simp only [hj0,if_true] at hb'; exact absurd h1.1 (hU _ hb').2
   ·simp only [hj0,if_false] at hb'
  ·simp only [hlt,hlt',if_true,if_false] at hb hb'
   have h1:=hq1 i' j' b hlt' hj' hb'
   by_cases hj0 : j = 8
   ·simp only [hj0,if_true] at hb; exact absurd h1.1 (hU _ hb).2
   ·simp only [hj0,if_false] at hb
  ·simp only [hlt,hlt',if_false] at hb hb'
   by_cases hj0 : j = 8 <;> by_cases hj0' : j' = 8
   ·exact ⟨by omega,by omega⟩
   ·simp only [hj0',if_false] at hb'
   ·simp only [hj0,if_false] at hb
   ·simp only [hj0,if_false] at hb
theorem wpList_appNdP {ops : Array Oper} {rest : List Oper} {o : Oper} {a : Act} {Q : Exit → Act → World → Prop} (w : World) (hgd : o.guard = none) (s x : Operand)
  (ho : o.op = .call { callee:=.builtin .append,args:=#[s,x],argTypes:=#[24,24] })
  (v : Value) (hs : a.eval s = v) (l : List Nd) (e : Nd) (u : Value) (S U : Nat → Prop) (q : Nat) (hx : a.eval x = .slice (some ⟨q,0,none⟩) 1 1) (hone : u.oneCell' = true) (fr : Nat × Nat) (hq : w.heap[q]? = some (.cells #[.i e.h.sh,.i e.h.ino,.bool e.h.dir,.i e.par.sh,.i e.par.ino,.bool e.par.dir,.i e.links,.i e.val,u] 77 fr))
  (hown : OwV w S v (ndsDt l)) (hu : OwV w U u (ensDt e.es)) (hSs : ∀ b,S b → b < w.heap.size) (hU : ∀ b,U b → b < w.heap.size ∧ ¬ S b) (hl : l.length ≤ 4000)
  (h : ∀ g n cap w',OwV w' (fun b => S b ∨ U b ∨ w.heap.size ≤ b ∧ b < w'.heap.size) (.slice g n cap) (ndsDt (l ++ [e])) → Turned (fun b => v.ownBlock = some b) w w' → (∀ c,(Value.slice g n cap).ownBlock = some c → v.ownBlock = some c ∨ c = w.heap.size) → wpList Tryz.prog ops Q rest (a.put o.dst (.slice g n cap)) w') : wpList Tryz.prog ops Q (o :: rest) a w:=by
 obtain ⟨i0,hi0,hz0,hz1,hz2⟩:=info_parts Tryz.infoNd
 have hown':=hown
 unfold ndsDt at hown'
 obtain ⟨V,C,Qs,h1,hS,h3,h4,h5,h6⟩:=OwV.inv hown'
 refine wpList_append_lies w hgd s x 24 ho 0 77 i0 (.agg #[.i 0,.i 0,.bool false,.i 0,.i 0,.bool false,.i 0,.i 0,.n0]) 9 88 Tryz.underlying24 hi0 hz0 hz1 hz2 rfl (by decide) v l.length C hs h1 ⟨q,0,none⟩ 1 1 [.i e.h.sh,.i e.h.ino,.bool e.h.dir,.i e.par.sh,.i e.par.ino,.bool e.par.dir,.i e.links,.i e.val,u] hx rfl (World.news_of_block hq) (fun y hy => ?_) (by decide) (by unfold maxLen; omega) (by omega) (Nat.zero_le _) w.heap.size rfl ?_
 ·simp only [List.mem_cons,List.not_mem_nil,or_false] at hy
  rcases hy with rfl | rfl | rfl | rfl | rfl | rfl | rfl | rfl | rfl
  ·rfl
  ·rfl
  ·rfl
  ·rfl
  ·rfl
  ·rfl
  ·rfl
  ·rfl
  ·exact hone
 intro g cap w' ho' hg hgg hgl
 exact h _ _ _ w' (OwV.snocNdP hown hu hSs hU C h1 V Qs hS h3 h4 h5 h6 ho' hg hgg hgl) (Turned.ofGrown hg (fun k hk => hk)) (fun c hc => by obtain rfl : g = c:=(by simpa [Value.ownBlock] using hc); exact hgg)
structure NX (w : World) (b s : Nat) (f : Hd → Option Nd) (X : Hd → Value) (Q : Hd → Nat → Prop) (P : Nat → Prop) : Prop where
 m : MapH (ndX X) w b s f
 key : ∀ g n,f g = some n → n.h = g
 own : ∀ g n,f g = some n → OwV w (Q g) (X g) (ensDt n.es)
 inP : ∀ g n c,f g = some n → Q g c → P c ∧ c ≠ b
 apart : ∀ g g' n n' c,f g = some n → f g' = some n' → Q g c → Q g' c → g = g'
 bP : P b
 small : ∀ c,P c → c < w.heap.size
def NM (w : World) (b s : Nat) (f : Hd → Option Nd) (P : Nat → Prop) : Prop:=∃ X Q,NX w b s f X Q P
theorem NX.keep {w w' : World} {b s : Nat} {f : Hd → Option Nd} {X : Hd → Value} {Q : Hd → Nat → Prop} {P : Nat → Prop} (n : NX w b s f X Q P) (t : Keeps P w w') : NX w' b s f X Q P:=
 ⟨n.m.blk (t.2 b n.bP (n.small b n.bP)),n.key,fun g a h => OwV.keep (t.mono (fun c hc => (n.inP g a c h hc).1)) (n.own g a h),n.inP,n.apart,n.bP,fun c hc => Nat.lt_of_lt_of_le (n.small c hc) t.1⟩
theorem NM.keep {w w' : World} {b s : Nat} {f : Hd → Option Nd} {P : Nat → Prop} (n : NM w b s f P) (t : Keeps P w w') : NM w' b s f P:=by
 obtain ⟨X,Q,n⟩:=n
 exact ⟨X,Q,n.keep t⟩
theorem NM.step {w w' : World} {b s : Nat} {f : Hd → Option Nd} {P : Nat → Prop} (n : NM w b s f P) (h : Below w.heap.size w w') : NM w' b s f P:=n.keep (Keeps.ofBelow h)
theorem NM.mono {w : World} {b s : Nat} {f : Hd → Option Nd} {P P' : Nat → Prop} (n : NM w b s f P) (h : ∀ c,P c → P' c) (h2 : ∀ c,P' c → c < w.heap.size) : NM w b s f P':=by
 obtain ⟨X,Q,n⟩:=n
 exact ⟨X,Q,n.m,n.key,n.own,fun g a c ha hc => ⟨h c (n.inP g a c ha hc).1,(n.inP g a c ha hc).2⟩,n.apart,h b n.bP,h2⟩
theorem NX.rd {w : World} {b s : Nat} {f : Hd → Option Nd} {X : Hd → Value} {Q : Hd → Nat → Prop} {P : Nat → Prop} (n : NX w b s f X Q P) : ∀ g a,f g = some a → RdV w P (X a.h) (ensDt a.es):=fun g a h => by
 rw [n.key g a h]
 exact RdV.mono (fun c hc => (n.inP g a c h hc).1) (OwV.rd (n.own g a h))
theorem NM.lt {w : World} {b s : Nat} {f : Hd → Option Nd} {P : Nat → Prop} (n : NM w b s f P) : b < w.heap.size:=by
 obtain ⟨X,Q,n⟩:=n
 exact n.small b n.bP
abbrev GP (P : Nat → Prop) (w w' : World) : Nat → Prop:=fun c => P c ∨ w.heap.size ≤ c ∧ c < w'.heap.size
end
section
open Go.Maps
theorem OwV.ents {w : World} {S : Nat → Prop} {x : Value} {es : List En} (o : OwV w S x (ensDt es)) : ∃ (V : Nat → Value) (Q : Nat → Nat → Prop),
    (∀ b off n c,x = .slice (some ⟨b,off,none⟩) n c → ∀ k,k < es.length → w.cell? ⟨b,off + k * 4,none⟩ = some (V k)) ∧ (∀ k,k < es.length → OwV w (Q k) (V k) (.bytes (es[k]?.getD en0).nm)) ∧ (∀ k c,k < es.length → Q k c → S c) ∧
      (∀ i j c,i < es.length → j < es.length → Q i c → Q j c → i = j):=by
  unfold ensDt at o
  obtain ⟨V,C,Qs,h1,hS,h3,h4,h5,h6⟩:=OwV.inv o
  refine ⟨fun k => V k 0,fun k => Qs k 0,?_,fun k hk => h4 k 0 hk (by omega),fun k c hk hc => (h5 k 0 c hk (by omega) hc).1,fun i j c hi hj h h' => (h6 i 0 j 0 c hi (by omega) hj (by omega) h h').1⟩
  intro b off n c hv k hk
  rcases h1.2 with ⟨hv',_⟩ | ⟨g,cp,cur,hv',hg,hh,hnc,hm,_⟩
  · rw [hv] at hv'; cases hv'
  · rw [hv] at hv'
    simp only [Value.slice.injEq,Option.some.injEq,Addr.mk.injEq,and_true] at hv'
    obtain ⟨⟨rfl,rfl⟩,rfl,rfl⟩:=hv'
    rw [hv] at h1
    have hc:=World.ownsRow.cellAt h1 (k * 4) (by have:=place_lt (k:=4) hk (show 0 < 4 by omega); omega)
    have h30:=h3 k 0 hk (by omega)
    rw [Nat.add_zero] at h30
    rw [h30] at hc
    rw [← hc]
    congr 2
    omega
def outE (es : List En) (nm : List Int) : List En:=es.filter (fun e => !decide (e.nm = nm))
theorem outE_in {es : List En} {nm : List Int} {k : Nat} (hk : k < es.length) (h : decide ((es[k]?.getD en0).nm = nm) = false) : outE (es.take (k + 1)) nm = outE (es.take k) nm ++ [es[k]?.getD en0]:=by
  unfold outE
  rw [List.take_succ_eq_append_getElem hk,List.filter_append]
  rw [List.getElem?_eq_getElem hk] at h ⊢
  simp only [Option.getD_some] at h ⊢
  simp [List.filter_cons,h]
theorem outE_out {es : List En} {nm : List Int} {k : Nat} (hk : k < es.length) (h : decide ((es[k]?.getD en0).nm = nm) = true) : outE (es.take (k + 1)) nm = outE (es.take k) nm:=by
  unfold outE
  rw [List.take_succ_eq_append_getElem hk,List.filter_append]
  rw [List.getElem?_eq_getElem hk] at h
  simp only [Option.getD_some] at h
  simp [List.filter_cons,h]
theorem outE_len (es : List En) (nm : List Int) : (outE es nm).length ≤ es.length:=List.length_filter_le _ _
abbrev TQ (Q : Nat → Nat → Prop) (lo k : Nat) (w : World) : Nat → Prop:=fun c => (∃ i,i < k ∧ Q i c) ∨ lo ≤ c ∧ c < w.heap.size
theorem NX.put {w w' : World} {b s s' : Nat} {f : Hd → Option Nd} {X : Hd → Value} {Q : Hd → Nat → Prop} {P P' : Nat → Prop} (N : NX w b s f X Q P) {g : Hd} {n : Nd} {x : Value} {R : Nat → Prop} (hn : n.h = g)
    (M : MapH (ndX (setX X g x)) w' b s' (setN f g n)) (hk : ∀ c,P c → c ≠ b → w'.heap[c]? = w.heap[c]?) (hsz : w.heap.size ≤ w'.heap.size) (hP : ∀ c,P c → P' c) (hP' : ∀ c,P' c → c < w'.heap.size)
    (o : OwV w' R x (ensDt n.es)) (hR : ∀ c,R c → P' c ∧ c ≠ b) (ha : ∀ g' n' c,g' ≠ g → f g' = some n' → R c → Q g' c → False) : NX w' b s' (setN f g n) (setX X g x) (fun h c => if h = g then R c else Q h c) P':=by
  refine ⟨M,setN_key N.key hn,?_,?_,?_,hP b N.bP,hP'⟩
  · intro h a hh
    by_cases e : h = g
    · subst e
      obtain rfl : n = a:=by simpa [setN] using hh
      simpa [setX] using o
    · have hf : f h = some a:=by simpa [setN,e] using hh
      have:=N.own h a hf
      simp only [setX,e,if_false]
      exact OwV.keep ⟨hsz,fun c hc _ => hk c (N.inP h a c hf hc).1 (N.inP h a c hf hc).2⟩ this
  · intro h a c hh hc
    by_cases e : h = g
    · simp only [e,if_true] at hc; exact hR c hc
    · have hf : f h = some a:=by simpa [setN,e] using hh
      simp only [e,if_false] at hc
      exact ⟨hP c (N.inP h a c hf hc).1,(N.inP h a c hf hc).2⟩
  · intro h h' a a' c hh hh' hc hc'
    by_cases e : h = g <;> by_cases e' : h' = g
    · rw [e,e']
    · have hf : f h' = some a':=by simpa [setN,e'] using hh'
      simp only [e,if_true] at hc
      simp only [e',if_false] at hc'
      exact (ha h' a' c e' hf hc hc').elim
    · have hf : f h = some a:=by simpa [setN,e] using hh
      simp only [e,if_false] at hc
      simp only [e',if_true] at hc'
      exact (ha h a c e hf hc' hc).elim
    · have hf : f h = some a:=by simpa [setN,e] using hh
      have hf' : f h' = some a':=by simpa [setN,e'] using hh'
      simp only [e,if_false] at hc
      simp only [e',if_false] at hc'
      exact N.apart h h' a a' c hf hf' hc hc'
theorem Turned.past2 {S : Nat → Prop} {w w1 w2 : World} {r : Nat} (b : Turned S w w1) (t : Turned (fun k => S k ∨ k = r) w1 w2) (hr : w.heap.size ≤ r) : Turned S w w2:=
  ⟨t.os.trans b.os,t.tape.trans b.tape,t.output.trans b.output,Nat.le_trans b.size t.size,fun k hk hs => (t.block k (Nat.lt_of_lt_of_le hk b.size) (fun e => by rcases e with e | e; exact hs e; omega)).trans (b.block k hk hs)⟩
set_option maxHeartbeats 2000000 in
theorem takeOut_any (b s : Nat) (f : Hd → Option Nd) (g : Hd) (n : Nd) (y : Value) (nm : List Int) (S2 P : Nat → Prop) (w : World) (N : NM w b s f P) (hin : HIn g) (hf : f g = some n) (r2 : RdV w S2 y (.bytes nm)) (hl : n.es.length ≤ 4000) (hs : s ≤ 2097152) :
    Calls Tryz.prog 122 #[.map (some b),g.v,y] w fun e w' => e = .returned (.tuple #[]) ∧ NM w' b s (setN f g { n with es:=outE n.es nm }) (GP P w w') ∧ Turned (fun c => c = b) w w':=by
  obtain ⟨X,Q,N⟩:=N
  obtain ⟨ya,yc,rfl⟩:=r2.sliceB
  have hnh:=N.key g n hf
  have ho:=N.own g n hf
  have rx:=OwV.rd ho
  obtain ⟨xa,xc,hx,_⟩:=RdV.sliced rx
  obtain ⟨V,Qs,e1,e2,e3,e4⟩:=ho.ents
  rw [hx] at rx e1
  have hat : atX f X g = ndV n (.slice xa n.es.length xc):=by unfold atX; rw [hf]; show ndV n (X n.h) = _; rw [hnh,hx]
  have HA : Hid _:=hat
  have hbs:=N.m.lt
  have HM : Hid (∀ W,Below w.heap.size w W → MapH (ndX X) W b s f):=fun W hW => N.m.blk (hW.block b hbs)
  have HN : Hid (NX w b s f X Q P):=N
  have HI : Hid (HIn g):=hin
  have HNH : Hid (n.h = g):=hnh
  have HF : Hid (f g = some n):=hf
  have HB2 : Hid (∀ W,Below w.heap.size w W → RdV W S2 (.slice ya nm.length yc) (.bytes nm)):=fun W hW => r2.step hW
  have HQS : Hid (∀ k c,k < n.es.length → Qs k c → P c ∧ c ≠ b):=fun k c hk hc => N.inP g n c hf (e3 k c hk hc)
  have HQG : Hid (∀ k c,k < n.es.length → Qs k c → Q g c):=e3
  have HQA : Hid _:=e4
  have HQ2 : Hid _:=e2
  have HE1 : Hid _:=e1
  have HPS : Hid (∀ c,P c → c < w.heap.size):=N.small
  have hsm : s < maxLen:=by unfold maxLen; omega
  obtain ⟨p,q,d⟩:=g
  obtain ⟨⟨s0,s1,s2⟩,⟨s3,s4,s5⟩,lk,vl,es⟩:=n
  dsimp only at hl rx HQS HQG HQA HQ2 HE1 HA
  have HR : Hid (∀ W,Below w.heap.size w W → RdV W (Q (p,q,d)) (.slice xa es.length xc) (.rows 86 4 es.length (fun i j => enCell (es[i]?.getD en0) j))):=RdV.old rx
  show Calls _ _ _ _ fun e w' => e = .returned (.tuple #[]) ∧ NM w' b s (setN f (p,q,d) (Nd.mk (s0,s1,s2) (s3,s4,s5) lk vl (outE es nm))) (GP P w w') ∧ Turned (fun c => c = b) w w'
  obtain ⟨m,hm⟩ : ∃ m,es.length = m:=⟨_,rfl⟩
  have HL : Hid (es.length = m):=hm
  rw [hm] at hl HR HQS HQG HQA HQ2 HE1 HA
  clear N hin hf hnh ho rx hx e1 e2 e3 e4 hat r2 hm
  go_enter Tryz.func122,Tryz.ntmps122
  go_wp2_with (at_lookup; refine wpList_lookX _ rfl (.tmp 10) (.tmp 11) rfl b s f X rfl (HM.out _ (by repeat (first | exact Below.refl _ _ | refine Below.al2 ?_ _))) (p,q,d) HI.out rfl ?_; rw [HA.out])
  go_loopw [7,16] (fun o i wr => ∃ (k : Nat) (ga : Option Addr) (gn gc : Nat),k ≤ m ∧ i = .i k ∧ o = .slice ga gn gc ∧ Hid (OwV wr (TQ Qs (w.heap.size + 2) k wr) (.slice ga gn gc) (ensDt (outE (es.take k) nm))) ∧ Hid (∀ c,(Value.slice ga gn gc).ownBlock = some c → w.heap.size + 2 ≤ c) ∧ Hid (Below w.heap.size w wr) ∧ VarA wr w.heap.size 48 #[.i p,.i q,.bool d] ∧ VarA wr (w.heap.size + 1) 77 #[.i s0,.i s1,.bool s2,.i s3,.i s4,.bool s5,.i lk,.i vl,.slice xa m xc]) (fun _ i _ => m - (intOf i).toNat)
  case atStart => exact ⟨0,none,0,0,Nat.zero_le _,rfl,rfl,OwV.nilR _ _ _ _ _,(by show ∀ c,_ → _; intro c hc; cases hc),(by show Below _ _ _; repeat (first | exact Below.refl _ _ | refine Below.al2 ?_ _)),(VarA.new w _ _).alloc _,by simpa using VarA.new (w.alloc _) 77 _⟩
  case round =>
    obtain ⟨k,ga,gn,gc,hk,rfl,rfl,HO,HOB,HB,vH,vN⟩:=hrel
    by_cases hlt : k < m
    · obtain ⟨b0,off,rfl,hbl,hSb,hc⟩:=(HR.out wr HB.out).at hlt
      obtain ⟨x0,c0,r0⟩:=hc 0 (by omega)
      obtain ⟨x1,c1,r1⟩:=hc 1 (by omega)
      obtain ⟨x2,c2,r2⟩:=hc 2 (by omega)
      obtain ⟨x3,c3,r3⟩:=hc 3 (by omega)
      have hVk : x0 = V k:=by
        have h1:=HE1.out b0 off _ _ rfl k hlt
        have h2:=(HB.out.cell (p:=⟨b0,off + k * 4,none⟩) (block_lt_of_cell (a:=⟨b0,off + k * 4,none⟩) h1)).trans h1
        rw [Nat.add_zero] at c0
        rw [c0] at h2
        exact Option.some.inj h2
      have HOV : Hid (OwV w (Qs k) x0 (.bytes (es[k]?.getD en0).nm)):=by show OwV _ _ _ _; rw [hVk]; exact HQ2.out k hlt
      have HIN : Hid (decide ((es[k]?.getD en0).nm = nm) = false → outE (es.take (k + 1)) nm = outE (es.take k) nm ++ [es[k]?.getD en0]):=fun h => outE_in (by rw [HL.out]; exact hlt) h
      have HOUT : Hid (decide ((es[k]?.getD en0).nm = nm) = true → outE (es.take (k + 1)) nm = outE (es.take k) nm):=fun h => outE_out (by rw [HL.out]; exact hlt) h
      have r0' : RdV wr (Q (p,q,d)) x0 (.bytes (es[k]?.getD en0).nm):=r0
      obtain ⟨e,he⟩ : ∃ e,es[k]?.getD en0 = e:=⟨_,rfl⟩
      rw [he] at r0' r1 r2 r3 HOV HIN HOUT
      clear hVk r0 hc he
      obtain ⟨nm1,⟨ph,qh,dh⟩⟩:=e
      obtain rfl : x1 = .i ph:=r1
      obtain rfl : x2 = .i qh:=r2
      obtain rfl : x3 = .bool dh:=r3
      obtain ⟨ua,uc,rfl⟩:=r0'.sliceB
      simp only [Nat.add_zero] at c0
      have HE : Hid (∀ W,Below wr.heap.size wr W → Calls Tryz.prog 111 #[.slice ua nm1.length uc,.slice ya nm.length yc] W fun e w' => e = .returned (.bool (decide (nm1 = nm))) ∧ w' = W):=fun W hW => bytesEq_any _ _ _ _ _ _ _ (r0'.step hW) (HB2.out _ (HB.out.trans (hW.mono HB.out.size)))
      have HLE : Hid ((outE (es.take k) nm).length ≤ 4000):=Nat.le_trans (outE_len _ _) (by rw [List.length_take]; omega)
      have HVH : Hid (VarA wr w.heap.size 48 _):=vH
      have HVN : Hid (VarA wr (w.heap.size + 1) 77 _):=vN
      have hsz:=vN.lt
      clear r0' vH vN
      dsimp only at HIN HOUT HOV
      obtain ⟨bb,hbb⟩ : ∃ bb,decide (nm1 = nm) = bb:=⟨_,rfl⟩
      rw [hbb] at HE HIN HOUT
      have HYN : Hid _:=hbb
      obtain ⟨un,hun⟩ : ∃ un,nm1.length = un:=⟨_,rfl⟩
      have HUN : Hid (nm1.length = un):=hun
      rw [hun] at HE HOV c0
      clear hbb hun
      have hix : (k : Int) < (m : Int):=by omega
      have HS1 : Hid (∀ c,TQ Qs (w.heap.size + 2) k wr c → c < wr.heap.size):=by
        show ∀ c,_ → _
        rintro c (⟨i,hi,hq⟩ | hq)
        · have:=HPS.out c (HQS.out i c (by omega) hq).1; omega
        · exact hq.2
      have HS2 : Hid (∀ c,Qs k c → c < wr.heap.size ∧ ¬ TQ Qs (w.heap.size + 2) k wr c):=by
        show ∀ c,_ → _
        intro c hc
        have h1:=HPS.out c (HQS.out k c hlt hc).1
        refine ⟨by omega,?_⟩
        rintro (⟨i,hi,hq⟩ | hq)
        · have:=HQA.out i k c (by omega) hlt hq hc; omega
        · omega
      cases bb
      · go_wp2_with (first | (go_at_call 111; refine Calls.mono (HE.out _ (by repeat (first | exact Below.refl _ _ | refine Below.al2 ?_ _))) ?_; rintro e w2 ⟨rfl,rfl⟩) | (at_builtin; go_must (refine wpList_appEnP _ rfl (.tmp 25) (.tmp 27) rfl _ rfl (outE (es.take k) nm) ⟨nm1,(ph,qh,dh)⟩ (.slice ua un uc) (TQ Qs (w.heap.size + 2) k wr) (Qs k) (wr.heap.size + 1) (by rfl) rfl (0,0) (by simpa using heap_alloc_new (wr.alloc _) _) (OwV.step HO.out (by repeat (first | exact Below.refl _ _ | refine Below.al2 ?_ _))) (OwV.step (HOV.out.step HB.out) (by repeat (first | exact Below.refl _ _ | refine Below.al2 ?_ _))) (fun c hc => by have:=HS1.out c hc; simp; omega) (fun c hc => ⟨by have:=(HS2.out c hc).1; simp; omega,(HS2.out c hc).2⟩) HLE.out ?_; intro g8 n8 c8 w8 ho8 t8 ob8)))
        have hrow:=HIN.out (by simp)
        rw [← hrow] at ho8
        have s8:=t8.size
        simp only [World.size_alloc] at s8
        have hob : ∀ c,(Value.slice g8 n8 c8).ownBlock = some c → w.heap.size + 2 ≤ c:=fun c hc => by
          rcases ob8 c hc with h | h
          · exact HOB.out c h
          · simp at h; omega
        have tb8 : Turned (fun c => w.heap.size + 2 ≤ c) wr w8:=(Turned.ofBelow (S:=fun c => w.heap.size + 2 ≤ c) (by repeat (first | exact Below.refl _ _ | refine Below.al2 ?_ _))).trans (t8.wide (fun c hc => HOB.out c hc))
        have B8 : Below w.heap.size w w8:=Turned.below HB.out tb8 HB.out.size (fun i hi => by omega)
        have HO8 : Hid (OwV w8 (TQ Qs (w.heap.size + 2) (k + 1) w8) (.slice g8 n8 c8) (ensDt (outE (es.take (k + 1)) nm))):=OwV.mono (fun c hc => by
          rcases hc with (⟨i,hi,hq⟩ | hq) | hq | hq
          · exact .inl ⟨i,by omega,hq⟩
          · exact .inr ⟨hq.1,by omega⟩
          · exact .inl ⟨k,by omega,hq⟩
          · simp at hq; exact .inr ⟨by omega,by omega⟩) ho8
        have HOB8 : Hid (∀ c,(Value.slice g8 n8 c8).ownBlock = some c → w.heap.size + 2 ≤ c):=hob
        have HB8 : Hid (Below w.heap.size w w8):=B8
        have vH8:=HVH.out.turn tb8 (by show ¬ w.heap.size + 2 ≤ w.heap.size; omega)
        have vN8:=HVN.out.turn tb8 (by show ¬ w.heap.size + 2 ≤ w.heap.size + 1; omega)
        have HVH8 : Hid (VarA w8 w.heap.size 48 _):=vH8
        have HVN8 : Hid (VarA w8 (w.heap.size + 1) 77 _):=vN8
        clear ho8 t8 ob8 hob tb8 B8 vH8 vN8 hrow
        go_wp2
        first
        | exact ⟨⟨k + 1,g8,n8,c8,by omega,by go_num,rfl,HO8,HOB8,HB8,HVH8.out,HVN8.out⟩,by simp [intOf]; omega⟩
        | (go_roundw
           case rel => exact ⟨k + 1,g8,n8,c8,by omega,by go_num,rfl,HO8,HOB8,HB8,HVH8.out,HVN8.out⟩
           case measure => simp [intOf]; omega)
      · go_wp2_with (go_at_call 111; refine Calls.mono (HE.out _ (by repeat (first | exact Below.refl _ _ | refine Below.al2 ?_ _))) ?_; rintro e w2 ⟨rfl,rfl⟩)
        have hB1 : Below wr.heap.size wr (wr.alloc (.cells #[.slice ua un uc,.i ph,.i qh,.bool dh] 86)):=by repeat (first | exact Below.refl _ _ | refine Below.al2 ?_ _)
        have hrow:=HOUT.out (by simp)
        have ho8:=OwV.step HO.out hB1
        rw [← hrow] at ho8
        have HO8 : Hid (OwV (wr.alloc (.cells #[.slice ua un uc,.i ph,.i qh,.bool dh] 86)) (TQ Qs (w.heap.size + 2) (k + 1) _) (.slice ga gn gc) (ensDt (outE (es.take (k + 1)) nm))):=OwV.mono (fun c hc => by
          rcases hc with ⟨i,hi,hq⟩ | hq
          · exact .inl ⟨i,by omega,hq⟩
          · exact .inr ⟨hq.1,Nat.lt_of_lt_of_le hq.2 hB1.size⟩) ho8
        have HB8 : Hid (Below w.heap.size w (wr.alloc (.cells #[.slice ua un uc,.i ph,.i qh,.bool dh] 86))):=HB.out.trans (hB1.mono HB.out.size)
        first
        | exact ⟨⟨k + 1,ga,gn,gc,by omega,by go_num,rfl,HO8,HOB,HB8,HVH.out.step hB1,HVN.out.step hB1⟩,by simp [intOf]; omega⟩
        | (go_roundw
           case rel => exact ⟨k + 1,ga,gn,gc,by omega,by go_num,rfl,HO8,HOB,HB8,HVH.out.step hB1,HVN.out.step hB1⟩
           case measure => simp [intOf]; omega)
    · have he : k = m:=by omega
      subst he
      rw [← HL.out,List.take_length,HL.out] at HO
      have HVH : Hid (VarA wr w.heap.size 48 _):=vH
      have hsz:=vN.lt
      have hb1:=HN.out.small b HN.out.bP
      have HVN : Hid (VarA wr (w.heap.size + 1) 77 _):=vN
      clear vN vH
      go_wp2_with (first | ((with_reducible refine gS 49 ?_); refine wpList_storeG HVN.out rfl rfl rfl (by kernel_rfl) rfl (of_decide_eq_true rfl) rfl ?_; intro w7 v7 t7; obtain ⟨o0,o1,o2,o3,o4,o5,o6,o7,o8⟩:=v7.l9; obtain ⟨c0,c1,c2⟩:=(HVH.out.turn t7 (by show ¬ w.heap.size = w.heap.size + 1; omega)).l3) | (at_mapUpdate; refine wpList_putX _ rfl (.tmp 32) (.tmp 33) (.tmp 34) rfl b s f X rfl (HN.out.m.blk ((t7.block b (by omega) (by omega)).trans (HB.out.block b (by omega)))) HN.out.key hsm (p,q,d) HI.out rfl (Nd.mk (s0,s1,s2) (s3,s4,s5) lk vl (outE es nm)) (.slice ga gn gc) HNH.out rfl ?_; intro w9 M9 g9))
      go_end0
      have t79:=Turned.ofGrown (S:=fun c => c = b) g9 (fun k hk => by simpa using hk.symm)
      have tA : Turned (fun c => c = b ∨ c = w.heap.size + 1) wr w9:=(t7.wide (fun c hc => .inr hc)).trans (t79.wide (fun c hc => .inl hc))
      have hsw:=HB.out.size
      refine ⟨rfl,⟨_,_,NX.put HN.out (R:=TQ Qs (w.heap.size + 2) k wr) HNH.out (by simpa [HF.out] using M9) (fun c hP hc => (tA.block c (by have:=HPS.out c hP; omega) (by have:=HPS.out c hP; omega)).trans (HB.out.block c (HPS.out c hP))) (Nat.le_trans hsw tA.size) (fun c hc => .inl hc) (fun c hc => by rcases hc with hc | hc; exact Nat.lt_of_lt_of_le (HPS.out c hc) (Nat.le_trans hsw tA.size); exact hc.2) ?_ ?_ ?_⟩,?_⟩
      · refine OwV.keep (tA.keeps (fun c hc => ?_)) HO.out
        rcases hc with ⟨i,hi,hq⟩ | hq
        · have h1:=HQS.out i c hi hq
          have h2:=HPS.out c h1.1
          rintro (h | h)
          · exact h1.2 h
          · omega
        · rintro (h | h) <;> omega
      · intro c hc
        rcases hc with ⟨i,hi,hq⟩ | hq
        · have h1:=HQS.out i c hi hq
          exact ⟨.inl h1.1,h1.2⟩
        · exact ⟨.inr ⟨by omega,Nat.lt_of_lt_of_le hq.2 tA.size⟩,by omega⟩
      · intro g' n' c hg hf' hc hq'
        rcases hc with ⟨i,hi,hq⟩ | hq
        · exact hg (HN.out.apart g' (p,q,d) n' _ c hf' HF.out hq' (HQG.out i c hi hq))
        · have:=HPS.out c (HN.out.inP g' n' c hf' hq').1; omega
      · exact Turned.past2 (Turned.ofBelow HB.out) tA (by omega)
end
section
open Go.RowKit Go.Sort Go.Shelf Go.Lib
structure SEl (β : Type) where
 e : β
 u : Value
 Q : Nat → Prop
abbrev SX (β : Type) (w : World) (g : Nat) (cell : β → Nat → Dt) (j0 : Nat):={ x : SEl β // OwV w x.Q x.u (cell x.e j0) ∧ ∀ c,x.Q c → c ≠ g }
def encX {β : Type} (k : Nat) (val : β → Value → Nat → Value) (e : β) (u : Value) : List Value:=(List.range k).map (val e u)
theorem encX_len {β : Type} (k : Nat) (val : β → Value → Nat → Value) (e : β) (u : Value) : (encX k val e u).length = k:=by simp [encX]
theorem encX_at {β : Type} {k : Nat} (val : β → Value → Nat → Value) (e : β) (u : Value) {j : Nat} (hj : j < k) : (encX k val e u)[j]! = val e u j:=by
 rw [getElem!_pos _ j (by rw [encX_len]; exact hj)]
 simp [encX]
structure Told (β : Type) (k j0 : Nat) (cell : β → Nat → Dt) (val : β → Value → Nat → Value) : Prop where
 lt : j0 < k
 one : ∀ e u j (W : World) Q v,j < k → j ≠ j0 → OwV W Q v (cell e j) → v = val e u j
 own : ∀ e u j (W : World),j < k → j ≠ j0 → OwV W (fun _ => False) (val e u j) (cell e j)
 at0 : ∀ e u,val e u j0 = u
 cell' : ∀ e u (W : World) Q,OwV W Q u (cell e j0) → ∀ j,j < k → (val e u j).oneCell' = true
section
variable {β : Type} {z : β} {T : TypeId} {k j0 : Nat} {cell : β → Nat → Dt} {val : β → Value → Nat → Value} {w : World} {S : Nat → Prop} {g cap : Nat} {l : List β}
theorem rowOpen [Inhabited (SX β w g cell j0)] (tl : Told β k j0 cell val) (o : OwV w S (.slice (some ⟨g,0,none⟩) l.length cap) (.rows T k l.length (fun i j => cell (l[i]?.getD z) j))) :
  ∃ d : Array (SX β w g cell j0),d.size = l.length ∧ d.toList.map (·.1.e) = l ∧ HoldsK (fun x : SX β w g cell j0 => encX k val x.1.e x.1.u) k w g 0 d ∧ d.toList.Pairwise (fun x y => ∀ c,x.1.Q c → y.1.Q c → False) ∧ (∀ x ∈ d.toList,∀ c,x.1.Q c → S c) ∧ g < w.heap.size:=by
 obtain ⟨V,C,Qs,h1,hS,h3,h4,h5,h6⟩:=OwV.inv o
 have hblk : ∃ cur,w.heap[g]? = some (.cells cur T (0,0)):=by
  rcases h1.2 with ⟨hv,_⟩ | ⟨g',c',cur,hv,_,hh,_⟩
  ·cases hv
  ·cases hv; exact ⟨cur,hh⟩
 let D : Array (SX β w g cell j0):=Array.ofFn (n:=l.length) (fun i => ⟨⟨l[i.1]'i.2,V i.1 j0,Qs i.1 j0⟩,by
  have:=h4 i.1 j0 i.2 tl.lt
  dsimp only at this
  rw [List.getElem?_eq_getElem i.2] at this
  exact this,fun c hc e => (h5 i.1 j0 c i.2 tl.lt hc).2 (by rw [e]; rfl)⟩)
 have hsz : D.size = l.length:=by simp [D]
 have hat : ∀ i (hi : i < D.size),(D[i]'hi).1 = ⟨l[i]'(by rw [← hsz]; exact hi),V i j0,Qs i j0⟩:=fun i hi => by simp [D]
 refine ⟨D,hsz,?_,?_,?_,?_,?_⟩
 ·apply List.ext_getElem
  ·simp [hsz]
  ·intro i h h'
   have hi : i < D.size:=by rw [hsz]; exact h'
   have:=hat i hi
   simp only [List.getElem_map,Array.getElem_toList]
   rw [this]
 ·intro t ht
  rw [size_flatK] at ht
  have hk0 : 0 < k:=Nat.lt_of_le_of_lt (Nat.zero_le _) tl.lt
  have hi : t / k < D.size:=Nat.div_lt_of_lt_mul (by rw [Nat.mul_comm]; exact ht)
  have hj : t % k < k:=Nat.mod_lt _ hk0
  have hil : t / k < l.length:=by rw [← hsz]; exact hi
  have hx : t / k * k + t % k = t:=by rw [Nat.mul_comm]; exact Nat.div_add_mod t k
  rw [get_flatK _ _ _ _ ht,getElem!_pos D (t / k) hi]
  have hval : V (t / k) (t % k) = val (D[t / k]'hi).1.e (D[t / k]'hi).1.u (t % k):=by
   rw [hat _ hi]
   by_cases hjj : t % k = j0
   ·rw [hjj]; exact (tl.at0 _ _).symm
   ·have h9:=h4 (t / k) (t % k) hil hj
    dsimp only at h9
    rw [List.getElem?_eq_getElem hil] at h9
    exact tl.one _ _ _ _ _ _ hj hjj h9
  have hc:=World.ownsRow.cellAt h1 t (by rw [← hsz]; exact ht)
  have hc2:=h3 (t / k) (t % k) hil hj
  rw [hx] at hc2
  obtain ⟨cur,hb⟩:=hblk
  refine ⟨?_,by simp [World.frozen?,hb]⟩
  rw [encX_at val _ _ hj,← hval,Nat.zero_add]
  rw [hc2] at hc
  exact hc
 ·rw [List.pairwise_iff_getElem]
  intro i j hi hj hij c hc hc'
  have hi' : i < D.size:=by simpa using hi
  have hj' : j < D.size:=by simpa using hj
  rw [Array.getElem_toList,hat i hi'] at hc
  rw [Array.getElem_toList,hat j hj'] at hc'
  have:=(h6 i j0 j j0 c (by omega) tl.lt (by omega) tl.lt hc hc').1
  omega
 ·intro x hx c hc
  obtain ⟨i,hi,rfl⟩:=List.getElem_of_mem hx
  have hi' : i < D.size:=by simpa using hi
  rw [Array.getElem_toList,hat i hi'] at hc
  exact (h5 i j0 c (by omega) tl.lt hc).1
 ·obtain ⟨cur,hb⟩:=hblk
  exact lt_of_block hb
theorem heap_sortedK [Inhabited (SX β w g cell j0)] {n : Nat} {os : Array Obj} {cur : Array Value} {e : TypeId} {fr : Nat × Nat} (enc : SX β w g cell j0 → List Value) (d : Array (SX β w g cell j0)) (hb : w.heap[g]? = some (.cells cur e fr)) :
  (sortWorldK enc k w g 0 n d os).heap[g]? = some (.cells (putCells id 0 (flatK enc k d) cur) e fr):=by
 have hg : g < w.heap.size:=(Array.getElem?_eq_some_iff.1 hb).1
 unfold sortWorldK putRowK
 rw [heap_grow_old _ _ (by simpa using hg)]
 simp [putRow,mapBlock,Sort.ahead,Array.getElem?_modify,hb,onCells]
theorem grownBy_sortedK [Inhabited (SX β w g cell j0)] {n : Nat} {os : Array Obj} (enc : SX β w g cell j0 → List Value) (d : Array (SX β w g cell j0)) : w.grownBy (sortWorldK enc k w g 0 n d os) (some g):=by
 unfold sortWorldK putRowK
 refine ⟨rfl,rfl,rfl,by simp,fun k hk hne => ?_⟩
 rw [heap_grow_old _ _ (by simpa using hk)]
 have : g ≠ k:=fun e => hne (by rw [e])
 simp [putRow,mapBlock,Sort.ahead,Array.getElem?_modify,this]
theorem rowClose [Inhabited (SX β w g cell j0)] (tl : Told β k j0 cell val) (o : OwV w S (.slice (some ⟨g,0,none⟩) l.length cap) (.rows T k l.length (fun i j => cell (l[i]?.getD z) j))) (d : Array (SX β w g cell j0)) (hsz : d.size = l.length)
  (hp : d.toList.Pairwise (fun x y => ∀ c,x.1.Q c → y.1.Q c → False)) (hS2 : ∀ x ∈ d.toList,∀ c,x.1.Q c → S c) (m : Nat) (os : Array Obj) (L : List β) (hL : d.toList.map (·.1.e) = L) :
  OwV (sortWorldK (fun x : SX β w g cell j0 => encX k val x.1.e x.1.u) k w g 0 m d os) S (.slice (some ⟨g,0,none⟩) l.length cap) (.rows T k L.length (fun i j => cell (L[i]?.getD z) j)):=by
 have hLl : L.length = l.length:=by rw [← hL]; simpa using hsz
 obtain ⟨V,C,Qs,h1,hS,h3,h4,h5,h6⟩:=OwV.inv o
 rcases h1.2 with ⟨hv,_⟩ | ⟨g',c',cur,hv,hg0,hh,hnc,hmx,hcs,htk⟩
 ·cases hv
 cases hv
 have hg9:=grownBy_sortedK (k:=k) (n:=m) (os:=os) (fun x : SX β w g cell j0 => encX k val x.1.e x.1.u) d
 have hat : ∀ i,i < l.length → L[i]?.getD z = (d[i]!).1.e:=fun i hi => by
  have hi' : i < d.size:=by omega
  rw [← hL,List.getElem?_map,Array.getElem?_toList,Array.getElem?_eq_getElem hi',getElem!_pos d i hi']
  rfl
 have hmem : ∀ i,i < l.length → d[i]! ∈ d.toList:=fun i hi => by
  have hi' : i < d.size:=by omega
  rw [getElem!_pos d i hi']
  exact Array.getElem_mem_toList hi'
 have hsz2 : (flatK (fun x : SX β w g cell j0 => encX k val x.1.e x.1.u) k d).size = l.length * k:=by rw [size_flatK,hsz]
 rw [hLl]
 refine OwV.mkRows ⟨fun i j => val (d[i]!).1.e (d[i]!).1.u j,(flatK (fun x : SX β w g cell j0 => encX k val x.1.e x.1.u) k d).toList,fun i j c => if j = j0 then (d[i]!).1.Q c else False,⟨by simpa using hsz2,.inr ⟨g,cap,_,rfl,hg0,heap_sortedK _ d hh,hnc,hmx,by simpa [putCells] using hcs,?_⟩⟩,hS,?_,?_,?_,?_⟩
 ·have hle : l.length * k ≤ cur.size:=by rw [hcs]; exact Nat.mul_le_mul_right k hnc
  rw [← hsz2]
  apply List.ext_getElem?
  intro t
  by_cases ht : t < (flatK (fun x : SX β w g cell j0 => encX k val x.1.e x.1.u) k d).size
  ·rw [List.getElem?_take_of_lt ht,Array.getElem?_toList,Array.getElem?_toList]
   have : t < cur.size:=by omega
   have ht2 : t < d.size * k:=by rw [size_flatK] at ht; exact ht
   simp only [putCells]
   rw [Array.getElem?_eq_getElem ht,← getElem!_pos _ t ht]
   simp [this,ht2]
  ·rw [List.getElem?_take_eq_none (by omega),List.getElem?_eq_none (by simp at ht ⊢; omega)]
 ·intro i j hi hj
  have ht : i * k + j < d.size * k:=by rw [hsz]; exact place_lt hi hj
  rw [Array.getElem?_toList,Array.getElem?_eq_getElem (by rw [size_flatK]; exact ht),← getElem!_pos _ _ (by rw [size_flatK]; exact ht),get_flatK _ _ _ _ ht]
  have h1 : (i * k + j) / k = i:=by rw [Nat.add_comm,Nat.mul_comm,Nat.add_mul_div_left _ _ (by omega),Nat.div_eq_of_lt hj]; omega
  have h2 : (i * k + j) % k = j:=by rw [Nat.add_comm,Nat.add_mul_mod_self_right,Nat.mod_eq_of_lt hj]
  rw [h1,h2,encX_at val _ _ hj]
 ·intro i j hi hj
  dsimp only
  rw [hat i hi]
  by_cases hjj : j = j0
  ·subst hjj
   simp only [if_true]
   rw [tl.at0]
   exact OwV.keep ⟨hg9.size,fun c hc hlt => hg9.block c hlt (fun e => (d[i]!).2.2 c hc (by cases e; rfl))⟩ (d[i]!).2.1
  ·simp only [hjj,if_false]
   exact tl.own _ _ _ _ hj hjj
 ·intro i j c hi hj hc
  by_cases hjj : j = j0
  ·simp only [hjj,if_true] at hc
   exact ⟨hS2 _ (hmem i hi) c hc,fun e => (d[i]!).2.2 c hc (by cases e; rfl)⟩
  ·simp only [hjj,if_false] at hc
 ·intro i j i' j' c hi hj hi' hj' hc hc'
  by_cases hjj : j = j0 <;> by_cases hjj' : j' = j0
  ·simp only [hjj,hjj',if_true] at hc hc'
   refine ⟨?_,by omega⟩
   have hd : i < d.size:=by omega
   have hd' : i' < d.size:=by omega
   rw [getElem!_pos d i hd] at hc
   rw [getElem!_pos d i' hd'] at hc'
   rw [List.pairwise_iff_getElem] at hp
   rcases Nat.lt_trichotomy i i' with h | h | h
   ·exact (hp i i' (by simpa using hd) (by simpa using hd') h c (by simpa using hc) (by simpa using hc')).elim
   ·exact h
   ·exact (hp i' i (by simpa using hd') (by simpa using hd) h c (by simpa using hc') (by simpa using hc)).elim
  ·simp only [hjj',if_false] at hc'
  ·simp only [hjj,if_false] at hc
  ·simp only [hjj,if_false] at hc
end
theorem sorted_same {α β : Type} [Inhabited α] {lt : α → α → Bool} {d : Array α} {n : Nat} (hn : d.size = n) (φ : α → β) (R : β → β → Prop) (hR : ∀ x y,R (φ x) (φ y) → lt x y = true) (hT : ∀ a b,R a b → R b a → False) (hso : SortedIn lt 0 n d) {L : List β} (hp : (d.toList.map φ).Perm L) (hL : L.Pairwise R) : d.toList.map φ = L:=by
 refine List.Perm.eq_of_pairwise (le:=fun a b => a = b ∨ ¬ R b a) ?_ ?_ ?_ hp
 ·intro a b ha hb h1 h2
  rcases h1 with h1 | h1
  ·exact h1
  rcases h2 with h2 | h2
  ·exact h2.symm
  have hb' : b ∈ L:=hb
  have ha' : a ∈ L:=hp.mem_iff.1 ha
  obtain ⟨i,hi,rfl⟩:=List.getElem_of_mem ha'
  obtain ⟨j,hj,rfl⟩:=List.getElem_of_mem hb'
  rw [List.pairwise_iff_getElem] at hL
  rcases Nat.lt_trichotomy i j with h | h | h
  ·exact (h2 (hL i j hi hj h)).elim
  ·subst h; rfl
  ·exact (h1 (hL j i hj hi h)).elim
 ·rw [List.pairwise_iff_getElem]
  intro i j hi hj hij
  have hi' : i < d.size:=by simpa using hi
  have hj' : j < d.size:=by simpa using hj
  have h9:=hso i j (Nat.zero_le _) hij (by omega)
  rw [getElem!_pos d j hj',getElem!_pos d i hi'] at h9
  right
  intro h
  simp only [List.getElem_map,Array.getElem_toList] at h
  rw [hR _ _ h] at h9
  cases h9
 ·exact hL.imp (fun {a b} h => .inr (fun h2 => hT a b h h2))
end
section
open Go.RowKit Go.Sort Go.Shelf Go.Lib
def Grew (w w' : World) : Prop:=∃ q os,w' = grow (w.drewN q) os
theorem Grew.refl (w : World) : Grew w w:=⟨0,#[],by rw [grow_empty]; rfl⟩
theorem Grew.alloc {w w' : World} (h : Grew w w') (o : Obj) : Grew w (w'.alloc o):=by
 obtain ⟨q,os,rfl⟩:=h
 exact ⟨q,os ++ #[o],by rw [alloc_eq_grow,grow_grow]⟩
theorem Grew.drew {w w' : World} (h : Grew w w') : Grew w w'.drew:=by
 obtain ⟨q,os,rfl⟩:=h
 exact ⟨q + 1,os,rfl⟩
theorem Grew.trans {a b c : World} (h : Grew a b) (k : Grew b c) : Grew a c:=by
 obtain ⟨q,os,rfl⟩:=h
 obtain ⟨q',os',rfl⟩:=k
 refine ⟨q + q',os ++ os',?_⟩
 rw [show (grow (a.drewN q) os).drewN q' = grow ((a.drewN q).drewN q') os from rfl,grow_grow]
 congr 1
 simp [World.drewN,Nat.add_assoc]
theorem Grew.below {w w' : World} (h : Grew w w') : Below w.heap.size w w':=by
 obtain ⟨q,os,rfl⟩:=h
 refine ⟨rfl,rfl,rfl,by simp [grow,World.drewN],fun i hi => ?_⟩
 rw [heap_grow_old _ _ (by simpa [World.drewN] using hi)]
 rfl
theorem enterC_any (x0 y0 : Value) (p q : Int) (d : Bool) (p2 q2 : Int) (d2 : Bool) (xs ys : List Int) (S S2 : Nat → Prop) (w : World) (r : RdV w S x0 (.bytes xs)) (r2 : RdV w S2 y0 (.bytes ys)) :
  Calls Tryz.prog 134 #[.agg #[x0,.i p,.i q,.bool d],.agg #[y0,.i p2,.i q2,.bool d2]] w fun e w' => e = .returned (.i (cmpB xs ys)) ∧ Grew w w':=by
 obtain ⟨xa,xc,rfl⟩:=r.sliceB
 obtain ⟨ya,yc,rfl⟩:=r2.sliceB
 have HE : Hid (∀ o o2,Calls Tryz.prog 129 #[.slice xa xs.length xc,.slice ya ys.length yc] ((w.alloc o).alloc o2) fun e w' => e = .returned (.i (cmpB xs ys)) ∧ w' = (w.alloc o).alloc o2):=fun o o2 => bytesCompare_any _ _ _ _ S S2 _ (r.step (by repeat (first | exact Below.refl _ _ | refine Below.al2 ?_ _))) (r2.step (by repeat (first | exact Below.refl _ _ | refine Below.al2 ?_ _)))
 clear r r2
 generalize xs.length = xn at *
 generalize ys.length = yn at *
 generalize cmpB xs ys = bb at *
 go_enter Tryz.func134,Tryz.ntmps134
 go_wp2_with (go_at_call 129; refine Calls.mono (HE.out _ _) ?_; rintro e w2 ⟨rfl,rfl⟩)
 go_ret
 exact ⟨rfl,((Grew.refl w).alloc _).alloc _⟩
theorem byPlaceG_any (a b : Hd) (w : World) : Calls Tryz.prog 112 #[a.v,b.v] w fun e w' => e = .returned (.i (byP a b)) ∧ Grew w w':=by
 obtain ⟨s,i,d⟩:=a
 obtain ⟨s2,i2,d2⟩:=b
 have HB : Hid (byP (s,i,d) (s2,i2,d2) = orI (cmpI s s2) (cmpI i i2)):=rfl
 rw [HB.out]
 clear HB
 go_enter Tryz.func112,Tryz.ntmps112
 go_wp2
 go_region_held3 (fun w' => w'.cell? ⟨w.heap.size,0,none⟩ = some (.i s) ∧ w'.cell? ⟨w.heap.size,1,none⟩ = some (.i i) ∧ w'.cell? ⟨w.heap.size + 1,0,none⟩ = some (.i s2) ∧ w'.cell? ⟨w.heap.size + 1,1,none⟩ = some (.i i2)) (first | go_keep) (first
  | (go_at_call 128; refine Calls.mono (compare_any _ _ _) ?_; rintro e w' ⟨rfl,rfl⟩)
  | (go_at_call 127; refine Calls.mono (or_any _ (cmpI s s2) (cmpI i i2) _ (by simp [go_sem]) (by simp [go_sem])) ?_; rintro e w' ⟨rfl,rfl⟩))
 all_goals go_wp2
 all_goals go_ret
 all_goals exact ⟨rfl,(((((Grew.refl w).alloc _).alloc _)).alloc _).drew⟩
def byHd (a b : Hd) : Int:=if byP a b = 0 then (if a.dir = false ∧ b.dir = true then -1 else if a.dir = true ∧ b.dir = false then 1 else 0) else byP a b
theorem byHandle_any (a b : Hd) (w : World) : Calls Tryz.prog 110 #[a.v,b.v] w fun e w' => e = .returned (.i (byHd a b)) ∧ Grew w w':=by
 obtain ⟨s,i,d⟩:=a
 obtain ⟨s2,i2,d2⟩:=b
 have HP : Hid (∀ W,_):=fun W => byPlaceG_any (s,i,d) (s2,i2,d2) W
 obtain ⟨res,hres⟩ : ∃ r,byHd (s,i,d) (s2,i2,d2) = r:=⟨_,rfl⟩
 rw [hres]
 have HRES : Hid ((if byP (s,i,d) (s2,i2,d2) = 0 then (if d = false ∧ d2 = true then -1 else if d = true ∧ d2 = false then 1 else 0) else byP (s,i,d) (s2,i2,d2)) = res):=hres
 generalize byP (s,i,d) (s2,i2,d2) = bp at HP HRES
 clear hres
 go_enter Tryz.func110,Tryz.ntmps110
 go_wp2_with fail
 go_at_call 112
 refine Calls.mono (HP.out _) ?_
 rintro e w1 ⟨rfl,g1⟩
 have G : Grew w w1:=(((Grew.refl w).alloc _).alloc _).trans g1
 have v1 : VarA w1 w.heap.size 48 #[.i s,.i i,.bool d]:=((VarA.new w _ _).alloc _).step g1.below
 have v2 : VarA w1 (w.heap.size + 1) 48 #[.i s2,.i i2,.bool d2]:=(by simpa using VarA.new (w.alloc _) 48 _ : VarA ((w.alloc _).alloc (.cells #[.i s2,.i i2,.bool d2] 48)) (w.heap.size + 1) _ _).step g1.below
 obtain ⟨a0,a1,a2⟩:=v1.l3
 obtain ⟨b0,b1,b2⟩:=v2.l3
 have HG : Hid (Grew w w1):=G
 clear v1 v2 g1 G
 by_cases hb : bp = 0
 ·subst hb
  cases d <;> cases d2
  all_goals
   go_wp2
   go_ret
   exact ⟨by rw [← HRES.out]; simp,HG.out⟩
 ·have hb1 : (bp == 0) = false:=by simpa using hb
  have hb2 : (bp != 0) = true:=by simpa using hb
  go_wp2
  go_ret
  exact ⟨by rw [← HRES.out,if_neg hb]; rfl,HG.out⟩
theorem ascC_any (n m : Nd) (x y : Value) (w : World) (hx : ∃ a l c,x = .slice a l c) (hy : ∃ a l c,y = .slice a l c) :
  Calls Tryz.prog 109 #[ndV n x,ndV m y] w fun e w' => e = .returned (.i (byHd n.h m.h)) ∧ Grew w w':=by
 obtain ⟨xa,xn,xc,rfl⟩:=hx
 obtain ⟨ya,yn,yc,rfl⟩:=hy
 have HE : Hid (∀ W,_):=fun W => byHandle_any n.h m.h W
 obtain ⟨⟨p,q,d⟩,⟨p2,q2,d2⟩,lk,vl,es⟩:=n
 obtain ⟨⟨s0,s1,s2⟩,⟨s3,s4,s5⟩,lk2,vl2,es2⟩:=m
 dsimp only at HE ⊢
 generalize byHd (p,q,d) (s0,s1,s2) = bb at *
 go_enter Tryz.func109,Tryz.ntmps109
 go_wp2_with (go_at_call 110; refine Calls.mono (HE.out _) ?_; rintro e w2 ⟨rfl,g2⟩)
 go_ret
 exact ⟨rfl,(((Grew.refl w).alloc _).alloc _).trans g2⟩
theorem byHd_lt (a b : Hd) : byHd a b < 0 ↔ a.1 < b.1 ∨ a.1 = b.1 ∧ (a.2.1 < b.2.1 ∨ a.2.1 = b.2.1 ∧ a.2.2 = false ∧ b.2.2 = true):=by
 obtain ⟨s,i,d⟩:=a
 obtain ⟨s2,i2,d2⟩:=b
 simp only [byHd,byP,cmpI,Hd.sh,Hd.ino,Hd.dir]
 cases d <;> cases d2 <;> simp <;> (repeat' split) <;> omega
theorem swo_hd {α : Type} (φ : α → Hd) : SWO (ltOf fun x y : α => byHd (φ x) (φ y)):=by
 have e : ∀ x y,ltOf (fun x y : α => byHd (φ x) (φ y)) x y = decide ((φ x).1 < (φ y).1 ∨ (φ x).1 = (φ y).1 ∧ ((φ x).2.1 < (φ y).2.1 ∨ (φ x).2.1 = (φ y).2.1 ∧ (φ x).2.2 = false ∧ (φ y).2.2 = true)):=fun x y => by
  unfold ltOf
  exact decide_eq_decide.2 (byHd_lt _ _)
 refine ⟨fun x => ?_,fun x y z h1 h2 => ?_,fun x y z h1 h2 => ?_⟩
 ·rw [e]; simp
 ·rw [e,decide_eq_true_eq] at *
  generalize φ x = a at *; generalize φ y = b at *; generalize φ z = c at *
  obtain ⟨s,i,d⟩:=a; obtain ⟨s2,i2,d2⟩:=b; obtain ⟨s3,i3,d3⟩:=c
  cases d <;> cases d2 <;> cases d3 <;> simp at h1 h2 ⊢ <;> omega
 ·rw [e,decide_eq_false_iff_not] at *
  generalize φ x = a at *; generalize φ y = b at *; generalize φ z = c at *
  obtain ⟨s,i,d⟩:=a; obtain ⟨s2,i2,d2⟩:=b; obtain ⟨s3,i3,d3⟩:=c
  cases d <;> cases d2 <;> cases d3 <;> simp at h1 h2 ⊢ <;> omega
theorem cmpB_lt (xs ys : List Int) : decide (cmpB xs ys < 0) = ltStr (Lib.bytesOf xs) (Lib.bytesOf ys):=by
 unfold ltStr
 rw [← bytesLess_eq]
 have h:=cmp_less (Lib.bytesOf xs) (Lib.bytesOf ys)
 unfold cmpB
 cases hb : Op.bytesLess (Lib.bytesOf xs) (Lib.bytesOf ys)
 ·rw [hb] at h; simp at h; simpa using h
 ·rw [hb] at h; simp at h; simpa using h
theorem swo_nm {α : Type} (φ : α → List Int) : SWO (ltOf fun x y : α => cmpB (φ x) (φ y)):=by
 have e : ∀ x y,ltOf (fun x y : α => cmpB (φ x) (φ y)) x y = ltStr (Lib.bytesOf (φ x)) (Lib.bytesOf (φ y)):=fun x y => cmpB_lt _ _
 exact ⟨fun x => by rw [e]; exact swo_ltStr.irrefl _,fun x y z h1 h2 => by rw [e] at *; exact swo_ltStr.trans _ _ _ h1 h2,fun x y z h1 h2 => by rw [e] at *; exact swo_ltStr.ntrans _ _ _ h1 h2⟩
theorem told_en : Told En 4 0 enCell enVal where
 lt:=by omega
 one e u j W Q v hj h0 o:=match j,hj,h0,o with
  | 0,_,h,_ => absurd rfl h
  | 1,_,_,o => o
  | 2,_,_,o => o
  | 3,_,_,o => o
 own e u j W hj h0:=match j,hj,h0 with
  | 0,_,h => absurd rfl h
  | 1,_,_ => rfl
  | 2,_,_ => rfl
  | 3,_,_ => rfl
 at0 e u:=rfl
 cell' e u W Q o j hj:=by
  obtain ⟨a,c,rfl⟩:=(OwV.rd (show OwV W Q u (.bytes e.nm) from o)).sliceB
  match j,hj with
  | 0,_ => rfl
  | 1,_ => rfl
  | 2,_ => rfl
  | 3,_ => rfl
theorem told_nd : Told Nd 9 8 ndCell ndVal where
 lt:=by omega
 one e u j W Q v hj h0 o:=match j,hj,h0,o with
  | 0,_,_,o => o
  | 1,_,_,o => o
  | 2,_,_,o => o
  | 3,_,_,o => o
  | 4,_,_,o => o
  | 5,_,_,o => o
  | 6,_,_,o => o
  | 7,_,_,o => o
  | 8,_,h,_ => absurd rfl h
 own e u j W hj h0:=match j,hj,h0 with
  | 0,_,_ => rfl
  | 1,_,_ => rfl
  | 2,_,_ => rfl
  | 3,_,_ => rfl
  | 4,_,_ => rfl
  | 5,_,_ => rfl
  | 6,_,_ => rfl
  | 7,_,_ => rfl
  | 8,_,h => absurd rfl h
 at0 e u:=rfl
 cell' e u W Q o j hj:=by
  obtain ⟨a,c,rfl,_⟩:=RdV.sliced (OwV.rd (show OwV W Q u (ensDt e.es) from o))
  match j,hj with
  | 0,_ => rfl
  | 1,_ => rfl
  | 2,_ => rfl
  | 3,_ => rfl
  | 4,_ => rfl
  | 5,_ => rfl
  | 6,_ => rfl
  | 7,_ => rfl
  | 8,_ => rfl
theorem perm_whole {α : Type} [Inhabited α] {d d' : Array α} {n : Nat} (hn : d.size = n) (h : PermIn 0 n d d') : d'.toList.Perm d.toList ∧ d'.size = n:=by
 obtain ⟨h1,_,h3⟩:=h
 have e1 : d'.extract 0 n = d':=by rw [← hn,← h1]; exact Array.extract_size
 have e2 : d.extract 0 n = d:=by rw [← hn]; exact Array.extract_size
 rw [e1,e2] at h3
 exact ⟨h3,by rw [h1,hn]⟩
theorem sortEn_any (v : Value) (l L : List En) (S : Nat → Prop) (w : World) (o : OwV w S v (ensDt l)) (hp : l.Perm L) (hs : L.Pairwise (fun a b => cmpB a.nm b.nm < 0)) (hl : l.length ≤ 2097152) :
  Calls Tryz.prog 133 #[v,.func (.func 134) #[] #[]] w fun e w' => e = .returned (.tuple #[]) ∧ OwV w' S v (ensDt L) ∧ Turned (fun c => v.ownBlock = some c) w w':=by
 by_cases h0 : l.length = 0
 ·have : l = []:=List.eq_nil_of_length_eq_zero h0
  subst this
  obtain rfl : L = []:=by have:=hp.symm.eq_nil; exact this
  obtain ⟨a,c,rfl,_⟩:=RdV.sliced (OwV.rd o)
  exact (AnyF.slices_SortFunc_none sortEn a c _ w).mono fun e w' ⟨he,hw⟩ => ⟨he,by rw [hw]; exact o,by rw [hw]; exact Turned.refl _ _⟩
 obtain ⟨V0,C0,Q0,h1,_,_,h4,h5,_⟩:=OwV.inv o
 rcases h1.2 with ⟨hv,hz⟩ | ⟨g,cap,cur,rfl,_⟩
 ·exact absurd hz h0
 haveI : Inhabited (SX En w g enCell 0):=⟨⟨⟨l[0]?.getD en0,V0 0 0,Q0 0 0⟩,h4 0 0 (by omega) (by omega),fun c hc e => (h5 0 0 c (by omega) (by omega) hc).2 (by rw [e]; rfl)⟩⟩
 obtain ⟨d,hd,hdl,hH,hpw,hS,hg⟩:=rowOpen (z:=en0) told_en o
 have hcmp : CmpLays Tryz.prog 134 #[] (fun x : SX En w g enCell 0 => encX 4 enVal x.1.e x.1.u) 4 (fun x y => cmpB x.1.e.nm y.1.e.nm) g 0 d.size w:=by
  intro m os dk hdk x y
  have hgr:=grownBy_sortedK (k:=4) (n:=m) (os:=os) (fun x : SX En w g enCell 0 => encX 4 enVal x.1.e x.1.u) dk
  have kp : ∀ z : SX En w g enCell 0,RdV (sortWorldK (fun x : SX En w g enCell 0 => encX 4 enVal x.1.e x.1.u) 4 w g 0 m dk os) z.1.Q z.1.u (.bytes z.1.e.nm):=fun z => RdV.keep ⟨hgr.size,fun c hc hlt => hgr.block c hlt (fun e => z.2.2 c hc (by cases e; rfl))⟩ (OwV.rd z.2.1)
  exact enterC_any x.1.u y.1.u _ _ _ _ _ _ x.1.e.nm y.1.e.nm _ _ _ (kp x) (kp y)
 have h:=AnyQ.slices_SortFunc sortEn 4 Tryz.isAgg86 Tryz.sizeOf86 (fun x : SX En w g enCell 0 => encX 4 enVal x.1.e x.1.u) (fun x => encX_len _ _ _ _) (fun x u hu => by
  obtain ⟨j,hj,rfl⟩:=List.mem_map.1 hu
  exact told_en.cell' x.1.e x.1.u w x.1.Q x.2.1 j (by simpa using hj)) (fun x y => cmpB x.1.e.nm y.1.e.nm) (swo_nm (fun x : SX En w g enCell 0 => x.1.e.nm)) 134 #[] g 0 cap d w (enters_of Tryz.func134 (by kernel_rfl) rfl) hcmp hH hg (by omega)
 rw [hd] at h
 refine h.mono fun e w' ⟨he,d',m,os,hP,hSo,hw⟩ => ⟨he,?_,?_⟩
 ·obtain ⟨hpm,hsz⟩:=perm_whole hd hP
  have hL : d'.toList.map (·.1.e) = L:=sorted_same (lt:=ltOf fun x y : SX En w g enCell 0 => cmpB x.1.e.nm y.1.e.nm) hsz (fun x : SX En w g enCell 0 => x.1.e) (fun a b => cmpB a.nm b.nm < 0) (fun x y h => decide_eq_true h) (fun a b h1 h2 => by
   have:=(swo_nm (fun e : En => e.nm)).trans a b a (decide_eq_true h1) (decide_eq_true h2)
   rw [(swo_nm (fun e : En => e.nm)).irrefl a] at this
   cases this) hSo ((hpm.map _).trans (by rw [hdl]; exact hp)) hs
  rw [hw]
  exact rowClose told_en o d' hsz ((hpm.pairwise_iff (fun {x y} h c h1 h2 => h c h2 h1)).2 hpw) (fun x hx => hS x (hpm.mem_iff.1 hx)) m os L hL
 ·rw [hw]
  exact Turned.ofGrown (grownBy_sortedK _ d') (fun k hk => by cases hk; rfl)
theorem sortNd_any (v : Value) (l L : List Nd) (S : Nat → Prop) (w : World) (o : OwV w S v (ndsDt l)) (hp : l.Perm L) (hs : L.Pairwise (fun a b => byHd a.h b.h < 0)) (hl : l.length ≤ 2097152) :
  Calls Tryz.prog 108 #[v,.func (.func 109) #[] #[]] w fun e w' => e = .returned (.tuple #[]) ∧ OwV w' S v (ndsDt L) ∧ Turned (fun c => v.ownBlock = some c) w w':=by
 by_cases h0 : l.length = 0
 ·have : l = []:=List.eq_nil_of_length_eq_zero h0
  subst this
  obtain rfl : L = []:=by have:=hp.symm.eq_nil; exact this
  obtain ⟨a,c,rfl,_⟩:=RdV.sliced (OwV.rd o)
  exact (AnyF.slices_SortFunc_none sortNd a c _ w).mono fun e w' ⟨he,hw⟩ => ⟨he,by rw [hw]; exact o,by rw [hw]; exact Turned.refl _ _⟩
 obtain ⟨V0,C0,Q0,h1,_,_,h4,h5,_⟩:=OwV.inv o
 rcases h1.2 with ⟨hv,hz⟩ | ⟨g,cap,cur,rfl,_⟩
 ·exact absurd hz h0
 haveI : Inhabited (SX Nd w g ndCell 8):=⟨⟨⟨l[0]?.getD nd0,V0 0 8,Q0 0 8⟩,h4 0 8 (by omega) (by omega),fun c hc e => (h5 0 8 c (by omega) (by omega) hc).2 (by rw [e]; rfl)⟩⟩
 obtain ⟨d,hd,hdl,hH,hpw,hS,hg⟩:=rowOpen (z:=nd0) told_nd o
 have hcmp : CmpLays Tryz.prog 109 #[] (fun x : SX Nd w g ndCell 8 => encX 9 ndVal x.1.e x.1.u) 9 (fun x y => byHd x.1.e.h y.1.e.h) g 0 d.size w:=by
  intro m os dk hdk x y
  have sl : ∀ z : SX Nd w g ndCell 8,∃ a l c,z.1.u = .slice a l c:=fun z => by
   obtain ⟨a,c,e,_⟩:=RdV.sliced (OwV.rd (show OwV w z.1.Q z.1.u (ensDt z.1.e.es) from z.2.1))
   exact ⟨a,_,c,e⟩
  exact ascC_any x.1.e y.1.e x.1.u y.1.u _ (sl x) (sl y)
 have h:=AnyQ.slices_SortFunc sortNd 9 Tryz.isAgg77 Tryz.sizeOf77 (fun x : SX Nd w g ndCell 8 => encX 9 ndVal x.1.e x.1.u) (fun x => encX_len _ _ _ _) (fun x u hu => by
  obtain ⟨j,hj,rfl⟩:=List.mem_map.1 hu
  exact told_nd.cell' x.1.e x.1.u w x.1.Q x.2.1 j (by simpa using hj)) (fun x y => byHd x.1.e.h y.1.e.h) (swo_hd (fun x : SX Nd w g ndCell 8 => x.1.e.h)) 109 #[] g 0 cap d w (enters_of Tryz.func109 (by kernel_rfl) rfl) hcmp hH hg (by omega)
 rw [hd] at h
 refine h.mono fun e w' ⟨he,d',m,os,hP,hSo,hw⟩ => ⟨he,?_,?_⟩
 ·obtain ⟨hpm,hsz⟩:=perm_whole hd hP
  have hL : d'.toList.map (·.1.e) = L:=sorted_same (lt:=ltOf fun x y : SX Nd w g ndCell 8 => byHd x.1.e.h y.1.e.h) hsz (fun x : SX Nd w g ndCell 8 => x.1.e) (fun a b => byHd a.h b.h < 0) (fun x y h => decide_eq_true h) (fun a b h1 h2 => by
   have:=(swo_hd (fun e : Nd => e.h)).trans a b a (decide_eq_true h1) (decide_eq_true h2)
   rw [(swo_hd (fun e : Nd => e.h)).irrefl a] at this
   cases this) hSo ((hpm.map _).trans (by rw [hdl]; exact hp)) hs
  rw [hw]
  exact rowClose told_nd o d' hsz ((hpm.pairwise_iff (fun {x y} h c h1 h2 => h c h2 h1)).2 hpw) (fun x hx => hS x (hpm.mem_iff.1 hx)) m os L hL
 ·rw [hw]
  exact Turned.ofGrown (grownBy_sortedK _ d') (fun k hk => by cases hk; rfl)
end
section
open Go.Maps
theorem step_appEnP {ops : Array Oper} {o : Oper} {a : Act} {K : Act → World → Prop} {Q : Exit → Act → World → Prop} {E : Prop} (w : World) (hgd : o.guard = none) (s x : Operand)
  (ho : o.op = .call { callee:=.builtin .append,args:=#[s,x],argTypes:=#[49,49] })
  (v : Value) (hs : a.eval s = v) (l : List En) (e : En) (u : Value) (S U : Nat → Prop) (q : Nat) (hx : a.eval x = .slice (some ⟨q,0,none⟩) 1 1) (hone : u.oneCell' = true) (fr : Nat × Nat) (hq : w.heap[q]? = some (.cells #[u,.i e.h.sh,.i e.h.ino,.bool e.h.dir] 86 fr))
  (hown : OwV w S v (ensDt l)) (hu : OwV w U u (.bytes e.nm)) (hSs : ∀ b,S b → b < w.heap.size) (hU : ∀ b,U b → b < w.heap.size ∧ ¬ S b) (hl : l.length ≤ 4000)
  (h : ∀ g n cap w',OwV w' (fun b => S b ∨ U b ∨ w.heap.size ≤ b ∧ b < w'.heap.size) (.slice g n cap) (ensDt (l ++ [e])) → Turned (fun b => v.ownBlock = some b) w w' → (∀ c,(Value.slice g n cap).ownBlock = some c → v.ownBlock = some c ∨ c = w.heap.size) → K (a.put o.dst (.slice g n cap)) w') : if Region.wanted o (yielded ops a.tmps) = true then Oper.wp Tryz.prog o a w K Q else E:=by
 obtain ⟨i0,hi0,hz0,hz1,hz2⟩:=info_parts Tryz.infoEn
 have hown':=hown
 unfold ensDt at hown'
 obtain ⟨V,C,Qs,h1,hS,h3,h4,h5,h6⟩:=OwV.inv hown'
 refine step_append_lies w hgd s x 49 ho 0 86 i0 (.agg #[.n0,.i 0,.i 0,.bool false]) 4 48 Tryz.underlying49 hi0 hz0 hz1 hz2 rfl (by decide) v l.length C hs h1 ⟨q,0,none⟩ 1 1 [u,.i e.h.sh,.i e.h.ino,.bool e.h.dir] hx rfl (World.news_of_block hq) (fun y hy => ?_) (by decide) (by unfold maxLen; omega) (by omega) (Nat.zero_le _) w.heap.size rfl ?_
 ·simp only [List.mem_cons,List.not_mem_nil,or_false] at hy
  rcases hy with rfl | rfl | rfl | rfl
  ·exact hone
  ·rfl
  ·rfl
  ·rfl
 intro g cap w' ho' hg hgg hgl
 exact h _ _ _ w' (OwV.snocEnP hown hu hSs hU C h1 V Qs hS h3 h4 h5 h6 ho' hg hgg hgl) (Turned.ofGrown hg (fun k hk => hk)) (fun c hc => by obtain rfl : g = c:=(by simpa [Value.ownBlock] using hc); exact hgg)

theorem step_stG {ty t' : TypeId} {dst : Option Tmp} {x y : Operand} {pos : String} {af : Array Edge} {ops : Array Oper} {a : Act} {K : Act → World → Prop} {Q : Exit → Act → World → Prop} {E : Prop} {w : World} {g off : Nat} {T : TypeId} {old vs new : Array Value} {u : Value}
  (hv : VarA w g T old) (hx : a.eval x = .pointer (some ⟨g,off,none⟩)) (hy : a.eval y = u) (hu : u.cells = vs) (hi : (Tryz.prog.info? ty).map (·.size) = some vs.size) (h1 : vs.toList.all (·.oneCell') = true) (hl : off + vs.size ≤ old.size)
  (hnew : (old.toList.take off ++ vs.toList ++ old.toList.drop (off + vs.size)).toArray = new)
  (hK : ∀ w',VarA w' g T new → Turned (fun b => b = g) w w' → K (a.put dst undef) w') :
  if Region.wanted ⟨dst,.store ty x y,t',pos,af,none⟩ (yielded ops a.tmps) = true then Oper.wp Tryz.prog ⟨dst,.store ty x y,t',pos,af,none⟩ a w K Q else E:=by
 rw [if_pos (by simp [Region.wanted])]
 unfold Oper.wp execOp
 simp only [hx,hy,Instr.storeAt,Instr.sureAddr,Sem.run_bind,Sem.run_pure,Result.andThen_ok,storeG_run hu hv hl hi h1]
 rw [hnew]
 exact hK _ (VarA.row hv) (turned_row w g new)
theorem NX.put2 {w w' : World} {b s s' : Nat} {f : Hd → Option Nd} {X : Hd → Value} {Q : Hd → Nat → Prop} {P P' : Nat → Prop} (N : NX w b s f X Q P) {g : Hd} {n n0 : Nd} {x : Value} {R : Nat → Prop} (hn : n.h = g)
  (M : MapH (ndX (setX X g x)) w' b s' (setN f g n)) (hk : ∀ c,P c → c ≠ b → ¬ Q g c → w'.heap[c]? = w.heap[c]?) (hsz : w.heap.size ≤ w'.heap.size) (hP : ∀ c,P c → P' c) (hP' : ∀ c,P' c → c < w'.heap.size)
  (o : OwV w' R x (ensDt n.es)) (hR : ∀ c,R c → P' c ∧ c ≠ b) (ha : ∀ g' n' c,g' ≠ g → f g' = some n' → R c → Q g' c → False) (h0 : f g = some n0) : NX w' b s' (setN f g n) (setX X g x) (fun h c => if h = g then R c else Q h c) P':=by
 refine ⟨M,setN_key N.key hn,?_,?_,?_,hP b N.bP,hP'⟩
 ·intro h a hh
  by_cases e : h = g
  ·subst e
   obtain rfl : n = a:=by simpa [setN] using hh
   simpa [setX] using o
  ·have hf : f h = some a:=by simpa [setN,e] using hh
   have:=N.own h a hf
   simp only [setX,e,if_false]
   exact OwV.keep ⟨hsz,fun c hc _ => hk c (N.inP h a c hf hc).1 (N.inP h a c hf hc).2 (fun hq => e (N.apart h g a n0 c hf h0 hc hq))⟩ this
 ·intro h a c hh hc
  by_cases e : h = g
  ·simp only [e,if_true] at hc; exact hR c hc
  ·have hf : f h = some a:=by simpa [setN,e] using hh
   simp only [e,if_false] at hc
   exact ⟨hP c (N.inP h a c hf hc).1,(N.inP h a c hf hc).2⟩
 ·intro h h' a a' c hh hh' hc hc'
  by_cases e : h = g <;> by_cases e' : h' = g
  ·rw [e,e']
  ·have hf : f h' = some a':=by simpa [setN,e'] using hh'
   simp only [e,if_true] at hc
   simp only [e',if_false] at hc'
   exact (ha h' a' c e' hf hc hc').elim
  ·have hf : f h = some a:=by simpa [setN,e] using hh
   simp only [e,if_false] at hc
   simp only [e',if_true] at hc'
   exact (ha h a c e hf hc' hc).elim
  ·have hf : f h = some a:=by simpa [setN,e] using hh
   have hf' : f h' = some a':=by simpa [setN,e'] using hh'
   simp only [e,if_false] at hc
   simp only [e',if_false] at hc'
   exact N.apart h h' a a' c hf hf' hc hc'
set_option maxHeartbeats 4000000 in
theorem enter_any (b s : Nat) (f : Hd → Option Nd) (g h : Hd) (n : Nd) (y : Value) (nm : List Int) (S2 P : Nat → Prop) (w : World) (N : NM w b s f P) (hin : HIn g) (hf : f g = some n) (r2 : RdV w S2 y (.bytes nm)) (hl : n.es.length ≤ 4000) (hnm : nm.length ≤ 2097152) (hs : s ≤ 2097152)
  (L : List En) (hp : (n.es ++ [En.mk nm h]).Perm L) (hso : L.Pairwise (fun a b => cmpB a.nm b.nm < 0)) :
  Calls Tryz.prog 121 #[.map (some b),g.v,y,h.v] w fun e w' => e = .returned (.tuple #[]) ∧ NM w' b s (setN f g { n with es:=L }) (GP P w w') ∧ Turned P w w':=by
 obtain ⟨X,Q,N⟩:=N
 obtain ⟨ya,yc,rfl⟩:=r2.sliceB
 have hnh:=N.key g n hf
 have ho:=N.own g n hf
 have rx:=OwV.rd ho
 obtain ⟨xa,xc,hx,_⟩:=RdV.sliced rx
 rw [hx] at ho
 have hat : atX f X g = ndV n (.slice xa n.es.length xc):=by unfold atX; rw [hf]; show ndV n (X n.h) = _; rw [hnh,hx]
 have HA : Hid _:=hat
 have hbs:=N.m.lt
 have HM : Hid (∀ W,Below w.heap.size w W → MapH (ndX X) W b s f):=fun W hW => N.m.blk (hW.block b hbs)
 have HN : Hid (NX w b s f X Q P):=N
 have HI : Hid (HIn g):=hin
 have HNH : Hid (n.h = g):=hnh
 have HF : Hid (f g = some n):=hf
 have HRB : Hid (∀ W,Below w.heap.size w W → Reads W ya nm ∧ True):=fun W hW => by
  obtain ⟨a',c',e',_,h9⟩:=(r2.step hW).b.reads
  cases e'
  exact ⟨h9,trivial⟩
 have HZ : Hid (isBytes nm):=r2.b.1
 have HQS : Hid (∀ c,Q g c → P c ∧ c ≠ b):=fun c hc => N.inP g n c hf hc
 have HPS : Hid (∀ c,P c → c < w.heap.size):=N.small
 have hsm : s < maxLen:=by unfold maxLen; omega
 have HPL : Hid ((n.es ++ [En.mk nm h]).Perm L):=hp
 have HSL : Hid (L.Pairwise (fun a b => cmpB a.nm b.nm < 0)):=hso
 have HOE : Hid (OwV w (Q g) (.slice xa n.es.length xc) (ensDt n.es)):=ho
 have HXO : Hid (∀ c,(Value.slice xa n.es.length xc).ownBlock = some c → Q g c):=fun c hc => by
  obtain ⟨_,_,_,_,h2,_⟩:=OwV.inv ho
  exact h2 c hc
 obtain ⟨p,q,d⟩:=g
 obtain ⟨p2,q2,d2⟩:=h
 obtain ⟨⟨s0,s1,s2⟩,⟨s3,s4,s5⟩,lk,vl,es⟩:=n
 dsimp only at hl HQS HA HPL HOE HXO
 show Calls _ _ _ _ fun e w' => e = .returned (.tuple #[]) ∧ NM w' b s (setN f (p,q,d) (Nd.mk (s0,s1,s2) (s3,s4,s5) lk vl L)) (GP P w w') ∧ Turned P w w'
 obtain ⟨m,hm⟩ : ∃ m,es.length = m:=⟨_,rfl⟩
 have HL : Hid (es.length = m):=hm
 rw [hm] at HA HOE HXO
 have hlm : m ≤ 4000:=by omega
 clear N hin hf hnh ho rx hx hat r2 hm hp hso
 go_enter Tryz.func121,Tryz.ntmps121
 go_wp2_with (at_lookup; refine wpList_lookX _ rfl (.tmp 9) (.tmp 10) rfl b s f X rfl (HM.out _ (by repeat (first | exact Below.refl _ _ | refine Below.al2 ?_ _))) (p,q,d) HI.out rfl ?_; rw [HA.out])
 refine gen_world (P:=fun W => Code.wp _ _ _ _ W) (fun W => VarA W w.heap.size 48 #[.i p,.i q,.bool d] ∧ VarA W (w.heap.size + 1) 48 #[.i p2,.i q2,.bool d2] ∧ VarA W (w.heap.size + 2) 77 #[.i s0,.i s1,.bool s2,.i s3,.i s4,.bool s5,.i lk,.i vl,.slice xa m xc] ∧ Below w.heap.size w W ∧ W.heap.size = w.heap.size + 3) ⟨((VarA.new w _ _).alloc _).alloc _,(by simpa using VarA.new (w.alloc _) 48 _ : VarA ((w.alloc _).alloc (.cells #[.i p2,.i q2,.bool d2] 48)) (w.heap.size + 1) _ _).alloc _,(by simpa using VarA.new ((w.alloc _).alloc _) 77 _),(by repeat (first | exact Below.refl _ _ | refine Below.al2 ?_ _)),by simp⟩ ?_
 rintro wr ⟨vD,vF,vN,hbel,hsr⟩
 have HVD : Hid (VarA wr w.heap.size 48 _):=vD
 have HVF : Hid (VarA wr (w.heap.size + 1) 48 _):=vF
 have HVN : Hid (VarA wr (w.heap.size + 2) 77 _):=vN
 have HSR : Hid (wr.heap.size = w.heap.size + 3):=hsr
 have HS : Hid (∀ W : World,Below wr.heap.size wr W → W.cell? ⟨w.heap.size + 2,8,none⟩ = some (.slice xa m xc) ∧ W.cell? ⟨w.heap.size + 1,0,none⟩ = some (.i p2) ∧ W.cell? ⟨w.heap.size + 1,1,none⟩ = some (.i q2) ∧ W.cell? ⟨w.heap.size + 1,2,none⟩ = some (.bool d2)):=fun W hW => ⟨(HVN.out.step hW).c 8 rfl,(HVF.out.step hW).c 0 rfl,(HVF.out.step hW).c 1 rfl,(HVF.out.step hW).c 2 rfl⟩
 clear vD vF vN hsr
 refine wp_region_noPanic ?_
 refine wp_region_Z (fun W => W.cell? ⟨w.heap.size + 2,8,none⟩ = some (.slice xa m xc) ∧ W.cell? ⟨w.heap.size + 1,0,none⟩ = some (.i p2) ∧ W.cell? ⟨w.heap.size + 1,1,none⟩ = some (.i q2) ∧ W.cell? ⟨w.heap.size + 1,2,none⟩ = some (.bool d2)) 9 (by kernel_rfl) (HS.out _ (Below.drew (Below.refl wr.heap.size wr))) (fun hHeld => ?_)
 apply tkz 0 _ rfl (by kernel_rfl) rfl (by assumption)
 ·(intro _ h; (try dsimp only at h); go_simp; try with_reducible rfl)
 try simp only [qz]
 apply tkz 1 _ rfl (by kernel_rfl) rfl (by assumption)
 ·(intro _ h; (try dsimp only at h); go_simp; try with_reducible rfl)
 try simp only [qz]
 apply tkz 2 _ rfl (by kernel_rfl) rfl (by assumption)
 ·(intro _ h; (try dsimp only at h); go_simp; try with_reducible rfl)
 try simp only [qz]
 apply tkz 4 _ rfl (by kernel_rfl) rfl (by assumption)
 ·(intro _ h; (try dsimp only at h); go_simp; try with_reducible rfl)
 try simp only [qz]
 refine wpAnyZ_one (i:=3) (by kernel_rfl) rfl (fun K hK => ?_)
 go_simp
 refine Calls.mono (joined_any none ya [] nm 0 yc wr.drew (reads_none _ _) (HRB.out _ (hbel.trans ((Below.drew (Below.refl wr.heap.size wr)).mono hbel.size))).1 (by simp) hnm) ?_
 rintro e6 w6 ⟨rfl,ho6,bb6,z6⟩
 rw [List.nil_append] at ho6
 dsimp only
 simp only [List.nil_append]
 have b6 : Below wr.heap.size wr w6:=(Below.drew (Below.refl wr.heap.size wr)).trans bb6
 have z6b : wr.heap.size < w6.heap.size:=z6
 refine hK.out _ _ (HS.out _ b6) (fun hHeld => ?_)
 clear hK K
 try simp only [qz]
 apply tkz 5 _ rfl (by kernel_rfl) rfl (by assumption)
 ·(intro _ h; (try dsimp only at h); go_simp; try with_reducible rfl)
 try simp only [qz]
 refine wpAnyZ_one (i:=6) (by kernel_rfl) rfl (fun K hK => ?_)
 go_simp
 have b7 : Below wr.heap.size wr (w6.alloc (.cells #[.slice (some ⟨wr.heap.size,0,none⟩) nm.length nm.length,.i p2,.i q2,.bool d2] 86)):=b6.alloc b6.size _
 refine hK.out _ _ (HS.out _ b7) (fun hHeld => ?_)
 clear hK K
 try simp only [qz]
 refine wpAnyZ_one (i:=7) (by kernel_rfl) rfl (fun K hK => ?_)
 refine step_appEnP (w6.alloc (.cells #[.slice (some ⟨wr.heap.size,0,none⟩) nm.length nm.length,.i p2,.i q2,.bool d2] 86)) rfl (.tmp 13) (.tmp 18) (by rfl) (.slice xa m xc) (by rfl) es ⟨nm,(p2,q2,d2)⟩ (.slice (some ⟨wr.heap.size,0,none⟩) nm.length nm.length) (Q (p,q,d)) (fun c => wr.heap.size ≤ c ∧ c < w6.heap.size) w6.heap.size (by rfl) rfl (0,0) (heap_alloc_new _ _) ((HOE.out.step hbel).step b7) (OwV.step (OwV.ofOwns HZ.out ho6) (Below.newH _)) (fun c hc => by have:=HPS.out c (HQS.out c hc).1; have:=hbel.size; simp; omega) (fun c hc => ⟨by simp; omega,fun h => by have:=HPS.out c (HQS.out c h).1; have:=hbel.size; omega⟩) hl ?_
 intro g8 n8 c8 w8 ho8 t8 ob8
 have s8:=t8.size
 rw [World.size_alloc] at s8
 have t8q : Turned (Q (p,q,d)) wr w8:=(Turned.ofBelow b7).trans (t8.wide (fun c hc => HXO.out c hc))
 have vN8:=HVN.out.turn t8q (fun h => by have:=HPS.out _ (HQS.out _ h).1; omega)
 have vF8:=HVF.out.turn t8q (fun h => by have:=HPS.out _ (HQS.out _ h).1; omega)
 have vD8:=HVD.out.turn t8q (fun h => by have:=HPS.out _ (HQS.out _ h).1; omega)
 refine hK.out _ _ ⟨vN8.c 8 rfl,vF8.c 0 rfl,vF8.c 1 rfl,vF8.c 2 rfl⟩ (fun hHeld => ?_)
 clear hK K
 try simp only [qz]
 apply tkz 8 _ rfl (by kernel_rfl) rfl (by assumption)
 ·(intro _ h; (try dsimp only at h); go_simp; try with_reducible rfl)
 try simp only [qz]
 refine wpAnyZ_last (by kernel_rfl) rfl (fun K hK => ?_)
 refine step_stG vN8 (by rfl) (by rfl) rfl (by kernel_rfl) rfl (of_decide_eq_true rfl) rfl ?_
 intro w9 v9 t9
 refine hK.out _ _ ?_
 clear hK K
 try simp only [qz]
 refine wpAnyZ_done (by kernel_rfl) (NoPanic.normal ?_) _
 clear hHeld
 have s9:=t9.size
 have hsr:=HSR.out
 have s99 : wr.heap.size + 2 ≤ w9.heap.size:=by omega
 have HO9 : Hid (OwV w9 (fun c => Q (p,q,d) c ∨ w.heap.size + 3 ≤ c ∧ c < w9.heap.size) (.slice g8 n8 c8) (ensDt (es ++ [⟨nm,(p2,q2,d2)⟩]))):=OwV.mono (fun c hc => by
  simp only [World.size_alloc] at hc
  rcases hc with hc | hc | hc
  ·exact .inl hc
  ·exact .inr ⟨by omega,by omega⟩
  ·exact .inr ⟨by omega,by omega⟩) (OwV.keep (t9.keeps (fun c hc e => by
  subst e
  simp only [World.size_alloc] at hc
  rcases hc with hc | hc | hc
  ·have:=HPS.out _ (HQS.out _ hc).1; omega
  ·omega
  ·omega)) ho8)
 have t9q : Turned (fun c => Q (p,q,d) c ∨ c = w.heap.size + 2) wr w9:=(t8q.wide (fun c hc => .inl hc)).trans (t9.wide (fun c hc => .inr hc))
 have HT9 : Hid (Turned (fun c => Q (p,q,d) c ∨ c = w.heap.size + 2) wr w9):=t9q
 have HSO : Hid (∀ W,OwV W (fun c => Q (p,q,d) c ∨ w.heap.size + 3 ≤ c ∧ c < w9.heap.size) (.slice g8 n8 c8) (ensDt (es ++ [⟨nm,(p2,q2,d2)⟩])) → _):=fun W hW => sortEn_any (.slice g8 n8 c8) _ L _ W hW HPL.out HSL.out (by simp; omega)
 have HV9 : Hid (VarA w9 (w.heap.size + 2) 77 #[.i s0,.i s1,.bool s2,.i s3,.i s4,.bool s5,.i lk,.i vl,.slice g8 n8 c8]):=v9
 have c88:=v9.c 8 rfl
 dsimp at c88
 have vD9:=vD8.turn t9 (by show ¬ w.heap.size = w.heap.size + 2; omega)
 have HVD9 : Hid (VarA w9 w.heap.size 48 #[.i p,.i q,.bool d]):=vD9
 have HOB : Hid (∀ c,(Value.slice g8 n8 c8).ownBlock = some c → Q (p,q,d) c ∨ w.heap.size + 3 ≤ c ∧ c < w9.heap.size):=fun c hc => by
  obtain ⟨_,_,_,_,h2,_⟩:=OwV.inv HO9.out
  exact h2 c hc
 clear ho8 t8 ob8 t8q vN8 vF8 vD8 t9 t9q b6 b7 bb6 ho6 v9 vD9 z6 z6b s8
 go_wp2_with (first | (go_at_call 133; refine Calls.mono (HSO.out _ HO9.out) ?_; rintro e w10 ⟨rfl,ho10,t10⟩; have v10:=HV9.out.turn t10 (fun h => by rcases HOB.out _ h with h2 | h2; (have:=HPS.out _ (HQS.out _ h2).1; omega); omega); have v10d:=HVD9.out.turn t10 (fun h => by rcases HOB.out _ h with h2 | h2; (have:=HPS.out _ (HQS.out _ h2).1; omega); omega); obtain ⟨o0,o1,o2,o3,o4,o5,o6,o7,o8⟩:=v10.l9; obtain ⟨d0,d1,d3⟩:=v10d.l3; have M10 : MapH (ndX X) w10 b s f:=HN.out.m.blk (((t10.block b (by have:=HT9.out.size; omega) (fun h => by rcases HOB.out _ h with h2 | h2; exact (HQS.out _ h2).2 rfl; omega)).trans (HT9.out.block b (by omega) (fun h => by rcases h with h2 | h2; exact (HQS.out _ h2).2 rfl; omega))).trans (hbel.block b (by omega))); have HM10 : Hid (MapH (ndX X) w10 b s f):=M10; have HO10 : Hid (OwV w10 (fun c => Q (p,q,d) c ∨ w.heap.size + 3 ≤ c ∧ c < w9.heap.size) (.slice g8 n8 c8) (ensDt L)):=ho10; have HT10 : Hid (Turned _ w9 w10):=t10; clear v10 v10d M10 ho10 t10) | (at_mapUpdate; refine wpList_putX _ rfl (.tmp 24) (.tmp 25) (.tmp 26) rfl b s f X rfl HM10.out HN.out.key hsm (p,q,d) HI.out rfl (Nd.mk (s0,s1,s2) (s3,s4,s5) lk vl L) (.slice g8 n8 c8) HNH.out rfl ?_; intro w11 M11 g11))
 go_end0
 have t11:=Turned.ofGrown (S:=fun c => c = b) g11 (fun k hk => by simpa using hk.symm)
 have s10:=HT10.out.size
 have s11:=t11.size
 have sw:=hbel.size
 have bk : ∀ c,c < w.heap.size → c ≠ b → ¬ Q (p,q,d) c → w11.heap[c]? = w.heap[c]?:=fun c hc hb hq => (((t11.block c (by omega) hb).trans (HT10.out.block c (by omega) (fun h => by rcases HOB.out _ h with h2 | h2; exact hq h2; omega))).trans (HT9.out.block c (by omega) (fun h => by rcases h with h2 | h2; exact hq h2; omega))).trans (hbel.block c hc)
 refine ⟨rfl,⟨_,_,NX.put2 HN.out (R:=(fun c => Q (p,q,d) c ∨ w.heap.size + 3 ≤ c ∧ c < w9.heap.size)) HNH.out (by simpa [HF.out] using M11) (fun c hP hc hq => bk c (HPS.out c hP) hc hq) (by omega) (fun c hc => .inl hc) (fun c hc => by rcases hc with hc | hc; (have:=HPS.out c hc; omega); exact hc.2) ?_ ?_ ?_ HF.out⟩,?_⟩
 ·refine OwV.keep (t11.keeps (fun c hc e => ?_)) HO10.out
  subst e
  rcases hc with hc | hc
  ·exact (HQS.out _ hc).2 rfl
  ·omega
 ·intro c hc
  rcases hc with hc | hc
  ·exact ⟨.inl (HQS.out c hc).1,(HQS.out c hc).2⟩
  ·exact ⟨.inr ⟨by omega,by omega⟩,by omega⟩
 ·intro g' n' c hg hf' hc hq'
  rcases hc with hc | hc
  ·exact hg (HN.out.apart g' (p,q,d) n' _ c hf' HF.out hq' hc)
  ·have:=HPS.out c (HN.out.inP g' n' c hf' hq').1; omega
 ·exact ⟨t11.os.trans (HT10.out.os.trans (HT9.out.os.trans hbel.os)),t11.tape.trans (HT10.out.tape.trans (HT9.out.tape.trans hbel.tape)),t11.output.trans (HT10.out.output.trans (HT9.out.output.trans hbel.output)),by omega,fun c hc hP => bk c hc (fun e => hP (by rw [e]; exact HN.out.bP)) (fun hq => hP (HQS.out c hq).1)⟩
end
section
open Go.Maps
def rcI (c : Int) : RpD:=⟨c,hd0,0,[]⟩
def MPost (w : World) (b : Nat) (P : Nat → Prop) (res : (Hd → Option Nd) × Nat × RpD) (e : Ending) (w' : World) : Prop:=
 ∃ z,e = .returned (rpV res.2.2 z) ∧ OwV w' (fun c => w.heap.size ≤ c ∧ c < w'.heap.size) z (ensDt res.2.2.list) ∧ z = .n0 ∧ NM w' b res.2.1 res.1 (fun c => P c ∨ w.heap.size ≤ c ∧ c < w'.heap.size ∧ res.2.2.list = []) ∧ Turned P w w'
theorem NM.ret {w w0 w1 w2 : World} {b s r : Nat} {f : Hd → Option Nd} {P : Nat → Prop} {rp : RpD} (N : NM w1 b s f (GP P w0 w1)) (hw : w.heap.size ≤ w0.heap.size) (t : Turned (fun c => c = r) w1 w2) (hr : ¬ P r) (hr2 : r < w0.heap.size) (h01 : w0.heap.size ≤ w1.heap.size) (hP : ∀ c,P c → c < w.heap.size) (hl : rp.list = []) : NM w2 b s f (fun c => P c ∨ w.heap.size ≤ c ∧ c < w2.heap.size ∧ rp.list = []):=by
 have s2:=t.size
 refine (N.keep (t.keeps (fun c hc e => ?_))).mono (fun c hc => ?_) (fun c hc => ?_)
 ·subst e; rcases hc with hc | hc
  ·exact hr hc
  ·omega
 ·rcases hc with hc | hc
  ·exact .inl hc
  ·exact .inr ⟨by omega,by omega,hl⟩
 ·rcases hc with hc | hc
  ·have:=hP c hc; omega
  ·exact hc.2.1
theorem NM.ret0 {w w1 w2 : World} {b s r : Nat} {f : Hd → Option Nd} {P : Nat → Prop} {rp : RpD} (N : NM w b s f P) (hb : Below w.heap.size w w1) (t : Turned (fun c => c = r) w1 w2) (hr2 : w.heap.size ≤ r) (hl : rp.list = []) : NM w2 b s f (fun c => P c ∨ w.heap.size ≤ c ∧ c < w2.heap.size ∧ rp.list = []):=by
 have hP : ∀ c,P c → c < w.heap.size:=by obtain ⟨X,Q,N⟩:=N; exact N.small
 have s1:=hb.size
 have s2:=t.size
 refine ((N.step hb).keep (t.keeps (fun c hc e => ?_))).mono (fun c hc => .inl hc) (fun c hc => ?_)
 ·subst e; have:=hP _ hc; omega
 ·rcases hc with hc | hc
  ·have:=hP c hc; omega
  ·exact hc.2.1
theorem NM.sm {w : World} {b s : Nat} {f : Hd → Option Nd} {P : Nat → Prop} (N : NM w b s f P) : ∀ c,P c → c < w.heap.size:=by obtain ⟨X,Q,N⟩:=N; exact N.small
theorem own_nil (w : World) (S : Nat → Prop) (r : RpD) (h : r.list = []) : OwV w S (.n0) (ensDt r.list):=by rw [h]; exact OwV.nilR _ _ _ _ _
def makeF (f : Hd → Option Nd) (s : Nat) (o : OpD) (fr : Hd) : (Hd → Option Nd) × Nat × RpD:=
 if roomI f o.dir o.nm ≠ 0 then (f,s,rcI (roomI f o.dir o.nm)) else
 (setN (setN f fr ⟨fr,if fr.dir = true then o.dir else hd0,1,0,[]⟩) o.dir { (f o.dir).getD nd0 with es:=addE ((f o.dir).getD nd0).es o.nm fr },s + 1,⟨0,fr,0,[]⟩)
set_option maxHeartbeats 4000000 in
theorem makeNode_any (b s : Nat) (f : Hd → Option Nd) (o : OpD) (fr : Hd) (n : Nd) (y : Value) (za : Option Addr) (zn zc : Nat) (S2 P : Nat → Prop) (w : World) (N : NM w b s f P) (hin : HIn o.dir) (hfr : HIn fr) (hf : f o.dir = some n) (hnew : f fr = none) (r2 : RdV w S2 y (.bytes o.nm)) (hS2 : ∀ c,S2 c → ¬ P c) (hl : n.es.length ≤ 4000) (hnm : o.nm.length ≤ 2097152) (hs : s ≤ 2097000)
  (hL : roomI f o.dir o.nm = 0 → (n.es ++ [En.mk o.nm fr]).Perm (addE n.es o.nm fr) ∧ (addE n.es o.nm fr).Pairwise (fun a b => cmpB a.nm b.nm < 0)) :
  Calls Tryz.prog 104 #[.map (some b),opV o y (.slice za zn zc),fr.v] w (MPost w b P (makeF f s o fr)):=by
 obtain ⟨ya,yc,rfl⟩:=r2.sliceB
 have HNM : Hid (NM w b s f P):=N
 have HPS : Hid (∀ c,P c → c < w.heap.size):=N.sm
 have hbw:=N.lt
 obtain ⟨X,Q,N⟩:=N
 have HN : Hid (NX w b s f X Q P):=N
 have HRM : Hid (∀ W,Below w.heap.size w W → _):=fun W hW => roomCode_any b s f X o.dir (.slice ya o.nm.length yc) o.nm P S2 W (N.m.blk (hW.block b N.m.lt)) hin (fun n hn => (N.rd _ n hn).step hW) (r2.step hW) (by rw [hf]; exact Nat.le_trans hl (by omega))
 have HEN : Hid (∀ (hz : roomI f o.dir o.nm = 0) (f1 : Hd → Option Nd) (h1 : f1 o.dir = some n) W,NM W b (s + 1) f1 P → RdV W S2 (.slice ya o.nm.length yc) (.bytes o.nm) → _):=fun hz f1 h1 W hW rW => enter_any b (s + 1) f1 o.dir fr n (.slice ya o.nm.length yc) o.nm S2 P W hW hin h1 rW hl hnm (by omega) (addE n.es o.nm fr) (hL hz).1 (hL hz).2
 have HRD : Hid (∀ W T,Turned T w W → (∀ c,T c → ¬ S2 c) → RdV W S2 (.slice ya o.nm.length yc) (.bytes o.nm)):=fun W T t ht => RdV.keep (t.keeps (fun c hc e => ht c e hc)) r2
 have HS2 : Hid (∀ c,S2 c → ¬ P c):=hS2
 have HIF : Hid (HIn fr):=hfr
 have hne : fr ≠ o.dir:=fun e => by rw [e,hf] at hnew; cases hnew
 have HNE : Hid (fr ≠ o.dir):=hne
 have HF : Hid (f o.dir = some n):=hf
 have HNW : Hid (f fr = none):=hnew
 obtain ⟨res,hres⟩ : ∃ r,makeF f s o fr = r:=⟨_,rfl⟩
 have HRES : Hid (makeF f s o fr = res):=hres
 rw [hres]
 have hsm : s < maxLen:=by unfold maxLen; omega
 have HBS : Hid (∀ c,S2 c → c < w.heap.size ∨ True):=fun c _ => .inr trivial
 obtain ⟨kd,⟨p,q,d⟩,nm,⟨p2,q2,d2⟩,asn,ov⟩:=o
 obtain ⟨pf,qf,df⟩:=fr
 dsimp only at HRM HEN HRD HNE HF
 obtain ⟨rm,hrm⟩ : ∃ r,roomI f (p,q,d) nm = r:=⟨_,rfl⟩
 rw [hrm] at HRM HEN
 have HRMV : Hid (roomI f (p,q,d) nm = rm):=hrm
 clear N r2 hS2 hin hfr hf hnew hres hrm hne hL hnm
 generalize hyn : nm.length = yn at *
 go_enter Tryz.func104,Tryz.ntmps104
 go_wp2_with fail
 go_at_call 120
 refine Calls.mono (HRM.out _ (by repeat (first | exact Below.refl _ _ | refine Below.al2 ?_ _))) ?_
 rintro e w1 ⟨rfl,hb1⟩
 have vO : VarA w1 w.heap.size 53 #[.i kd,.i p,.i q,.bool d,.slice ya yn yc,.i p2,.i q2,.bool d2,.slice za zn zc,.i ov]:=(((VarA.new w _ _).alloc _).alloc _).step hb1
 have vF : VarA w1 (w.heap.size + 1) 48 #[.i pf,.i qf,.bool df]:=((by simpa using VarA.new (w.alloc _) 48 _ : VarA ((w.alloc _).alloc (.cells #[.i pf,.i qf,.bool df] 48)) (w.heap.size + 1) _ _).alloc _).step hb1
 have vR : VarA w1 (w.heap.size + 2) 51 #[.i 0,.i 0,.i 0,.bool false,.i 0,.n0]:=(by simpa using VarA.new ((w.alloc _).alloc _) 51 _ : VarA (((w.alloc _).alloc _).alloc (.cells #[.i 0,.i 0,.i 0,.bool false,.i 0,.n0] 51)) (w.heap.size + 2) _ _).step hb1
 have HB1 : Hid (Below w.heap.size w w1):=(show Below w.heap.size w (((w.alloc _).alloc _).alloc _) by repeat (first | exact Below.refl _ _ | refine Below.al2 ?_ _)).trans (hb1.mono (by simp <;> omega))
 have s1 : w.heap.size + 3 ≤ w1.heap.size:=by have:=vR.lt; omega
 have HVR : Hid (VarA w1 (w.heap.size + 2) 51 _):=vR
 have HVO : Hid (VarA w1 w.heap.size 53 _):=vO
 have HVF : Hid (VarA w1 (w.heap.size + 1) 48 _):=vF
 clear hb1
 by_cases hr : rm = 0
 case neg =>
  have hr1 : (rm == 0) = false:=by simpa using hr
  have hr2 : (rm != 0) = true:=by simpa using hr
  have hres2 : res = (f,s,rcI rm):=by rw [← HRES.out]; unfold makeF; dsimp only; rw [HRMV.out,if_pos hr]
  subst hres2
  clear vO vF
  go_wp2_with ((with_reducible refine gS 51 ?_); refine sF HVR.out rfl rfl (by kernel_rfl) rfl rfl ?_; intro w8 v8 t8)
  refine bpR Tryz.results104 v8 Tryz.underlying51 rfl rfl (by kernel_rfl) rfl ?_
  exact ⟨.n0,rfl,own_nil _ _ _ rfl,rfl,NM.ret0 HNM.out HB1.out t8 (by omega) rfl,Turned.past (Turned.ofBelow HB1.out) t8 (by omega)⟩
 subst hr
 have hres2 : res = (setN (setN f (pf,qf,df) ⟨(pf,qf,df),if df = true then (p,q,d) else hd0,1,0,[]⟩) (p,q,d) { n with es:=addE n.es nm (pf,qf,df) },s + 1,⟨0,(pf,qf,df),0,[]⟩):=by
  rw [← HRES.out]
  unfold makeF
  dsimp only
  rw [HRMV.out,if_neg (by simp),HF.out]
  rfl
 subst hres2
 obtain ⟨f0,f1,f2⟩:=vF.l3
 have l0:=fun o => (vF.alloc o).c 0 rfl
 have l1:=fun o => (vF.alloc o).c 1 rfl
 have l2:=fun o => (vF.alloc o).c 2 rfl
 have k1:=fun o => (vO.alloc o).c 1 rfl
 have k2:=fun o => (vO.alloc o).c 2 rfl
 have k3:=fun o => (vO.alloc o).c 3 rfl
 dsimp at k1 k2 k3 l0 l1 l2
 clear vO vF vR
 have HEN2 : Hid (∀ (f1 : Hd → Option Nd) (h1 : f1 (p,q,d) = some n) W,NM W b (s + 1) f1 P → RdV W S2 (.slice ya yn yc) (.bytes nm) → _):=fun f1 h1 W hW rW => HEN.out rfl f1 h1 W hW rW
 clear HEN HRM HRMV HRES
 cases df
 all_goals
  go_wp2_with (first | (at_mapUpdate; refine wpList_putX _ rfl (.tmp 26) (.tmp 27) (.tmp 28) rfl b s f X rfl (HN.out.m.blk (HB1.out.block b hbw) |>.alloc _) HN.out.key hsm (pf,qf,_) HIF.out rfl (Nd.mk (pf,qf,_) (_,_,_) 1 0 []) (.n0) rfl rfl ?_; intro w9 M9 g9; have t9:=(Turned.ofBelow (S:=fun c => c = b) (Below.newH (w:=w1) _)).trans (Turned.ofGrown (S:=fun c => c = b) g9 (fun k hk => by simpa using hk.symm)); have s9:=t9.size; have kO:=HVO.out.turn t9 (by show ¬ w.heap.size = b; omega); have kF:=HVF.out.turn t9 (by show ¬ w.heap.size + 1 = b; omega); have kR:=HVR.out.turn t9 (by show ¬ w.heap.size + 2 = b; omega); obtain ⟨g0,g1,g2⟩:=kF.l3; have j1:=kO.c 1 rfl; have j2:=kO.c 2 rfl; have j3:=kO.c 3 rfl; have j4:=kO.c 4 rfl; dsimp at j1 j2 j3 j4; have HR9 : Hid (VarA w9 (w.heap.size + 2) 51 _):=kR; have HF9 : Hid (VarA w9 (w.heap.size + 1) 48 _):=kF; simp only [HNW.out,Option.isSome_none,Bool.false_eq_true,if_false] at M9; have HT9 : Hid (Turned (fun c => c = b) w1 w9):=t9; clear kO kF kR g9 t9))
  have N9 : NM w9 b (s + 1) _ P:=⟨_,_,NX.put HN.out (g:=(pf,qf,_)) (R:=fun _ => False) (by rfl) M9 (fun c hP hc => (HT9.out.block c (by have:=HPS.out c hP; omega) hc).trans (HB1.out.block c (HPS.out c hP))) (by omega) (fun c hc => hc) (fun c hc => by have:=HPS.out c hc; omega) (by exact OwV.nilR _ _ _ _ _) (fun c hc => hc.elim) (fun _ _ _ _ _ hc _ => hc)⟩
  have TT9 : Turned (fun c => c = b) w w9:=(Turned.ofBelow HB1.out).trans HT9.out
  have rd9:=HRD.out w9 _ TT9 (fun c e hc => by subst e; exact HS2.out _ hc HN.out.bP)
  go_at_call 121
  refine Calls.mono (HEN2.out _ (by rw [show setN f _ _ (p,q,d) = f (p,q,d) by unfold setN; rw [if_neg (fun e => HNE.out e.symm)]]; exact HF.out) w9 N9 rd9) ?_
  rintro e w10 ⟨rfl,N10,t10⟩
  have v10:=HR9.out.turn t10 (fun h => by have:=HPS.out _ h; omega)
  have v10f:=HF9.out.turn t10 (fun h => by have:=HPS.out _ h; omega)
  obtain ⟨h0,h1,h2⟩:=v10f.l3
  have HV10 : Hid (VarA w10 (w.heap.size + 2) 51 _):=v10
  have HN10 : Hid (NM w10 b (s + 1) _ (GP P w9 w10)):=N10
  have HT10 : Hid (Turned P w9 w10):=t10
  have HTT9 : Hid (Turned (fun c => c = b) w w9):=TT9
  clear v10 v10f N10 t10 TT9 rd9 N9 M9 g0 g1 g2 j1 j2 j3 j4 f0 f1 f2 l0 l1 l2 k1 k2 k3
  go_wp2_with ((with_reducible refine gS 51 ?_); refine sF HV10.out rfl rfl (by kernel_rfl) rfl rfl ?_; intro w8 v8 t8)
  refine bpR Tryz.results104 v8 Tryz.underlying51 rfl rfl (by kernel_rfl) rfl ?_
  refine ⟨.n0,rfl,own_nil _ _ _ rfl,rfl,NM.ret HN10.out (by omega) t8 (fun h => by have:=HPS.out _ h; omega) (by omega) HT10.out.size HPS.out rfl,?_⟩
  exact Turned.past ((HTT9.out.wide (fun c e => by rw [e]; exact HN.out.bP)).trans HT10.out) t8 (by omega)
end
section
open Go.Maps
def linkF (f : Hd → Option Nd) (s : Nat) (o : OpD) : (Hd → Option Nd) × Nat × RpD:=
 if roomI f o.dir o.nm ≠ 0 then (f,s,rcI (roomI f o.dir o.nm)) else
 if o.to.dir = true then (f,s,rcI 6) else
 if (f o.to).isSome = false then (f,s,rcI 1) else
 (setN (setN f o.to { (f o.to).getD nd0 with links:=((f o.to).getD nd0).links + 1 }) o.dir { (f o.dir).getD nd0 with es:=addE ((f o.dir).getD nd0).es o.nm o.to },s,rcI 0)
set_option maxHeartbeats 4000000 in
theorem link_any (b s : Nat) (f : Hd → Option Nd) (o : OpD) (n : Nd) (y : Value) (za : Option Addr) (zn zc : Nat) (S2 P : Nat → Prop) (w : World) (N : NM w b s f P) (hin : HIn o.dir) (hito : HIn o.to) (hf : f o.dir = some n) (hdd : o.dir.dir = true) (r2 : RdV w S2 y (.bytes o.nm)) (hS2 : ∀ c,S2 c → ¬ P c) (hl : n.es.length ≤ 4000) (hnm : o.nm.length ≤ 2097152) (hs : s ≤ 2097000)
  (hlk : ∀ t,f o.to = some t → -1000000000000 ≤ t.links ∧ t.links ≤ 1000000000000)
  (hL : roomI f o.dir o.nm = 0 → (n.es ++ [En.mk o.nm o.to]).Perm (addE n.es o.nm o.to) ∧ (addE n.es o.nm o.to).Pairwise (fun a b => cmpB a.nm b.nm < 0)) :
  Calls Tryz.prog 106 #[.map (some b),opV o y (.slice za zn zc)] w (MPost w b P (linkF f s o)):=by
 obtain ⟨ya,yc,rfl⟩:=r2.sliceB
 have HNM : Hid (NM w b s f P):=N
 have HPS : Hid (∀ c,P c → c < w.heap.size):=N.sm
 have hbw:=N.lt
 obtain ⟨X,Q,N⟩:=N
 have HN : Hid (NX w b s f X Q P):=N
 have HRM : Hid (∀ W,Below w.heap.size w W → _):=fun W hW => roomCode_any b s f X o.dir (.slice ya o.nm.length yc) o.nm P S2 W (N.m.blk (hW.block b N.m.lt)) hin (fun n hn => (N.rd _ n hn).step hW) (r2.step hW) (by rw [hf]; exact Nat.le_trans hl (by omega))
 have HEN : Hid (∀ (hz : roomI f o.dir o.nm = 0) (f1 : Hd → Option Nd) (h1 : f1 o.dir = some n) W,NM W b s f1 P → RdV W S2 (.slice ya o.nm.length yc) (.bytes o.nm) → _):=fun hz f1 h1 W hW rW => enter_any b s f1 o.dir o.to n (.slice ya o.nm.length yc) o.nm S2 P W hW hin h1 rW hl hnm (by omega) (addE n.es o.nm o.to) (hL hz).1 (hL hz).2
 have HRD : Hid (∀ W T,Turned T w W → (∀ c,T c → ¬ S2 c) → RdV W S2 (.slice ya o.nm.length yc) (.bytes o.nm)):=fun W T t ht => RdV.keep (t.keeps (fun c hc e => ht c e hc)) r2
 have HS2 : Hid (∀ c,S2 c → ¬ P c):=hS2
 have HIF : Hid (HIn o.to):=hito
 have HF : Hid (f o.dir = some n):=hf
 have HLK : Hid _:=hlk
 obtain ⟨res,hres⟩ : ∃ r,linkF f s o = r:=⟨_,rfl⟩
 have HRES : Hid (linkF f s o = res):=hres
 rw [hres]
 have hsm : s < maxLen:=by unfold maxLen; omega
 obtain ⟨kd,⟨p,q,d⟩,nm,⟨p2,q2,d2⟩,asn,ov⟩:=o
 dsimp only at HRM HEN HRD HF HIF HLK hdd
 obtain rfl : d = true:=hdd
 obtain ⟨xa,xc,hat,_⟩:=atX_rd f X (p2,q2,d2) P w (N.rd _)
 obtain ⟨th,hth⟩ : ∃ th,(f (p2,q2,d2)).isSome = th:=⟨_,rfl⟩
 have HTH : Hid ((f (p2,q2,d2)).isSome = th):=hth
 have HA : Hid _:=hat
 have HTO : Hid (th = true → f (p2,q2,d2) = some ((f (p2,q2,d2)).getD nd0)):=fun h => by rw [h] at hth; obtain ⟨t,ht⟩:=Option.isSome_iff_exists.1 hth; rw [ht]; rfl
 obtain ⟨t,ht⟩ : ∃ t,(f (p2,q2,d2)).getD nd0 = t:=⟨_,rfl⟩
 rw [ht] at HA HTO
 have HT : Hid ((f (p2,q2,d2)).getD nd0 = t):=ht
 obtain ⟨rm,hrm⟩ : ∃ r,roomI f (p,q,true) nm = r:=⟨_,rfl⟩
 rw [hrm] at HRM HEN
 have HRMV : Hid (roomI f (p,q,true) nm = rm):=hrm
 clear N r2 hS2 hin hito hf hres hrm hL hnm hth hat ht hlk
 generalize hyn : nm.length = yn at *
 go_enter Tryz.func106,Tryz.ntmps106
 go_wp2_with fail
 go_at_call 120
 refine Calls.mono (HRM.out _ (by repeat (first | exact Below.refl _ _ | refine Below.al2 ?_ _))) ?_
 rintro e w1 ⟨rfl,hb1⟩
 have vO : VarA w1 w.heap.size 53 #[.i kd,.i p,.i q,.bool true,.slice ya yn yc,.i p2,.i q2,.bool d2,.slice za zn zc,.i ov]:=((VarA.new w _ _).alloc _).step hb1
 have vR : VarA w1 (w.heap.size + 1) 51 #[.i 0,.i 0,.i 0,.bool false,.i 0,.n0]:=(by simpa using VarA.new (w.alloc _) 51 _ : VarA ((w.alloc _).alloc (.cells #[.i 0,.i 0,.i 0,.bool false,.i 0,.n0] 51)) (w.heap.size + 1) _ _).step hb1
 have HB1 : Hid (Below w.heap.size w w1):=(show Below w.heap.size w ((w.alloc _).alloc _) by repeat (first | exact Below.refl _ _ | refine Below.al2 ?_ _)).trans (hb1.mono (by simp <;> omega))
 have s1 : w.heap.size + 2 ≤ w1.heap.size:=by have:=vR.lt; omega
 have HVR : Hid (VarA w1 (w.heap.size + 1) 51 _):=vR
 have HVO : Hid (VarA w1 w.heap.size 53 _):=vO
 have m5:=vO.c 5 rfl
 have m6:=vO.c 6 rfl
 have m7:=vO.c 7 rfl
 have k5:=fun o => (vO.alloc o).c 5 rfl
 have k6:=fun o => (vO.alloc o).c 6 rfl
 have k7:=fun o => (vO.alloc o).c 7 rfl
 dsimp at m5 m6 m7 k5 k6 k7
 have HM1 : Hid (MapH (ndX X) w1 b s f):=HN.out.m.blk (HB1.out.block b hbw)
 clear hb1 vO vR
 have hcase : ¬ rm = 0 ∨ rm = 0 ∧ (d2 = true ∨ d2 = false ∧ (th = false ∨ th = true)):=by cases d2 <;> cases th <;> simp <;> omega
 rcases hcase with hr | ⟨rfl,rfl | ⟨rfl,rfl | rfl⟩⟩
 ·have hr1 : (rm == 0) = false:=by simpa using hr
  have hr2 : (rm != 0) = true:=by simpa using hr
  have hres2 : res = (f,s,rcI rm):=by rw [← HRES.out]; unfold linkF; dsimp only; rw [HRMV.out,if_pos hr]
  subst hres2
  go_wp2_with ((with_reducible refine gS 51 ?_); refine sF HVR.out rfl rfl (by kernel_rfl) rfl rfl ?_; intro w8 v8 t8)
  refine bpR Tryz.results106 v8 Tryz.underlying51 rfl rfl (by kernel_rfl) rfl ?_
  exact ⟨.n0,rfl,own_nil _ _ _ rfl,rfl,NM.ret0 HNM.out HB1.out t8 (by omega) rfl,Turned.past (Turned.ofBelow HB1.out) t8 (by omega)⟩
 ·have hres2 : res = (f,s,rcI 6):=by rw [← HRES.out]; unfold linkF; dsimp only; rw [HRMV.out]; simp
  subst hres2
  go_wp2_with ((with_reducible refine gS 51 ?_); refine sF HVR.out rfl rfl (by kernel_rfl) rfl rfl ?_; intro w8 v8 t8)
  refine bpR Tryz.results106 v8 Tryz.underlying51 rfl rfl (by kernel_rfl) rfl ?_
  exact ⟨.n0,rfl,own_nil _ _ _ rfl,rfl,NM.ret0 HNM.out HB1.out t8 (by omega) rfl,Turned.past (Turned.ofBelow HB1.out) t8 (by omega)⟩
 ·have hres2 : res = (f,s,rcI 1):=by rw [← HRES.out]; unfold linkF; dsimp only; rw [HRMV.out,HTH.out]; simp
  subst hres2
  obtain ⟨⟨t0,t1,t2⟩,⟨t3,t4,t5⟩,lk,vl,es⟩:=t
  go_wp2_with (first | (at_lookup; refine wpList_lookOkX _ rfl (.tmp 23) (.tmp 25) rfl b s f X rfl HM1.out (p2,q2,false) HIF.out rfl ?_; rw [HA.out,HTH.out]) | ((with_reducible refine gS 51 ?_); refine sF (HVR.out.alloc _) rfl rfl (by kernel_rfl) rfl rfl ?_; intro w8 v8 t8))
  refine bpR Tryz.results106 v8 Tryz.underlying51 rfl rfl (by kernel_rfl) rfl ?_
  exact ⟨.n0,rfl,own_nil _ _ _ rfl,rfl,NM.ret0 HNM.out (HB1.out.alloc HB1.out.size _) t8 (by omega) rfl,Turned.past (Turned.ofBelow (HB1.out.alloc HB1.out.size _)) t8 (by omega)⟩
 have hres2 : res = (setN (setN f (p2,q2,false) { t with links:=t.links + 1 }) (p,q,true) { n with es:=addE n.es nm (p2,q2,false) },s,rcI 0):=by
  rw [← HRES.out]
  unfold linkF
  dsimp only
  rw [HRMV.out,HTH.out,HF.out,HT.out]
  simp
 subst hres2
 have hft:=HTO.out rfl
 have hb:=HLK.out t hft
 have hwr : IntKind.i64.wrap (t.links + 1) = t.links + 1:=wrapI _ (by omega) (by omega)
 have hnt:=HN.out.key _ t hft
 have HNT : Hid (t.h = (p2,q2,false)):=hnt
 have HFT : Hid (f (p2,q2,false) = some t):=hft
 have HXT : Hid (X (p2,q2,false) = .slice xa t.es.length xc):=by
  show X (p2,q2,false) = .slice xa t.es.length xc
  have h9:=HA.out
  unfold atX at h9
  rw [hft] at h9
  simp only [ndV] at h9
  rw [hnt] at h9
  simpa using h9
 have HOT : Hid (OwV w (Q (p2,q2,false)) (X (p2,q2,false)) (ensDt t.es)):=HN.out.own _ t hft
 have HEN2 : Hid (∀ (f1 : Hd → Option Nd) (h1 : f1 (p,q,true) = some n) W,NM W b s f1 P → RdV W S2 (.slice ya yn yc) (.bytes nm) → _):=fun f1 h1 W hW rW => HEN.out rfl f1 h1 W hW rW
 clear HEN HRM HRMV HRES hft hb hnt HT
 obtain ⟨⟨t0,t1,t2⟩,⟨t3,t4,t5⟩,lk,vl,es⟩:=t
 dsimp only at hwr HXT HNT HOT
 go_wp2_with (first | (at_lookup; refine wpList_lookOkX _ rfl (.tmp 23) (.tmp 25) rfl b s f X rfl HM1.out (p2,q2,false) HIF.out rfl ?_; rw [HA.out,HTH.out]) | (at_mapUpdate; refine wpList_putX _ rfl (.tmp 36) (.tmp 38) (.tmp 39) rfl b s f X rfl (HM1.out.alloc _) HN.out.key hsm (p2,q2,false) HIF.out rfl (Nd.mk (t0,t1,t2) (t3,t4,t5) (lk + 1) vl es) (.slice xa es.length xc) HNT.out rfl ?_; intro w9 M9 g9; have t9:=(Turned.ofBelow (S:=fun c => c = b) (Below.newH (w:=w1) _)).trans (Turned.ofGrown (S:=fun c => c = b) g9 (fun k hk => by simpa using hk.symm)); have s9:=t9.size; have kO:=HVO.out.turn t9 (by show ¬ w.heap.size = b; omega); have kR:=HVR.out.turn t9 (by show ¬ w.heap.size + 1 = b; omega); have j1:=kO.c 1 rfl; have j2:=kO.c 2 rfl; have j3:=kO.c 3 rfl; have j4:=kO.c 4 rfl; have j5:=kO.c 5 rfl; have j6:=kO.c 6 rfl; have j7:=kO.c 7 rfl; dsimp at j1 j2 j3 j4 j5 j6 j7; have HR9 : Hid (VarA w9 (w.heap.size + 1) 51 _):=kR; simp only [HFT.out,Option.isSome_some,if_true] at M9; have HT9 : Hid (Turned (fun c => c = b) w1 w9):=t9; clear kO kR g9 t9))
 have N9 : NM w9 b s _ P:=⟨_,_,NX.put HN.out (g:=(p2,q2,false)) (R:=Q (p2,q2,false)) HNT.out M9 (fun c hP hc => (HT9.out.block c (by have:=HPS.out c hP; omega) hc).trans (HB1.out.block c (HPS.out c hP))) (by omega) (fun c hc => hc) (fun c hc => by have:=HPS.out c hc; omega) (by rw [← HXT.out]; exact OwV.keep (((Turned.ofBelow HB1.out).trans HT9.out).keeps (fun c hc e => (HN.out.inP _ _ c HFT.out hc).2 e)) HOT.out) (fun c hc => HN.out.inP _ _ c HFT.out hc) (fun g' n' c hg hf' hc hq' => hg (HN.out.apart g' _ n' _ c hf' HFT.out hq' hc))⟩
 have TT9 : Turned (fun c => c = b) w w9:=(Turned.ofBelow HB1.out).trans HT9.out
 have rd9:=HRD.out w9 _ TT9 (fun c e hc => by subst e; exact HS2.out _ hc HN.out.bP)
 go_at_call 121
 refine Calls.mono (HEN2.out _ (by rw [show setN f (p2,q2,false) _ (p,q,true) = f (p,q,true) by unfold setN; rw [if_neg (by simp)]]; exact HF.out) w9 N9 rd9) ?_
 rintro e w10 ⟨rfl,N10,t10⟩
 have v10:=HR9.out.turn t10 (fun h => by have:=HPS.out _ h; omega)
 have HV10 : Hid (VarA w10 (w.heap.size + 1) 51 _):=v10
 have HN10 : Hid (NM w10 b s _ (GP P w9 w10)):=N10
 have HT10 : Hid (Turned P w9 w10):=t10
 have HTT9 : Hid (Turned (fun c => c = b) w w9):=TT9
 clear v10 N10 t10 TT9 rd9 N9 M9 j1 j2 j3 j4 j5 j6 j7 k5 k6 k7 m5 m6 m7
 go_wp2_with ((with_reducible refine gS 51 ?_); refine sF HV10.out rfl rfl (by kernel_rfl) rfl rfl ?_; intro w8 v8 t8)
 refine bpR Tryz.results106 v8 Tryz.underlying51 rfl rfl (by kernel_rfl) rfl ?_
 refine ⟨.n0,rfl,own_nil _ _ _ rfl,rfl,NM.ret HN10.out (by omega) t8 (fun h => by have:=HPS.out _ h; omega) (by omega) HT10.out.size HPS.out rfl,?_⟩
 exact Turned.past ((HTT9.out.wide (fun c e => by rw [e]; exact HN.out.bP)).trans HT10.out) t8 (by omega)
end
section
open Go.Maps
theorem delN_at {f : Hd → Option Nd} {g h : Hd} {m : Nd} (e : delN f g h = some m) : h ≠ g ∧ f h = some m:=by
  unfold delN at e
  by_cases x : h = g
  · rw [if_pos x] at e; cases e
  · rw [if_neg x] at e; exact ⟨x,e⟩
theorem unlinkN_any (b s : Nat) (f : Hd → Option Nd) (g : Hd) (n : Nd) (P : Nat → Prop) (w : World) (N : NM w b s f P) (hin : HIn g) (hf : f g = some n) (hs : s ≤ 2097152) (hlk : -1000000000 ≤ n.links ∧ n.links ≤ 2147483647) :
    Calls Tryz.prog 123 #[.map (some b),g.v] w fun e w' => e = .returned (.tuple #[]) ∧ NM w' b (unlS s n) (unlN f g n) P ∧ Turned (fun c => c = b) w w':=by
  obtain ⟨X,Q,N⟩:=N
  obtain ⟨a,c,hx,_⟩:=RdV.sliced (OwV.rd (N.own g n hf))
  refine (unlink_any b s f X g n w N.m N.key hin hf ⟨a,_,c,hx⟩ hs (by omega)).mono ?_
  rintro e w' ⟨he,M,t⟩
  refine ⟨he,⟨X,Q,M,?_,?_,?_,?_,N.bP,fun c hc => Nat.lt_of_lt_of_le (N.small c hc) t.size⟩,t⟩
  all_goals unfold unlN
  · split
    · intro h m hm; exact N.key h m (delN_at hm).2
    · exact setN_key N.key (N.key g n hf)
  · intro h m hm
    have hk : ∀ k,f h = some k → OwV w' (Q h) (X h) (ensDt k.es):=fun k hk => OwV.keep (t.keeps (fun c hc e => (N.inP h k c hk hc).2 e)) (N.own h k hk)
    split at hm
    · exact hk m (delN_at hm).2
    · unfold setN at hm
      by_cases x : h = g
      · rw [if_pos x] at hm
        obtain rfl:=Option.some.inj hm
        subst x
        exact hk n hf
      · rw [if_neg x] at hm; exact hk m hm
  · intro h m c hm hc
    split at hm
    · exact N.inP h m c (delN_at hm).2 hc
    · unfold setN at hm
      by_cases x : h = g
      · subst x; exact N.inP h n c hf hc
      · rw [if_neg x] at hm; exact N.inP h m c hm hc
  · intro h h' m m' c hm hm' hc hc'
    have hk : ∀ h m,(if n.links - 1 ≤ 0 then delN f g else setN f g { n with links:=n.links - 1 }) h = some m → ∃ k,f h = some k:=by
      intro h m hm
      split at hm
      · exact ⟨m,(delN_at hm).2⟩
      · unfold setN at hm
        by_cases x : h = g
        · subst x; exact ⟨n,hf⟩
        · rw [if_neg x] at hm; exact ⟨m,hm⟩
    obtain ⟨k,e⟩:=hk h m hm
    obtain ⟨k',e'⟩:=hk h' m' hm'
    exact N.apart h h' k k' c e e' hc hc'
def dropF (f : Hd → Option Nd) (s : Nat) (o : OpD) : (Hd → Option Nd) × Nat × RpD:=
  if fdB ((f o.dir).getD nd0).es o.nm = false then (f,s,rcI 3) else
  if (fdH ((f o.dir).getD nd0).es o.nm).dir = true ∧ 0 < ((f (fdH ((f o.dir).getD nd0).es o.nm)).getD nd0).es.length then (f,s,rcI 7) else
  (unlN (setN f o.dir { (f o.dir).getD nd0 with es:=outE ((f o.dir).getD nd0).es o.nm }) (fdH ((f o.dir).getD nd0).es o.nm) ((setN f o.dir { (f o.dir).getD nd0 with es:=outE ((f o.dir).getD nd0).es o.nm } (fdH ((f o.dir).getD nd0).es o.nm)).getD nd0),
    unlS s ((setN f o.dir { (f o.dir).getD nd0 with es:=outE ((f o.dir).getD nd0).es o.nm } (fdH ((f o.dir).getD nd0).es o.nm)).getD nd0),rcI 0)
set_option maxHeartbeats 4000000 in
theorem drop_any (b s : Nat) (f : Hd → Option Nd) (o : OpD) (n : Nd) (y : Value) (za : Option Addr) (zn zc : Nat) (S2 P : Nat → Prop) (w : World) (N : NM w b s f P) (hin : HIn o.dir) (hf : f o.dir = some n) (r2 : RdV w S2 y (.bytes o.nm)) (hS2 : ∀ c,S2 c → ¬ P c) (hl : n.es.length ≤ 4000) (hs : s ≤ 2097000)
    (hh : fdB n.es o.nm = true → ∃ t,f (fdH n.es o.nm) = some t ∧ HIn (fdH n.es o.nm)) (hlk : ∀ g t,f g = some t → 0 ≤ t.links ∧ t.links ≤ 2147483647) :
    Calls Tryz.prog 105 #[.map (some b),opV o y (.slice za zn zc)] w (MPost w b P (dropF f s o)):=by
  obtain ⟨ya,yc,rfl⟩:=r2.sliceB
  have HNM : Hid (NM w b s f P):=N
  have HPS : Hid (∀ c,P c → c < w.heap.size):=N.sm
  have hbw:=N.lt
  have HRD : Hid (∀ W T,Turned T w W → (∀ c,T c → ¬ S2 c) → RdV W S2 (.slice ya o.nm.length yc) (.bytes o.nm)):=fun W T t ht => RdV.keep (t.keeps (fun c hc e => ht c e hc)) r2
  have HS2 : Hid (∀ c,S2 c → ¬ P c):=hS2
  have HF : Hid (f o.dir = some n):=hf
  obtain ⟨X,Q,N⟩:=N
  have HN : Hid (NX w b s f X Q P):=N
  obtain ⟨a,cap,hat,rx⟩:=atX_rd f X o.dir P w (N.rd _)
  have HM : Hid (∀ W,Below w.heap.size w W → MapH (ndX X) W b s f):=fun W hW => N.m.blk (hW.block b hbw)
  rw [hf] at hat rx
  simp only [Option.getD_some] at hat rx
  have HH : Hid (∀ W,Below w.heap.size w W → _):=fun W hW => find_any (.slice a n.es.length cap) (.slice ya o.nm.length yc) n o.nm P S2 W (rx.step hW) (r2.step hW) (by omega)
  have HI : Hid (HIn o.dir):=hin
  have HA : Hid _:=hat
  have HTK : Hid (∀ W,NM W b s f P → RdV W S2 (.slice ya o.nm.length yc) (.bytes o.nm) → _):=fun W hW rW => takeOut_any b s f o.dir n (.slice ya o.nm.length yc) o.nm S2 P W hW hin hf rW hl (by omega)
  have HFH : Hid _:=hh
  obtain ⟨n1,hn1⟩ : ∃ n1,n1 = (setN f o.dir { n with es:=outE n.es o.nm } (fdH n.es o.nm)).getD nd0:=⟨_,rfl⟩
  have HN1 : Hid (fdB n.es o.nm = true → setN f o.dir { n with es:=outE n.es o.nm } (fdH n.es o.nm) = some n1 ∧ 0 ≤ n1.links ∧ n1.links ≤ 2147483647):=fun h => by
    obtain ⟨t,ht,_⟩:=hh h
    unfold setN at hn1 ⊢
    by_cases x : fdH n.es o.nm = o.dir
    · rw [if_pos x] at hn1 ⊢
      subst hn1
      have h9:=hlk _ _ hf
      exact ⟨rfl,h9⟩
    · rw [if_neg x] at hn1 ⊢
      rw [ht] at hn1
      subst hn1
      exact ⟨ht,hlk _ _ ht⟩
  have HUN : Hid (∀ (hb : fdB n.es o.nm = true) W P1,NM W b s (setN f o.dir { n with es:=outE n.es o.nm }) P1 → _):=fun hb W P1 hW => unlinkN_any b s _ (fdH n.es o.nm) n1 P1 W hW (hh hb).choose_spec.2 (HN1.out hb).1 (by omega) (by have:=(HN1.out hb).2; omega)
  obtain ⟨res,hres⟩ : ∃ r,dropF f s o = r:=⟨_,rfl⟩
  have HRES : Hid ((if fdB n.es o.nm = false then (f,s,rcI 3) else
      if (fdH n.es o.nm).dir = true ∧ 0 < ((f (fdH n.es o.nm)).getD nd0).es.length then (f,s,rcI 7) else
      (unlN (setN f o.dir { n with es:=outE n.es o.nm }) (fdH n.es o.nm) n1,unlS s n1,rcI 0)) = res):=by
    show _ = _
    rw [← hres,hn1]
    unfold dropF
    rw [hf]
    rfl
  rw [hres]
  have hsm : s < maxLen:=by unfold maxLen; omega
  have hao:=atX_rd f X (fdH n.es o.nm) P w (N.rd _)
  obtain ⟨ta,tc,hat2,_⟩:=hao
  have HA2 : Hid _:=hat2
  have HIH : Hid (fdB n.es o.nm = true → HIn (fdH n.es o.nm)):=fun h => (hh h).choose_spec.2
  clear N r2 hS2 hin hf hres hat rx hat2 hn1 hlk hh
  obtain ⟨⟨ph,qh,dh⟩,hfh⟩ : ∃ r,fdH n.es o.nm = r:=⟨_,rfl⟩
  obtain ⟨bh,hbh⟩ : ∃ r,fdB n.es o.nm = r:=⟨_,rfl⟩
  rw [hfh] at HH HRES HA2 HIH
  rw [hbh] at HH HRES HIH
  have HBH : Hid (fdB n.es o.nm = bh):=hbh
  have HFHV : Hid (fdH n.es o.nm = (ph,qh,dh)):=hfh
  obtain ⟨te,hte⟩ : ∃ t,(f (ph,qh,dh)).getD nd0 = t:=⟨_,rfl⟩
  rw [hte] at HRES HA2
  clear hte hbh
  obtain ⟨kd,⟨p,q,d⟩,nm,⟨p2,q2,d2⟩,asn,ov⟩:=o
  obtain ⟨⟨s0,s1,s2⟩,⟨s3,s4,s5⟩,lk,vl,es⟩:=n
  dsimp only at HTK HRD HF HH HA HI HRES HUN HBH HFHV hl
  rw [hfh] at HUN
  clear hfh
  generalize hyn : nm.length = yn at *
  generalize hmm : es.length = m at *
  have HRES2 : Hid _:=HRES
  go_enter Tryz.func105,Tryz.ntmps105
  go_upto_region 1 with fail
  go_cut [5,6] from 7 (fun s5 s6 wx => ∃ C,s5 = .pointer (some ⟨C,0,none⟩) ∧ s6 = .bool bh ∧ VarA wx C 48 #[.i ph,.i qh,.bool dh] ∧ VarA wx (w.heap.size + 1) 51 #[.i 0,.i 0,.i 0,.bool false,.i 0,.n0] ∧ Below w.heap.size w wx ∧ VarA wx w.heap.size 53 #[.i kd,.i p,.i q,.bool d,.slice ya yn yc,.i p2,.i q2,.bool d2,.slice za zn zc,.i ov] ∧ w.heap.size + 2 ≤ C)
  case first =>
    refine gen_world (P:=fun W => Code.wp _ _ _ _ W) (fun W => VarA W w.heap.size 53 #[.i kd,.i p,.i q,.bool d,.slice ya yn yc,.i p2,.i q2,.bool d2,.slice za zn zc,.i ov] ∧ VarA W (w.heap.size + 1) 51 #[.i 0,.i 0,.i 0,.bool false,.i 0,.n0] ∧ Below w.heap.size w W) ⟨(VarA.new w _ _).alloc _,(by simpa using VarA.new (w.alloc _) 51 _ : VarA ((w.alloc _).alloc (.cells #[.i 0,.i 0,.i 0,.bool false,.i 0,.n0] 51)) (w.heap.size + 1) _ _),(by repeat (first | exact Below.refl _ _ | refine Below.al2 ?_ _))⟩ ?_
    rintro wr ⟨vO,vR,hbel⟩
    have HS : Hid (∀ W : World,Below wr.heap.size wr W → W.cell? ⟨w.heap.size,1,none⟩ = some (.i p) ∧ W.cell? ⟨w.heap.size,2,none⟩ = some (.i q) ∧ W.cell? ⟨w.heap.size,3,none⟩ = some (.bool d) ∧ W.cell? ⟨w.heap.size,4,none⟩ = some (.slice ya yn yc) ∧ (Instr.lookup 148 (.map (some b)) (.agg #[.i p,.i q,.bool d]) false).run Tryz.prog W = .ok (.agg #[.i s0,.i s1,.bool s2,.i s3,.i s4,.bool s5,.i lk,.i vl,.slice a m cap]) W):=fun W hW => ⟨(vO.step hW).c 1 rfl,(vO.step hW).c 2 rfl,(vO.step hW).c 3 rfl,(vO.step hW).c 4 rfl,by have h9:=lookX_run (HM.out _ (hbel.trans (hW.mono hbel.size))) HI.out; rw [HA.out] at h9; exact h9⟩
    refine wp_region_noPanic ?_
    refine wp_region_held_drew (S:=fun W => W.cell? ⟨w.heap.size,1,none⟩ = some (.i p) ∧ W.cell? ⟨w.heap.size,2,none⟩ = some (.i q) ∧ W.cell? ⟨w.heap.size,3,none⟩ = some (.bool d) ∧ W.cell? ⟨w.heap.size,4,none⟩ = some (.slice ya yn yc) ∧ (Instr.lookup 148 (.map (some b)) (.agg #[.i p,.i q,.bool d]) false).run Tryz.prog W = .ok (.agg #[.i s0,.i s1,.bool s2,.i s3,.i s4,.bool s5,.i lk,.i vl,.slice a m cap]) W) (by kernel_rfl) (HS.out _ (Below.drew (Below.refl wr.heap.size wr))) (fun hHeld => ?_)
    apply tkh 0 _ rfl (by kernel_rfl) rfl (by assumption)
    · (intro _ h; (try dsimp only at h); go_simp; try with_reducible rfl)
    try simp only [qz]
    apply tkh 1 _ rfl (by kernel_rfl) rfl (by assumption)
    · (intro _ h; (try dsimp only at h); go_simp; try with_reducible rfl)
    try simp only [qz]
    apply tkh 2 _ rfl (by kernel_rfl) rfl (by assumption)
    · (intro _ h; (try dsimp only at h); go_simp; try with_reducible rfl)
    try simp only [qz]
    apply tkh 3 _ rfl (by kernel_rfl) rfl (by assumption)
    · (intro _ h; (try dsimp only at h); go_simp; try with_reducible rfl)
    try simp only [qz]
    apply tkh 4 _ rfl (by kernel_rfl) rfl (by assumption)
    · (intro _ h; (try dsimp only at h); go_simp; try with_reducible rfl)
    try simp only [qz]
    apply tkh 5 _ rfl (by kernel_rfl) rfl (by assumption)
    · (intro _ h; (try dsimp only at h); go_simp; try with_reducible rfl)
    try simp only [qz]
    refine wpAnyH_ready (rs:=[6,10]) (by kernel_rfl) (by simp) ?_
    refine AllReadyH.cons rfl (fun K hK => ?_) ?_
    · go_simp
      refine Calls.mono (HH.out _ (hbel.trans (((Below.drew (Below.refl wr.heap.size wr))).mono hbel.size))) ?_
      rintro e w8 ⟨rfl,b8⟩
      have b8p : Below wr.heap.size wr w8:=((Below.drew (Below.refl wr.heap.size wr))).trans (b8.mono ((Below.drew (Below.refl wr.heap.size wr))).size)
      dsimp only
      refine hK.out _ _ (HS.out _ b8p) (fun hHeld => ?_)
      clear hK K
      try simp only [qz]
      apply tkh 7 _ rfl (by kernel_rfl) rfl (by assumption)
      · (intro _ h; (try dsimp only at h); go_simp; try with_reducible rfl)
      try simp only [qz]
      apply tkh 8 _ rfl (by kernel_rfl) rfl (by assumption)
      · (intro _ h; (try dsimp only at h); go_simp; try with_reducible rfl)
      try simp only [qz]
      apply tkh 9 _ rfl (by kernel_rfl) rfl (by assumption)
      · (intro _ h; (try dsimp only at h); go_simp; try with_reducible rfl)
      try simp only [qz]
      refine doH 10 (by kernel_rfl) rfl fun K hK => ?_
      go_simp
      refine hK.out _ _ (HS.out _ (b8p.alloc b8p.size _)) (fun hHeld => ?_)
      clear hK K
      try simp only [qz]
      refine doH 11 (by kernel_rfl) rfl fun K hK => ?_
      go_simp
      refine hK.out _ _ (HS.out _ (b8p.alloc b8p.size _)) (fun hHeld => ?_)
      clear hK K
      try simp only [qz]
      apply tkh 12 _ rfl (by kernel_rfl) rfl (by assumption)
      · (intro _ h; (try dsimp only at h); go_simp; try with_reducible rfl)
      try simp only [qz]
      refine wpAnyH_done (by kernel_rfl) (NoPanic.normal ?_) _
      clear hHeld
      go_wp2_with fail
      go_meet
      exact ⟨_,rfl,rfl,VarA.new w8 48 #[.i ph,.i qh,.bool dh],(vR.step b8p).alloc _,(hbel.trans (b8p.mono hbel.size)).alloc (Nat.le_trans hbel.size b8p.size) _,(vO.step b8p).alloc _,by have:=vR.lt; have:=b8p.size; omega⟩
    refine AllReadyH.cons rfl (fun K hK => ?_) AllReadyH.nil
    go_simp
    refine hK.out _ _ (HS.out _ (Below.alloc (Below.drew (Below.refl wr.heap.size wr)) (Nat.le_refl _) (.cells #[.i 0,.i 0,.bool false] 48))) (fun hHeld => ?_)
    clear hK K
    try simp only [qz]
    refine doH 6 (by kernel_rfl) rfl fun K hK => ?_
    go_simp
    refine Calls.mono (HH.out _ (hbel.trans (((Below.alloc (Below.drew (Below.refl wr.heap.size wr)) (Nat.le_refl _) (.cells #[.i 0,.i 0,.bool false] 48))).mono hbel.size))) ?_
    rintro e w8 ⟨rfl,b8⟩
    have b8p : Below wr.heap.size wr w8:=((Below.alloc (Below.drew (Below.refl wr.heap.size wr)) (Nat.le_refl _) (.cells #[.i 0,.i 0,.bool false] 48))).trans (b8.mono ((Below.alloc (Below.drew (Below.refl wr.heap.size wr)) (Nat.le_refl _) (.cells #[.i 0,.i 0,.bool false] 48))).size)
    dsimp only
    refine hK.out _ _ (HS.out _ b8p) (fun hHeld => ?_)
    clear hK K
    try simp only [qz]
    apply tkh 7 _ rfl (by kernel_rfl) rfl (by assumption)
    · (intro _ h; (try dsimp only at h); go_simp; try with_reducible rfl)
    try simp only [qz]
    apply tkh 8 _ rfl (by kernel_rfl) rfl (by assumption)
    · (intro _ h; (try dsimp only at h); go_simp; try with_reducible rfl)
    try simp only [qz]
    apply tkh 9 _ rfl (by kernel_rfl) rfl (by assumption)
    · (intro _ h; (try dsimp only at h); go_simp; try with_reducible rfl)
    try simp only [qz]
    refine doH 11 (by kernel_rfl) rfl fun K hK => ?_
    have vZ : VarA w8 wr.heap.size 48 #[.i 0,.i 0,.bool false]:=VarA.step (VarA.new wr.drew 48 #[.i 0,.i 0,.bool false]) b8
    obtain ⟨z0,z1,z2⟩:=vZ.l3
    have zf:=vZ.fz
    go_simp
    clear z0 z1 z2 zf
    refine hK.out _ _ (HS.out _ (Below.set3 b8p (Nat.le_refl _))) (fun hHeld => ?_)
    clear hK K
    try simp only [qz]
    apply tkh 12 _ rfl (by kernel_rfl) rfl (by assumption)
    · (intro _ h; (try dsimp only at h); go_simp; try with_reducible rfl)
    try simp only [qz]
    refine wpAnyH_done (by kernel_rfl) (NoPanic.normal ?_) _
    clear hHeld
    go_wp2_with fail
    go_meet
    exact ⟨_,rfl,rfl,VarA.set3 vZ,((((vR.step b8p).aside (p:=⟨wr.heap.size,0,none⟩) (by have:=vR.lt; dsimp only; omega) _).aside (p:=⟨wr.heap.size,1,none⟩) (by have:=vR.lt; dsimp only; omega) _).aside (p:=⟨wr.heap.size,2,none⟩) (by have:=vR.lt; dsimp only; omega) _),Below.set3 (hbel.trans (b8p.mono hbel.size)) hbel.size,((((vO.step b8p).aside (p:=⟨wr.heap.size,0,none⟩) (by have:=vO.lt; dsimp only; omega) _).aside (p:=⟨wr.heap.size,1,none⟩) (by have:=vO.lt; dsimp only; omega) _).aside (p:=⟨wr.heap.size,2,none⟩) (by have:=vO.lt; dsimp only; omega) _),by have:=vR.lt; have:=b8p.size; omega⟩
  case rest =>
   obtain ⟨C,rfl,rfl,vC,vR,hb,vO,hC⟩:=hcut
   rename World => wx
   obtain ⟨⟨t0,t1,t2⟩,⟨t3,t4,t5⟩,lkt,vlt,est⟩:=te
   have HVR : Hid (VarA wx (w.heap.size + 1) 51 _):=vR
   have HVC : Hid (VarA wx C 48 _):=vC
   have HBX : Hid (Below w.heap.size w wx):=hb
   have swx:=hb.size
   have hCl:=vC.lt
   have hRl:=vR.lt
   obtain ⟨c0,c1,c2⟩:=vC.l3
   have o1:=vO.c 1 rfl
   have o2:=vO.c 2 rfl
   have o3:=vO.c 3 rfl
   have o4:=vO.c 4 rfl
   dsimp at o1 o2 o3 o4
   clear vR vC vO hb
   dsimp only at HRES HA2
   obtain ⟨tm,htm⟩ : ∃ k,est.length = k:=⟨_,rfl⟩
   rw [htm] at HRES HA2
   clear htm
   have hcase : bh = false ∨ bh = true ∧ (dh = true ∧ 0 < tm ∨ dh = true ∧ tm = 0 ∨ dh = false):=by cases bh <;> cases dh <;> simp <;> omega
   rcases hcase with rfl | ⟨rfl,hd⟩
   · have hres2 : res = (f,s,rcI 3):=by rw [← HRES.out]; simp
     subst hres2
     go_wp2_with ((with_reducible refine gS 51 ?_); refine sF HVR.out rfl rfl (by kernel_rfl) rfl rfl ?_; intro w8 v8 t8)
     refine bpR Tryz.results105 v8 Tryz.underlying51 rfl rfl (by kernel_rfl) rfl ?_
     exact ⟨.n0,rfl,own_nil _ _ _ rfl,rfl,NM.ret0 HNM.out HBX.out t8 (by omega) rfl,Turned.past (Turned.ofBelow HBX.out) t8 (by omega)⟩
   have kl : (Instr.lookup 148 (.map (some b)) (.agg #[.i ph,.i qh,.bool dh]) false).run Tryz.prog wx = .ok (.agg #[.i t0,.i t1,.bool t2,.i t3,.i t4,.bool t5,.i lkt,.i vlt,.slice ta tm tc]) wx:=by
     have h9:=lookX_run (HM.out _ HBX.out) (HIH.out rfl)
     rw [HA2.out] at h9
     exact h9
   have kf : ∀ W : World,(Instr.field 77 (.agg #[.i t0,.i t1,.bool t2,.i t3,.i t4,.bool t5,.i lkt,.i vlt,.slice ta tm tc]) 4).run Tryz.prog W = .ok (.slice ta tm tc) W:=fun W => by kernel_rfl
   have rdx:=HRD.out wx _ (Turned.ofBelow (S:=fun _ => False) HBX.out) (fun c e _ => e)
   have HTX : Hid _:=HTK.out wx (HNM.out.step HBX.out) rdx
   have HUX : Hid (∀ W P1,NM W b s (setN f (p,q,d) _) P1 → _):=fun W P1 hW => HUN.out HBH.out W P1 hW
   clear HTK HUN rdx
   rcases hd with ⟨rfl,hd⟩ | hd
   · have hres2 : res = (f,s,rcI 7):=by rw [← HRES.out]; simp [hd]
     subst hres2
     have hd1 : (0 : Int) < (tm : Int):=by omega
     go_wp2_with ((with_reducible refine gS 51 ?_); refine sF HVR.out rfl rfl (by kernel_rfl) rfl rfl ?_; intro w8 v8 t8)
     refine bpR Tryz.results105 v8 Tryz.underlying51 rfl rfl (by kernel_rfl) rfl ?_
     exact ⟨.n0,rfl,own_nil _ _ _ rfl,rfl,NM.ret0 HNM.out HBX.out t8 (by omega) rfl,Turned.past (Turned.ofBelow HBX.out) t8 (by omega)⟩
   have hres2 : res = (unlN (setN f (p,q,d) ⟨(s0,s1,s2),(s3,s4,s5),lk,vl,outE es nm⟩) (ph,qh,dh) n1,unlS s n1,rcI 0):=by
     rw [← HRES.out]
     rcases hd with ⟨rfl,rfl⟩ | rfl <;> simp
   subst hres2
   have hz : dh = true → (tm : Int) = 0:=fun h => by rcases hd with ⟨_,h2⟩ | h2; (rw [h2]; rfl); (rw [h2] at h; cases h)
   have hd2 : dh = true ∧ tm = 0 ∨ dh = false:=hd
   clear HRES HRES2 hz hd
   rcases hd2 with ⟨rfl,rfl⟩ | rfl
   all_goals
     go_wp2_with (first | (go_at_call 122; refine Calls.mono HTX.out ?_; rintro e w9 ⟨rfl,N9,t9⟩; have s9:=t9.size; obtain ⟨h0,h1,h2⟩:=(HVC.out.turn t9 (by show ¬ C = b; omega)).l3; have kR:=HVR.out.turn t9 (by show ¬ w.heap.size + 1 = b; omega); have HR9 : Hid (VarA w9 (w.heap.size + 1) 51 _):=kR; have HN9 : Hid (NM w9 b s _ (GP P wx w9)):=N9; have HT9 : Hid (Turned (fun c => c = b) wx w9):=t9; clear kR N9 t9) | (go_at_call 123; refine Calls.mono (HUX.out _ _ HN9.out) ?_; rintro e w10 ⟨rfl,N10,t10⟩; have s10:=t10.size; have kR:=HR9.out.turn t10 (by show ¬ w.heap.size + 1 = b; omega); have HR10 : Hid (VarA w10 (w.heap.size + 1) 51 _):=kR; have HN10 : Hid (NM w10 b _ _ (GP P wx w10)):=N10.mono (fun c hc => by rcases hc with hc | hc; exact .inl hc; exact .inr ⟨hc.1,by omega⟩) (fun c hc => by rcases hc with hc | hc; (have:=HPS.out c hc; omega); exact hc.2); have HT10 : Hid (Turned (fun c => c = b) w9 w10):=t10; clear kR N10 t10) | ((with_reducible refine gS 51 ?_); refine sF HR10.out rfl rfl (by kernel_rfl) rfl rfl ?_; intro w8 v8 t8))
     refine bpR Tryz.results105 v8 Tryz.underlying51 rfl rfl (by kernel_rfl) rfl ?_
     refine ⟨.n0,rfl,own_nil _ _ _ rfl,rfl,NM.ret HN10.out (by omega) t8 (fun h => by have:=HPS.out _ h; omega) (by omega) (by omega) HPS.out rfl,?_⟩
     exact Turned.past ((Turned.ofBelow HBX.out).trans ((HT9.out.trans HT10.out).wide (fun c e => by rw [e]; exact HN.out.bP))) t8 (by omega)
end
section
theorem lessH_trans {a b c : Hd} (h : lessH a b = true) (g : lessH b c = true) : lessH a c = true:=by
 simp only [lessH,Bool.or_eq_true,Bool.and_eq_true,decide_eq_true_eq] at *
 omega
theorem lessH_irr (a : Hd) : lessH a a = false:=by
 rw [Bool.eq_false_iff]; intro h
 simp only [lessH,Bool.or_eq_true,Bool.and_eq_true,decide_eq_true_eq] at h
 omega
theorem ascL_at {l : List Nd} (h : ascL l = true) {i : Nat} (hi : i + 1 < l.length) : lessH (l[i]?.getD nd0).h (l[i + 1]?.getD nd0).h = true:=by
 unfold ascL at h
 rw [List.all_eq_true] at h
 have h1:=h (i + 1) (by simpa using hi)
 simpa [ascAt] using h1
theorem ascL_less {l : List Nd} (h : ascL l = true) (i : Nat) : ∀ d,i + d + 1 < l.length → lessH (l[i]?.getD nd0).h (l[i + d + 1]?.getD nd0).h = true
 | 0,hi => ascL_at h hi
 | d + 1,hi => lessH_trans (ascL_less h i d (by omega)) (ascL_at h (i:=i + d + 1) (by omega))
theorem ascL_one {l : List Nd} (h : ascL l = true) : OneH l:=by
 intro i j hi hj he
 rcases Nat.lt_trichotomy i j with hij | hij | hij
 ·have h1:=ascL_less h i (j - i - 1) (by omega)
  rw [show i + (j - i - 1) + 1 = j by omega,he,lessH_irr] at h1; cases h1
 ·exact hij
 ·have h1:=ascL_less h j (i - j - 1) (by omega)
  rw [show j + (i - j - 1) + 1 = i by omega,he,lessH_irr] at h1; cases h1
theorem ndI_h {n : Nd} (h : ndI n = true) : HIn n.h:=by
 simp only [ndI,Bool.and_eq_true] at h
 exact HOk.inn h.1.1
theorem ndI_par {n : Nd} (h : ndI n = true) : HIn n.par:=by
 simp only [ndI,Bool.and_eq_true] at h
 have h2:=h.2
 split at h2
 ·simp only [dirOk,Bool.and_eq_true] at h2; exact HOk.inn h2.1.2.2.1
 ·simp only [fileOk,Bool.and_eq_true,decide_eq_true_eq] at h2; rw [h2.2.2]; exact hd0_in
theorem ndI_es {n : Nd} (h : ndI n = true) : n.es.length ≤ 12 ∧ ∀ j,j < n.es.length → HIn (n.es[j]?.getD en0).h:=by
 simp only [ndI,Bool.and_eq_true] at h
 have h2:=h.2
 split at h2
 ·simp only [Bool.and_eq_true,entsI,decide_eq_true_eq,List.all_eq_true] at h2
  refine ⟨h2.2.1,fun j hj => ?_⟩
  have h3:=h2.2.2 j (by simpa using hj)
  simp only [enAt,Bool.and_eq_true] at h3
  exact HOk.inn h3.2.1
 ·simp only [fileOk,Bool.and_eq_true,decide_eq_true_eq] at h2
  exact ⟨by omega,fun j hj => by omega⟩
theorem atH_mem {l : List Nd} {k : Nat} {g : Hd} {n : Nd} (h : atH l k g = some n) : n ∈ l:=List.mem_of_mem_take (List.mem_of_find?_eq_some h)
theorem atH_par {l : List Nd} (hall : (List.range l.length).all (fun i => ndI (l[i]?.getD nd0)) = true) (g : Hd) (n : Nd) (h : atH l l.length g = some n) : HIn n.par:=by
 obtain ⟨i,hi,rfl⟩:=List.getElem_of_mem (atH_mem h)
 rw [List.all_eq_true] at hall
 have h1:=hall i (by simpa using hi)
 rw [List.getElem?_eq_getElem hi] at h1
 exact ndI_par h1
def ndIAt (l : List Nd) (i : Nat) : Bool:=ndI (l[i]?.getD nd0)
def treeI (l : List Nd) : Bool:=(decide (1 ≤ l.length) && (decide (l.length ≤ 240) && ascL l)) && ((decide ((l[0]?.getD nd0).h = rootH) && decide ((l[0]?.getD nd0).par = rootH)) && ((List.range l.length).all (ndIAt l) && (leadR (atH l l.length) l && (List.range l.length).all (climbAt (atH l l.length) l.length l))))
end
section
theorem bless_irr : ∀ x : List UInt8,Op.bytesLess x x = false
 | [] => rfl
 | a :: x => by simp [Op.bytesLess,bless_irr x]
theorem bless_trans : ∀ x y z : List UInt8,Op.bytesLess x y = true → Op.bytesLess y z = true → Op.bytesLess x z = true
 | _,_,[],_,h => by simp [Op.bytesLess] at h
 | [],_,_ :: _,_,_ => by simp [Op.bytesLess]
 | _ :: _,[],_ :: _,h,_ => by simp [Op.bytesLess] at h
 | a :: x,b :: y,c :: z,h,g => by
  simp only [Op.bytesLess,Bool.or_eq_true,Bool.and_eq_true,decide_eq_true_eq,beq_iff_eq] at *
  rcases h with h | ⟨rfl,h⟩
  ·rcases g with g | ⟨rfl,g⟩
   ·exact .inl (UInt8.lt_trans h g)
   ·exact .inl h
  ·rcases g with g | ⟨rfl,g⟩
   ·exact .inl g
   ·exact .inr ⟨rfl,bless_trans x y z h g⟩
theorem geS_trans {a b c : List Int} (h : geS a b = false) (g : geS b c = false) : geS a c = false:=by
 simp only [geS,Bool.not_eq_false'] at *
 exact bless_trans _ _ _ h g
theorem geS_irr (a : List Int) : geS a a = true:=by simp [geS,bless_irr]
theorem asc_nm {es : List En} (h : ∀ i,i < es.length → enAt es i = true) (i : Nat) : ∀ d,i + d + 1 < es.length → geS (es[i]?.getD en0).nm (es[i + d + 1]?.getD en0).nm = false
 | 0,hi => by
  have h1:=h (i + 1) hi
  simp only [enAt,Bool.and_eq_true,Bool.or_eq_true,decide_eq_true_eq,Bool.not_eq_true'] at h1
  rcases h1.2.2 with h2 | h2
  ·omega
  ·exact h2
 | d + 1,hi => by
  have h0:=asc_nm h i d (by omega)
  have h1:=h (i + d + 1 + 1) hi
  simp only [enAt,Bool.and_eq_true,Bool.or_eq_true,decide_eq_true_eq,Bool.not_eq_true'] at h1
  rcases h1.2.2 with h2 | h2
  ·omega
  ·exact geS_trans h0 h2
theorem eiP_at {es : List En} (h : ∀ i,i < es.length → enAt es i = true) {i : Nat} (hi : i < es.length) : ei es (es[i]?.getD en0).nm = i:=by
 unfold ei
 rw [List.findIdx_eq hi]
 refine ⟨by simp [hi],fun j hj => ?_⟩
 have h1:=asc_nm h j (i - j - 1) (by omega)
 rw [show j + (i - j - 1) + 1 = i by omega,List.getElem?_eq_getElem hi,List.getElem?_eq_getElem (by omega : j < es.length)] at h1
 rw [decide_eq_false_iff_not]
 intro he
 rw [List.getElem?_eq_getElem hi] at he
 simp only [Option.getD_some] at h1 he
 rw [he,geS_irr] at h1
 cases h1
theorem ents_same (es : List En) : entsOk es = (List.range es.length).all (enAt es):=by
 rw [Bool.eq_iff_iff]
 unfold entsOk
 simp only [List.all_eq_true,List.mem_range]
 constructor
 ·intro h i hi
  have h1:=h i hi
  simp only [entOk,enAt,Bool.and_eq_true] at *
  exact ⟨h1.1,h1.2.1,h1.2.2.2⟩
 ·intro h i hi
  have h1:=h i hi
  have h2:=eiP_at h hi
  simp only [entOk,enAt,Bool.and_eq_true,decide_eq_true_eq] at *
  exact ⟨h1.1,h1.2.1,by unfold findE; rw [h2,if_pos hi],h1.2.2⟩
theorem nd_same (n : Nd) : ndOk n = ndI n:=by
 rw [Bool.eq_iff_iff]
 unfold ndOk ndI
 rw [ents_same]
 unfold entsI baseOk dirOk fileOk
 by_cases hd : n.h.dir = true
 ·simp only [hd,if_true,Bool.and_eq_true,decide_eq_true_eq]
  constructor
  ·rintro ⟨⟨h1,h2,h3,h4,h5,h6⟩,⟨h7,h8,h9,h10⟩,h11⟩
   exact ⟨⟨h1,h2,h3⟩,⟨h7,h8,h9,h10⟩,h6,h11⟩
  ·rintro ⟨⟨h1,h2,h3⟩,⟨h7,h8,h9,h10⟩,h6,h11⟩
   exact ⟨⟨h1,h2,h3,by omega,by omega,h6⟩,⟨h7,h8,h9,h10⟩,h11⟩
 ·have hd' : n.h.dir = false:=by simpa using hd
  simp only [hd',Bool.false_eq_true,if_false,Bool.and_eq_true,decide_eq_true_eq]
  constructor
  ·rintro ⟨⟨h1,h2,h3,h4,h5,h6⟩,h7,h8⟩
   exact ⟨⟨h1,h2,h3⟩,⟨h4,h5⟩,h7,h8⟩
  ·rintro ⟨⟨h1,h2,h3⟩,⟨h4,h5⟩,h7,h8⟩
   exact ⟨⟨h1,h2,h3,h4,h5,by omega⟩,h7,h8⟩
theorem atH_fi (l : List Nd) (h : Hd) : atH l l.length h = if fi l h < l.length then some (l[fi l h]?.getD nd0) else none:=by
 unfold atH fi
 rw [List.take_length]
 by_cases hlt : l.findIdx (fun n => decide (n.h = h)) < l.length
 ·rw [if_pos hlt,List.getElem?_eq_getElem hlt,Option.getD_some,List.find?_eq_some_iff_getElem]
  have h1:=List.findIdx_getElem (w:=hlt)
  refine ⟨h1,_,hlt,rfl,fun j hj => ?_⟩
  have:=List.not_of_lt_findIdx hj
  simpa using this
 ·rw [if_neg hlt,List.find?_eq_none]
  intro x hx
  have:=List.findIdx_lt_length (p:=fun n : Nd => decide (n.h = h)) (xs:=l)
  rw [this] at hlt
  intro hp
  exact hlt ⟨x,hx,hp⟩
theorem lead_same (l : List Nd) (n : Nd) (e : En) : entLead l n e = leadE (atH l l.length) n e:=by
 unfold entLead leadE
 rw [atH_fi]
 by_cases h : fi l e.h < l.length
 ·simp [h]
 ·simp [h]
theorem cnt_same (l : List Nd) (h : Hd) : cntH l h = cntE (l.flatMap (·.es)) h:=by
 unfold cntH cntE
 rw [psum_all,List.countP_flatMap]
 rfl
theorem countP_more {α : Type} (p q : α → Bool) : ∀ (l : List α),(∀ x,x ∈ l → p x = true → q x = true) → (∃ x,x ∈ l ∧ q x = true ∧ p x = false) → l.countP p < l.countP q
 | [],_,h => by obtain ⟨x,hx,_⟩:=h; cases hx
 | a :: l,hpq,h => by
  have hm : l.countP p ≤ l.countP q:=List.countP_mono_left (fun x hx => hpq x (List.mem_cons_of_mem _ hx))
  rw [List.countP_cons,List.countP_cons]
  have ha:=hpq a (List.mem_cons_self)
  obtain ⟨x,hx,h1,h2⟩:=h
  rcases List.mem_cons.mp hx with rfl | hx
  ·rw [h1,h2]; simp; omega
  ·have:=countP_more p q l (fun x hx => hpq x (List.mem_cons_of_mem _ hx)) ⟨x,hx,h1,h2⟩
   by_cases hp : p a = true
   ·rw [hp,ha hp]; simp; omega
   ·have hp' : p a = false:=by simpa using hp
    rw [hp']; simp; omega
theorem node_mem {l : List Nd} {i : Nat} (h : i < l.length) : l[i]?.getD nd0 ∈ l:=by rw [List.getElem?_eq_getElem h]; exact List.getElem_mem h
theorem rch_more (l : List Nd) : ∀ (k : Nat) (n : Nd),rch l k n = true → rch l (k + 1) n = true
 | 0,n,h => by
  have h1 : up n = false:=by simpa [rch] using h
  simp [rch,h1]
 | k + 1,n,h => by
  by_cases hu : up n = true
  ·by_cases hf : fi l n.par < l.length
   ·rw [rch,if_pos hu,if_pos hf] at h
    rw [rch,if_pos hu,if_pos hf]
    exact rch_more l k _ h
   ·rw [rch,if_pos hu,if_neg hf] at h; cases h
  ·rw [rch,if_neg hu]
theorem rch_still (l : List Nd) (k : Nat) (h : ∀ n,n ∈ l → rch l (k + 1) n = true → rch l k n = true) : ∀ n,n ∈ l → rch l (k + 2) n = true → rch l (k + 1) n = true:=by
 intro n hn hr
 by_cases hu : up n = true
 ·by_cases hf : fi l n.par < l.length
  ·rw [rch,if_pos hu,if_pos hf] at hr
   rw [rch,if_pos hu,if_pos hf]
   exact h _ (node_mem hf) hr
  ·rw [rch,if_pos hu,if_neg hf] at hr; cases hr
 ·rw [rch,if_neg hu]
theorem rch_count (l : List Nd) (h0 : ∃ n,n ∈ l ∧ up n = false) : ∀ k,(∀ n,n ∈ l → rch l (k + 1) n = true → rch l k n = true) ∨ k + 1 ≤ l.countP (rch l k)
 | 0 => by
  right
  obtain ⟨n,hn,hu⟩:=h0
  exact List.countP_pos_iff.mpr ⟨n,hn,by simp [rch,hu]⟩
 | k + 1 => by
  rcases rch_count l h0 k with h | h
  ·exact .inl (rch_still l k h)
  ·by_cases hs : ∀ n,n ∈ l → rch l (k + 1) n = true → rch l k n = true
   ·exact .inl (rch_still l k hs)
   ·right
    have : l.countP (rch l k) < l.countP (rch l (k + 1)):=by
     refine countP_more _ _ l (fun x _ => rch_more l k x) ?_
     apply Classical.byContradiction
     intro hc
     apply hs
     intro n hn hr
     cases hk : rch l k n with
     | true => rfl
     | false => exact absurd ⟨n,hn,hr,hk⟩ hc
    omega
theorem rch_short (l : List Nd) (h0 : ∃ n,n ∈ l ∧ up n = false) (hl : 1 ≤ l.length) (n : Nd) (hn : n ∈ l) : rch l (l.length + 1) n = rch l (l.length - 1) n:=by
 obtain ⟨m,hm⟩ : ∃ m,l.length = m + 1:=⟨l.length - 1,by omega⟩
 rw [hm,Nat.add_sub_cancel]
 have hs : ∀ n,n ∈ l → rch l (m + 1) n = true → rch l m n = true:=by
  rcases rch_count l h0 m with h | h
  ·exact h
  ·have hc : l.countP (rch l m) = l.length:=by
    have:=List.countP_le_length (p:=rch l m) (l:=l)
    omega
   rw [List.countP_eq_length] at hc
   exact fun n hn _ => hc n hn
 rw [Bool.eq_iff_iff]
 constructor
 ·intro h
  exact hs n hn (rch_still l m hs n hn h)
 ·intro h
  exact rch_more l _ _ (rch_more l _ _ h)
theorem climb_lost (f : Hd → Option Nd) (h0 : f hd0 = none) : ∀ (k : Nat) (h : Hd),f h = none → h ≠ rootH → climb f k h = false
 | 0,_,_,_ => rfl
 | k + 1,h,hf,hr => by
  rw [climb,if_neg hr,hf]
  exact climb_lost f h0 k hd0 h0 (by decide)
theorem fiP_at {l : List Nd} (ho : OneH l) {i : Nat} (hi : i < l.length) : fi l (l[i]?.getD nd0).h = i:=by
 unfold fi
 rw [List.findIdx_eq hi]
 refine ⟨by simp [hi],fun j hj => ?_⟩
 rw [decide_eq_false_iff_not]
 intro he
 have:=ho j i (by omega) hi (by rw [List.getElem?_eq_getElem (by omega : j < l.length)]; exact he)
 omega
theorem fi_h {l : List Nd} {h : Hd} (hf : fi l h < l.length) : (l[fi l h]?.getD nd0).h = h:=by
 have h1:=List.findIdx_getElem (w:=hf)
 rw [List.getElem?_eq_getElem hf]
 exact of_decide_eq_true h1
theorem climb_rch {l : List Nd} (ho : OneH l) (hr : fi l rootH < l.length) (hz : ¬ fi l hd0 < l.length) (hp : ∀ i,i < l.length → (l[i]?.getD nd0).h.dir = true → (l[i]?.getD nd0).par.dir = true) :
  ∀ (k i : Nat),i < l.length → (l[i]?.getD nd0).h.dir = true → climb (atH l l.length) (k + 1) (l[i]?.getD nd0).h = rch l k (l[i]?.getD nd0)
 | 0,i,hi,hd => by
  rw [climb,rch]
  unfold up
  rw [hd]
  by_cases h : (l[i]?.getD nd0).h = rootH
  ·rw [if_pos h]; simp [h]
  ·rw [if_neg h]; simp [h,climb]
 | k + 1,i,hi,hd => by
  rw [climb,rch]
  by_cases h : (l[i]?.getD nd0).h = rootH
  ·rw [if_pos h]
   have : up (l[i]?.getD nd0) = false:=by unfold up; simp [h]
   simp [this]
  ·have hu : up (l[i]?.getD nd0) = true:=by unfold up; simp [h,hd]
   rw [if_neg h,if_pos hu,atH_fi,fiP_at ho hi,if_pos hi,Option.getD_some]
   by_cases hf : fi l (l[i]?.getD nd0).par < l.length
   ·rw [if_pos hf]
    have h1:=climb_rch ho hr hz hp k _ hf (by rw [fi_h hf]; exact hp i hi hd)
    rw [fi_h hf] at h1
    exact h1
   ·rw [if_neg hf]
    refine climb_lost _ (by rw [atH_fi,if_neg hz]) _ _ (by rw [atH_fi,if_neg hf]) ?_
    intro he
    rw [he] at hf
    exact hf hr
theorem tail_same {l : List Nd} (hl : 1 ≤ l.length) (hr : (l[0]?.getD nd0).h = rootH) (ha : ascL l = true) (hn : ∀ i,i < l.length → ndI (l[i]?.getD nd0) = true) {i : Nat} (hi : i < l.length) :
  tailT l (l[i]?.getD nd0) = (ledN l i && climbAt (atH l l.length) l.length l i):=by
 have ho:=ascL_one ha
 have h0 : fi l rootH = 0:=by rw [← hr]; exact fiP_at ho (by omega)
 have hz : ¬ fi l hd0 < l.length:=by
  intro hf
  have h1:=hn _ hf
  have h2:=fi_h hf
  unfold ndI at h1
  rw [h2] at h1
  have h3 : HOk hd0 = false:=by decide
  simp only [h3,Bool.false_and,Bool.false_eq_true] at h1
 have hp : ∀ i,i < l.length → (l[i]?.getD nd0).h.dir = true → (l[i]?.getD nd0).par.dir = true:=by
  intro i hi hd
  have h1:=hn i hi
  unfold ndI at h1
  rw [hd] at h1
  simp only [if_true,Bool.and_eq_true,dirOk] at h1
  exact h1.2.1.2.2.2
 have hx : ∃ n,n ∈ l ∧ up n = false:=⟨_,node_mem (l:=l) (i:=0) (by omega),by unfold up; simp [hr]⟩
 unfold tailT ledN wantN climbAt
 rw [cnt_same]
 obtain ⟨m,hm⟩ : ∃ m,l.length = m + 1:=⟨l.length - 1,by omega⟩
 by_cases h : (l[i]?.getD nd0).h = rootH
 ·rw [if_pos h,if_pos h,h]
  have hc : climb (atH l l.length) l.length rootH = true:=by rw [hm,climb,if_pos rfl]
  rw [hc]
  simp
 ·rw [if_neg h,if_neg h,rch_short l hx hl _ (node_mem hi)]
  by_cases hd : (l[i]?.getD nd0).h.dir = true
  ·have h1:=climb_rch ho (by omega) hz hp m i hi hd
   rw [show m + 1 = l.length by omega] at h1
   rw [h1,hd,show m = l.length - 1 by omega]
   simp
  ·have hd' : (l[i]?.getD nd0).h.dir = false:=by simpa using hd
   have hu : rch l (l.length - 1) (l[i]?.getD nd0) = true:=by
    have : up (l[i]?.getD nd0) = false:=by unfold up; simp [hd']
    cases l.length - 1 <;> simp [rch,this]
   rw [hu,hd']
   simp
theorem tree_same (l : List Nd) : treeOk l = treeI l:=by
 rw [Bool.eq_iff_iff]
 unfold treeOk treeI headT leadR
 simp only [Bool.and_eq_true,decide_eq_true_eq,List.all_eq_true,List.mem_range]
 constructor
 ·rintro ⟨⟨⟨h1,h2⟩,h3,h4⟩,h5⟩
  have hA : ascL l = true:=by
   unfold ascL
   rw [List.all_eq_true]
   intro i hi
   have:=h5 i (by simpa using hi)
   simp only [nodeT,Bool.and_eq_true] at this
   exact this.2.1
  have hN : ∀ i,i < l.length → ndI (l[i]?.getD nd0) = true:=by
   intro i hi
   have:=h5 i hi
   simp only [nodeT,Bool.and_eq_true] at this
   rw [← nd_same]
   exact this.1
  have hT : ∀ i,i < l.length → ledN l i = true ∧ climbAt (atH l l.length) l.length l i = true:=by
   intro i hi
   have:=h5 i hi
   simp only [nodeT,Bool.and_eq_true] at this
   have h6:=this.2.2.2
   rw [tail_same h1 h3 hA hN hi,Bool.and_eq_true] at h6
   exact h6
  refine ⟨⟨h1,h2,hA⟩,⟨h3,h4⟩,hN,⟨?_,fun i hi => (hT i hi).1⟩,fun i hi => (hT i hi).2⟩
  intro i hi
  have:=h5 i hi
  simp only [nodeT,Bool.and_eq_true] at this
  have h7:=this.2.2.1
  unfold leadN
  rw [List.all_eq_true] at h7 ⊢
  intro e he
  rw [← lead_same]
  exact h7 e he
 ·rintro ⟨⟨h1,h2,hA⟩,⟨h3,h4⟩,hN,⟨h6,h7⟩,h8⟩
  refine ⟨⟨⟨h1,h2⟩,h3,h4⟩,fun i hi => ?_⟩
  simp only [nodeT,Bool.and_eq_true]
  have hA':=hA
  unfold ascL at hA'
  rw [List.all_eq_true] at hA'
  refine ⟨by rw [nd_same]; exact hN i hi,hA' i (by simpa using hi),?_,?_⟩
  ·have h9:=h6 i hi
   unfold leadN at h9
   rw [List.all_eq_true] at h9 ⊢
   intro e he
   rw [lead_same]
   exact h9 e he
  ·rw [tail_same h1 h3 hA hN hi,h7 i hi,h8 i hi]; rfl
end
section
open Go.Maps
theorem keyHd_inv {key : Value} {kl : Lit} (e : keyOf Tryz.prog 48 key = some kl) : ∃ h : Hd,HIn h ∧ key = h.v ∧ kl = klH h:=by
  have e0:=e
  obtain ⟨fs,hu,hn,hf⟩:=underHd
  have h3 : Tryz.prog.underlying 3 = some (.int .i64):=by kernel_rfl
  have h4 : Tryz.prog.underlying 4 = some .bool:=by kernel_rfl
  have c3 : Tryz.prog.cellsOf 3 = 1:=by kernel_rfl
  have c4 : Tryz.prog.cellsOf 4 = 1:=by kernel_rfl
  have hfs:=fun g => mapM_two fs g
  obtain ⟨m,hm⟩ : ∃ m,Tryz.prog.types.size = m + 1:=⟨_,(Nat.succ_pred_eq_of_pos (Nat.lt_of_le_of_lt (Nat.zero_le _) rowHd)).symm⟩
  unfold keyOf at e
  simp only [hu] at e
  by_cases hc : (Tryz.prog.keyType 48 && key.formed Tryz.prog 48) = true
  case neg => rw [if_neg hc] at e; cases e
  rw [if_pos hc,hm] at e
  rw [Bool.and_eq_true] at hc
  obtain ⟨cs,rfl⟩ : ∃ cs,key = .agg cs:=by
    cases key <;> simp [Value.formed,hu] at hc ⊢
  have hsz : cs.size = 3:=by have:=hc.2; simp [Value.formed,hu,cellsHd] at this; exact this
  obtain ⟨l,rfl⟩ : ∃ l : List Value,cs = l.toArray:=⟨cs.toList,rfl⟩
  simp at hsz
  obtain ⟨x,y,z,rfl⟩ : ∃ x y z,l = [x,y,z]:=by
    match l,hsz with
    | [x,y,z],_ => exact ⟨x,y,z,rfl⟩
  simp only [Value.cells] at e
  have hk : ∀ ls,Tryz.prog.keyLits (m + 1 + 1) 48 [x,y,z] = some ls → ∃ a b c,x = .int .i64 a ∧ y = .int .i64 b ∧ z = .bool c ∧ (Lit.int .i64 a).wf = true ∧ (Lit.int .i64 b).wf = true:=by
    intro ls h
    unfold Program.keyLits at h
    simp only [hu] at h
    rw [if_pos ⟨by rw [cellsHd]; rfl,hn⟩,hfs (fun t o => Tryz.prog.keyLits (m + 1) t ((([x,y,z] : List Value).drop o).take (Tryz.prog.cellsOf t))),hf] at h
    have hx : ∀ v ls,Tryz.prog.keyLits (m + 1) 3 [v] = some ls → ∃ a,v = .int .i64 a ∧ (Lit.int .i64 a).wf = true:=by
      intro v ls hv
      unfold Program.keyLits at hv
      simp only [h3] at hv
      cases v <;> simp at hv
      obtain ⟨⟨rfl,h⟩,_⟩:=hv
      exact ⟨_,rfl,h⟩
    have hz : ∀ v ls,Tryz.prog.keyLits (m + 1) 4 [v] = some ls → ∃ a,v = .bool a:=by
      intro v ls hv
      unfold Program.keyLits at hv
      simp only [h4] at hv
      cases v <;> simp at hv
      exact ⟨_,rfl⟩
    simp only [List.mapM_cons,List.mapM_nil,c3,c4,List.drop_zero,List.drop_succ_cons,List.take_succ_cons,List.take_zero] at h
    cases h1 : Tryz.prog.keyLits (m + 1) 3 [x] with
    | none => rw [h1] at h; simp at h
    | some l1 =>
      cases h2 : Tryz.prog.keyLits (m + 1) 3 [y] with
      | none => rw [h1,h2] at h; simp at h
      | some l2 =>
        cases h5 : Tryz.prog.keyLits (m + 1) 4 [z] with
        | none => rw [h1,h2,h5] at h; simp at h
        | some l3 =>
          obtain ⟨a,rfl,wa⟩:=hx _ _ h1
          obtain ⟨b,rfl,wb⟩:=hx _ _ h2
          obtain ⟨c,rfl⟩:=hz _ _ h5
          exact ⟨a,b,c,rfl,rfl,rfl,wa,wb⟩
  cases hls : Tryz.prog.keyLits (m + 1 + 1) 48 [x,y,z] with
  | none => rw [hls] at e; cases e
  | some ls =>
    obtain ⟨a,b,c,rfl,rfl,rfl,wa,wb⟩:=hk ls hls
    refine ⟨(a,b,c),⟨wa,wb⟩,rfl,?_⟩
    have:=keyHd (h:=(a,b,c)) ⟨wa,wb⟩
    exact (Option.some.inj (this.symm.trans e0)).symm
structure Gath (f : Hd → Option Nd) (left : Lit → Bool) (l : List Nd) : Prop where
  mem : ∀ n,n ∈ l ↔ f n.h = some n ∧ left (klH n.h) = false
  nd : l.Pairwise (fun a b => a.h ≠ b.h)
set_option maxHeartbeats 2000000 in
theorem ascending_any2 (b s : Nat) (f : Hd → Option Nd) (P : Nat → Prop) (w : World) (N : NM w b s f P) (hin : ∀ g n,f g = some n → HIn g) (L : List Nd) (hL : ∀ n,n ∈ L ↔ f n.h = some n) (hs : L.Pairwise (fun a b => byHd a.h b.h < 0)) (hl : L.length ≤ 3000) (hss : s ≤ 3000) :
    Calls Tryz.prog 86 #[.map (some b)] w fun e w' => ∃ a n c,e = .returned (.slice a n c) ∧ OwV w' (fun c => P c ∨ w.heap.size ≤ c ∧ c < w'.heap.size) (.slice a n c) (ndsDt L) ∧ Below w.heap.size w w':=by
  obtain ⟨X,Q,N⟩:=N
  have HN : Hid (NX w b s f X Q P):=N
  have hbw:=N.m.lt
  have HPS : Hid (∀ c,P c → c < w.heap.size):=N.small
  obtain ⟨D,hD,hds,hfd⟩:=N.m
  have HIN : Hid _:=hin
  have HFD : Hid (∀ h,HIn h → (f h = none → Maps.has D (klH h) = false) ∧ ∀ a,f h = some a → Maps.has D (klH h) = true ∧ ∃ v,ndX X a v ∧ ∀ z,D.atKey (klH h) z = .held v):=hfd
  have hLnd : L.Pairwise (fun a b => a.h ≠ b.h):=hs.imp (fun {a b} h e => by rw [e] at h; have:=(byHd_lt b.h b.h).1 h; simp at this)
  have HLL : Hid (∀ l,Gath f (fun _ => false) l → l.Perm L):=fun l g => by
    refine (List.perm_ext_iff_of_nodup (g.nd.imp (fun {a b} h e => h (by rw [e]))) (hLnd.imp (fun {a b} h e => h (by rw [e])))).2 (fun n => ?_)
    rw [g.mem,hL]
    simp
  have HSO : Hid (∀ (v : Value) l S W,OwV W S v (ndsDt l) → l.Perm L → _):=fun v l S W o hp => sortNd_any v l L S W o hp hs (by rw [hp.length_eq]; omega)
  clear N hin hfd hL hs hLnd
  go_enter Tryz.func86,Tryz.ntmps86
  go_wp2_with (at_range; refine wpList_range_own _ rfl (.tmp 6) 148 rfl 48 77 lawHd Tryz.underlying148 tokR b s D rfl hD ?_; intro w0 hrg0 hg0 hs0)
  go_frame
  go_loopw [3,8] (fun o _ wr => ∃ (left : Lit → Bool) (cnt : Nat) (l : List Nd) (ga : Option Addr) (gn gc : Nat),o = .slice ga gn gc ∧ Hid (wr.ranges Tryz.prog 48 tokR b w.heap.size s D left cnt) ∧ Hid (Gath f left l) ∧ Hid (OwV wr (fun c => (∃ n,n ∈ l ∧ Q n.h c) ∨ w.heap.size + 1 ≤ c ∧ c < wr.heap.size) (.slice ga gn gc) (ndsDt l)) ∧ Hid (∀ c,(Value.slice ga gn gc).ownBlock = some c → w.heap.size + 1 ≤ c) ∧ Hid (Below w.heap.size w wr) ∧ w.heap.size + 1 ≤ wr.heap.size ∧ l.length + cnt ≤ s) (fun _ _ wr => wr.rangeLeft b w.heap.size)
  case atStart =>
    refine ⟨_,_,[],none,0,0,rfl,hrg0,⟨fun n => ⟨fun h => (by cases h),fun h => ?_⟩,List.Pairwise.nil⟩,OwV.nilR _ _ _ _ _,(by show ∀ c,_ → _; intro c hc; cases hc),Below.grown (Below.refl _ _) hg0 (Nat.le_refl _) (fun j hj => by cases hj),by omega,by simp; omega⟩
    have h1:=((HFD.out n.h (HIN.out _ n h.1)).2 n h.1).1
    rw [h1] at h
    cases h.2
  case round =>
    obtain ⟨left,cnt,l,ga,gn,gc,rfl,HRG,HG,HO,HOB,HB,hsz,hcl⟩:=hrel
    have hrg : wr.ranges Tryz.prog 48 tokR b w.heap.size s D left cnt:=HRG.out
    have HRL : Hid (wr.rangeLeft b w.heap.size = cnt):=hrg.left_eq
    go_wp2_with fail
    rcases hrg.next lawHd 0 with ⟨hc0,hl0,hrun⟩ | ⟨key,v,kl,y,w1,cnt1,hk,hlk,hv,hat,hrun,hrg1,hlt,hg1,hs1,hen⟩
    · rw [hrun]
      clear hrun
      have hlf : left = fun _ => false:=funext hl0
      have hG:=HG.out
      rw [hlf] at hG
      have hperm:=HLL.out l hG
      have HX : Hid (∀ W,OwV W _ (.slice ga gn gc) (ndsDt l) → _):=fun W o => HSO.out (.slice ga gn gc) l (fun c => (∃ n,n ∈ l ∧ Q n.h c) ∨ w.heap.size + 1 ≤ c ∧ c < wr.heap.size) W o hperm
      go_wp2_with (go_at_call 108; refine Calls.mono (HX.out _ HO.out) ?_; rintro e w9 ⟨rfl,o9,t9⟩)
      go_ret
      refine ⟨ga,gn,gc,rfl,OwV.mono (fun c hc => ?_) o9,Turned.below HB.out t9 HB.out.size (fun i hi => by have:=HOB.out i hi; omega)⟩
      rcases hc with ⟨n,hn,hq⟩ | hc
      · have h1:=(hG.mem n).1 hn
        exact .inl (HN.out.inP n.h n c h1.1 hq).1
      · exact .inr ⟨by omega,Nat.lt_of_lt_of_le hc.2 t9.size⟩
    · obtain ⟨h,hi',rfl,rfl⟩:=keyHd_inv hk
      rw [hrun]
      clear hrun
      have hhas:=Maps.has_true_of_atKey hat
      obtain ⟨n,hf⟩ : ∃ n,f h = some n:=by
        cases hf : f h with
        | some n => exact ⟨n,rfl⟩
        | none => rw [(HFD.out h hi').1 hf] at hhas; cases hhas
      obtain ⟨_,u,hu,hat2⟩:=(HFD.out h hi').2 n hf
      have hvu : v = u:=by
        have h1:=hat (.held u)
        rw [hat2] at h1
        simp only [tokR,Option.some.injEq] at hv
        rw [← hv] at h1
        exact (DataW.held.inj h1).symm
      have hnh:=HN.out.key h n hf
      obtain ⟨xa,xc,hx,_⟩:=RdV.sliced (OwV.rd (HN.out.own h n hf))
      have hv2 : v = ndV n (.slice xa n.es.length xc):=by rw [hvu,hu,hnh,hx]
      subst hv2
      have HOW : Hid (OwV w (Q h) (.slice xa n.es.length xc) (ensDt n.es)):=by show OwV _ _ _ _; rw [← hx]; exact HN.out.own h n hf
      have hnew : n ∉ l:=fun hm => by have:=((HG.out.mem n).1 hm).2; rw [hnh,hlk] at this; cases this
      have HG2 : Hid (Gath f (fun z => left z && !z.sameKey (klH h)) (l ++ [n])):=by
        show Gath _ _ _
        refine ⟨fun k => ?_,?_⟩
        · rw [List.mem_append,List.mem_singleton,HG.out.mem]
          constructor
          · rintro (⟨h1,h2⟩ | rfl)
            · exact ⟨h1,by rw [h2]; rfl⟩
            · refine ⟨by rw [hnh]; exact hf,?_⟩
              rw [hnh,WideAt.sameKey_self (lawHd.key (keyHd hi'))]
              simp
          · rintro ⟨h1,h2⟩
            cases hlf : left (klH k.h)
            · exact .inl ⟨h1,rfl⟩
            · rw [hlf] at h2
              simp at h2
              have e2:=WideAt.sameKey_eq h2
              by_cases hkh : k.h = h
              · rw [hkh,hf] at h1
                exact .inr (Option.some.inj h1).symm
              · exact absurd e2 (klH_ne (HIN.out _ _ h1) hi' hkh)
        · rw [List.pairwise_append]
          refine ⟨HG.out.nd,List.pairwise_singleton _ _,fun a ha b hb e => ?_⟩
          rw [List.mem_singleton] at hb
          subst hb
          have h1:=(HG.out.mem a).1 ha
          rw [e,hnh,hf] at h1
          exact hnew (by rw [Option.some.inj h1.1]; exact ha)
      have HQ : Hid (∀ k c,k ∈ l → Q k.h c → Q h c → False):=fun k c hk h1 h2 => by
        have h3:=(HG.out.mem k).1 hk
        have e3:=HN.out.apart k.h h k n c h3.1 hf h1 h2
        rw [e3,hf] at h3
        exact hnew (by rw [Option.some.inj h3.1]; exact hk)
      have HQP : Hid (∀ c,Q h c → c < w.heap.size):=fun c hc => HPS.out c (HN.out.inP h n c hf hc).1
      have HLP : Hid (∀ k c,k ∈ l → Q k.h c → c < w.heap.size):=fun k c hk hc => HPS.out c (HN.out.inP k.h k c ((HG.out.mem k).1 hk).1 hc).1
      have HRG1 : Hid (w1.ranges Tryz.prog 48 tokR b w.heap.size s D (fun z => left z && !z.sameKey (klH h)) cnt1):=hrg1
      have t1:=Turned.ofGrown (S:=fun c => c = w.heap.size) hg1 (fun k hk => by simpa using hk.symm)
      have HB1 : Hid (Below w.heap.size w w1):=Turned.below HB.out t1 HB.out.size (fun i hi => by omega)
      have HO1 : Hid (OwV w1 (fun c => (∃ n,n ∈ l ∧ Q n.h c) ∨ w.heap.size + 1 ≤ c ∧ c < wr.heap.size) (.slice ga gn gc) (ndsDt l)):=OwV.keep (t1.keeps (fun c hc e => by
        rcases hc with ⟨k,hk,hq⟩ | hc
        · have:=HLP.out k c hk hq; omega
        · omega)) HO.out
      have HS1 : Hid (∀ c,((∃ n,n ∈ l ∧ Q n.h c) ∨ w.heap.size + 1 ≤ c ∧ c < wr.heap.size) → c < wr.heap.size):=by
        show ∀ c,_ → _
        rintro c (⟨k,hk,hq⟩ | hc)
        · have:=HLP.out k c hk hq; omega
        · exact hc.2
      have HS2 : Hid (∀ c,Q h c → ¬ ((∃ n,n ∈ l ∧ Q n.h c) ∨ w.heap.size + 1 ≤ c ∧ c < wr.heap.size)):=by
        show ∀ c,_ → _
        rintro c hq (⟨k,hk,hq2⟩ | hc)
        · exact HQ.out k c hk hq2 hq
        · have:=HQP.out c hq; omega
      have HNHV : Hid (n.h = h):=hnh
      have hs1':=HB1.out.size
      have hle1 : wr.heap.size ≤ w1.heap.size:=by omega
      have hle2 : w1.heap.size ≤ wr.heap.size:=by omega
      clear hk hlk hv hat hrg1 hg1 hhas hat2 hvu hx hf hnew t1 hrg HRG HG HO hu hs1
      obtain ⟨⟨n0,n1,n2⟩,⟨n3,n4,n5⟩,lk,vl,es⟩:=n
      dsimp only at HOW hen
      generalize hmm : es.length = m at *
      go_wp2_with (at_builtin; go_must (refine wpList_appNdP _ rfl (.tmp 12) (.tmp 14) rfl _ rfl l ⟨(n0,n1,n2),(n3,n4,n5),lk,vl,es⟩ (.slice xa m xc) (fun c => (∃ n,n ∈ l ∧ Q n.h c) ∨ w.heap.size + 1 ≤ c ∧ c < wr.heap.size) (Q h) (w1.heap.size + 1) (by rfl) rfl (0,0) (by simpa using heap_alloc_new (w1.alloc _) _) (OwV.step HO1.out (by repeat (first | exact Below.refl _ _ | refine Below.al2 ?_ _))) (OwV.step (HOW.out.step HB1.out) (by repeat (first | exact Below.refl _ _ | refine Below.al2 ?_ _))) (fun c hc => by have:=HS1.out c hc; simp; omega) (fun c hc => ⟨by have:=HQP.out c hc; simp; omega,HS2.out c hc⟩) (by omega) ?_; intro g8 n8 c8 w8 ho8 t8 ob8))
      have s8:=t8.size
      simp only [World.size_alloc] at s8
      have tb8 : Turned (fun c => w.heap.size + 1 ≤ c) w1 w8:=(Turned.ofBelow (S:=fun c => w.heap.size + 1 ≤ c) (by repeat (first | exact Below.refl _ _ | refine Below.al2 ?_ _))).trans (t8.wide (fun c hc => HOB.out c hc))
      have hob : ∀ c,(Value.slice g8 n8 c8).ownBlock = some c → w.heap.size + 1 ≤ c:=fun c hc => by
        rcases ob8 c hc with h9 | h9
        · exact HOB.out c h9
        · simp at h9; omega
      have HB8 : Hid (Below w.heap.size w w8):=Turned.below HB1.out tb8 HB1.out.size (fun i hi => by omega)
      have HO8 : Hid (OwV w8 (fun c => (∃ n,n ∈ l ++ [⟨(n0,n1,n2),(n3,n4,n5),lk,vl,es⟩] ∧ Q n.h c) ∨ w.heap.size + 1 ≤ c ∧ c < w8.heap.size) (.slice g8 n8 c8) (ndsDt (l ++ [⟨(n0,n1,n2),(n3,n4,n5),lk,vl,es⟩]))):=OwV.mono (fun c hc => by
        rcases hc with (⟨k,hk,hq⟩ | hq) | hq | hq
        · exact .inl ⟨k,List.mem_append_left _ hk,hq⟩
        · exact .inr ⟨hq.1,by omega⟩
        · exact .inl ⟨_,List.mem_append_right _ (List.mem_singleton.2 rfl),by have h9:=HNHV.out; dsimp only at h9; dsimp only; rw [h9]; exact hq⟩
        · simp at hq; exact .inr ⟨by omega,by omega⟩) ho8
      have HOB8 : Hid (∀ c,(Value.slice g8 n8 c8).ownBlock = some c → w.heap.size + 1 ≤ c):=hob
      have hr8 : w8.ranges Tryz.prog 48 tokR b w.heap.size s D (fun z => left z && !z.sameKey (klH h)) cnt1:=by
        obtain ⟨es9,clock,since,seen,c0,hb,F,hs9,hD9,hr,rest⟩:=HRG1.out
        exact ⟨es9,clock,since,seen,c0,(tb8.block b (by omega) (by omega)).trans hb,F,hs9,hD9,(tb8.block w.heap.size (by omega) (by omega)).trans hr,rest⟩
      have HR8 : Hid (w8.ranges Tryz.prog 48 tokR b w.heap.size s D (fun z => left z && !z.sameKey (klH h)) cnt1):=hr8
      have hm8 : w8.rangeLeft b w.heap.size = cnt1:=hr8.left_eq
      have hmr : wr.rangeLeft b w.heap.size = cnt:=HRL.out
      clear ho8 t8 ob8 hob tb8 hr8
      go_wp2
      first
      | exact ⟨⟨_,cnt1,_,g8,n8,c8,rfl,HR8,HG2,HO8,HOB8,HB8,by omega,by simp; omega⟩,by rw [hm8,hmr]; exact hlt⟩
      | (go_roundw
         case rel => exact ⟨_,cnt1,_,g8,n8,c8,rfl,HR8,HG2,HO8,HOB8,HB8,by omega,by simp; omega⟩
         case measure => rw [hm8,hmr]; exact hlt)
end
end Go.Proofs.YtblahkhniabhiaaGreatDoor
