/- Joined: IF2 IF3 IF4 IF5. -/
import Derived.Test.YtblahkhniabhiaaGreatDoorFA01
import Derived.Test.YtblahkhniabhiaaGreatDoorFA08
import Derived.Test.YtblahkhniabhiaaGreatDoorFA09
import Derived.Test.YtblahkhniabhiaaGreatDoorFRGF4
import Derived.Test.YtblahkhniabhiaaGreatDoorFAsE

namespace Go.Proofs.YtblahkhniabhiaaGreatDoor
open Go.RowKit
set_option linter.unusedVariables false
set_option linter.unusedSimpArgs false
set_option maxRecDepth 100000
section
open Go.RowKit Go.Shelf
structure TB (w : World) (vb : Nat) (v0 : Value) (rr : Loop) (t : List Nd) (G : Nat → Prop) (W : World) : Prop where
 B : Below w.heap.size w W
 vr : VarA W w.heap.size 26 #[.n0]
 ve : VarA W (w.heap.size + 1) 61 #[.nilIface]
 vl : VarA W (vb + 1) 29 #[v0]
 hD : W.heap[vb + 2]? = some (.deferred (some []))
 hL : W.heap[vb + 3]? = some (.loop rr)
 vt : ∃ x n c,∃ R : Nat → Prop,VarA W vb 26 #[.slice x n c] ∧ OwV W R (.slice x n c) (ndsDt t) ∧ ∀ b,R b → (w.heap.size + 2 ≤ b ∧ b < vb ∨ vb + 3 < b) ∧ b < W.heap.size ∧ ¬ G b
theorem TB.lt {w W : World} {vb : Nat} {v0 : Value} {rr : Loop} {t : List Nd} {G : Nat → Prop} (m : TB w vb v0 rr t G W) : vb + 3 < W.heap.size:=(Array.getElem?_eq_some_iff.1 m.hL).1
theorem TB.step {w W W' : World} {vb : Nat} {v0 : Value} {rr : Loop} {t : List Nd} {G : Nat → Prop} (m : TB w vb v0 rr t G W) (h : Below W.heap.size W W') : TB w vb v0 rr t G W':=by
 obtain ⟨x,n,c,R,h1,h2,h3⟩:=m.vt
 have hl:=m.lt
 exact ⟨m.B.trans (h.mono m.B.size),m.vr.step h,m.ve.step h,m.vl.step h,(h.block _ (by omega)).trans m.hD,(h.block _ (by omega)).trans m.hL,x,n,c,R,h1.step h,h2.step h,fun b hb => ⟨(h3 b hb).1,Nat.lt_of_lt_of_le (h3 b hb).2.1 h.size,(h3 b hb).2.2⟩⟩
theorem TB.turn {w W W' : World} {vb tb : Nat} {v0 : Value} {rr : Loop} {t : List Nd} {G : Nat → Prop} (m : TB w vb v0 rr t G W) (h : Turned (fun b => b = tb) W W') (hG : G tb) (ht : vb + 3 < tb) (hz : w.heap.size + 2 ≤ vb) : TB w vb v0 rr t G W':=by
 obtain ⟨x,n,c,R,h1,h2,h3⟩:=m.vt
 have hl:=m.lt
 exact ⟨Turned.below m.B h m.B.size (fun i hi => by omega),m.vr.turn h (by omega),m.ve.turn h (by omega),m.vl.turn h (by omega),(h.block _ (by omega) (by omega)).trans m.hD,(h.block _ (by omega) (by omega)).trans m.hL,x,n,c,R,h1.turn h (by omega),OwV.keep (h.keeps (fun b hb e => (h3 b hb).2.2 (e ▸ hG))) h2,fun b hb => ⟨(h3 b hb).1,Nat.lt_of_lt_of_le (h3 b hb).2.1 h.size,(h3 b hb).2.2⟩⟩
def YN (vb : Nat) (rr : Loop) : Prop:=∀ (x : Option Addr) (n c : Nat) (v : Value) (W : World),VarA W vb 26 #[v] → W.heap[vb + 3]? = some (.loop rr) →
 YieldAt Fence.wide 8 Tryz.prog (vb + 3) #[.agg #[.slice x n c],.nilIface] W fun e W' => e = .returned (.bool true) ∧ VarA W' vb 26 #[.slice x n c] ∧ W'.heap[vb + 3]? = some (.loop rr) ∧ Turned (fun b => b = vb ∨ b = vb + 3) W W'
def YE (w : World) (vb : Nat) (rr re : Loop) : Prop:=∀ (i : Int) (x : Option Addr) (n c : Nat) (W : World),VarA W vb 26 #[.slice x n c] → VarA W w.heap.size 26 #[.n0] → VarA W (w.heap.size + 1) 61 #[.nilIface] → W.heap[vb + 3]? = some (.loop rr) →
 YieldAt Fence.wide 8 Tryz.prog (vb + 3) #[.agg #[.n0],.iface 65 (.agg #[.i i])] W fun e W' => e = .returned (.bool false) ∧ VarA W' w.heap.size 26 #[.slice x n c] ∧ VarA W' (w.heap.size + 1) 61 #[.iface 65 (.agg #[.i i])] ∧ W'.heap[vb + 3]? = some (.loop re) ∧ Turned (fun b => b = w.heap.size ∨ b = w.heap.size + 1 ∨ b = vb + 3) W W'
def FinT (w : World) (vb : Nat) (v0 : Value) (rr : Loop) (res : List Nd × Int) (W : World) : Prop:=∃ t,res = (t,-1) ∧ TB w vb v0 rr t (fun _ => False) W
def StopT (w : World) (vb : Nat) (res : List Nd × Int) (W : World) : Prop:=
 ∃ x n c t i,∃ R : Nat → Prop,res = (t,i) ∧ VarA W w.heap.size 26 #[.slice x n c] ∧ VarA W (w.heap.size + 1) 61 #[.iface 65 (.agg #[.i i])] ∧ OwV W R (.slice x n c) (ndsDt t) ∧ (∀ b,R b → w.heap.size + 2 ≤ b ∧ b < W.heap.size ∧ b ≠ vb + 2 ∧ b ≠ vb + 3) ∧ Below w.heap.size w W ∧ W.heap[vb + 2]? = some (.deferred (some []))
theorem TB.stop {w W W' : World} {vb : Nat} {v0 : Value} {rr : Loop} {t : List Nd} {G : Nat → Prop} {i : Int} (m : TB w vb v0 rr t G W) (hz : w.heap.size + 2 ≤ vb) {x : Option Addr} {n c : Nat} {R : Nat → Prop} (o : OwV W R (.slice x n c) (ndsDt t)) (hR : ∀ b,R b → (w.heap.size + 2 ≤ b ∧ b < vb ∨ vb + 3 < b) ∧ b < W.heap.size ∧ ¬ G b)
  (v1 : VarA W' w.heap.size 26 #[.slice x n c]) (v2 : VarA W' (w.heap.size + 1) 61 #[.iface 65 (.agg #[.i i])]) (h : Turned (fun b => b = w.heap.size ∨ b = w.heap.size + 1 ∨ b = vb + 3) W W') : StopT w vb (t,i) W':=by
 have hl:=m.lt
 refine ⟨x,n,c,t,i,R,rfl,v1,v2,OwV.keep (h.keeps (fun b hb e => by have:=(hR b hb).1; omega)) o,fun b hb => ⟨by have:=(hR b hb).1; omega,Nat.lt_of_lt_of_le (hR b hb).2.1 h.size,by have:=(hR b hb).1; omega,by have:=(hR b hb).1; omega⟩,Turned.below m.B h m.B.size (fun i hi => by omega),(h.block _ (by omega) (by omega)).trans m.hD⟩
theorem TB.next {w W W' : World} {vb : Nat} {v0 : Value} {rr : Loop} {t t2 : List Nd} {G : Nat → Prop} (m : TB w vb v0 rr t G W) (hz : w.heap.size + 2 ≤ vb) {x : Option Addr} {n c : Nat} {R : Nat → Prop} (o : OwV W R (.slice x n c) (ndsDt t2)) (hR : ∀ b,R b → vb + 3 < b ∧ b < W.heap.size ∧ ¬ G b)
  (v1 : VarA W' vb 26 #[.slice x n c]) (hL : W'.heap[vb + 3]? = some (.loop rr)) (h : Turned (fun b => b = vb ∨ b = vb + 3) W W') : TB w vb v0 rr t2 G W':=by
 have hl:=m.lt
 exact ⟨Turned.below m.B h m.B.size (fun i hi => by omega),m.vr.turn h (by omega),m.ve.turn h (by omega),m.vl.turn h (by omega),(h.block _ (by omega) (by omega)).trans m.hD,hL,x,n,c,R,v1,OwV.keep (h.keeps (fun b hb e => by have:=(hR b hb).1; omega)) o,fun b hb => ⟨.inr (hR b hb).1,Nat.lt_of_lt_of_le (hR b hb).2.1 h.size,(hR b hb).2.2⟩⟩
end
section
open Go.RowKit Go.Shelf
theorem hideI {P : Prop} (h : P) : Hid P:=h
def TI (w : World) (vb tb : Nat) (v0 : Value) (rr : Loop) (l : List DdD) (res : List Nd × Int) (k : Nat) (W : World) : Prop:=
 ∃ t,TB w vb v0 rr t (fun b => b = tb) W ∧ (∃ x n c,VarA W tb 26 #[.slice x n c] ∧ RdV W (fun b => vb + 3 < b ∧ b < W.heap.size ∧ b ≠ tb) (.slice x n c) (ndsDt t)) ∧ szNds t ≤ 2097152 ∧ fol k t (l.drop k) = res
set_option maxHeartbeats 4000000 in
theorem trees_any (w : World) (vb : Nat) (a : Option Addr) (l : List DdD) (cap : Nat) (rr re : Loop) (S : Nat → Prop) (W0 : World) (r : RdV w S (.slice a l.length cap) (ddsDt l)) (hS : ∀ b,S b → b < w.heap.size) (hl : szDds l ≤ 2097152) (hin : ∀ k,k < l.length → HIn (l[k]?.getD dd0).rp.h ∧ HIn (l[k]?.getD dd0).op.to)
  (hz : w.heap.size + 2 ≤ vb) (h0 : TB w vb (.slice a l.length cap) rr [rootN] (fun _ => False) W0) (hY : YN vb rr) (hE : YE w vb rr re) :
  Calls Tryz.prog 66 #[.func (.yield (vb + 3)) #[] #[],.pointer (some ⟨vb + 1,0,none⟩)] W0 fun e W' => (∃ v,e = .returned v) ∧
   ((W'.heap[vb + 3]? = some (.loop rr) ∧ FinT w vb (.slice a l.length cap) rr (fol 0 [rootN] l) W') ∨ (W'.heap[vb + 3]? = some (.loop re) ∧ StopT w vb (fol 0 [rootN] l) W')):=by
 have HR : Hid (∀ W,Below w.heap.size w W → RdV W S (.slice a l.length cap) (ddsDt l)):=r.old
 have HD : Hid (ddsDt l = .rows 55 19 l.length (fun i j => ddCell (l[i]?.getD dd0) j)):=rfl
 have hnn : l.length ≤ 2097152:=by unfold szDds at hl; omega
 have HL:=hideI hl
 have HIN:=hideI hin
 have HYN:=hideI hY
 have HYE:=hideI hE
 obtain ⟨res,hres⟩ : ∃ q,fol 0 [rootN] l = q:=⟨_,rfl⟩
 have HRES : Hid (fol 0 [rootN] (l.drop 0) = res):=hres
 rw [hres]
 clear r hl hres hin hY hE
 rw [HD.out] at HR
 clear HD
 obtain ⟨n,hn⟩ : ∃ n,l.length = n:=⟨_,rfl⟩
 have HN:=hideI hn
 rw [hn] at hnn HR HIN h0 ⊢
 clear hn
 have hvl:=h0.lt
 have c0:=h0.vl.c 0 rfl
 have HST:=hideI h0
 have HRT : Hid (∀ W,_):=fun W => implRoot_any W
 clear h0
 go_enter Tryz.func66,Tryz.ntmps66
 go_wp2_with fail
 refine Calls.mono (HRT.out _) ?_
 rintro e w1 ⟨ra,rn,rcp,rfl,ho,hb⟩
 have hs1:=hb.size
 obtain ⟨tb,htb⟩ : ∃ b,w1.heap.size = b:=⟨_,rfl⟩
 have m1:=(HST.out.step hb).step (Below.newH (w:=w1) (.cells #[.slice ra rn rcp] 26))
 have c1:=m1.vl.c 0 rfl
 have HI : Hid (TI w vb tb (.slice a n cap) rr l res 0 (w1.alloc (.cells #[.slice ra rn rcp] 26))):=by
  obtain ⟨x,n',c,R,h1,h2,h3⟩:=(HST.out.step hb).vt
  refine ⟨[rootN],⟨m1.B,m1.vr,m1.ve,m1.vl,m1.hD,m1.hL,x,n',c,R,h1.alloc _,h2.step (Below.newH _),fun b hb => ⟨(h3 b hb).1,Nat.lt_of_lt_of_le (h3 b hb).2.1 (Below.newH (w:=w1) _).size,fun e => by have:=(h3 b hb).2.1; omega⟩⟩,⟨ra,rn,rcp,by rw [← htb]; exact VarA.new w1 _ _,?_⟩,by decide,HRES.out⟩
  exact RdV.mono (fun b h => ⟨by omega,by have:=h.2; simp; omega,by have:=h.2; omega⟩) ((OwV.rd ho).step (Below.newH (w:=w1) _))
 have htl : vb + 3 < tb:=by omega
 clear ho hb HRES m1 HST c0
 go_wp2
 try simp only [htb]
 clear htb c1
 go_loopw [11] (fun i wr => ∃ k : Nat,k ≤ n ∧ i = .i k ∧ Hid (TI w vb tb (.slice a n cap) rr l res k wr)) (fun i _ => n - (intOf i).toNat)
 case atStart => exact ⟨0,Nat.zero_le _,rfl,HI⟩
 case round =>
  clear HI
  obtain ⟨k,hk,rfl,HI⟩:=hrel
  obtain ⟨t,hTB,⟨xa,xn,xc,vT,hrt⟩,hst,hfl⟩:=HI.out
  by_cases hlt : k < n
  case neg =>
   have hkn : k = n:=by omega
   subst hkn
   have hre : (t,(-1 : Int)) = res:=by rw [← hfl]; exact (fol_end (by rw [HN.out]; exact Nat.le_refl _)).symm
   obtain ⟨x,n',c,R,h1,h2,h3⟩:=hTB.vt
   have HF : Hid (FinT w vb (.slice a k cap) rr res wr):=⟨t,hre.symm,hTB.B,hTB.vr,hTB.ve,hTB.vl,hTB.hD,hTB.hL,x,n',c,R,h1,h2,fun b hb => ⟨(h3 b hb).1,(h3 b hb).2.1,fun e => e⟩⟩
   have HLL:=hideI hTB.hL
   clear hTB vT hrt hfl hre h1 h2 h3 HI
   go_wp2
   go_end0
   exact ⟨⟨_,rfl⟩,.inl ⟨HLL.out,HF.out⟩⟩
  have hbel:=hTB.B
  obtain ⟨b,off,rfl,hbl,_,hx⟩:=RdV.at (HR.out wr hbel) hlt
  obtain ⟨e,he⟩ : ∃ e,l[k]?.getD dd0 = e:=⟨_,rfl⟩
  have hin:=HIN.out k hlt
  rw [he] at hx hin
  have hze : szDd e ≤ szDds l:=by rw [← he]; exact szDds_at l k
  have HE:=hideI he
  clear he
  have HFR0 : Hid (∀ x y z W S,RdD_ W S e x y z → _):=fun x y z W S q => fresh_any x y z e S W q
  have hfin:=frD_in hin
  have HDF:=hideI (dDo_frD t e)
  obtain ⟨tm,cl,rq,⟨kd,⟨p,q,d⟩,nm,⟨p2,q2,d2⟩,asn,ov⟩,⟨cd,⟨r0,r1,r2⟩,rv,rls⟩⟩:=e
  obtain ⟨x7,x11,x18,hrg,hr7,hr11,hr18⟩:=ddAt hx
  clear hx hin
  have hzz : nm.length + asn.length + szEns rls ≤ 2097152:=Nat.le_trans hze HL.out
  obtain ⟨ya,yc,rfl⟩:=hr7.sliceB
  obtain ⟨za,zc,rfl⟩:=hr11.sliceB
  obtain ⟨ea,ec,rfl,_⟩:=RdV.sliced hr18
  have HRO : Hid (∀ W : World,Below wr.heap.size wr W → RdV W (fun b => b < W.heap.size) (.slice ya nm.length yc) (.bytes nm) ∧ RdV W (fun b => b < W.heap.size) (.slice za asn.length zc) (.bytes asn) ∧ RdV W (fun b => b < W.heap.size) (.slice ea rls.length ec) (ensDt rls)):=fun W hW => by
   have:=fun b hb => Nat.lt_of_lt_of_le (hS b hb) (Nat.le_trans hbel.size hW.size)
   exact ⟨RdV.mono this (hr7.step hW),RdV.mono this (hr11.step hW),RdV.mono this (hr18.step hW)⟩
  obtain ⟨⟨pf,qf,df⟩,hfr⟩ : ∃ h,frD ⟨tm,cl,rq,⟨kd,(p,q,d),nm,(p2,q2,d2),asn,ov⟩,⟨cd,(r0,r1,r2),rv,rls⟩⟩ = h:=⟨_,rfl⟩
  obtain ⟨⟨rl,⟨rcode,⟨rh0,rh1,rh2⟩,rval,rlist⟩⟩,hdo⟩ : ∃ x,dDo t ⟨tm,cl,rq,⟨kd,(p,q,d),nm,(p2,q2,d2),asn,ov⟩,⟨cd,(r0,r1,r2),rv,rls⟩⟩ = x:=⟨_,rfl⟩
  have hdo2 : dO t ⟨kd,(p,q,d),nm,(p2,q2,d2),asn,ov⟩ (pf,qf,df) = (rl,⟨rcode,(rh0,rh1,rh2),rval,rlist⟩):=by rw [← hdo,← hfr]; exact HDF.out
  rw [hfr] at HFR0 hfin
  have hsz:=do_sizes hst ⟨kd,(p,q,d),nm,(p2,q2,d2),asn,ov⟩ (pf,qf,df)
  rw [hdo2] at hsz
  dsimp only at hsz
  have HI8 : Hid (∀ x y z W S,RdV W S x (ndsDt t) → RdV W S y (.bytes nm) → RdV W S z (.bytes asn) → (∀ b,S b → b < W.heap.size) → Calls Tryz.prog 67 #[.agg #[x],opV ⟨kd,(p,q,d),nm,(p2,q2,d2),asn,ov⟩ y z,Hd.v (pf,qf,df)] W (DoI W (rl,⟨rcode,(rh0,rh1,rh2),rval,rlist⟩))):=fun x y z W S a1 a2 a3 a4 => by
   have h:=implDo_any x y z t ⟨kd,(p,q,d),nm,(p2,q2,d2),asn,ov⟩ (pf,qf,df) S W a1 a2 a3 a4 hst (by show nm.length ≤ _; omega) (by show asn.length ≤ _; omega) hfin (fun h => do_ag hst _ _ h)
   rw [hdo2] at h
   exact h
  have HFB : Hid (folB t ⟨tm,cl,rq,⟨kd,(p,q,d),nm,(p2,q2,d2),asn,ov⟩,⟨cd,(r0,r1,r2),rv,rls⟩⟩ = (eqRp ⟨rcode,(rh0,rh1,rh2),rval,rlist⟩ ⟨cd,(r0,r1,r2),rv,rls⟩ && !decide (rcode = 11))):=by show _ = _; unfold folB; rw [hdo]
  have HNX : Hid ((dDo t ⟨tm,cl,rq,⟨kd,(p,q,d),nm,(p2,q2,d2),asn,ov⟩,⟨cd,(r0,r1,r2),rv,rls⟩⟩).1 = rl):=by show _ = _; rw [hdo]
  have HSZ:=hideI hsz
  have HZZ:=hideI hzz
  have HRG : Hid (wr.rangeAt b (off + k * 19) [.i tm,.i cl,.i rq,.i kd,.i p,.i q,.bool d,.slice ya nm.length yc,.i p2,.i q2,.bool d2,.slice za asn.length zc,.i ov,.i cd,.i r0,.i r1,.bool r2,.i rv,.slice ea rls.length ec]):=hrg
  have HTB:=hideI hTB
  have HVT : Hid (VarA wr tb 26 #[.slice xa xn xc]):=vT
  have HRT2 : Hid (RdV wr (fun b => vb + 3 < b ∧ b < wr.heap.size ∧ b ≠ tb) (.slice xa xn xc) (ndsDt t)):=hrt
  have HFL:=hideI hfl
  have HBL : Hid (Below w.heap.size w wr):=hbel
  clear hrg hr7 hr11 hr18 HI hfr hdo hdo2 hsz hzz hze hTB vT hrt hfl hbel hfin HDF
  repeat (first | ((with_reducible refine guardLoad (ty:=55) ?_); refine wpList_loadR HRG.out rfl Tryz.underlying55 rfl (by kernel_rfl) ?_) | ((with_reducible refine gS 55 ?_); refine sF (VarA.new wr _ _) rfl rfl (by kernel_rfl) rfl rfl ?_; intro wx vX tX; have HVX : Hid (VarA wx wr.heap.size 55 #[.i tm,.i cl,.i rq,.i kd,.i p,.i q,.bool d,.slice ya nm.length yc,.i p2,.i q2,.bool d2,.slice za asn.length zc,.i ov,.i cd,.i r0,.i r1,.bool r2,.i rv,.slice ea rls.length ec]):=vX; have HTX:=hideI tX; clear vX tX) | go_values | go_skip | go_guarded | go_step | go_upon)
  simp only [Act.put]
  have hbx : Below wr.heap.size wr wx:=Turned.below (Below.newH _) HTX.out (by simp) (fun i hi => by omega)
  have hup : ∀ W,Below wx.heap.size wx W → Below wr.heap.size wr W:=fun W hW => hbx.trans (hW.mono hbx.size)
  have HFR : Hid (∀ W : World,Below wx.heap.size wx W → Calls Tryz.prog 68 #[.agg #[.i tm,.i cl,.i rq,.i kd,.i p,.i q,.bool d,.slice ya nm.length yc,.i p2,.i q2,.bool d2,.slice za asn.length zc,.i ov,.i cd,.i r0,.i r1,.bool r2,.i rv,.slice ea rls.length ec]] W fun e w' => e = .returned (.agg #[.i pf,.i qf,.bool df]) ∧ Below W.heap.size W w'):=fun W hW => HFR0.out _ _ _ W _ (HRO.out W (hup W hW))
  refine regF4 (xa:=xa) (xn:=xn) (xc:=xc) (ya:=ya) (yn:=nm.length) (yc:=yc) (za:=za) (zn:=asn.length) (zc:=zc) HFR HI8 ?_ ?_ ?_
  ·intro W hW
   have vT:=HVT.out.step (hup W hW)
   have vX:=HVX.out.step hW
   exact ⟨vT.c 0 rfl,vX.c 3 rfl,vX.c 4 rfl,vX.c 5 rfl,vX.c 6 rfl,vX.c 7 rfl,vX.c 8 rfl,vX.c 9 rfl,vX.c 10 rfl,vX.c 11 rfl,vX.c 12 rfl,vX⟩
  ·intro W hW
   have hB2:=hup W hW
   exact ⟨RdV.mono (fun b hb => by have:=hB2.size; omega) (HRT2.out.step hB2),(HRO.out W hB2).1,(HRO.out W hB2).2.1⟩
  intro u17 u18 u19 u20 C D ta tn tc sa sn sc wz HLF
  dsimp only
  have hBz:=hup wz HLF.out.1
  have HBZ : Hid (Below wr.heap.size wr wz):=hBz
  have HXS : Hid (wr.heap.size < wx.heap.size ∧ wx.heap.size ≤ wz.heap.size):=⟨HVX.out.lt,HLF.out.1.size⟩
  have HSR : Hid (∀ W,Below wz.heap.size wz W → Calls Tryz.prog 69 #[.agg #[.i rcode,.i rh0,.i rh1,.bool rh2,.i rval,.slice sa sn sc],.agg #[.i cd,.i r0,.i r1,.bool r2,.i rv,.slice ea rls.length ec]] W fun e w' => e = .returned (.bool (eqRp ⟨rcode,(rh0,rh1,rh2),rval,rlist⟩ ⟨cd,(r0,r1,r2),rv,rls⟩)) ∧ Below W.heap.size W w'):=fun W hW => sameReply_any (.slice sa sn sc) (.slice ea rls.length ec) ⟨rcode,(rh0,rh1,rh2),rval,rlist⟩ ⟨cd,(r0,r1,r2),rv,rls⟩ _ _ W (HLF.out.2.2.2.2.2.y.step hW) (HRO.out W (hBz.trans (hW.mono hBz.size))).2.2 (by have:=HSZ.out.2; show szEns rlist ≤ _; omega)
  obtain ⟨eb,heb⟩ : ∃ x,eqRp ⟨rcode,(rh0,rh1,rh2),rval,rlist⟩ ⟨cd,(r0,r1,r2),rv,rls⟩ = x:=⟨_,rfl⟩
  rw [heb] at HSR HFB
  have vX:=HVX.out.step HLF.out.1
  have j0 : wz.cell? ⟨wr.heap.size,13,none⟩ = some (.i cd):=vX.c 13 rfl
  have j1 : wz.cell? ⟨wr.heap.size,14,none⟩ = some (.i r0):=vX.c 14 rfl
  have j2 : wz.cell? ⟨wr.heap.size,15,none⟩ = some (.i r1):=vX.c 15 rfl
  have j3 : wz.cell? ⟨wr.heap.size,16,none⟩ = some (.bool r2):=vX.c 16 rfl
  have j4 : wz.cell? ⟨wr.heap.size,17,none⟩ = some (.i rv):=vX.c 17 rfl
  have j5 : wz.cell? ⟨wr.heap.size,18,none⟩ = some (.slice ea rls.length ec):=vX.c 18 rfl
  obtain ⟨i0,i1,i2,i3,i4,i5⟩:=HLF.out.2.2.2.2.1.l6
  clear hBz vX heb hbx HFR HI8 HFR0 HRG HVX HTX hup
  by_cases h11 : rcode = 11
  case' pos =>
   have hfn:=hideI (fol_stop (by rw [HN.out]; exact hlt) HE.out (HFB.out.trans (by simp [h11])))
   subst h11
   go_upto_region 6 with fail
   generalize hgz : wz = w5
   have hz5 : Below wz.heap.size wz w5:=by rw [← hgz]; exact Below.refl _ _
   clear hgz
  case' neg =>
   cases eb
   case' false =>
    have hfn:=hideI (fol_stop (by rw [HN.out]; exact hlt) HE.out (HFB.out.trans (by simp)))
    go_upto_region 6 with (go_at_call 69; refine Calls.mono (HSR.out _ (Below.refl _ _)) ?_; rintro e w5 ⟨rfl,hz5⟩)
   case' true =>
    have hfn:=hideI (fol_next (by rw [HN.out]; exact hlt) HE.out (HFB.out.trans (by simp [h11])))
    go_upto_region 7 with (go_at_call 69; refine Calls.mono (HSR.out _ (Below.refl _ _)) ?_; rintro e w5 ⟨rfl,hz5⟩)
  all_goals
   have hW5 : Below wr.heap.size wr w5:=HBZ.out.trans (hz5.mono HBZ.out.size)
   have m5:=HTB.out.step hW5
   obtain ⟨x5,n5,c5,R5,v5,o5,h5⟩:=m5.vt
   have HM5:=hideI m5
   have HO5:=hideI (And.intro o5 h5)
   have htr:=HVT.out.lt
   clear j0 j1 j2 j3 j4 j5 i0 i1 i2 i3 i4 i5
  ·have vT5:=HVT.out.step hW5
   have vC5:=HLF.out.2.2.1.step hz5
   have hC5:=HLF.out.2.1
   obtain ⟨R1,R2,o1,_,_,hR⟩:=HLF.out.2.2.2.2.2
   have oR:=o1.step hz5
   have hz5s:=hz5.size
   obtain ⟨yf,yt,ya5,yb,hyr,HRD⟩:=HYN.out ta tn tc (.slice x5 n5 c5) w5 v5 m5.hL
   have HRND:=hideI HRD
   have q0:=vC5.c 0 rfl
   have HV:=hideI (And.intro vT5 vC5)
   have HOR : Hid (OwV w5 R1 (.slice ta tn tc) (ndsDt rl) ∧ ∀ c,R1 c → wx.heap.size ≤ c ∧ c < w5.heap.size):=⟨oR,fun c hc => ⟨(hR c (.inl hc)).1,Nat.lt_of_lt_of_le (hR c (.inl hc)).2.1 hz5s⟩⟩
   clear v5 o5 h5 m5 vT5 vC5 o1 oR HRD hR hz5 hW5 HSR
   refine (wpIn_wide (n:=9)).1 ?_
   gi_wp2_with fail
   refine RoundIn.mono HRND.out ?_
   rintro e W6 ⟨rfl,v6,hL6,t6⟩
   have hxs:=HXS.out
   have m6:=HM5.out.next hz HOR.out.1 (fun b hb => ⟨by have:=(HOR.out.2 b hb).1; omega,(HOR.out.2 b hb).2,by have:=(HOR.out.2 b hb).1; show ¬ b = tb; omega⟩) v6 hL6 t6
   have vT6:=HV.out.1.turn t6 (by omega)
   have vC6:=HV.out.2.turn t6 (by omega)
   have o6:=OwV.keep (t6.keeps (fun b hb e => by have:=(HOR.out.2 b hb).1; omega)) HOR.out.1
   have s6:=t6.size
   have d0:=vT6.c 0 rfl
   have d1:=vC6.c 0 rfl
   have dfz:=vT6.f 0
   have HV6:=hideI vT6
   have HM6:=hideI m6
   have HO6:=hideI o6
   clear v6 hL6 t6 m6 vT6 vC6 o6 q0
   gi_wp2
   go_wp2
   refine ⟨⟨k + 1,by omega,by go_num,?_⟩,by simp [intOf]; omega⟩
   have tR : Turned (fun b => b = tb) W6 (W6.setCell ⟨tb,0,none⟩ (.slice ta tn tc)):=(Turned.refl _ W6).set _ _ rfl
   refine ⟨rl,HM6.out.turn tR rfl htl hz,⟨ta,tn,tc,HV6.out.set 0 _,?_⟩,by have:=HSZ.out.1; omega,by rw [← HFL.out,hfn.out,HNX.out]⟩
   have h2:=RdV.keep (tR.keeps (fun b hb e => by have:=(HOR.out.2 b hb).1; omega)) (OwV.rd HO6.out)
   exact RdV.mono (fun b hb => ⟨by have:=(HOR.out.2 b hb).1; omega,by have:=(HOR.out.2 b hb).2; have:=tR.size; omega,by have:=(HOR.out.2 b hb).1; omega⟩) h2
  all_goals
   obtain ⟨yf,yt,ya5,yb,hyr,HRD⟩:=HYE.out k x5 n5 c5 w5 v5 m5.vr m5.ve m5.hL
   have HRND:=hideI HRD
   clear v5 o5 h5 m5 HRD hz5 hW5 HSR
   refine (wpIn_wide (n:=9)).1 ?_
   gi_wp2_with fail
   refine RoundIn.mono HRND.out ?_
   rintro e W6 ⟨rfl,v6,u6,hL6,t6⟩
   have HV6:=hideI (And.intro v6 (And.intro u6 (And.intro hL6 t6)))
   clear v6 u6 hL6 t6
   gi_wp2
   go_wp2
   refine bodyPost_ret (results_none rfl _ _ _) rfl ?_
   have hre:=hfn.out.symm.trans HFL.out
   exact ⟨⟨_,rfl⟩,.inr ⟨HV6.out.2.2.1,by rw [← hre]; exact HM5.out.stop hz HO5.out.1 HO5.out.2 HV6.out.1 HV6.out.2.1 HV6.out.2.2.2⟩⟩
end
section
open Go.RowKit Go.Shelf
attribute [local go_sem] Oper.semAt_some

theorem turned_put (w : World) (L : Nat) (o : Obj) : Turned (fun b => b = L) w (w.putObj L o):=⟨rfl,rfl,rfl,Nat.le_of_eq World.putObj_size.symm,fun k _ hk => World.putObj_heap_other hk⟩
theorem behind_close {w W7 : World} {vb : Nat} {x : Option Addr} {n c : Nat} {ev : Value} {R : Nat → Prop} {t : List Nd} (hz : w.heap.size + 2 ≤ vb) (u1 : VarA W7 w.heap.size 26 #[.slice x n c]) (u2 : VarA W7 (w.heap.size + 1) 61 #[ev]) (uK : W7.heap[vb + 2]? = some (.deferred (some []))) (uB : Below w.heap.size w W7) (o : OwV W7 R (.slice x n c) (ndsDt t)) (hR : ∀ b,R b → w.heap.size ≤ b ∧ b < W7.heap.size ∧ b ≠ vb + 2) :
  VarA (W7.putObj (vb + 2) (.deferred none)) w.heap.size 26 #[.slice x n c] ∧ VarA (W7.putObj (vb + 2) (.deferred none)) (w.heap.size + 1) 61 #[ev] ∧ OwV (W7.putObj (vb + 2) (.deferred none)) R (.slice x n c) (ndsDt t) ∧ (∀ b,R b → w.heap.size ≤ b ∧ b < (W7.putObj (vb + 2) (.deferred none)).heap.size) ∧ Below w.heap.size w (W7.putObj (vb + 2) (.deferred none)):=by
 have tp:=turned_put W7 (vb + 2) (.deferred none)
 exact ⟨u1.turn tp (by omega),u2.turn tp (by omega),OwV.keep (tp.keeps (fun b hb e => (hR b hb).2.2 e)) o,fun b hb => ⟨(hR b hb).1,Nat.lt_of_lt_of_le (hR b hb).2.1 tp.size⟩,Turned.below uB tp uB.size (fun i hi => by omega)⟩
def FinT2 (w : World) (vb : Nat) (v0 : Value) (res : List Nd × Int) (W : World) : Prop:=∃ rr,FinT w vb v0 rr res W
set_option maxHeartbeats 4000000 in
theorem behind_any (v : Value) (l : List DdD) (S : Nat → Prop) (w : World) (r : RdV w S v (ddsDt l)) (hS : ∀ b,S b → b < w.heap.size) (hl : szDds l ≤ 2097152) (hin : ∀ k,k < l.length → HIn (l[k]?.getD dd0).rp.h ∧ HIn (l[k]?.getD dd0).op.to) :
  Calls Tryz.prog 18 #[v] w fun e w' => ∃ x n c ev,∃ R : Nat → Prop,e = .returned (.tuple #[.agg #[.slice x n c],ev]) ∧ OwV w' R (.slice x n c) (ndsDt (fol 0 [rootN] l).1) ∧ (∀ b,R b → w.heap.size ≤ b ∧ b < w'.heap.size) ∧ Below w.heap.size w w' ∧
   (ev = .nilIface ∧ (fol 0 [rootN] l).2 = -1 ∨ ev = .iface 65 (.agg #[.i (fol 0 [rootN] l).2])):=by
 obtain ⟨a,cap,rfl,_⟩:=RdV.sliced r
 obtain ⟨n,hn⟩ : ∃ n,l.length = n:=⟨_,rfl⟩
 have HTR : Hid (∀ vb rr re W0,w.heap.size + 2 ≤ vb → TB w vb (.slice a n cap) rr [rootN] (fun _ => False) W0 → YN vb rr → YE w vb rr re → Calls Tryz.prog 66 #[.func (.yield (vb + 3)) #[] #[],.pointer (some ⟨vb + 1,0,none⟩)] W0 fun e W' => (∃ v,e = .returned v) ∧
   ((W'.heap[vb + 3]? = some (.loop rr) ∧ FinT w vb (.slice a n cap) rr (fol 0 [rootN] l) W') ∨ (W'.heap[vb + 3]? = some (.loop re) ∧ StopT w vb (fol 0 [rootN] l) W'))):=fun vb rr re W0 q1 q2 q3 q4 => by
  have h:=trees_any w vb a l cap rr re S W0 r hS hl hin q1 (by rw [hn]; exact q2) q3 q4
  rw [hn] at h
  exact h
 rw [hn]
 have HRT : Hid (∀ W,_):=fun W => implRoot_any W
 clear r hS hl hin hn
 generalize fol 0 [rootN] l = res at HTR ⊢
 refine (callsIn_wide (n:=9)).1 ?_
 refine callsIn_of_wp_marks Tryz.func18 rfl trivial ?_ rfl
 simp only [Tryz.ntmps18,List.size_toArray,List.length_cons,List.length_nil,Nat.reduceAdd,Nat.reduceSub,Array.replicate_succ,Array.replicate_zero,List.push_toArray,List.append_toArray,List.nil_append,List.cons_append]
 refine wpIn_wide.2 ?_
 go_wp2_with (first | (go_at_call 37; refine Calls.mono (HRT.out _) ?_; rintro e w2 ⟨ra,rn,rc,rfl,o2,b2⟩) | (go_at_call 38; refine Calls.mono (treesOf_any _ _ _ _) ?_; rintro e w3 ⟨rfl,rfl⟩))
 obtain ⟨w0,hw0⟩ : ∃ W,W = (w2.alloc (.cells #[.slice ra rn rc] 26)).alloc (.cells #[.slice a n cap] 29):=⟨_,rfl⟩
 have z2:=b2.size
 simp only [World.size_alloc] at z2
 have B2 : Below w.heap.size w w2:=(((Below.refl _ _).alloc (Nat.le_refl _) _).alloc (by simp) _).trans (b2.mono (by simp; omega))
 have b20 : Below w2.heap.size w2 w0:=by rw [hw0]; exact Below.newH2 _ _
 obtain ⟨vb,hvb⟩ : ∃ b,b = w2.heap.size:=⟨_,rfl⟩
 have z0 : w0.heap.size = vb + 2:=by rw [hw0,hvb]; simp
 have HB0 : Hid (Below w.heap.size w w0):=B2.trans (b20.mono B2.size)
 have HV2 : Hid (VarA w0 w.heap.size 26 #[.n0]):=(((VarA.new w _ _).alloc _).step b2).step b20
 have HV3 : Hid (VarA w0 (w.heap.size + 1) 61 #[.nilIface]):=((by simpa using VarA.new (w.alloc (.cells #[.n0] 26)) 61 #[.nilIface] : VarA _ (w.heap.size + 1) _ _).step b2).step b20
 have HV4 : Hid (VarA w0 vb 26 #[.slice ra rn rc]):=by rw [hw0,hvb]; exact (VarA.new w2 _ _).alloc _
 have HV5 : Hid (VarA w0 (vb + 1) 29 #[.slice a n cap]):=by show VarA _ _ _ _; rw [hw0,hvb]; simpa using VarA.new (w2.alloc (.cells #[.slice ra rn rc] 26)) 29 #[.slice a n cap]
 have HR : Hid (OwV w0 (fun b => w.heap.size + 2 ≤ b ∧ b < vb) (.slice ra rn rc) (ndsDt [rootN])):=OwV.mono (fun b hb => by simp only [World.size_alloc] at hb; exact ⟨by omega,by omega⟩) (OwV.step o2 b20)
 rw [← hw0,← hvb]
 have hz : w.heap.size + 2 ≤ vb:=by omega
 clear o2 b2 B2 b20 hw0 hvb z2
 refine range_st2 (gf:=66) (lb:=#[.pointer (some ⟨vb + 1,0,none⟩)]) rfl (enters_of Tryz.func66 (by kernel_rfl) rfl) (FinT2 w vb (.slice a n cap) res) (StopT w vb res) ?_ ?_ ?_
 ·intro fn
  rw [z0]
  generalize hr : recOf _ _ _ _ _ _ _ = rr
  generalize hre : recEnd _ _ _ _ _ _ = re
  show Calls Tryz.prog 66 #[.func (.yield (vb + 3)) #[] #[],.pointer (some ⟨vb + 1,0,none⟩)] _ _
  have ba : Below w0.heap.size w0 ((w0.alloc (.deferred (some []))).alloc (.loop rr)):=Below.newH2 _ _
  refine Calls.mono (HTR.out vb rr re _ hz ?tb ?yn ?ye) ?_
  case tb =>
   refine ⟨HB0.out.trans (ba.mono HB0.out.size),HV2.out.step ba,HV3.out.step ba,HV5.out.step ba,?_,?_,ra,rn,rc,_,HV4.out.step ba,HR.out.step ba,fun b hb => ⟨.inl hb,by simp; omega,fun e => e⟩⟩
   ·rw [Below.heap_alloc _ _ _ (by simp; omega),← z0]; exact World.alloc_heap_new _ _
   ·have:=World.alloc_heap_new (w0.alloc (.deferred (some []))) (.loop rr)
    rw [World.size_alloc,z0] at this; exact this
  case yn =>
   clear ba HTR HRT HB0 HV2 HV3 HV4 HV5 HR
   intro x n' c' v W hv hLr
   have hLlt:=(Array.getElem?_eq_some_iff.1 hLr).1
   have bA : Below W.heap.size W (W.alloc (.cells #[.slice x n' c'] 26)):=Below.newH _
   have HPO : Hid (∀ (o : Obj) (W' : World),W' = ((W.alloc (.cells #[.slice x n' c'] 26)).putObj (vb + 3) o) → VarA W' vb 26 #[v] ∧ VarA W' W.heap.size 26 #[.slice x n' c'] ∧ W'.heap[vb + 3]? = some o ∧ Turned (fun b => b = vb ∨ b = vb + 3) W W'):=fun o W' e => by
    subst e
    have tp:=turned_put (W.alloc (.cells #[.slice x n' c'] 26)) (vb + 3) o
    exact ⟨(hv.step bA).turn tp (by omega),(VarA.new W _ _).turn tp (by omega),World.putObj_heap_same (by simp; omega),(Turned.ofBelow bA).trans (tp.wide (fun k e => .inr e))⟩
   rw [← hr] at hLr ⊢
   clear hr hre
   refine round_st3 (W₁:=W.alloc (.cells #[.slice x n' c'] 26)) hLr rfl { tmps:=#[.slice a n cap,undef,.pointer (some ⟨w.heap.size,0,none⟩),.pointer (some ⟨w.heap.size + 1,0,none⟩),.pointer (some ⟨vb,0,none⟩),.pointer (some ⟨W.heap.size,0,none⟩),.nilIface,.agg #[.slice ra rn rc],.slice a n cap,.func (.func 66) #[] #[.pointer (some ⟨vb + 1,0,none⟩)],.agg #[.slice x n' c'],.nilIface,undef,undef,undef,undef,undef,undef],defers:=[] } ((bA.block _ hLlt).trans hLr) ?_ ?_
   ·intro K hK
    gi_wp2
    exact hK
   ·generalize hbz : recOf _ _ _ _ _ _ .busy = rb
    generalize hrd : recOf _ _ _ _ _ _ .ready = rd
    obtain ⟨W2,hW2⟩ : ∃ W2,W2 = (W.alloc (.cells #[.slice x n' c'] 26)).putObj (vb + 3) (.loop rb):=⟨_,rfl⟩
    obtain ⟨p1,p2,p3,p4⟩:=HPO.out _ _ hW2
    rw [← hW2]
    have d1:=p2.c 0 rfl
    have d0:=p1.c 0 rfl
    have dfz:=p1.f 0
    have HP:=hideI (And.intro p1 (And.intro p3 p4))
    clear p1 p2 p3 p4 hv bA hW2 hLr hbz hrd hLlt HPO
    gi_wp2
    have tS : Turned (fun b => b = vb) W2 (W2.setCell ⟨vb,0,none⟩ (.slice x n' c')):=(Turned.refl _ W2).set _ _ rfl
    have tP:=turned_put (W2.setCell ⟨vb,0,none⟩ (.slice x n' c')) (vb + 3) (.loop rd)
    have hlt2:=(Array.getElem?_eq_some_iff.1 HP.out.2.1).1
    refine ⟨(tS.block _ hlt2 (by omega)).trans HP.out.2.1,?_,?_,?_⟩
    ·exact (HP.out.1.set 0 _).turn tP (by omega)
    ·exact World.putObj_heap_same (by simp; omega)
    ·exact HP.out.2.2.trans ((tS.wide (fun k e => .inl e)).trans (tP.wide (fun k e => .inr e)))
  case ye =>
   clear ba HTR HRT HB0 HV2 HV3 HV4 HV5 HR
   intro i x n' c' W hv hv2 hv3 hLr
   have hLlt:=(Array.getElem?_eq_some_iff.1 hLr).1
   have bA : Below W.heap.size W (W.alloc (.cells #[.n0] 26)):=Below.newH _
   have HPO : Hid (∀ (o : Obj) (W' : World),W' = ((W.alloc (.cells #[.n0] 26)).putObj (vb + 3) o) → VarA W' vb 26 #[.slice x n' c'] ∧ VarA W' w.heap.size 26 #[.n0] ∧ VarA W' (w.heap.size + 1) 61 #[.nilIface] ∧ W'.heap[vb + 3]? = some o ∧ Turned (fun b => b = w.heap.size ∨ b = w.heap.size + 1 ∨ b = vb + 3) W W'):=fun o W' e => by
    subst e
    have tp:=turned_put (W.alloc (.cells #[.n0] 26)) (vb + 3) o
    exact ⟨(hv.step bA).turn tp (by omega),(hv2.step bA).turn tp (by omega),(hv3.step bA).turn tp (by omega),World.putObj_heap_same (by simp; omega),(Turned.ofBelow bA).trans (tp.wide (fun k e => .inr (.inr e)))⟩
   rw [← hr] at hLr
   rw [← hre]
   clear hr hre
   refine round_st3 (W₁:=W.alloc (.cells #[.n0] 26)) hLr rfl { tmps:=#[.slice a n cap,undef,.pointer (some ⟨w.heap.size,0,none⟩),.pointer (some ⟨w.heap.size + 1,0,none⟩),.pointer (some ⟨vb,0,none⟩),.pointer (some ⟨W.heap.size,0,none⟩),.iface 65 (.agg #[.i i]),.agg #[.slice ra rn rc],.slice a n cap,.func (.func 66) #[] #[.pointer (some ⟨vb + 1,0,none⟩)],.agg #[.n0],.iface 65 (.agg #[.i i]),undef,undef,undef,undef,undef,undef],defers:=[] } ((bA.block _ hLlt).trans hLr) ?_ ?_
   ·intro K hK
    gi_wp2
    exact hK
   ·generalize hbz : recOf _ _ _ _ _ _ .busy = rb
    generalize hrd : recOf _ _ _ _ _ _ .ready = rd
    generalize hrn : recEnd _ _ _ _ _ _ = rn
    obtain ⟨W2,hW2⟩ : ∃ W2,W2 = (W.alloc (.cells #[.n0] 26)).putObj (vb + 3) (.loop rb):=⟨_,rfl⟩
    obtain ⟨p1,p2,p3,p4,p5⟩:=HPO.out _ _ hW2
    rw [← hW2]
    have d0:=p1.c 0 rfl
    have d2:=p2.c 0 rfl
    have d3:=p3.c 0 rfl
    have f2:=p2.f 0
    have f3:=p3.f 0
    have HP:=hideI (And.intro p2 (And.intro p3 (And.intro p4 p5)))
    clear p1 p2 p3 p4 p5 hv hv2 hv3 bA hW2 hLr hbz hrd hrn hLlt HPO
    gi_wp2
    have tS : Turned (fun b => b = w.heap.size ∨ b = w.heap.size + 1) W2 ((W2.setCell ⟨w.heap.size,0,none⟩ (.slice x n' c')).setCell ⟨w.heap.size + 1,0,none⟩ (.iface 65 (.agg #[.i i]))):=((Turned.refl _ W2).set _ _ (.inl rfl)).set _ _ (.inr rfl)
    have tP:=turned_put ((W2.setCell ⟨w.heap.size,0,none⟩ (.slice x n' c')).setCell ⟨w.heap.size + 1,0,none⟩ (.iface 65 (.agg #[.i i]))) (vb + 3) (.loop rn)
    have hlt2:=(Array.getElem?_eq_some_iff.1 HP.out.2.2.1).1
    refine ⟨(tS.block _ hlt2 (by omega)).trans HP.out.2.2.1,?_,?_,?_,?_⟩
    ·exact ((HP.out.1.set 0 _).aside (by show w.heap.size ≠ w.heap.size + 1; omega) _).turn tP (by omega)
    ·exact ((HP.out.2.1.aside (by show w.heap.size + 1 ≠ w.heap.size; omega) _).set 0 _).turn tP (by omega)
    ·exact World.putObj_heap_same (by simp; omega)
    ·exact HP.out.2.2.2.trans ((tS.wide (fun k e => e.elim .inl (fun e => .inr (.inl e)))).trans (tP.wide (fun k e => .inr (.inr e))))
  rintro e W' ⟨hv,⟨h1,h2⟩ | ⟨h1,h2⟩⟩
  ·exact ⟨hv,.inl ⟨h1,_,h2⟩⟩
  ·exact ⟨hv,.inr ⟨h1,h2⟩⟩
 ·intro r W hF hlt
  obtain ⟨rr,t,rfl,m⟩:=hF
  obtain ⟨x,n',c',R,h1,h2,h3⟩:=m.vt
  have tp:=turned_put W (w0.heap.size + 1) (.loop r)
  generalize W.putObj (w0.heap.size + 1) (.loop r) = W6 at tp ⊢
  have hl:=m.lt
  have p1:=m.vr.turn tp (by omega)
  have p2:=m.ve.turn tp (by omega)
  have p3:=h1.turn tp (by omega)
  have HDF : Hid (W6.heap[vb + 2]? = some (.deferred (some []))):=(tp.block _ (by omega) (by omega)).trans m.hD
  have HO:=hideI (And.intro (OwV.keep (tp.keeps (fun b hb e => by have:=h3 b hb; omega)) h2) h3)
  have HB : Hid (Below w.heap.size w W6 ∧ W.heap.size ≤ W6.heap.size):=⟨Turned.below m.B tp m.B.size (fun i hi => by omega),tp.size⟩
  have HP:=hideI (And.intro p1 p2)
  have c1:=p1.c 0 rfl
  have c2:=p2.c 0 rfl
  have c3:=p3.c 0 rfl
  have f1:=p1.f 0
  have f2:=p2.f 0
  clear p1 p2 p3 tp m h1 h2 h3 HB0 HV2 HV3 HV4 HV5 HR HRT HTR
  go_wp2
  obtain ⟨W7,hW7⟩ : ∃ V,V = (W6.setCell ⟨w.heap.size,0,none⟩ (.slice x n' c')).setCell ⟨w.heap.size + 1,0,none⟩ .nilIface:=⟨_,rfl⟩
  have t7 : Turned (fun b => b = w.heap.size ∨ b = w.heap.size + 1) W6 W7:=by rw [hW7]; exact ((Turned.refl _ W6).set _ _ (.inl rfl)).set _ _ (.inr rfl)
  have u1 : VarA W7 w.heap.size 26 #[.slice x n' c']:=by rw [hW7]; exact (HP.out.1.set 0 _).aside (by show w.heap.size ≠ w.heap.size + 1; omega) _
  have u2 : VarA W7 (w.heap.size + 1) 61 #[.nilIface]:=by rw [hW7]; exact (HP.out.2.aside (by show w.heap.size + 1 ≠ w.heap.size; omega) _).set 0 _
  have hl6:=(Array.getElem?_eq_some_iff.1 HDF.out).1
  have uK:=(t7.block _ hl6 (by omega)).trans HDF.out
  have hs7:=t7.size
  have hs6:=HB.out.2
  have K:=behind_close hz u1 u2 uK (Turned.below HB.out.1 t7 HB.out.1.size (fun i hi => by omega)) (OwV.keep (t7.keeps (fun b hb e => by have:=HO.out.2 b hb; omega)) HO.out.1) (fun b hb => by have:=HO.out.2 b hb; omega)
  rw [← hW7]
  clear hW7 u1 u2
  refine ⟨by simp,.inl ⟨_,_,rfl,run_takeDeferred uK,?_⟩⟩
  generalize W7.putObj (vb + 2) (.deferred none) = W8 at K ⊢
  have e1:=K.1.c 0 rfl
  have e2:=K.2.1.c 0 rfl
  exact ⟨.tuple #[.agg #[.slice x n' c'],.nilIface],by simp [results,Tryz.results18,go_sem,e1,e2],_,_,_,_,rfl,R,K.2.2.1,K.2.2.2.1,K.2.2.2.2,.inl rfl⟩
 ·intro r W hF hlt
  obtain ⟨x,n',c',t,i,R,rfl,h1,h2,h3,h4,h5,h6⟩:=hF
  have tp:=turned_put W (w0.heap.size + 1) (.loop r)
  generalize W.putObj (w0.heap.size + 1) (.loop r) = W6 at tp ⊢
  have p1:=h1.turn tp (by omega)
  have p2:=h2.turn tp (by omega)
  have hl6:=(Array.getElem?_eq_some_iff.1 h6).1
  have uK : W6.heap[vb + 2]? = some (.deferred (some [])):=(tp.block _ hl6 (by omega)).trans h6
  have hs6:=tp.size
  have K:=behind_close hz p1 p2 uK (Turned.below h5 tp h5.size (fun i hi => by omega)) (OwV.keep (tp.keeps (fun b hb e => by have:=h4 b hb; omega)) h3) (fun b hb => by have:=h4 b hb; omega)
  clear HB0 HV2 HV3 HV4 HV5 HR HRT HTR p1 p2 h1 h2 h3 h5 h6 tp
  go_wp2
  refine ⟨by simp,.inl ⟨_,_,rfl,run_takeDeferred uK,?_⟩⟩
  generalize W6.putObj (vb + 2) (.deferred none) = W8 at K ⊢
  have e1:=K.1.c 0 rfl
  have e2:=K.2.1.c 0 rfl
  exact ⟨.tuple #[.agg #[.slice x n' c'],.iface 65 (.agg #[.i i])],by simp [results,Tryz.results18,go_sem,e1,e2],_,_,_,_,rfl,R,K.2.2.1,K.2.2.2.1,K.2.2.2.2,.inr rfl⟩
end
section
def ErrG (w : World) : Prop:=w.cell? ⟨0,0,none⟩ = some (.iface 126 (.agg #[hErr])) ∧ 0 < w.heap.size
theorem ErrG.step {w w' : World} (h : ErrG w) (b : Below w.heap.size w w') : ErrG w':=⟨(b.cell (p:=⟨0,0,none⟩) h.2).trans h.1,Nat.lt_of_lt_of_le h.2 b.size⟩
set_option maxHeartbeats 4000000 in
theorem implFollow_any (v : Value) (l : List DdD) (S : Nat → Prop) (w : World) (r : RdV w S v (ddsDt l)) (hS : ∀ b,S b → b < w.heap.size) (hl : szDds l ≤ 2097152) (hin : ∀ k,k < l.length → HIn (l[k]?.getD dd0).rp.h ∧ HIn (l[k]?.getD dd0).op.to) (hg : ErrG w) :
  Calls Tryz.prog 7 #[v] w fun e w' => ∃ x n c,∃ R : Nat → Prop,e = .returned (.tuple #[.agg #[.slice x n c],.i (fol 0 [rootN] l).2]) ∧ OwV w' R (.slice x n c) (ndsDt (fol 0 [rootN] l).1) ∧ (∀ b,R b → w.heap.size ≤ b ∧ b < w'.heap.size) ∧ Below w.heap.size w w':=by
 have HTB : Hid (∀ W,Below w.heap.size w W → _):=fun W hW => behind_any v l S W (r.step hW) (fun b hb => Nat.lt_of_lt_of_le (hS b hb) hW.size) hl hin
 obtain ⟨a,cap,rfl,_⟩:=RdV.sliced r
 have HG:=hideI hg
 clear r hS hl hin hg
 generalize fol 0 [rootN] l = res at HTB ⊢
 obtain ⟨t,i⟩:=res
 generalize l.length = n at HTB ⊢
 go_enter Tryz.func7,Tryz.ntmps7
 go_wp2_with fail
 refine Calls.mono (HTB.out _ (Below.newH _)) ?_
 rintro e w2 ⟨x,n',c',ev,R,rfl,o2,hR,b2,hev⟩
 have hs2:=b2.size
 simp only [World.size_alloc] at hs2
 have v2 : VarA w2 w.heap.size 26 #[.n0]:=VarA.step (VarA.new w _ _) b2
 have B2 : Below w.heap.size w w2:=(Below.newH (w:=w) _).trans (b2.mono (by simp))
 have HB:=hideI B2
 have HO : Hid (OwV w2 R (.slice x n' c') (ndsDt t) ∧ ∀ b,R b → w.heap.size + 1 ≤ b ∧ b < w2.heap.size):=⟨o2,fun b hb => by have:=hR b hb; simp only [World.size_alloc] at this; exact this⟩
 have HV:=hideI v2
 have HE:=hideI hev
 clear v2 b2 B2 o2 hR hev HTB
 have hgo:=HG.out.step HB.out
 have d0:=HV.out.c 0 rfl
 have f0:=HV.out.f 0
 have hl:=HV.out.lt
 rcases HE.out with ⟨rfl,hi⟩ | rfl
 ·have hi2 : i = -1:=hi
  subst hi2
  clear hgo hi
  go_wp2_with (first | (go_at_call 19; refine Calls.mono (as_nil _ _) ?_; rintro e w3 ⟨rfl,rfl⟩))
  obtain ⟨W2,hW2⟩ : ∃ V,V = ((w2.setCell ⟨w.heap.size,0,none⟩ (.slice x n' c')).alloc (.cells #[.slice x n' c'] 26)).alloc (.cells #[.i 0] 65):=⟨_,rfl⟩
  have tS : Turned (fun b => b = w.heap.size) w2 (w2.setCell ⟨w.heap.size,0,none⟩ (.slice x n' c')):=(Turned.refl _ w2).set _ _ rfl
  have tZ : Turned (fun b => b = w.heap.size) w2 W2:=by rw [hW2]; exact (tS.andThen (Below.newH _)).andThen (Below.newH _)
  have u2 : VarA W2 w.heap.size 26 #[.slice x n' c']:=by rw [hW2]; exact ((HV.out.set 0 _).alloc _).alloc _
  rw [← hW2]
  have q2:=u2.l1
  refine bodyPost_ret (v:=.tuple #[.agg #[.slice x n' c'],.i (-1)]) (by simp [results,Tryz.results7,go_sem,q2]) rfl ?_
  exact ⟨_,_,_,R,rfl,OwV.keep (tZ.keeps (fun b hb e => by have:=HO.out.2 b hb; omega)) HO.out.1,fun b hb => by have:=HO.out.2 b hb; have:=tZ.size; omega,Turned.below HB.out tZ HB.out.size (fun i hi => by omega)⟩
 ·have b3 : Below w2.heap.size w2 ((w2.alloc (.cells #[.slice x n' c'] 26)).alloc (.cells #[.i 0] 65)):=Below.newH2 _ _
  have v3 : VarA ((w2.alloc (.cells #[.slice x n' c'] 26)).alloc (.cells #[.i 0] 65)) (w2.heap.size + 1) 65 #[.i 0]:=by simpa using VarA.new (w2.alloc (.cells #[.slice x n' c'] 26)) 65 #[.i 0]
  have g3:=hgo.step b3
  have HA:=hideI (as_hit i (w2.heap.size + 1) (.i 0) _ g3.1 v3 g3.2)
  have v4 : VarA ((w2.alloc (.cells #[.slice x n' c'] 26)).alloc (.cells #[.i 0] 65)) w2.heap.size 26 #[.slice x n' c']:=(VarA.new w2 _ _).alloc _
  have H3 : Hid (VarA ((w2.alloc (.cells #[.slice x n' c'] 26)).alloc (.cells #[.i 0] 65)) w2.heap.size 26 #[.slice x n' c'] ∧ Below w2.heap.size w2 ((w2.alloc (.cells #[.slice x n' c'] 26)).alloc (.cells #[.i 0] 65))):=⟨v4,b3⟩
  have hs3 : ((w2.alloc (.cells #[.slice x n' c'] 26)).alloc (.cells #[.i 0] 65)).heap.size = w2.heap.size + 2:=by simp
  have HS3:=hideI hs3
  clear v4 b3 v3 g3 hgo hs3
  go_wp2_with (first | (go_at_call 19; refine Calls.mono HA.out ?_; rintro e w5 ⟨rfl,v5,s5,k5,o5,t5,p5⟩))
  have tA : Turned (fun b => b = w2.heap.size + 1) ((w2.alloc (.cells #[.slice x n' c'] 26)).alloc (.cells #[.i 0] 65)) w5:=⟨o5,t5,p5,s5,k5⟩
  have v6:=H3.out.1.turn tA (by omega)
  have hs5 : w2.heap.size + 2 ≤ w5.heap.size:=by have:=HS3.out; omega
  have B5 : Below w2.heap.size w2 w5:=Turned.below H3.out.2 tA (by rw [HS3.out]; omega) (fun i hi => by omega)
  have vz:=HV.out.step B5
  have HZ:=hideI (And.intro vz B5)
  have q0:=vz.c 0 rfl
  have qf:=vz.f 0
  have q1:=v6.c 0 rfl
  have q2:=v5.c 0 rfl
  clear v5 s5 k5 o5 t5 p5 tA v6 B5 vz d0 f0 HA H3 HS3
  go_wp2
  go_region
  go_wp2
  obtain ⟨W7,hW7⟩ : ∃ V,V = (w5.setCell ⟨w.heap.size,0,none⟩ (.slice x n' c')).drew:=⟨_,rfl⟩
  have tS : Turned (fun b => b = w.heap.size) w5 (w5.setCell ⟨w.heap.size,0,none⟩ (.slice x n' c')):=(Turned.refl _ w5).set _ _ rfl
  have tZ : Turned (fun b => b = w.heap.size) w2 W7:=by rw [hW7]; exact ((Turned.ofBelow HZ.out.2).trans tS).andThen (Below.drew (Below.refl _ _))
  have u2 : VarA W7 w.heap.size 26 #[.slice x n' c']:=by rw [hW7]; exact HZ.out.1.set 0 _
  rw [← hW7]
  have q3:=u2.l1
  refine bodyPost_ret (v:=.tuple #[.agg #[.slice x n' c'],.i i]) (by simp [results,Tryz.results7,go_sem,q3]) rfl ?_
  exact ⟨_,_,_,R,rfl,OwV.keep (tZ.keeps (fun b hb e => by have:=HO.out.2 b hb; omega)) HO.out.1,fun b hb => by have:=HO.out.2 b hb; have:=tZ.size; omega,Turned.below HB.out tZ HB.out.size (fun i hi => by omega)⟩
end
end Go.Proofs.YtblahkhniabhiaaGreatDoor
