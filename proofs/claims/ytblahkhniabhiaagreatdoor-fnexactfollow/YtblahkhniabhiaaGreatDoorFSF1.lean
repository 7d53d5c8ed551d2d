/- The specification's Follow: what it answers. Condition: the deeds are of at most 2097152 names, bytes and entries. -/
import Derived.Test.YtblahkhniabhiaaGreatDoorFA08
import Derived.Test.YtblahkhniabhiaaGreatDoorFRpS
import Derived.Test.YtblahkhniabhiaaGreatDoorFSpecD18
import Derived.Test.YtblahkhniabhiaaGreatDoorFA01
import Derived.Test.YtblahkhniabhiaaGreatDoorFRGF8
import Derived.Test.YtblahkhniabhiaaGreatDoorFA09
namespace Go.Proofs.YtblahkhniabhiaaGreatDoor
open Go.RowKit
set_option linter.unusedVariables false
set_option linter.unusedSimpArgs false
set_option maxRecDepth 100000

theorem hide {P : Prop} (h : P) : Hid P:=h
theorem results_row_tmpF {fn : Func} {p u : Tmp} {ty : TypeId} (h : fn.results = #[.cell p ty,.tmp u]) (tmps : Array Value) (w : World) (g : Nat) (t : TypeId) (cs : Array Value) (d : TypeDesc)
  (hp : tmps.getD p undef = .pointer (some ⟨g,0,none⟩)) (hg : VarA w g t cs)
  (hu : Tryz.prog.underlying ty = some d) (hd : d.isRow = true) (hi : (Tryz.prog.info? ty).map (·.size) = some cs.size) :
  (results fn tmps).run Tryz.prog w = .ok (.tuple #[.agg cs,tmps.getD u undef]) w:=by
 rw [results_cell_tmp h,hp]
 simp [asAddr,loadA_run hg hu hd hi]
def FolI (l : List DdD) (w : World) (tb : Nat) (res : List Nd × Int) (j : Nat) (wr : World) : Prop:=
 Below w.heap.size w wr ∧ VarA wr w.heap.size 26 #[.n0] ∧ ∃ ta tn tc t,VarA wr tb 26 #[.slice ta tn tc] ∧ RdV wr (fun b => w.heap.size < b ∧ b < wr.heap.size ∧ b ≠ tb) (.slice ta tn tc) (ndsDt t) ∧ szNds t ≤ 2097152 ∧ fol j t (l.drop j) = res
set_option maxHeartbeats 4000000 in
theorem specFollow_any (v : Value) (l : List DdD) (S : Nat → Prop) (w : World) (r : RdV w S v (ddsDt l)) (hS : ∀ b,S b → b < w.heap.size) (hl : szDds l ≤ 2097152) :
  Calls Tryz.prog 5 #[v] w fun e w' => ∃ a n c,e = .returned (.tuple #[.agg #[.slice a n c],.i (fol 0 [rootN] l).2]) ∧ RdV w' (fun b => w.heap.size ≤ b ∧ b < w'.heap.size) (.slice a n c) (ndsDt (fol 0 [rootN] l).1) ∧ Below w.heap.size w w':=by
 obtain ⟨a,cap,rfl,_⟩:=RdV.sliced r
 have HR : Hid (∀ W,Below w.heap.size w W → RdV W S (.slice a l.length cap) (ddsDt l)):=r.old
 have HD : Hid (ddsDt l = .rows 55 19 l.length (fun i j => ddCell (l[i]?.getD dd0) j)):=rfl
 have hnn : l.length ≤ 2097152:=by unfold szDds at hl; omega
 have HL : Hid _:=hl
 obtain ⟨res,hres⟩ : ∃ q,fol 0 [rootN] l = q:=⟨_,rfl⟩
 have HRES : Hid (fol 0 [rootN] (l.drop 0) = res):=hres
 rw [hres]
 clear r hl hres
 rw [HD.out] at HR
 clear HD
 obtain ⟨n,hn⟩ : ∃ n,l.length = n:=⟨_,rfl⟩
 have HN : Hid _:=hn
 rw [hn] at hnn HR ⊢
 clear hn
 have HRT : Hid (∀ W,_):=fun W => specRoot_any W
 go_enter Tryz.func5,Tryz.ntmps5
 go_wp2_with (go_at_call 14; refine Calls.mono (HRT.out _) ?_; rintro e w1 ⟨ra,rn,rcp,rfl,ho,hb⟩)
 have hsz1 : w.heap.size + 1 ≤ w1.heap.size:=by have:=hb.size; simpa using this
 have HI : Hid (FolI l w w1.heap.size res 0 (w1.alloc (.cells #[.slice ra rn rcp] 26))):=by
  refine ⟨((Below.newH (w:=w) _).trans (hb.mono (by simp))).alloc (by omega) _,((VarA.new w _ _).step hb).alloc _,ra,rn,rcp,[rootN],VarA.new w1 _ _,?_,by decide,HRES.out⟩
  exact (RdV.mono (fun b h => ⟨by have:=h.1; simp at this; omega,by have:=h.2; simp; omega,by have:=h.2; omega⟩) ((OwV.rd ho).step (Below.newH (w:=w1) _)))
 clear ho hb HRT HRES
 obtain ⟨tb,htb⟩ : ∃ b,w1.heap.size = b:=⟨_,rfl⟩
 rw [htb] at HI hsz1
 simp only [htb]
 clear htb
 go_loopw [5] (fun i wr => ∃ k : Nat,k ≤ n ∧ i = .i k ∧ Hid (FolI l w tb res k wr)) (fun i _ => n - (intOf i).toNat)
 case atStart => exact ⟨0,Nat.zero_le _,rfl,HI⟩
 case round =>
  clear HI
  obtain ⟨k,hk,rfl,HI⟩:=hrel
  obtain ⟨hbel,vR,ta,tn,tc,t,vT,hrt,hst,hfl⟩:=HI.out
  by_cases hlt : k < n
  case neg =>
   have hkn : k = n:=by omega
   subst hkn
   have hre : (t,(-1 : Int)) = res:=by rw [← hfl]; exact (fol_end (by rw [HN.out]; exact Nat.le_refl _)).symm
   have c0 : wr.cell? ⟨tb,0,none⟩ = some (.slice ta tn tc):=vT.c 0 rfl
   have d0 : wr.cell? ⟨w.heap.size,0,none⟩ = some (.n0):=vR.c 0 rfl
   have f0:=vR.f 0
   have HVR : Hid (VarA _ _ _ _):=vR
   have HBE : Hid _:=hbel
   have HRT2 : Hid _:=hrt
   have HRE : Hid _:=hre
   clear vR vT hrt hfl hbel hre HI
   go_wp2
   have vR2:=HVR.out.set 0 (.slice ta tn tc)
   have tR : Turned (fun b => b = w.heap.size) wr (wr.setCell ⟨w.heap.size,0,none⟩ (.slice ta tn tc)):=(Turned.refl _ wr).set _ _ rfl
   refine bodyPost_ret (results_row_tmpF Tryz.results5 _ _ _ _ _ _ rfl vR2 Tryz.underlying26 rfl (by kernel_rfl)) rfl ?_
   refine ⟨ta,tn,tc,by rw [← HRE.out]; rfl,?_,Turned.below HBE.out tR HBE.out.size (fun i hi => by omega)⟩
   have h2:=RdV.keep (tR.keeps (fun b hb hq => by omega)) HRT2.out
   rw [← HRE.out]
   exact RdV.mono (fun b h => ⟨by omega,by have:=tR.size; omega⟩) h2
  obtain ⟨b,off,rfl,hbl,_,hx⟩:=RdV.at (HR.out wr hbel) hlt
  obtain ⟨e,he⟩ : ∃ e,l[k]?.getD dd0 = e:=⟨_,rfl⟩
  rw [he] at hx
  have hze : szDd e ≤ szDds l:=by rw [← he]; exact szDds_at l k
  have HE : Hid (l[k]?.getD dd0 = e):=he
  clear he
  obtain ⟨tm,cl,rq,⟨kd,⟨p,q,d⟩,nm,⟨p2,q2,d2⟩,asn,ov⟩,⟨cd,⟨r0,r1,r2⟩,rv,rls⟩⟩:=e
  obtain ⟨x7,x11,x18,hrg,hr7,hr11,hr18⟩:=ddAt hx
  clear hx
  have hzz : nm.length + asn.length + szEns rls ≤ 2097152:=Nat.le_trans hze HL.out
  obtain ⟨ya,yc,rfl⟩:=hr7.sliceB
  obtain ⟨za,zc,rfl⟩:=hr11.sliceB
  obtain ⟨ea,ec,rfl,_⟩:=RdV.sliced hr18
  have HC : Hid (∀ W : World,Below wr.heap.size wr W → W.rangeAt b (off + k * 19) (ddV ⟨tm,cl,rq,⟨kd,(p,q,d),nm,(p2,q2,d2),asn,ov⟩,⟨cd,(r0,r1,r2),rv,rls⟩⟩ (.slice ya nm.length yc) (.slice za asn.length zc) (.slice ea rls.length ec)).cells.toList):=fun W hW => rangeAt_below hrg hW hbl
  have HRO : Hid (∀ W : World,Below wr.heap.size wr W → RdV W (fun b => b < W.heap.size) (.slice ya nm.length yc) (.bytes nm) ∧ RdV W (fun b => b < W.heap.size) (.slice za asn.length zc) (.bytes asn) ∧ RdV W (fun b => b < W.heap.size) (.slice ea rls.length ec) (ensDt rls)):=fun W hW => by
   have:=fun b hb => Nat.lt_of_lt_of_le (hS b hb) (Nat.le_trans hbel.size hW.size)
   exact ⟨RdV.mono this (hr7.step hW),RdV.mono this (hr11.step hW),RdV.mono this (hr18.step hW)⟩
  have c3 : wr.cell? ⟨b,off + k * 19 + 3,none⟩ = some (.i kd):=hrg 3 _ rfl
  have c8 : wr.cell? ⟨b,off + k * 19 + 8,none⟩ = some (.i p2):=hrg 8 _ rfl
  have c10 : wr.cell? ⟨b,off + k * 19 + 10,none⟩ = some (.bool d2):=hrg 10 _ rfl
  have c13 : wr.cell? ⟨b,off + k * 19 + 13,none⟩ = some (.i cd):=hrg 13 _ rfl
  have c14 : wr.cell? ⟨b,off + k * 19 + 14,none⟩ = some (.i r0):=hrg 14 _ rfl
  have c15 : wr.cell? ⟨b,off + k * 19 + 15,none⟩ = some (.i r1):=hrg 15 _ rfl
  have c16 : wr.cell? ⟨b,off + k * 19 + 16,none⟩ = some (.bool r2):=hrg 16 _ rfl
  obtain ⟨⟨pf,qf,df⟩,hfr⟩ : ∃ h,frS ⟨tm,cl,rq,⟨kd,(p,q,d),nm,(p2,q2,d2),asn,ov⟩,⟨cd,(r0,r1,r2),rv,rls⟩⟩ = h:=⟨_,rfl⟩
  obtain ⟨⟨rl,⟨rcode,⟨rh0,rh1,rh2⟩,rval,rlist⟩⟩,hdo⟩ : ∃ x,dDo t ⟨tm,cl,rq,⟨kd,(p,q,d),nm,(p2,q2,d2),asn,ov⟩,⟨cd,(r0,r1,r2),rv,rls⟩⟩ = x:=⟨_,rfl⟩
  have hdo2 : dO t ⟨kd,(p,q,d),nm,(p2,q2,d2),asn,ov⟩ (pf,qf,df) = (rl,⟨rcode,(rh0,rh1,rh2),rval,rlist⟩):=by rw [← hdo,← hfr]; rfl
  have hsz:=do_sizes hst ⟨kd,(p,q,d),nm,(p2,q2,d2),asn,ov⟩ (pf,qf,df)
  rw [hdo2] at hsz
  dsimp only at hsz
  have HS8 : Hid (∀ x y z W S,RdV W S x (ndsDt t) → RdV W S y (.bytes nm) → RdV W S z (.bytes asn) → (∀ b,S b → b < W.heap.size) → Calls Tryz.prog 15 #[.agg #[x],opV ⟨kd,(p,q,d),nm,(p2,q2,d2),asn,ov⟩ y z,Hd.v (pf,qf,df)] W (DoS W (rl,⟨rcode,(rh0,rh1,rh2),rval,rlist⟩))):=fun x y z W S a1 a2 a3 a4 => by
   have h:=specDo_any x y z t ⟨kd,(p,q,d),nm,(p2,q2,d2),asn,ov⟩ (pf,qf,df) S W a1 a2 a3 a4 hst (by show nm.length ≤ _; omega) (by show asn.length ≤ _; omega)
   rw [hdo2] at h
   exact h.mono (fun e w' h => DoS.of h)
  have HFB : Hid (folB t ⟨tm,cl,rq,⟨kd,(p,q,d),nm,(p2,q2,d2),asn,ov⟩,⟨cd,(r0,r1,r2),rv,rls⟩⟩ = (eqRp ⟨rcode,(rh0,rh1,rh2),rval,rlist⟩ ⟨cd,(r0,r1,r2),rv,rls⟩ && !decide (rcode = 11))):=by show _ = _; unfold folB; rw [hdo]
  have HNX : Hid ((dDo t ⟨tm,cl,rq,⟨kd,(p,q,d),nm,(p2,q2,d2),asn,ov⟩,⟨cd,(r0,r1,r2),rv,rls⟩⟩).1 = rl):=by show _ = _; rw [hdo]
  have HK1 : Hid (kd = 4 ∧ cd ≠ 0 → (p2,2147483647,d2) = (pf,qf,df)):=fun h => by rw [← hfr]; unfold frS; rw [if_pos h]
  have HK2 : Hid (¬ (kd = 4 ∧ cd ≠ 0) → (r0,r1,r2) = (pf,qf,df)):=fun h => by rw [← hfr]; unfold frS; rw [if_neg h]
  have HSZ : Hid _:=hsz
  have HZZ : Hid _:=hzz
  clear hrg hr7 hr11 hr18 HI hfr hdo hdo2 hsz hzz hze
  have HVR : Hid (VarA wr w.heap.size 26 #[.n0]):=vR
  have HVT : Hid (VarA wr tb 26 #[.slice ta tn tc]):=vT
  have HRT2 : Hid (RdV wr (fun b => w.heap.size < b ∧ b < wr.heap.size ∧ b ≠ tb) (.slice ta tn tc) (ndsDt t)):=hrt
  have HFL : Hid _:=hfl
  have HBL : Hid (Below w.heap.size w wr):=hbel
  have HBB : Hid (b < wr.heap.size):=hbl
  clear vR vT hrt hfl hbel
  by_cases h4 : kd = 4 ∧ cd ≠ 0
  case' pos =>
   obtain ⟨rfl,hc0⟩:=h4
   have hq:=HK1.out ⟨rfl,hc0⟩
   simp only [Prod.mk.injEq] at hq
   obtain ⟨rfl,rfl,rfl⟩:=hq
   have hc1 : ¬ cd = 0:=hc0
   clear hc0
   have HX : Hid (VarA ((wr.alloc (.cells #[.i p2,.i 2147483647,.bool d2] 48)).drew) wr.heap.size 48 #[.i p2,.i 2147483647,.bool d2] ∧ Below wr.heap.size wr ((wr.alloc (.cells #[.i p2,.i 2147483647,.bool d2] 48)).drew)):=⟨(VarA.new wr _ _).dr,Below.drew (Below.newH _)⟩
   go_wp2
   go_region
   go_wp2
   generalize (wr.alloc (.cells #[.i p2,.i 2147483647,.bool d2] 48)).drew = wx at HX ⊢
  case' neg =>
   have hq:=HK2.out h4
   simp only [Prod.mk.injEq] at hq
   obtain ⟨rfl,rfl,rfl⟩:=hq
   have HX : Hid (VarA (wr.alloc (.cells #[.i r0,.i r1,.bool r2] 48)) wr.heap.size 48 #[.i r0,.i r1,.bool r2] ∧ Below wr.heap.size wr (wr.alloc (.cells #[.i r0,.i r1,.bool r2] 48))):=⟨VarA.new wr _ _,Below.newH _⟩
   by_cases hk4 : kd = 4
   case' pos =>
    have hc0 : cd = 0:=Classical.byContradiction (fun h => h4 ⟨hk4,h⟩)
    subst hk4
   all_goals
    go_wp2
    generalize wr.alloc (.cells #[.i r0,.i r1,.bool r2] 48) = wx at HX ⊢
    try clear hc0
  all_goals
   refine regF8 (xa:=ta) (xn:=tn) (xc:=tc) (ya:=ya) (yn:=nm.length) (yc:=yc) (za:=za) (zn:=asn.length) (zc:=zc) HS8 ?_ ?_ hlt ?_
   ·intro W hW
    have hB2:=HX.out.2.trans (hW.mono HX.out.2.size)
    have hc:=HC.out W hB2
    have v1:=HVT.out.step hB2
    have vf:=HX.out.1.step hW
    exact ⟨v1.c 0 rfl,hc 3 _ rfl,hc 4 _ rfl,hc 5 _ rfl,hc 6 _ rfl,hc 7 _ rfl,hc 8 _ rfl,hc 9 _ rfl,hc 10 _ rfl,hc 11 _ rfl,hc 12 _ rfl,vf.c 0 rfl,vf.c 1 rfl,vf.c 2 rfl⟩
   ·intro W hW
    have hB2:=HX.out.2.trans (hW.mono HX.out.2.size)
    exact ⟨RdV.mono (fun b hb => by have:=hB2.size; omega) (HRT2.out.step hB2),(HRO.out W hB2).1,(HRO.out W hB2).2.1⟩
   intro u54 u55 u56 u57 u58 u59 u60 C D ta2 tn2 tc2 ra rn rc wz HLF
   dsimp only
   have hxs:=HX.out.2.size
   have hxf:=HX.out.1.lt
   have hBz : Below wr.heap.size wr wz:=HX.out.2.trans (HLF.out.1.mono hxs)
   have hzs:=HLF.out.1.size
   have HSR : Hid (∀ W,Below wz.heap.size wz W → Calls Tryz.prog 16 #[.agg #[.i rcode,.i rh0,.i rh1,.bool rh2,.i rval,.slice ra rn rc],.agg #[.i cd,.i r0,.i r1,.bool r2,.i rv,.slice ea rls.length ec]] W fun e w' => e = .returned (.bool (eqRp ⟨rcode,(rh0,rh1,rh2),rval,rlist⟩ ⟨cd,(r0,r1,r2),rv,rls⟩)) ∧ Below W.heap.size W w'):=fun W hW => specSameReply_any (.slice ra rn rc) (.slice ea rls.length ec) ⟨rcode,(rh0,rh1,rh2),rval,rlist⟩ ⟨cd,(r0,r1,r2),rv,rls⟩ _ _ W (HLF.out.2.2.2.2.2.2.step hW) (HRO.out W (hBz.trans (hW.mono hBz.size))).2.2 (by have:=HSZ.out.2; show szEns rlist ≤ _; omega)
   obtain ⟨eb,heb⟩ : ∃ x,eqRp ⟨rcode,(rh0,rh1,rh2),rval,rlist⟩ ⟨cd,(r0,r1,r2),rv,rls⟩ = x:=⟨_,rfl⟩
   rw [heb] at HSR HFB
   have hcz:=HC.out wz hBz
   haveI : Nonempty (Cls wz):=Cls.ne wz
   have hbz : b < wz.heap.size:=by have:=HBB.out; have:=hBz.size; omega
   have j0:=Cls.cell hbz (show wz.cell? ⟨b,off + k * 19 + 13,none⟩ = some (.i cd) from hcz 13 _ rfl)
   have j1:=Cls.cell hbz (show wz.cell? ⟨b,off + k * 19 + 14,none⟩ = some (.i r0) from hcz 14 _ rfl)
   have j2:=Cls.cell hbz (show wz.cell? ⟨b,off + k * 19 + 15,none⟩ = some (.i r1) from hcz 15 _ rfl)
   have j3:=Cls.cell hbz (show wz.cell? ⟨b,off + k * 19 + 16,none⟩ = some (.bool r2) from hcz 16 _ rfl)
   have j4:=Cls.cell hbz (show wz.cell? ⟨b,off + k * 19 + 17,none⟩ = some (.i rv) from hcz 17 _ rfl)
   have j5:=Cls.cell hbz (show wz.cell? ⟨b,off + k * 19 + 18,none⟩ = some (.slice ea rls.length ec) from hcz 18 _ rfl)
   have hD:=HLF.out.2.2.2.2.1
   have i0:=Cls.cell hD.lt (hD.c 0 rfl)
   have i1:=Cls.cell hD.lt (hD.c 1 rfl)
   have i2:=Cls.cell hD.lt (hD.c 2 rfl)
   have i3:=Cls.cell hD.lt (hD.c 3 rfl)
   have i4:=Cls.cell hD.lt (hD.c 4 rfl)
   have i5:=Cls.cell hD.lt (hD.c 5 rfl)
   have hki : (0 : Int) ≤ (k : Int):=by omega
   have hkm : (k : Int) < (n : Int):=by omega
   have HBZ : Hid (Below wr.heap.size wr wz):=hBz
   have HLX : Hid (wr.heap.size ≤ wx.heap.size ∧ wx.heap.size ≤ wz.heap.size):=⟨hxs,hzs⟩
   clear hBz hcz hbz hD heb hxs hxf hzs
   clear c3 c8 c10 c13 c14 c15 c16
   cases eb
   case' false =>
    have hfn:=hide (fol_stop (by rw [HN.out]; exact hlt) HE.out (HFB.out.trans (by simp)))
   case' true =>
    by_cases h11 : rcode = 11
    case' pos =>
     have hfn:=hide (fol_stop (by rw [HN.out]; exact hlt) HE.out (HFB.out.trans (by simp [h11])))
     subst h11
    case' neg => have hfn:=hide (fol_next (by rw [HN.out]; exact hlt) HE.out (HFB.out.trans (by simp [h11])))
   all_goals
    go_wp2
    refine wp_region_cls (by kernel_rfl) (by kernel_rfl) ?_
    repeat (go_big_quiet_step (first | (go_at_call 16; exact Calls.cls (HSR.out _ (Cls.h _)))))
    refine wpQuiet_nil ?_
    rintro w' ⟨⟨w',hb'⟩,rfl⟩
    clear i0 i1 i2 i3 i4 i5 j0 j1 j2 j3 j4 j5
    have hW : Below wr.heap.size wr w':=HBZ.out.trans (hb'.mono HBZ.out.size)
    have vR:=HVR.out.step hW
    have vT:=HVT.out.step hW
    have vC:=HLF.out.2.2.1.step hb'
    have hst2:=HVT.out.lt
    have hT:=(HLF.out.2.2.2.2.2.1).step hb'
    have hbs:=hb'.size
    have t0:=vT.c 0 rfl
    have r0':=vR.c 0 rfl
    have q0:=vC.c 0 rfl
    have tf:=vT.f 0
    have rf:=vR.f 0
    have HW:=hide hW
    have HR_:=hide vR
    have HT_:=hide vT
    have HT2:=hide hT
    clear hW vR vT vC hT hb'
    go_wp2
    first
    | refine ⟨⟨k + 1,by omega,by go_num,?_⟩,by simp [intOf]; omega⟩
      have tR : Turned (fun b => b = tb) w' (w'.setCell ⟨tb,0,none⟩ (.slice ta2 tn2 tc2)):=(Turned.refl _ w').set _ _ rfl
      refine ⟨(HBL.out.trans (HW.out.mono HBL.out.size)).setCell (by show w.heap.size ≤ tb; omega) _,HR_.out.aside (by show w.heap.size ≠ tb; omega) _,ta2,tn2,tc2,rl,HT_.out.set 0 _,?_,by have:=HSZ.out.1; omega,by rw [← HFL.out,hfn.out,HNX.out]⟩
      have h2:=RdV.keep (tR.keeps (fun b hb hq => by have:=HLX.out; omega)) HT2.out
      exact RdV.mono (fun b h => ⟨by have:=HLX.out; have:=HBL.out.size; omega,by have:=tR.size; have:=HW.out.size; have:=HLX.out; omega,by have:=HLX.out; omega⟩) h2
    | have vR2:=HR_.out.set 0 (.slice ta tn tc)
      have tR : Turned (fun b => b = w.heap.size) w' (w'.setCell ⟨w.heap.size,0,none⟩ (.slice ta tn tc)):=(Turned.refl _ w').set _ _ rfl
      have hBW:=HBL.out.trans (HW.out.mono HBL.out.size)
      refine bodyPost_ret (results_row_tmpF Tryz.results5 _ _ _ _ _ _ rfl vR2 Tryz.underlying26 rfl (by kernel_rfl)) rfl ?_
      have hre:=hfn.out.symm.trans HFL.out
      refine ⟨ta,tn,tc,by rw [← hre]; rfl,?_,Turned.below hBW tR hBW.size (fun i hi => by omega)⟩
      have h2:=RdV.keep (tR.keeps (fun b hb hq => by omega)) (HRT2.out.step HW.out)
      rw [← hre]
      exact RdV.mono (fun b h => ⟨by omega,by have:=tR.size; have:=HW.out.size; omega⟩) h2
end Go.Proofs.YtblahkhniabhiaaGreatDoor
