/- The specification holds replies against one another (l8sameReply): what it tells of any two. Condition: no more than 2^21 of all. -/
import Derived.Test.YtblahkhniabhiaaGreatDoorFRpE
import Derived.Test.YtblahkhniabhiaaGreatDoorFA02
namespace Go.Proofs.YtblahkhniabhiaaGreatDoor
open Go.RowKit
set_option linter.unusedVariables false
set_option linter.unusedSimpArgs false
set_option maxRecDepth 100000

set_option maxHeartbeats 4000000 in
theorem specSameReply_any (x y : Value) (o u : RpD) (S S2 : Nat → Prop) (w : World) (r : RdV w S x (ensDt o.list)) (r2 : RdV w S2 y (ensDt u.list)) (hl : szEns o.list ≤ 2097152) :
  Calls Tryz.prog 16 #[rpV o x,rpV u y] w fun e w' => e = .returned (.bool (eqRp o u)) ∧ Below w.heap.size w w':=by
 obtain ⟨a,cap,rfl,_⟩:=RdV.sliced r
 obtain ⟨a2,cap2,rfl,_⟩:=RdV.sliced r2
 obtain ⟨kd,⟨p,q,d⟩,vl,l⟩:=o
 obtain ⟨kd2,⟨p2,q2,d2⟩,vl2,l2⟩:=u
 dsimp only at r r2 hl
 have HR : Hid (∀ W,Below w.heap.size w W → RdV W S (.slice a l.length cap) (.rows 86 4 l.length (fun i j => enCell (l[i]?.getD en0) j))):=RdV.old r
 have HR2 : Hid (∀ W,Below w.heap.size w W → RdV W S2 (.slice a2 l2.length cap2) (.rows 86 4 l2.length (fun i j => enCell (l2[i]?.getD en0) j))):=RdV.old r2
 have hmm : l.length ≤ 2097152:=by unfold szEns at hl; omega
 have hq:=fun W => neH_run p q p2 q2 d d2 W
 obtain ⟨res,hres⟩ : ∃ t,eqRp ⟨kd,(p,q,d),vl,l⟩ ⟨kd2,(p2,q2,d2),vl2,l2⟩ = t:=⟨_,rfl⟩
 have HRES : Hid ((decide (kd = kd2) && (decide (p = p2 ∧ q = q2 ∧ d = d2) && (decide (vl = vl2) && eqEns l l2))) = res):=hres
 rw [hres]
 dsimp only
 generalize decide (p = p2 ∧ q = q2 ∧ d = d2) = bb at hq HRES
 obtain ⟨m,hm⟩ : ∃ m,l.length = m:=⟨_,rfl⟩
 obtain ⟨m2,hm2⟩ : ∃ m,l2.length = m:=⟨_,rfl⟩
 have HM : Hid _:=hm
 have HM2 : Hid _:=hm2
 rw [hm] at HR hmm ⊢
 rw [hm2] at HR2 ⊢
 clear r r2 hl hm hm2 hres
 by_cases h1 : kd = kd2
 case neg =>
  have hf : res = false:=by rw [← HRES.out]; simp [h1]
  subst hf
  go_enter Tryz.func16,Tryz.ntmps16
  go_wp2
  all_goals first | (go_ret; exact ⟨rfl,by repeat (first | exact Below.refl _ _ | refine Below.al ?_ _ | refine below_drewN2 ?_ _)⟩) | (exfalso; simp_all; done)
 subst h1
 cases bb
 case false =>
  have hf : res = false:=by rw [← HRES.out]; simp
  subst hf
  go_enter Tryz.func16,Tryz.ntmps16
  go_wp2
  all_goals first | (go_ret; exact ⟨rfl,by repeat (first | exact Below.refl _ _ | refine Below.al ?_ _ | refine below_drewN2 ?_ _)⟩) | (exfalso; simp_all; done)
 by_cases h2 : vl = vl2
 case neg =>
  have hf : res = false:=by rw [← HRES.out]; simp [h2]
  subst hf
  go_enter Tryz.func16,Tryz.ntmps16
  go_wp2
  all_goals first | (go_ret; exact ⟨rfl,by repeat (first | exact Below.refl _ _ | refine Below.al ?_ _ | refine below_drewN2 ?_ _)⟩) | (exfalso; simp_all; done)
 subst h2
 have HE : Hid (eqEns l l2 = res):=by show _ = _; rw [← HRES.out]; simp
 clear HRES
 by_cases hne : m = m2
 case neg =>
  have hf : res = false:=by rw [← HE.out]; exact eqEns_len (by rw [HM.out,HM2.out]; exact hne)
  subst hf
  go_enter Tryz.func16,Tryz.ntmps16
  go_wp2
  all_goals first | (go_ret; exact ⟨rfl,by repeat (first | exact Below.refl _ _ | refine Below.al ?_ _ | refine below_drewN2 ?_ _)⟩) | (exfalso; omega)
 subst hne
 go_enter Tryz.func16,Tryz.ntmps16
 go_wp2
 go_loopw [5] (fun i wr => ∃ k : Nat,k ≤ m ∧ i = .i k ∧ Below w.heap.size w wr ∧ Hid (∀ i,i < k → eqEn (l[i]?.getD en0) (l2[i]?.getD en0) = true) ∧ Hid (∃ x0 x1 x2 x3 x4,VarA wr w.heap.size 51 #[x0,x1,x2,x3,x4,.slice a m cap]) ∧ Hid (∃ x0 x1 x2 x3 x4,VarA wr (w.heap.size + 1) 51 #[x0,x1,x2,x3,x4,.slice a2 m cap2])) (fun i _ => m - (intOf i).toNat)
 case atStart => exact ⟨0,Nat.zero_le _,rfl,by repeat (first | exact Below.refl _ _ | refine Below.al ?_ _ | refine below_drewN2 ?_ _),fun i hi => absurd hi (by omega),⟨_,_,_,_,_,(VarA.new w _ _).alloc _⟩,⟨_,_,_,_,_,by have h:=VarA.new (w.alloc (.cells #[.i kd,.i p,.i q,.bool d,.i vl,.slice a m cap] 51)) 51 #[.i kd,.i p2,.i q2,.bool d2,.i vl,.slice a2 m cap2]; rw [show (w.alloc (.cells #[.i kd,.i p,.i q,.bool d,.i vl,.slice a m cap] 51)).heap.size = w.heap.size + 1 by simp] at h; exact h⟩⟩
 case round =>
  obtain ⟨k,hk,rfl,hbel,HP,HV1,HV2⟩:=hrel
  obtain ⟨z0,z1,z2,z3,z4,hv1⟩:=HV1.out
  obtain ⟨t0,t1,t2,t3,t4,hv2⟩:=HV2.out
  have vc : wr.cell? ⟨w.heap.size,5,none⟩ = some (.slice a m cap):=hv1.c 5 rfl
  have vd : wr.cell? ⟨w.heap.size + 1,5,none⟩ = some (.slice a2 m cap2):=hv2.c 5 rfl
  have kv:=Cls.cell hv1.lt vc
  have kw:=Cls.cell hv2.lt vd
  have HW1 : Hid (VarA _ _ _ _):=hv1
  have HW2 : Hid (VarA _ _ _ _):=hv2
  clear hv1 hv2 HV1 HV2
  by_cases hlt : k < m
  case neg =>
   have he : k = m:=by omega
   subst he
   have hf : res = true:=by rw [← HE.out]; exact eqEns_all (by rw [HM.out,HM2.out]) (by rw [HM.out]; exact HP.out)
   subst hf
   go_wp2
   go_ret
   exact ⟨rfl,hbel⟩
  obtain ⟨b,off,rfl,hbl,_,hx⟩:=RdV.at (HR.out wr hbel) hlt
  obtain ⟨b2,off2,rfl,hbl2,_,hy⟩:=RdV.at (HR2.out wr hbel) hlt
  obtain ⟨x0,c0,r0⟩:=hx 0 (by omega)
  obtain ⟨x1,c1,r1⟩:=hx 1 (by omega)
  obtain ⟨x2,c2,r2⟩:=hx 2 (by omega)
  obtain ⟨x3,c3,r3⟩:=hx 3 (by omega)
  obtain ⟨y0,d0,s0⟩:=hy 0 (by omega)
  obtain ⟨y1,d1,s1⟩:=hy 1 (by omega)
  obtain ⟨y2,d2',s2⟩:=hy 2 (by omega)
  obtain ⟨y3,d3,s3⟩:=hy 3 (by omega)
  obtain ⟨bb,hbb⟩ : ∃ t,eqEn (l[k]?.getD en0) (l2[k]?.getD en0) = t:=⟨_,rfl⟩
  have HBB : Hid _:=hbb
  generalize l[k]?.getD en0 = e at r0 r1 r2 r3 hbb
  generalize l2[k]?.getD en0 = f at s0 s1 s2 s3 hbb
  clear hx hy
  obtain ⟨nm,⟨s,ino,dd⟩⟩:=e
  obtain ⟨nm2,⟨t,jno,ee⟩⟩:=f
  obtain rfl : x1 = .i s:=r1
  obtain rfl : x2 = .i ino:=r2
  obtain rfl : x3 = .bool dd:=r3
  obtain rfl : y1 = .i t:=s1
  obtain rfl : y2 = .i jno:=s2
  obtain rfl : y3 = .bool ee:=s3
  simp only [Nat.add_zero] at c0 d0
  have RB : RdV wr S x0 (.bytes nm):=r0
  have RY : RdV wr S2 y0 (.bytes nm2):=s0
  have hcv : ∀ i : Cls wr,(convert 39 9 x0).run Tryz.prog i.W = .ok (.string (strOfNums nm)) i.W:=fun i => conv_d _ nm S _ (RdV.step RB i.h)
  have hcy : ∀ i : Cls wr,(convert 39 9 y0).run Tryz.prog i.W = .ok (.string (strOfNums nm2)) i.W:=fun i => conv_d _ nm2 S2 _ (RdV.step RY i.h)
  have hst:=str_eq nm nm2 RB.1 RY.1
  have hbb2 : (decide (nm = nm2) && decide (s = t ∧ ino = jno ∧ dd = ee)) = bb:=hbb
  rw [← hst] at hbb2
  have hq2:=fun W => neH_run s ino t jno dd ee W
  generalize decide (s = t ∧ ino = jno ∧ dd = ee) = hh at hbb2 hq2
  obtain ⟨xa,xc,rfl⟩:=RdV.sliceB RB
  obtain ⟨ya,yc,rfl⟩:=RdV.sliceB RY
  clear r0 s0 HR HR2 hbb RB RY hst
  generalize strOfNums nm = g1 at hcv hbb2
  generalize strOfNums nm2 = g2 at hcy hbb2
  generalize nm.length = xn at *
  generalize nm2.length = yn at *
  haveI : Nonempty (Cls wr):=Cls.ne wr
  have k0:=Cls.cell hbl c0
  have k1:=Cls.cell hbl c1
  have k2:=Cls.cell hbl c2
  have k3:=Cls.cell hbl c3
  have j0:=Cls.cell hbl2 d0
  have j1:=Cls.cell hbl2 d1
  have j2:=Cls.cell hbl2 d2'
  have j3:=Cls.cell hbl2 d3
  have hki : (0 : Int) ≤ (k : Int):=by omega
  have hkm : (k : Int) < (m : Int):=by omega
  clear c0 c1 c2 c3 d0 d1 d2' d3 hq
  cases hh
  ·have hf : res = false:=by rw [← HE.out]; refine eqEns_at (by rw [HM.out]; exact hlt) (HBB.out.trans ?_); rw [← hbb2]; simp
   subst hf
   clear hbb2
   go_wp2
   refine wp_region_cls (by kernel_rfl) (by kernel_rfl) ?_
   repeat (go_big_quiet_step (fail))
   refine wpQuiet_nil ?_
   rintro w' ⟨⟨w',hb'⟩,rfl⟩
   go_wp2
   go_ret
   exact ⟨rfl,hbel.trans (hb'.mono hbel.size)⟩
  ·obtain ⟨cc,hcc⟩ : ∃ t,(g1.toList == g2.toList) = t:=⟨_,rfl⟩
   rw [hcc] at hbb2
   cases cc
   ·have hf : res = false:=by rw [← HE.out]; refine eqEns_at (by rw [HM.out]; exact hlt) (HBB.out.trans ?_); rw [← hbb2]; simp
    subst hf
    clear hbb2
    go_wp2
    refine wp_region_cls (by kernel_rfl) (by kernel_rfl) ?_
    repeat (go_big_quiet_step (fail))
    refine wpQuiet_nil ?_
    rintro w' ⟨⟨w',hb'⟩,rfl⟩
    go_wp2
    go_ret
    exact ⟨rfl,hbel.trans (hb'.mono hbel.size)⟩
   ·have HNX : Hid (∀ i,i < k + 1 → eqEn (l[i]?.getD en0) (l2[i]?.getD en0) = true):=fun i hi => (Nat.lt_succ_iff_lt_or_eq.mp hi).elim (fun h => HP.out i h) (fun h => by rw [h]; refine HBB.out.trans ?_; rw [← hbb2]; simp)
    clear hbb2
    go_wp2
    refine wp_region_cls (by kernel_rfl) (by kernel_rfl) ?_
    repeat (go_big_quiet_step (fail))
    refine wpQuiet_nil ?_
    rintro w' ⟨⟨w',hb'⟩,rfl⟩
    have v1':=HW1.out.step hb'
    have v2':=HW2.out.step hb'
    have hb3:=hbel.trans (hb'.mono hbel.size)
    go_wp2
    go_roundw
    case rel => exact ⟨k + 1,by omega,by go_num,hb3,HNX,⟨_,_,_,_,_,v1'⟩,⟨_,_,_,_,_,v2'⟩⟩
    case measure => simp [intOf]; omega
end Go.Proofs.YtblahkhniabhiaaGreatDoor
