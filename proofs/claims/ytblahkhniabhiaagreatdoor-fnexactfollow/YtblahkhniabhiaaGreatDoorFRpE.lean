/- The program holds replies against one another: what it tells of any two. Condition: no more than 2^21 of all. -/
import Derived.Test.YtblahkhniabhiaaGreatDoorFWSame
import Derived.Test.YtblahkhniabhiaaGreatDoorFA01
namespace Go.Proofs.YtblahkhniabhiaaGreatDoor
open Go.RowKit
set_option linter.unusedVariables false
set_option linter.unusedSimpArgs false
set_option maxRecDepth 100000

def eqHd (a b : Hd) : Bool:=decide (a.sh = b.sh ∧ a.ino = b.ino ∧ a.dir = b.dir)
def eqEn (a b : En) : Bool:=decide (a.nm = b.nm) && eqHd a.h b.h
def eqEns (a b : List En) : Bool:=decide (a.length = b.length) && decide (∀ i,i < a.length → eqEn (a[i]?.getD en0) (b[i]?.getD en0) = true)
def eqRp (a b : RpD) : Bool:=decide (a.code = b.code) && (eqHd a.h b.h && (decide (a.val = b.val) && eqEns a.list b.list))
theorem eqEns_len {a b : List En} (h : a.length ≠ b.length) : eqEns a b = false:=by simp [eqEns,h]
theorem eqEns_at {a b : List En} {i : Nat} (hi : i < a.length) (h : eqEn (a[i]?.getD en0) (b[i]?.getD en0) = false) : eqEns a b = false:=by
 unfold eqEns
 have : ¬ ∀ i,i < a.length → eqEn (a[i]?.getD en0) (b[i]?.getD en0) = true:=fun q => by rw [q i hi] at h; cases h
 simp only [decide_eq_false this,Bool.and_false]
theorem eqEns_all {a b : List En} (h : a.length = b.length) (q : ∀ i,i < a.length → eqEn (a[i]?.getD en0) (b[i]?.getD en0) = true) : eqEns a b = true:=by
 unfold eqEns
 rw [decide_eq_true h,decide_eq_true q]; rfl
set_option maxHeartbeats 2000000 in
theorem sameEntry_any (x y : Value) (e f : En) (S S2 : Nat → Prop) (w : World) (r : RdV w S x (.bytes e.nm)) (r2 : RdV w S2 y (.bytes f.nm)) :
  Calls Tryz.prog 88 #[enV x e.h,enV y f.h] w fun q w' => q = .returned (.bool (eqEn e f)) ∧ Below w.heap.size w w':=by
 have H1 : Hid (∀ W,Below w.heap.size w W → _):=fun W hW => bytesEq_any x y e.nm f.nm S S2 W (r.step hW) (r2.step hW)
 obtain ⟨a,cap,rfl⟩:=r.sliceB
 obtain ⟨a2,cap2,rfl⟩:=r2.sliceB
 obtain ⟨nm,⟨p,q,d⟩⟩:=e
 obtain ⟨nm2,⟨p2,q2,d2⟩⟩:=f
 have hq:=fun W => eqH_run p q p2 q2 d d2 W
 obtain ⟨res,hres⟩ : ∃ t,eqEn ⟨nm,p,q,d⟩ ⟨nm2,p2,q2,d2⟩ = t:=⟨_,rfl⟩
 have HRES : Hid ((decide (nm = nm2) && decide (p = p2 ∧ q = q2 ∧ d = d2)) = res):=hres
 rw [hres]
 dsimp only at H1 ⊢
 clear r r2 hres
 generalize decide (p = p2 ∧ q = q2 ∧ d = d2) = bb at hq HRES
 generalize decide (nm = nm2) = cc at H1 HRES
 generalize nm.length = n0 at *
 generalize nm2.length = n2 at *
 cases cc
 all_goals (go_enter Tryz.func88,Tryz.ntmps88; go_wp2_with fail; refine Calls.mono (H1.out _ (by repeat (first | exact Below.refl _ _ | refine Below.al ?_ _ | refine below_drewN2 ?_ _))) ?_; rintro e w' ⟨rfl,rfl⟩; go_wp2; go_ret; exact ⟨by rw [← HRES.out]; rfl,by repeat (first | exact Below.refl _ _ | refine Below.al ?_ _ | refine below_drewN2 ?_ _)⟩)
set_option maxHeartbeats 2000000 in
theorem equalFunc_any (v u : Value) (l l2 : List En) (S S2 : Nat → Prop) (w : World) (r : RdV w S v (ensDt l)) (r2 : RdV w S2 u (ensDt l2)) (hl : szEns l ≤ 2097152) :
  Calls Tryz.prog 87 #[v,u,.func (.func 88) #[] #[]] w fun q w' => q = .returned (.bool (eqEns l l2)) ∧ Below w.heap.size w w':=by
 obtain ⟨a,cap,rfl,_⟩:=RdV.sliced r
 obtain ⟨a2,cap2,rfl,_⟩:=RdV.sliced r2
 have HR : Hid (∀ W,Below w.heap.size w W → RdV W S (.slice a l.length cap) (.rows 86 4 l.length (fun i j => enCell (l[i]?.getD en0) j))):=RdV.old r
 have HR2 : Hid (∀ W,Below w.heap.size w W → RdV W S2 (.slice a2 l2.length cap2) (.rows 86 4 l2.length (fun i j => enCell (l2[i]?.getD en0) j))):=RdV.old r2
 have hmm : l.length ≤ 2097152:=by unfold szEns at hl; omega
 obtain ⟨res,hres⟩ : ∃ t,eqEns l l2 = t:=⟨_,rfl⟩
 have HE : Hid (eqEns l l2 = res):=hres
 rw [hres]
 obtain ⟨m,hm⟩ : ∃ m,l.length = m:=⟨_,rfl⟩
 obtain ⟨m2,hm2⟩ : ∃ m,l2.length = m:=⟨_,rfl⟩
 have HM : Hid _:=hm
 have HM2 : Hid _:=hm2
 rw [hm] at HR hmm ⊢
 rw [hm2] at HR2 ⊢
 clear r r2 hl hm hm2 hres
 by_cases hne : m = m2
 case neg =>
  have hf : res = false:=by rw [← HE.out]; exact eqEns_len (by rw [HM.out,HM2.out]; exact hne)
  subst hf
  go_enter Tryz.func87,Tryz.ntmps87
  go_wp2
  all_goals first | (go_ret; exact ⟨rfl,Below.refl _ _⟩) | (exfalso; omega)
 subst hne
 go_enter Tryz.func87,Tryz.ntmps87
 go_wp2
 go_loopw [17] (fun i wr => ∃ k : Nat,k ≤ m ∧ i = .i k ∧ Below w.heap.size w wr ∧ Hid (∀ i,i < k → eqEn (l[i]?.getD en0) (l2[i]?.getD en0) = true)) (fun i _ => m - (intOf i).toNat)
 case atStart => exact ⟨0,Nat.zero_le _,rfl,Below.refl _ _,fun i hi => absurd hi (by omega)⟩
 case round =>
  obtain ⟨k,hk,rfl,hbel,HP⟩:=hrel
  by_cases hlt : k < m
  case neg =>
   have he : k = m:=by omega
   subst he
   have hf : res = true:=by rw [← HE.out]; exact eqEns_all (by rw [HM.out,HM2.out]) (by rw [HM.out]; exact HP.out)
   subst hf
   go_wp2
   go_ret
   exact ⟨rfl,hbel⟩
  obtain ⟨b,off,rfl,hbl,_,hx⟩:=RdV.at (HR.out wr hbel) hlt
  obtain ⟨b2,off2,rfl,hbl2,_,hy⟩:=RdV.at (HR2.out wr hbel) hlt
  obtain ⟨x0,c0,r0⟩:=hx 0 (by omega)
  obtain ⟨x1,c1,r1⟩:=hx 1 (by omega)
  obtain ⟨x2,c2,r2⟩:=hx 2 (by omega)
  obtain ⟨x3,c3,r3⟩:=hx 3 (by omega)
  obtain ⟨y0,d0,s0⟩:=hy 0 (by omega)
  obtain ⟨y1,d1,s1⟩:=hy 1 (by omega)
  obtain ⟨y2,d2,s2⟩:=hy 2 (by omega)
  obtain ⟨y3,d3,s3⟩:=hy 3 (by omega)
  obtain ⟨bb,hbb⟩ : ∃ t,eqEn (l[k]?.getD en0) (l2[k]?.getD en0) = t:=⟨_,rfl⟩
  have HBB : Hid _:=hbb
  generalize l[k]?.getD en0 = e at r0 r1 r2 r3 hbb
  generalize l2[k]?.getD en0 = f at s0 s1 s2 s3 hbb
  clear hx hy
  have HSE : Hid (∀ W,Below wr.heap.size wr W → Calls Tryz.prog 88 #[enV x0 e.h,enV y0 f.h] W fun q w' => q = .returned (.bool bb) ∧ Below W.heap.size W w'):=fun W hW => by rw [← hbb]; exact sameEntry_any x0 y0 e f S S2 W (RdV.step (show RdV wr S x0 (.bytes e.nm) from r0) hW) (RdV.step (show RdV wr S2 y0 (.bytes f.nm) from s0) hW)
  obtain ⟨nm,⟨s,ino,dd⟩⟩:=e
  obtain ⟨nm2,⟨t,jno,ee⟩⟩:=f
  obtain rfl : x1 = .i s:=r1
  obtain rfl : x2 = .i ino:=r2
  obtain rfl : x3 = .bool dd:=r3
  obtain rfl : y1 = .i t:=s1
  obtain rfl : y2 = .i jno:=s2
  obtain rfl : y3 = .bool ee:=s3
  simp only [Nat.add_zero] at c0 d0
  obtain ⟨xa,xc,rfl⟩:=RdV.sliceB (show RdV wr S x0 (.bytes nm) from r0)
  obtain ⟨ya,yc,rfl⟩:=RdV.sliceB (show RdV wr S2 y0 (.bytes nm2) from s0)
  clear r0 s0 HR HR2 hbb
  generalize nm.length = xn at *
  generalize nm2.length = yn at *
  cases bb
  ·have hf : res = false:=by rw [← HE.out]; exact eqEns_at (by rw [HM.out]; exact hlt) HBB.out
   subst hf
   go_wp2_with (go_at_call 88; refine Calls.mono (HSE.out _ (by repeat (first | exact Below.refl _ _ | refine Below.al ?_ _ | refine below_drewN2 ?_ _))) ?_; rintro e w' ⟨rfl,b_⟩)
   go_ret
   exact ⟨rfl,hbel.trans ((Below.trans (by repeat (first | exact Below.refl _ _ | refine Below.al ?_ _ | refine below_drewN2 ?_ _)) (b_.mono (by simp <;> omega))).mono hbel.size)⟩
  ·go_wp2_with (go_at_call 88; refine Calls.mono (HSE.out _ (by repeat (first | exact Below.refl _ _ | refine Below.al ?_ _ | refine below_drewN2 ?_ _))) ?_; rintro e w' ⟨rfl,b_⟩)
   exact ⟨⟨k + 1,by omega,by go_num,hbel.trans ((Below.trans (by repeat (first | exact Below.refl _ _ | refine Below.al ?_ _ | refine below_drewN2 ?_ _)) (b_.mono (by simp <;> omega))).mono hbel.size),fun i hi => (Nat.lt_succ_iff_lt_or_eq.mp hi).elim (fun h => HP.out i h) (fun h => by rw [h]; exact HBB.out)⟩,by simp [intOf]; omega⟩
set_option maxHeartbeats 2000000 in
theorem sameReply_any (x y : Value) (o u : RpD) (S S2 : Nat → Prop) (w : World) (r : RdV w S x (ensDt o.list)) (r2 : RdV w S2 y (ensDt u.list)) (hl : szEns o.list ≤ 2097152) :
  Calls Tryz.prog 69 #[rpV o x,rpV u y] w fun e w' => e = .returned (.bool (eqRp o u)) ∧ Below w.heap.size w w':=by
 have H1 : Hid (∀ W,Below w.heap.size w W → _):=fun W hW => equalFunc_any x y o.list u.list S S2 W (r.step hW) (r2.step hW) hl
 obtain ⟨a,cap,rfl,_⟩:=RdV.sliced r
 obtain ⟨a2,cap2,rfl,_⟩:=RdV.sliced r2
 obtain ⟨kd,⟨p,q,d⟩,vl,es⟩:=o
 obtain ⟨kd2,⟨p2,q2,d2⟩,vl2,es2⟩:=u
 have hq:=fun W => eqH_run p q p2 q2 d d2 W
 obtain ⟨res,hres⟩ : ∃ t,eqRp ⟨kd,(p,q,d),vl,es⟩ ⟨kd2,(p2,q2,d2),vl2,es2⟩ = t:=⟨_,rfl⟩
 have HRES : Hid ((decide (kd = kd2) && (decide (p = p2 ∧ q = q2 ∧ d = d2) && (decide (vl = vl2) && eqEns es es2))) = res):=hres
 rw [hres]
 dsimp only at H1 ⊢
 clear r r2 hres hl
 generalize decide (p = p2 ∧ q = q2 ∧ d = d2) = bb at hq HRES
 generalize eqEns es es2 = cc at H1 HRES
 generalize es.length = n0 at *
 generalize es2.length = n2 at *
 by_cases h1 : kd = kd2
 case neg =>
  have hf : res = false:=by rw [← HRES.out]; simp [h1]
  subst hf
  go_enter Tryz.func69,Tryz.ntmps69
  go_wp2
  go_ret
  exact ⟨by simp [h1],by repeat (first | exact Below.refl _ _ | refine Below.al ?_ _ | refine below_drewN2 ?_ _)⟩
 subst h1
 cases bb
 ·have hf : res = false:=by rw [← HRES.out]; simp
  subst hf
  go_enter Tryz.func69,Tryz.ntmps69
  go_wp2
  go_ret
  exact ⟨by simp,by repeat (first | exact Below.refl _ _ | refine Below.al ?_ _ | refine below_drewN2 ?_ _)⟩
 by_cases h2 : vl = vl2
 case neg =>
  have hf : res = false:=by rw [← HRES.out]; simp [h2]
  subst hf
  go_enter Tryz.func69,Tryz.ntmps69
  go_wp2
  go_ret
  exact ⟨by simp [h2],by repeat (first | exact Below.refl _ _ | refine Below.al ?_ _ | refine below_drewN2 ?_ _)⟩
 subst h2
 have hf : res = cc:=by rw [← HRES.out]; simp
 subst hf
 go_enter Tryz.func69,Tryz.ntmps69
 go_wp2_with fail
 refine Calls.mono (H1.out _ (by repeat (first | exact Below.refl _ _ | refine Below.al ?_ _ | refine below_drewN2 ?_ _))) ?_
 rintro e w' ⟨rfl,b_⟩
 go_wp2
 go_ret
 exact ⟨rfl,Below.trans (by repeat (first | exact Below.refl _ _ | refine Below.al ?_ _ | refine below_drewN2 ?_ _)) (b_.mono (by simp <;> omega))⟩
end Go.Proofs.YtblahkhniabhiaaGreatDoor
