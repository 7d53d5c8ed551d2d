/- Joined: SpecD5 SpecD6 SpecD7 SpecD8 WOk3 WMsg0 ImplT2. -/
import Derived.Test.YtblahkhniabhiaaGreatDoorFA02
import Derived.Test.YtblahkhniabhiaaGreatDoorFSpecT5
import Derived.Test.YtblahkhniabhiaaGreatDoorFA01
import Derived.Deep.AppendLies
import Derived.Maps.AppendAt
import Derived.Laws.AppendOwnNone
import Derived.Test.YtblahkhniabhiaaGreatDoorFOpOks2
import Derived.Deep.RegionHeld3
import Derived.Test.YtblahkhniabhiaaGreatDoorFSpecT4a
import Derived.Lib.BytesEntry

namespace Go.Proofs.YtblahkhniabhiaaGreatDoor
open Go.RowKit
set_option linter.unusedVariables false
set_option linter.unusedSimpArgs false
set_option maxRecDepth 100000
section
def undN (l : List Nd) (by' : Hd) : Nat → Hd → Int
 | 0,_ => 2
 | f + 1,h => if h = by' then 1 else if h = rootH then 0 else if fi l h < l.length then undN l by' f (l[fi l h]?.getD nd0).par else 0

theorem decH_f {p q s i : Int} {d e : Bool} (h : ¬ ((p,q,d) : Hd) = (s,i,e)) : decide (p = s ∧ q = i ∧ d = e) = false:=by
 rw [decide_eq_false_iff_not]
 rintro ⟨rfl,rfl,rfl⟩
 exact h rfl
theorem decH_t {p q s i : Int} {d e : Bool} (h : ((p,q,d) : Hd) = (s,i,e)) : decide (p = s ∧ q = i ∧ d = e) = true:=by
 rw [decide_eq_true_iff]
 simp only [Prod.mk.injEq] at h
 exact h
def UnRel (w : World) (v : Value) (l : List Nd) (by' : Hd) (res : Int) (i : Value) (wr : World) : Prop:=
 ∃ (k : Nat) (h : Hd),k ≤ 12 ∧ i = .i k ∧ VarA wr w.heap.size 26 #[v] ∧ VarA wr (w.heap.size + 1) 48 #[.i h.sh,.i h.ino,.bool h.dir] ∧ VarA wr (w.heap.size + 1 + 1) 48 #[.i by'.sh,.i by'.ino,.bool by'.dir] ∧ Below w.heap.size w wr ∧ undN l by' (12 - k) h = res
set_option maxHeartbeats 4000000 in
theorem specUnder_any (x : Value) (l : List Nd) (h0 by' : Hd) (S : Nat → Prop) (w : World) (r : RdV w S x (ndsDt l)) (hl : l.length ≤ 2097152) :
  Calls Tryz.prog 79 #[.agg #[x],h0.v,by'.v] w fun e w' => e = .returned (.i (undN l by' 12 h0)) ∧ Below w.heap.size w w':=by
 obtain ⟨a,cap,rfl,_⟩:=RdV.sliced r
 have HR : Hid (∀ W,Below w.heap.size w W → RdV W S (.slice a l.length cap) (.rows 77 9 l.length (fun i j => ndCell (l[i]?.getD nd0) j))):=RdV.old r
 have HFI : Hid (∀ h W,Below w.heap.size w W → _):=fun h W hW => specFind_any _ l h S W (RdV.step r hW) hl
 have HRT : Hid (∀ W,_):=fun W => specRootH_any W
 obtain ⟨res,hres⟩ : ∃ res,undN l by' 12 h0 = res:=⟨_,rfl⟩
 rw [hres]
 have HRES : Hid _:=hres
 clear r hres
 obtain ⟨p,q,d⟩:=h0
 obtain ⟨p2,q2,d2⟩:=by'
 go_enter Tryz.func79,Tryz.ntmps79
 go_wp2
 go_loopw [7] (fun i wr => UnRel w (.slice a l.length cap) l (p2,q2,d2) res i wr) (fun i _ => 12 - (intOf i).toNat)
 case atStart =>
  refine ⟨0,(p,q,d),Nat.zero_le _,rfl,((VarA.new w _ _).alloc _).alloc _,?_,?_,(((Below.refl _ _).alloc (Nat.le_refl _) _).alloc (by simp) _).alloc (by simp; omega) _,HRES.out⟩
  ·have:=(VarA.new (w.alloc (.cells #[.slice a l.length cap] 26)) 48 #[.i p,.i q,.bool d]).alloc (.cells #[.i p2,.i q2,.bool d2] 48)
   simpa using this
  ·have:=VarA.new ((w.alloc (.cells #[.slice a l.length cap] 26)).alloc (.cells #[.i p,.i q,.bool d] 48)) 48 #[.i p2,.i q2,.bool d2]
   simpa using this
 case round =>
  clear HRES
  obtain ⟨k,⟨p,q,d⟩,hk,rfl,vT,vH,vB,bw,hres⟩:=hrel
  replace vH : VarA wr (w.heap.size + 1) 48 #[.i p,.i q,.bool d]:=vH
  replace vB : VarA wr (w.heap.size + 1 + 1) 48 #[.i p2,.i q2,.bool d2]:=vB
  have c0:=vT.l1
  obtain ⟨a0,a1,a2⟩:=vH.l3
  obtain ⟨b0,b1,b2⟩:=vB.l3
  have HE : Hid _:=hres
  clear hres
  by_cases hlt : k < 12
  case neg =>
   have HF : Hid ((2 : Int) = res):=by rw [← HE.out]; show _ = _; rw [show 12 - k = 0 by omega]; rfl
   have hk9 : ¬ (k : Int) < 12:=by omega
   have HB : Hid _:=bw
   clear vT vH vB bw
   go_wp2
   go_ret
   exact ⟨by rw [← HF.out]; rfl,HB.out⟩
  have hk9 : (k : Int) < 12:=by omega
  have eq1:=fun W => eqH_run p q p2 q2 d d2 W
  by_cases hby : ((p,q,d) : Hd) = (p2,q2,d2)
  ·have d1:=decH_t hby
   have HF : Hid ((1 : Int) = res):=by rw [← HE.out]; show _ = _; rw [show 12 - k = (12 - (k + 1)) + 1 by omega,undN,if_pos hby]
   have HB : Hid _:=bw
   rw [d1] at eq1
   clear vT vH vB bw hby d1
   go_wp2
   go_ret
   exact ⟨by rw [← HF.out]; rfl,HB.out⟩
  ·have d1:=decH_f hby
   rw [d1] at eq1
   have hlH:=vH.lt
   haveI : Nonempty (Cls wr):=Cls.ne wr
   have ka0:=Cls.cell hlH a0
   have ka1:=Cls.cell hlH a1
   have ka2:=Cls.cell hlH a2
   have hst : undN l (p2,q2,d2) (12 - k) (p,q,d) = if ((p,q,d) : Hd) = rootH then 0 else if fi l (p,q,d) < l.length then undN l (p2,q2,d2) (12 - (k + 1)) (l[fi l (p,q,d)]?.getD nd0).par else 0:=by rw [show 12 - k = (12 - (k + 1)) + 1 by omega,undN,if_neg hby]
   have HST : Hid _:=hst
   clear hst hby d1
   by_cases hrt : ((p,q,d) : Hd) = (0,1,true)
   ·have hne : ∀ W : World,(binOp .eql 48 (.agg #[.i p,.i q,.bool d]) (.agg #[.i 0,.i 1,.bool true])).run Tryz.prog W = .ok (.bool true) W:=fun W => by rw [eqH_run,decH_t hrt]
    have HF : Hid ((0 : Int) = res):=by rw [← HE.out]; show _ = _; rw [HST.out,if_pos (show ((p,q,d) : Hd) = rootH from hrt)]
    have HB : Hid _:=bw
    clear vT vH vB bw hrt
    go_wp2
    refine wp_region_cls (by kernel_rfl) (by kernel_rfl) ?_
    repeat (go_big_quiet_step (first | (go_at_call 28; exact Calls.cls_new (HRT.out _))))
    refine wpQuiet_nil ?_
    rintro w' ⟨⟨w',hb'⟩,rfl⟩
    have HB9 : Hid (Below w.heap.size w w'):=HB.out.trans (hb'.mono HB.out.size)
    clear hb'
    go_wp2
    go_ret
    exact ⟨by rw [← HF.out]; rfl,HB9.out⟩
   ·have hne : ∀ W : World,(binOp .eql 48 (.agg #[.i p,.i q,.bool d]) (.agg #[.i 0,.i 1,.bool true])).run Tryz.prog W = .ok (.bool false) W:=fun W => by rw [eqH_run,decH_f hrt]
    have HN : Hid (¬ ((p,q,d) : Hd) = rootH):=hrt
    have HVT : Hid (VarA wr w.heap.size 26 _):=vT
    have HVH : Hid (VarA wr (w.heap.size + 1) 48 _):=vH
    have HVB : Hid (VarA wr (w.heap.size + 1 + 1) 48 _):=vB
    have HB : Hid (Below w.heap.size w wr):=bw
    clear vT vH vB bw hrt
    go_wp2
    refine wp_region_cls (by kernel_rfl) (by kernel_rfl) ?_
    repeat (go_big_quiet_step (first | (go_at_call 28; exact Calls.cls_new (HRT.out _))))
    refine wpQuiet_nil ?_
    rintro w' ⟨⟨w',hb'⟩,rfl⟩
    have vT:=HVT.out.step hb'
    have vH:=HVH.out.step hb'
    have vB:=HVB.out.step hb'
    have bw:=HB.out.trans (hb'.mono HB.out.size)
    clear hb' HVT HVH HVB HB c0 a0 a1 a2 b0 b1 b2 ka0 ka1 ka2 hlH hne eq1
    have c0:=vT.l1
    obtain ⟨a0,a1,a2⟩:=vH.l3
    go_wp2_with fail
    refine Calls.mono (HFI.out (p,q,d) _ bw) ?_
    rintro e w3 ⟨rfl,b3⟩
    have vT3:=vT.step b3
    have vH3:=vH.step b3
    have vB3:=vB.step b3
    have bw3:=bw.trans (b3.mono bw.size)
    clear vT vH vB bw b3 c0 a0 a1 a2
    have c0:=vT3.l1
    obtain ⟨a0,a1,a2⟩:=vH3.l3
    have fz:=vH3.fz
    rcases findH_cases l (p,q,d) with ⟨hf1,hf2⟩ | ⟨hf1,hf2⟩
    case inr =>
     have HF : Hid ((0 : Int) = res):=by rw [← HE.out]; show _ = _; rw [HST.out,if_neg HN.out,if_neg hf1]
     have HB : Hid _:=bw3
     rw [hf2]
     clear HE HST hf1 hf2 vT3 vH3 vB3 bw3
     go_wp2
     go_ret
     exact ⟨by rw [← HF.out]; rfl,HB.out⟩
    have HF : Hid (undN l (p2,q2,d2) (12 - (k + 1)) (l[fi l (p,q,d)]?.getD nd0).par = res):=by rw [← HE.out]; show _ = _; rw [HST.out,if_neg HN.out,if_pos hf1]
    rw [hf2]
    clear HE HST hf2 HN
    generalize fi l (p,q,d) = f0 at *
    obtain ⟨b,off,rfl,hbl,_,hx⟩:=RdV.at (HR.out w3 bw3) hf1
    generalize l[f0]?.getD nd0 = en at hx HF
    obtain ⟨x3,g3,s3⟩:=hx 3 (by omega)
    obtain ⟨x4,g4,s4⟩:=hx 4 (by omega)
    obtain ⟨x5,g5,s5⟩:=hx 5 (by omega)
    clear hx
    obtain ⟨hh,⟨p',q',d'⟩,lk',vl',es'⟩:=en
    obtain rfl : x3 = .i p':=s3
    obtain rfl : x4 = .i q':=s4
    obtain rfl : x5 = .bool d':=s5
    have HT : Hid (VarA w3 w.heap.size 26 _):=vT3
    have HH : Hid (VarA w3 (w.heap.size + 1) 48 _):=vH3
    have HBB : Hid (VarA w3 (w.heap.size + 1 + 1) 48 _):=vB3
    have HB : Hid (Below w.heap.size w w3):=bw3
    have hi0 : (f0 : Int) < (l.length : Int):=by omega
    clear vT3 vH3 vB3 bw3
    go_wp2
    refine ⟨⟨k + 1,(p',q',d'),by omega,by go_num,(((HT.out.aside (p:=⟨w.heap.size + 1,0,none⟩) (by show w.heap.size ≠ w.heap.size + 1; omega) _).aside (p:=⟨w.heap.size + 1,1,none⟩) (by show w.heap.size ≠ w.heap.size + 1; omega) _).aside (p:=⟨w.heap.size + 1,2,none⟩) (by show w.heap.size ≠ w.heap.size + 1; omega) _),((HH.out.set 0 _).set 1 _).set 2 _,(((HBB.out.aside (p:=⟨w.heap.size + 1,0,none⟩) (by show w.heap.size + 1 + 1 ≠ w.heap.size + 1; omega) _).aside (p:=⟨w.heap.size + 1,1,none⟩) (by show w.heap.size + 1 + 1 ≠ w.heap.size + 1; omega) _).aside (p:=⟨w.heap.size + 1,2,none⟩) (by show w.heap.size + 1 + 1 ≠ w.heap.size + 1; omega) _),((HB.out.setCell (by show w.heap.size ≤ w.heap.size + 1; omega) _).setCell (by show w.heap.size ≤ w.heap.size + 1; omega) _).setCell (by show w.heap.size ≤ w.heap.size + 1; omega) _,HF.out⟩,by simp [intOf]; omega⟩
end
section
def Nm (w : World) (T : Nat → Prop) (v : Value) : Nat → Prop:=fun b => T b ∧ b < w.heap.size ∧ v.ownBlock ≠ some b
def SE (w : World) (lo : Nat) (T : Nat → Prop) (v : Value) (l : List En) : Prop:=
 ∃ (V : Nat → Value) (C : List Value),w.ownsRow lo 86 4 v l.length C ∧ (∀ i j,i < l.length → j < 4 → C[i * 4 + j]? = some (enVal (l[i]?.getD en0) (V i) j)) ∧ ∀ i,i < l.length → RdV w (Nm w T v) (V i) (.bytes (l[i]?.getD en0).nm)
theorem SE.nil (w : World) (lo : Nat) (T : Nat → Prop) : SE w lo T (.n0) []:=
 ⟨fun _ => undef,[],World.ownsRow_nil _ _ _ _,fun i j hi => absurd hi (Nat.not_lt_zero _),fun i hi => absurd hi (Nat.not_lt_zero _)⟩
theorem SE.lt {w : World} {lo : Nat} {T : Nat → Prop} {v : Value} {l : List En} (s : SE w lo T v l) : ∀ b,v.ownBlock = some b → lo ≤ b ∧ b < w.heap.size:=by
 obtain ⟨V,C,h1,h2,h3⟩:=s
 exact fun b hb => h1.lt b hb
theorem SE.step {w w' : World} {lo : Nat} {T : Nat → Prop} {v : Value} {l : List En} (s : SE w lo T v l) (hb : Below w.heap.size w w') : SE w' lo T v l:=by
 have hlt:=s.lt
 obtain ⟨V,C,h1,h2,h3⟩:=s
 exact ⟨V,C,ownsRow_keep (S:=fun b => lo ≤ b ∧ b < w.heap.size) h1 hlt (Keeps.ofBelow hb),h2,fun i hi => RdV.mono (fun b hb' => ⟨hb'.1,Nat.lt_of_lt_of_le hb'.2.1 hb.size,hb'.2.2⟩) (RdV.step (h3 i hi) hb)⟩
theorem SE.rd {w : World} {lo : Nat} {T : Nat → Prop} {v : Value} {l : List En} (s : SE w lo T v l) : RdV w (fun b => (T b ∨ lo ≤ b) ∧ b < w.heap.size) v (ensDt l):=by
 obtain ⟨V,C,h1,h2,h3⟩:=s
 unfold ensDt
 refine RdV.mkRows _ ?_
 rcases h1.2 with ⟨hv,h0⟩ | ⟨g,c,cur,hv,hg,hh,hnc,hm,_⟩
 ·subst hv
  rw [h0]
  exact ⟨none,0,fun _ _ => undef,rfl,⟨Nat.le_refl _,Nat.zero_le _,fun _ => ⟨rfl,rfl⟩⟩,.inl rfl,fun i j hi => absurd hi (Nat.not_lt_zero _)⟩
 ·subst hv
  refine ⟨some ⟨g,0,none⟩,c,fun i j => enVal (l[i]?.getD en0) (V i) j,rfl,⟨hnc,hm,fun e => by cases e⟩,.inr ⟨g,0,rfl,⟨.inr hg,lt_of_block hh⟩,lt_of_block hh,fun i j hi hj => ?_⟩,fun i j hi hj => ?_⟩
  ·rw [Nat.zero_add,World.ownsRow.cellAt h1 (i * 4 + j) (place_lt hi hj)]
   exact h2 i j hi hj
  ·match j,hj with
   | 0,_ => exact RdV.mono (fun b hb => ⟨.inl hb.1,hb.2.1⟩) (h3 i hi)
   | 1,_ => rfl
   | 2,_ => rfl
   | 3,_ => rfl
def enRow (l : List En) (V : Nat → Value) : List Value:=(List.range (l.length * 4)).map (fun t => enVal (l[t / 4]?.getD en0) (V (t / 4)) (t % 4))
theorem enRow_at (l : List En) (V : Nat → Value) (i j : Nat) (hi : i < l.length) (hj : j < 4) : (enRow l V)[i * 4 + j]? = some (enVal (l[i]?.getD en0) (V i) j):=by
 unfold enRow
 rw [List.getElem?_map,List.getElem?_range (place_lt hi hj)]
 simp only [Option.map_some]
 rw [show (i * 4 + j) / 4 = i by omega,show (i * 4 + j) % 4 = j by omega]
theorem enRow_of {l : List En} {V : Nat → Value} {t : Nat} {u : Value} (h : (enRow l V)[t]? = some u) : t < l.length * 4 ∧ u = enVal (l[t / 4]?.getD en0) (V (t / 4)) (t % 4):=by
 unfold enRow at h
 rw [List.getElem?_map] at h
 by_cases ht : t < l.length * 4
 ·rw [List.getElem?_range ht] at h
  simp only [Option.map_some,Option.some.injEq] at h
  exact ⟨ht,h.symm⟩
 ·rw [List.getElem?_eq_none (by simpa using ht)] at h
  cases h
theorem enVal_one (e : En) (x : Value) (hx : x.oneCell' = true) : ∀ j,(enVal e x j).oneCell' = true
 | 0 => hx
 | 1 => rfl
 | 2 => rfl
 | (_ + 3) => rfl
end
section
theorem SE.manyV {w w' : World} {lo : Nat} {T : Nat → Prop} {v v' : Value} {l l2 : List En} (V V2 : Nat → Value) (C news : List Value) (h1 : w.ownsRow lo 86 4 v l.length C)
  (h2 : ∀ i j,i < l.length → j < 4 → C[i * 4 + j]? = some (enVal (l[i]?.getD en0) (V i) j)) (h3 : ∀ i,i < l.length → RdV w (Nm w T v) (V i) (.bytes (l[i]?.getD en0).nm))
  (hn : ∀ i j,i < l2.length → j < 4 → news[i * 4 + j]? = some (enVal (l2[i]?.getD en0) (V2 i) j)) (hr : ∀ i,i < l2.length → RdV w (Nm w T v) (V2 i) (.bytes (l2[i]?.getD en0).nm))
  (ho : w'.ownsRow lo 86 4 v' (l.length + l2.length) (C ++ news)) (hg : w.grownBy w' v.ownBlock) (hgg : v'.ownBlock = v.ownBlock ∨ v'.ownBlock = some w.heap.size) :
  SE w' lo T v' (l ++ l2):=by
 have hsz:=hg.size
 have hCl : C.length = l.length * 4:=h1.1
 have hln : (l ++ l2).length = l.length + l2.length:=List.length_append
 have hrd : ∀ (y : Value) (zs : List Int),RdV w (Nm w T v) y (.bytes zs) → RdV w' (Nm w' T v') y (.bytes zs):=fun y zs r =>
  RdV.mono (fun b hb => ⟨hb.1,by have:=hb.2.1; omega,fun e => by
   rcases hgg with h | h
   ·exact hb.2.2 (by rw [← h,e])
   ·rw [h] at e
    have e' : w.heap.size = b:=by simpa using e
    have:=hb.2.1
    omega⟩) (RdV.keep ⟨hsz,fun b hb hlt => hg.block b hlt (fun h => hb.2.2 h.symm)⟩ r)
 refine ⟨fun i => if i < l.length then V i else V2 (i - l.length),_,by rw [hln]; exact ho,fun i j hi hj => ?_,fun i hi => ?_⟩
 ·rw [hln] at hi
  by_cases hlt : i < l.length
  ·simp only [hlt,if_true]
   rw [List.getElem?_append_left (by rw [hCl]; exact place_lt hlt hj),List.getElem?_append_left hlt]
   exact h2 i j hlt hj
  ·simp only [hlt,if_false]
   rw [List.getElem?_append_right (by omega),hCl,show i * 4 + j - l.length * 4 = (i - l.length) * 4 + j by omega,List.getElem?_append_right (by omega)]
   exact hn (i - l.length) j (by omega) hj
 ·rw [hln] at hi
  by_cases hlt : i < l.length
  ·simp only [hlt,if_true]
   rw [List.getElem?_append_left hlt]
   exact hrd _ _ (h3 i hlt)
  ·simp only [hlt,if_false]
   rw [List.getElem?_append_right (by omega)]
   exact hrd _ _ (hr (i - l.length) (by omega))
def Lies (w : World) (ao : Option Addr) (c : Nat) (l2 : List En) (V2 : Nat → Value) : Prop:=
 (ao = none ∧ l2 = [] ∧ c = 0) ∨ ∃ ad,ao = some ad ∧ ∀ t u,(enRow l2 V2)[t]? = some u → w.cell? (ad.add t) = some u
theorem wpList_appE {ops : Array Oper} {rest : List Oper} {o : Oper} {a : Act} {Q : Exit → Act → World → Prop} (w : World) (hgd : o.guard = none) (s x : Operand)
  (ho : o.op = .call { callee:=.builtin .append,args:=#[s,x],argTypes:=#[49,49] })
  (v : Value) (hs : a.eval s = v) (l l2 : List En) (lo c : Nat) (ao : Option Addr) (T : Nat → Prop) (hx : a.eval x = .slice ao l2.length c) (V2 : Nat → Value)
  (hsrc : Lies w ao c l2 V2) (hr : ∀ i,i < l2.length → RdV w (Nm w T v) (V2 i) (.bytes (l2[i]?.getD en0).nm))
  (hown : SE w lo T v l) (hlo : lo ≤ w.heap.size) (hl : l.length + l2.length ≤ 8000)
  (h : ∀ v' w',SE w' lo T v' (l ++ l2) → w.grownBy w' v.ownBlock → (v'.ownBlock = v.ownBlock ∨ v'.ownBlock = some w.heap.size) → wpList Tryz.prog ops Q rest (a.put o.dst v') w') : wpList Tryz.prog ops Q (o :: rest) a w:=by
 obtain ⟨i0,hi0,hz0,hz1,hz2⟩:=info_parts Tryz.infoEn
 obtain ⟨V,C,h1,h2,h3⟩:=hown
 rcases hsrc with ⟨rfl,rfl,rfl⟩ | ⟨ad,rfl,hcell⟩
 ·refine wpList_append_own_none (w:=w) hgd s x 49 ho lo 86 i0 4 Tryz.underlying49 hi0 v l.length C hs h1 hx ?_
  exact h v w (by rw [List.append_nil]; exact ⟨V,C,h1,h2,h3⟩) ⟨rfl,rfl,rfl,Nat.le_refl _,fun _ _ _ => rfl⟩ (.inl rfl)
 ·obtain ⟨v',w',hrun,ho',hg,_,hgg⟩:=run_append_own_at (P:=Tryz.prog) w lo 49 o.type 86 i0 (.agg #[.n0,.i 0,.i 0,.bool false]) 4 48 Tryz.underlying49 hi0 hz0 hz1 hz2 rfl (by decide) v l.length C h1 ad l2.length c (enRow l2 V2) (by simp [enRow]) hcell (fun u hu => by
    obtain ⟨t,ht⟩:=List.getElem?_of_mem hu
    obtain ⟨ht1,rfl⟩:=enRow_of ht
    refine enVal_one _ _ ?_ _
    obtain ⟨a',c',e'⟩:=RdV.sliceB (hr (t / 4) (by omega))
    rw [e']
    rfl) (by unfold maxLen; omega) (by omega) hlo
  have hse:=SE.manyV V V2 C (enRow l2 V2) h1 h2 h3 (fun i j hi hj => enRow_at l2 V2 i j hi hj) hr ho' hg hgg
  refine wpList_plain hgd fun K hK => ?_
  unfold Oper.wp execOp
  simp only [ho,resolve,invoke,builtin,Sem.run_bind,Sem.run_pure,Result.andThen_ok,List.map_toArray,List.map_cons,List.map_nil,hs,hx,hrun]
  exact hK _ _ (h v' w' hse hg hgg)
end
section
def EntL (w : World) (L : Nat → Prop) (v : Value) : Nat → Prop:=fun b => L b ∧ b < w.heap.size ∧ v.ownBlock ≠ some b
def SG (w : World) (lo : Nat) (L : Nat → Prop) (v : Value) (l : List Nd) : Prop:=
 ∃ (V : Nat → Value) (C : List Value),w.ownsRow lo 77 9 v l.length C ∧ (∀ i j,i < l.length → j < 9 → C[i * 9 + j]? = some (ndVal (l[i]?.getD nd0) (V i) j)) ∧ ∀ i,i < l.length → RdV w (EntL w L v) (V i) (ensO (l[i]?.getD nd0).es)
theorem SN.sg {w : World} {lo : Nat} {v : Value} {l : List Nd} (s : SN w lo v l) : SG w lo (fun b => lo ≤ b) v l:=s
theorem SG.mono {w : World} {lo : Nat} {L L' : Nat → Prop} {v : Value} {l : List Nd} (s : SG w lo L v l) (h : ∀ b,b < w.heap.size → L b → L' b) : SG w lo L' v l:=by
 obtain ⟨V,C,h1,h2,h3⟩:=s
 exact ⟨V,C,h1,h2,fun i hi => RdV.mono (fun b hb => ⟨h b hb.2.1 hb.1,hb.2⟩) (h3 i hi)⟩
theorem SG.nil (w : World) (lo : Nat) (L : Nat → Prop) : SG w lo L (.n0) []:=
 ⟨fun _ => undef,[],World.ownsRow_nil _ _ _ _,fun i j hi => absurd hi (Nat.not_lt_zero _),fun i hi => absurd hi (Nat.not_lt_zero _)⟩
theorem SG.lt {w : World} {lo : Nat} {L : Nat → Prop} {v : Value} {l : List Nd} (s : SG w lo L v l) : ∀ b,v.ownBlock = some b → lo ≤ b ∧ b < w.heap.size:=by
 obtain ⟨V,C,h1,h2,h3⟩:=s
 exact fun b hb => h1.lt b hb
theorem SG.keep {w w' : World} {lo : Nat} {L : Nat → Prop} {v : Value} {l : List Nd} (s : SG w lo L v l) (t : Keeps (fun b => b < w.heap.size ∧ (L b ∨ v.ownBlock = some b)) w w') : SG w' lo L v l:=by
 have hb:=s.lt
 obtain ⟨V,C,h1,h2,h3⟩:=s
 exact ⟨V,C,ownsRow_keep h1 (fun b h => ⟨(hb b h).2,.inr h⟩) t,h2,fun i hi => RdV.mono (fun b hb => ⟨hb.1,Nat.lt_of_lt_of_le hb.2.1 t.1,hb.2.2⟩) (RdV.keep (t.mono (fun b hb => ⟨hb.2.1,.inl hb.1⟩)) (h3 i hi))⟩
theorem SG.step {w w' : World} {lo : Nat} {L : Nat → Prop} {v : Value} {l : List Nd} (s : SG w lo L v l) (hb : Below w.heap.size w w') : SG w' lo L v l:=s.keep (Keeps.ofBelow hb)
theorem SG.sn {w : World} {lo : Nat} {L : Nat → Prop} {v : Value} {l : List Nd} (s : SG w lo L v l) (h : ∀ b,L b → lo ≤ b) : SN w lo v l:=s.mono (fun b _ hb => h b hb)
theorem SG.head {w : World} {lo : Nat} {L : Nat → Prop} {v : Value} {l : List Nd} (s : SG w lo L v l) (hl : 0 < l.length) : ∃ g cap,v = .slice (some ⟨g,0,none⟩) l.length cap ∧ lo ≤ g ∧ g < w.heap.size ∧ (∀ j,w.frozen? ⟨g,j,none⟩ = false) ∧ l.length ≤ cap:=by
 obtain ⟨V,C,h1,h2,h3⟩:=s
 rcases h1.2 with ⟨hv,h0⟩ | ⟨g,c,cur,hv,hg,hh,hnc,hm,_⟩
 ·omega
 ·subst hv
  exact ⟨g,c,rfl,hg,lt_of_block hh,fun j => h1.frozenAt j,hnc⟩
theorem SG.at {w : World} {lo g cap : Nat} {L : Nat → Prop} {l : List Nd} (s : SG w lo L (.slice (some ⟨g,0,none⟩) l.length cap) l) {i : Nat} (hi : i < l.length) :
  ∃ x,RdV w (fun b => L b ∧ b < w.heap.size ∧ b ≠ g) x (ensDt (l[i]?.getD nd0).es) ∧ ∀ j,j < 9 → w.cell? ⟨g,i * 9 + j,none⟩ = some (ndVal (l[i]?.getD nd0) x j):=by
 obtain ⟨V,C,h1,h2,h3⟩:=s
 refine ⟨V i,RdV.mono (fun b hb => ⟨hb.1,hb.2.1,fun e => hb.2.2 (by rw [e]; rfl)⟩) (h3 i hi).en,fun j hj => ?_⟩
 rw [World.ownsRow.cellAt h1 (i * 9 + j) (place_lt hi hj)]
 exact h2 i j hi hj
def Nd.setEs (n : Nd) (es : List En) : Nd:=⟨n.h,n.par,n.links,n.val,es⟩
theorem SE.rdO {w : World} {lo : Nat} {T : Nat → Prop} {v : Value} {l : List En} (s : SE w lo T v l) : RdV w (fun b => (T b ∨ lo ≤ b) ∧ b < w.heap.size) v (ensO l):=by
 have h:=s.rd
 have hl:=s.lt
 obtain ⟨V,C,h1,_⟩:=s
 exact ensO.mk h h1 (fun b hb => ⟨.inr (hl b hb).1,(hl b hb).2⟩)
theorem SE.shape {w : World} {lo : Nat} {T : Nat → Prop} {v : Value} {l : List En} (s : SE w lo T v l) : ∃ a c,v = .slice a l.length c:=by
 obtain ⟨V,C,h1,h2,h3⟩:=s
 rcases h1.2 with ⟨hv,h0⟩ | ⟨g,c,cur,hv,_⟩
 ·exact ⟨none,0,by rw [h0]; exact hv⟩
 ·exact ⟨_,c,hv⟩
theorem SG.shape {L : Nat → Prop} {w : World} {lo : Nat} {v : Value} {l : List Nd} (s : SG w lo L v l) : ∃ a c,v = .slice a l.length c:=by
 obtain ⟨V,C,h1,h2,h3⟩:=s
 rcases h1.2 with ⟨hv,h0⟩ | ⟨g,c,cur,hv,_⟩
 ·exact ⟨none,0,by rw [h0]; exact hv⟩
 ·exact ⟨_,c,hv⟩
theorem SE.shapeN {w : World} {lo n : Nat} {T : Nat → Prop} {v : Value} {l : List En} (s : SE w lo T v l) (h : l.length = n) : ∃ a c,v = .slice a n c:=by subst h; exact s.shape
theorem SG.shapeN {L : Nat → Prop} {w : World} {lo n : Nat} {v : Value} {l : List Nd} (s : SG w lo L v l) (h : l.length = n) : ∃ a c,v = .slice a n c:=by subst h; exact s.shape
theorem SE.empty (w : World) (lo : Nat) (T : Nat → Prop) (h : lo ≤ w.heap.size) : SE (w.alloc (.cells #[] 86)) lo T (.slice (some ⟨w.heap.size,0,none⟩) 0 0) []:=
 ⟨fun _ => undef,[],World.ownsRow_lit w #[] 0 h (Nat.zero_le _) rfl,fun i j hi => absurd hi (Nat.not_lt_zero _),fun i hi => absurd hi (Nat.not_lt_zero _)⟩
theorem SG.empty (L : Nat → Prop) (w : World) (lo : Nat) (h : lo ≤ w.heap.size) : SG (w.alloc (.cells #[] 77)) lo L (.slice (some ⟨w.heap.size,0,none⟩) 0 0) []:=
 ⟨fun _ => undef,[],World.ownsRow_lit w #[] 0 h (Nat.zero_le _) rfl,fun i j hi => absurd hi (Nat.not_lt_zero _),fun i hi => absurd hi (Nat.not_lt_zero _)⟩
theorem SG.setE {L : Nat → Prop} {w : World} {lo g cap m : Nat} {l : List Nd} (s : SG w lo L (.slice (some ⟨g,0,none⟩) m cap) l) {d : Nat} (hd : d < l.length) {x : Value} {es : List En} (hx : RdV w (fun b => L b ∧ b < w.heap.size ∧ b ≠ g) x (ensO es)) :
  SG (w.setCell ⟨g,d * 9 + 8,none⟩ x) lo L (.slice (some ⟨g,0,none⟩) m cap) (l.set d ((l[d]?.getD nd0).setEs es)):=by
 obtain ⟨a,c,hv⟩:=s.shape
 simp only [Value.slice.injEq] at hv
 obtain ⟨-,rfl,-⟩:=hv
 obtain ⟨V,C,h1,h2,h3⟩:=s
 have hst:=h1.stored (d * 9 + 8) x
 have hCl : C.length = l.length * 9:=h1.1
 have hln : (l.set d ((l[d]?.getD nd0).setEs es)).length = l.length:=List.length_set
 have kp : ∀ (y : Value) (ys : List En),RdV w (EntL w L (.slice (some ⟨g,0,none⟩) l.length cap)) y (ensO ys) → RdV (w.setCell ⟨g,d * 9 + 8,none⟩ x) (EntL (w.setCell ⟨g,d * 9 + 8,none⟩ x) L (.slice (some ⟨g,0,none⟩) l.length cap)) y (ensO ys):=fun y ys r =>
  RdV.mono (fun b hb => ⟨hb.1,by simpa using hb.2.1,hb.2.2⟩) (RdV.keep ⟨by simp,fun b hb _ => heap_setCell_other w _ b x (fun e => hb.2.2 (by rw [e]; rfl))⟩ r)
 refine ⟨fun i => if i = d then x else V i,_,by rw [hln]; exact hst.1,fun i j hi hj => ?_,fun i hi => ?_⟩
 ·rw [hln] at hi
  rw [List.getElem?_set]
  by_cases he : i = d
  ·subst he
   simp only [if_true]
   rw [List.getElem?_set_self hi]
   by_cases h8 : j = 8
   ·subst h8
    rw [if_pos rfl,if_pos (by rw [hCl]; exact place_lt hi hj)]
    rfl
   ·rw [if_neg (by omega),h2 i j hi hj]
    match j,hj with
    | 0,_ => rfl
    | 1,_ => rfl
    | 2,_ => rfl
    | 3,_ => rfl
    | 4,_ => rfl
    | 5,_ => rfl
    | 6,_ => rfl
    | 7,_ => rfl
    | 8,_ => omega
  ·simp only [he,if_false]
   rw [if_neg (fun e => he (by have:=place_inj (k:=9) (by omega) hj e; omega)),List.getElem?_set_ne (by omega)]
   exact h2 i j hi hj
 ·rw [hln] at hi
  by_cases he : i = d
  ·subst he
   simp only [if_true]
   rw [List.getElem?_set_self hi]
   exact kp _ _ (RdV.mono (fun b hb => ⟨hb.1,hb.2.1,fun e => hb.2.2 (by simpa [Value.ownBlock] using e.symm)⟩) hx)
  ·simp only [he,if_false]
   rw [List.getElem?_set_ne (by omega)]
   exact kp _ _ (h3 i hi)
theorem SG.setN {L : Nat → Prop} {w : World} {lo g cap m : Nat} {l : List Nd} (s : SG w lo L (.slice (some ⟨g,0,none⟩) m cap) l) {d j : Nat} (hd : d < l.length) (hj8 : j < 8) {u : Value} {n : Nd} (hes : n.es = (l[d]?.getD nd0).es) (hu : ∀ x,ndVal n x j = u) (ho : ∀ x j',j' < 8 → j' ≠ j → ndVal n x j' = ndVal (l[d]?.getD nd0) x j') :
  SG (w.setCell ⟨g,d * 9 + j,none⟩ u) lo L (.slice (some ⟨g,0,none⟩) m cap) (l.set d n):=by
 obtain ⟨a,c,hv⟩:=s.shape
 simp only [Value.slice.injEq] at hv
 obtain ⟨-,rfl,-⟩:=hv
 obtain ⟨V,C,h1,h2,h3⟩:=s
 have hst:=h1.stored (d * 9 + j) u
 have hCl : C.length = l.length * 9:=h1.1
 have hln : (l.set d n).length = l.length:=List.length_set
 have kp : ∀ (y : Value) (ys : List En),RdV w (EntL w L (.slice (some ⟨g,0,none⟩) l.length cap)) y (ensO ys) → RdV (w.setCell ⟨g,d * 9 + j,none⟩ u) (EntL (w.setCell ⟨g,d * 9 + j,none⟩ u) L (.slice (some ⟨g,0,none⟩) l.length cap)) y (ensO ys):=fun y ys r =>
  RdV.mono (fun b hb => ⟨hb.1,by simpa using hb.2.1,hb.2.2⟩) (RdV.keep ⟨by simp,fun b hb _ => heap_setCell_other w _ b u (fun e => hb.2.2 (by rw [e]; rfl))⟩ r)
 refine ⟨V,_,by rw [hln]; exact hst.1,fun i j' hi hj => ?_,fun i hi => ?_⟩
 ·rw [hln] at hi
  rw [List.getElem?_set]
  by_cases he : i = d
  ·subst he
   rw [List.getElem?_set_self hi]
   by_cases h8 : j' = j
   ·subst h8
    rw [if_pos rfl,if_pos (by rw [hCl]; exact place_lt hi hj)]
    rw [Option.getD_some,hu]
   ·rw [if_neg (by omega),h2 i j' hi hj,Option.getD_some]
    by_cases h9 : j' < 8
    ·rw [ho _ _ h9 h8]
    ·obtain rfl : j' = 8:=by omega
     rfl
  ·rw [if_neg (fun e => he (by have:=place_inj (k:=9) (by omega) hj e; omega)),List.getElem?_set_ne (by omega)]
   exact h2 i j' hi hj
 ·rw [hln] at hi
  by_cases he : i = d
  ·subst he
   rw [List.getElem?_set_self hi,Option.getD_some,hes]
   exact kp _ _ (h3 i hi)
  ·rw [List.getElem?_set_ne (by omega)]
   exact kp _ _ (h3 i hi)
theorem step_appE {ops : Array Oper} {o : Oper} {a : Act} {K : Act → World → Prop} {Q : Exit → Act → World → Prop} {E : Prop} (w : World) (hgd : o.guard = none) (s x : Operand)
  (ho : o.op = .call { callee:=.builtin .append,args:=#[s,x],argTypes:=#[49,49] })
  (v : Value) (hs : a.eval s = v) (l l2 : List En) (lo c : Nat) (ao : Option Addr) (T : Nat → Prop) (hx : a.eval x = .slice ao l2.length c) (V2 : Nat → Value)
  (hsrc : Lies w ao c l2 V2) (hr : ∀ i,i < l2.length → RdV w (Nm w T v) (V2 i) (.bytes (l2[i]?.getD en0).nm))
  (hown : SE w lo T v l) (hlo : lo ≤ w.heap.size) (hl : l.length + l2.length ≤ 8000)
  (h : ∀ v' w',SE w' lo T v' (l ++ l2) → w.grownBy w' v.ownBlock → (v'.ownBlock = v.ownBlock ∨ v'.ownBlock = some w.heap.size) → K (a.put o.dst v') w') : if Region.wanted o (yielded ops a.tmps) = true then Oper.wp Tryz.prog o a w K Q else E:=by
 have hw : Region.wanted o (yielded ops a.tmps) = true:=by simp [Region.wanted,hgd]
 rw [if_pos hw]
 obtain ⟨i0,hi0,hz0,hz1,hz2⟩:=info_parts Tryz.infoEn
 obtain ⟨V,C,h1,h2,h3⟩:=hown
 rcases hsrc with ⟨rfl,rfl,rfl⟩ | ⟨ad,rfl,hcell⟩
 ·have hrun:=run_append_owned_none (P:=Tryz.prog) (w:=w) lo 49 o.type 86 i0 4 Tryz.underlying49 hi0 v l.length C h1
  have hx' : a.eval x = .n0:=hx
  unfold Oper.wp execOp
  simp only [ho,resolve,invoke,builtin,Sem.run_bind,Sem.run_pure,Result.andThen_ok,List.map_toArray,List.map_cons,List.map_nil,hs,hx',hrun]
  exact h v w (by rw [List.append_nil]; exact ⟨V,C,h1,h2,h3⟩) ⟨rfl,rfl,rfl,Nat.le_refl _,fun _ _ _ => rfl⟩ (.inl rfl)
 ·obtain ⟨v',w',hrun,ho',hg,_,hgg⟩:=run_append_own_at (P:=Tryz.prog) w lo 49 o.type 86 i0 (.agg #[.n0,.i 0,.i 0,.bool false]) 4 48 Tryz.underlying49 hi0 hz0 hz1 hz2 rfl (by decide) v l.length C h1 ad l2.length c (enRow l2 V2) (by simp [enRow]) hcell (fun u hu => by
    obtain ⟨t,ht⟩:=List.getElem?_of_mem hu
    obtain ⟨ht1,rfl⟩:=enRow_of ht
    refine enVal_one _ _ ?_ _
    obtain ⟨a',c',e'⟩:=RdV.sliceB (hr (t / 4) (by omega))
    rw [e']
    rfl) (by unfold maxLen; omega) (by omega) hlo
  have hse:=SE.manyV V V2 C (enRow l2 V2) h1 h2 h3 (fun i j hi hj => enRow_at l2 V2 i j hi hj) hr ho' hg hgg
  unfold Oper.wp execOp
  simp only [ho,resolve,invoke,builtin,Sem.run_bind,Sem.run_pure,Result.andThen_ok,List.map_toArray,List.map_cons,List.map_nil,hs,hx,hrun]
  exact h v' w' hse hg hgg
def ndRow (l : List Nd) (V : Nat → Value) : List Value:=(List.range (l.length * 9)).map (fun t => ndVal (l[t / 9]?.getD nd0) (V (t / 9)) (t % 9))
theorem ndRow_at (l : List Nd) (V : Nat → Value) (i j : Nat) (hi : i < l.length) (hj : j < 9) : (ndRow l V)[i * 9 + j]? = some (ndVal (l[i]?.getD nd0) (V i) j):=by
 unfold ndRow
 rw [List.getElem?_map,List.getElem?_range (place_lt hi hj)]
 simp only [Option.map_some]
 rw [show (i * 9 + j) / 9 = i by omega,show (i * 9 + j) % 9 = j by omega]
theorem ndRow_of {l : List Nd} {V : Nat → Value} {t : Nat} {u : Value} (h : (ndRow l V)[t]? = some u) : t < l.length * 9 ∧ u = ndVal (l[t / 9]?.getD nd0) (V (t / 9)) (t % 9):=by
 unfold ndRow at h
 rw [List.getElem?_map] at h
 by_cases ht : t < l.length * 9
 ·rw [List.getElem?_range ht] at h
  simp only [Option.map_some,Option.some.injEq] at h
  exact ⟨ht,h.symm⟩
 ·rw [List.getElem?_eq_none (by simpa using ht)] at h
  cases h
theorem ndVal_one (n : Nd) (x : Value) (hx : x.oneCell' = true) : ∀ j,(ndVal n x j).oneCell' = true
 | 0 => rfl
 | 1 => rfl
 | 2 => rfl
 | 3 => rfl
 | 4 => rfl
 | 5 => rfl
 | 6 => rfl
 | 7 => rfl
 | (_ + 8) => hx
theorem SG.manyV {L : Nat → Prop} {w w' : World} {lo : Nat} {v v' : Value} {l l2 : List Nd} (V V2 : Nat → Value) (C news : List Value) (h1 : w.ownsRow lo 77 9 v l.length C)
  (h2 : ∀ i j,i < l.length → j < 9 → C[i * 9 + j]? = some (ndVal (l[i]?.getD nd0) (V i) j)) (h3 : ∀ i,i < l.length → RdV w (EntL w L v) (V i) (ensO (l[i]?.getD nd0).es))
  (hn : ∀ i j,i < l2.length → j < 9 → news[i * 9 + j]? = some (ndVal (l2[i]?.getD nd0) (V2 i) j)) (hr : ∀ i,i < l2.length → RdV w (EntL w L v) (V2 i) (ensO (l2[i]?.getD nd0).es))
  (ho : w'.ownsRow lo 77 9 v' (l.length + l2.length) (C ++ news)) (hg : w.grownBy w' v.ownBlock) (hgg : v'.ownBlock = v.ownBlock ∨ v'.ownBlock = some w.heap.size) :
  SG w' lo L v' (l ++ l2):=by
 have hsz:=hg.size
 have hCl : C.length = l.length * 9:=h1.1
 have hln : (l ++ l2).length = l.length + l2.length:=List.length_append
 have hrd : ∀ (y : Value) (es : List En),RdV w (EntL w L v) y (ensO es) → RdV w' (EntL w' L v') y (ensO es):=fun y es r =>
  RdV.mono (fun b hb => ⟨hb.1,by have:=hb.2.1; omega,fun e => by
   rcases hgg with h | h
   ·exact hb.2.2 (by rw [← h,e])
   ·rw [h] at e
    have e' : w.heap.size = b:=by simpa using e
    have:=hb.2.1
    omega⟩) (RdV.keep ⟨hsz,fun b hb hlt => hg.block b hlt (fun h => hb.2.2 h.symm)⟩ r)
 refine ⟨fun i => if i < l.length then V i else V2 (i - l.length),_,by rw [hln]; exact ho,fun i j hi hj => ?_,fun i hi => ?_⟩
 ·rw [hln] at hi
  by_cases hlt : i < l.length
  ·simp only [hlt,if_true]
   rw [List.getElem?_append_left (by rw [hCl]; exact place_lt hlt hj),List.getElem?_append_left hlt]
   exact h2 i j hlt hj
  ·simp only [hlt,if_false]
   rw [List.getElem?_append_right (by omega),hCl,show i * 9 + j - l.length * 9 = (i - l.length) * 9 + j by omega,List.getElem?_append_right (by omega)]
   exact hn (i - l.length) j (by omega) hj
 ·rw [hln] at hi
  by_cases hlt : i < l.length
  ·simp only [hlt,if_true]
   rw [List.getElem?_append_left hlt]
   exact hrd _ _ (h3 i hlt)
  ·simp only [hlt,if_false]
   rw [List.getElem?_append_right (by omega)]
   exact hrd _ _ (hr (i - l.length) (by omega))
def LiesN (w : World) (ao : Option Addr) (c : Nat) (l2 : List Nd) (V2 : Nat → Value) : Prop:=
 (ao = none ∧ l2 = [] ∧ c = 0) ∨ ∃ ad,ao = some ad ∧ ∀ t u,(ndRow l2 V2)[t]? = some u → w.cell? (ad.add t) = some u
theorem run_appN {L : Nat → Prop} (w : World) (ty : TypeId) (v : Value) (l l2 : List Nd) (lo c : Nat) (ao : Option Addr) (V2 : Nat → Value)
  (hsrc : LiesN w ao c l2 V2) (hr : ∀ i,i < l2.length → RdV w (EntL w L v) (V2 i) (ensO (l2[i]?.getD nd0).es)) (hown : SG w lo L v l) (hlo : lo ≤ w.heap.size) (hl : l.length + l2.length ≤ 8000) :
  ∃ v' w',(Builtin.append_ #[24,24] ty #[v,.slice ao l2.length c]).run Tryz.prog w = .ok v' w' ∧ SG w' lo L v' (l ++ l2) ∧ w.grownBy w' v.ownBlock ∧ (v'.ownBlock = v.ownBlock ∨ v'.ownBlock = some w.heap.size):=by
 obtain ⟨i0,hi0,hz0,hz1,hz2⟩:=info_parts Tryz.infoNd
 obtain ⟨V,C,h1,h2,h3⟩:=hown
 rcases hsrc with ⟨rfl,rfl,rfl⟩ | ⟨ad,rfl,hcell⟩
 ·exact ⟨v,w,run_append_owned_none (P:=Tryz.prog) (w:=w) lo 24 ty 77 i0 9 Tryz.underlying24 hi0 v l.length C h1,by rw [List.append_nil]; exact ⟨V,C,h1,h2,h3⟩,⟨rfl,rfl,rfl,Nat.le_refl _,fun _ _ _ => rfl⟩,.inl rfl⟩
 ·obtain ⟨v',w',hrun,ho',hg,_,hgg⟩:=run_append_own_at (P:=Tryz.prog) w lo 24 ty 77 i0 _ 9 _ Tryz.underlying24 hi0 hz0 hz1 hz2 rfl (by decide) v l.length C h1 ad l2.length c (ndRow l2 V2) (by simp [ndRow]) hcell (fun u hu => by
    obtain ⟨t,ht⟩:=List.getElem?_of_mem hu
    obtain ⟨ht1,rfl⟩:=ndRow_of ht
    refine ndVal_one _ _ ?_ _
    obtain ⟨a',c',e',_⟩:=RdV.sliced (RdV.en (hr (t / 9) (by omega)))
    rw [e']
    rfl) (by unfold maxLen; omega) (by omega) hlo
  exact ⟨v',w',hrun,SG.manyV V V2 C (ndRow l2 V2) h1 h2 h3 (fun i j hi hj => ndRow_at l2 V2 i j hi hj) hr ho' hg hgg,hg,hgg⟩
theorem step_appN {L : Nat → Prop} {ops : Array Oper} {o : Oper} {a : Act} {K : Act → World → Prop} {Q : Exit → Act → World → Prop} {E : Prop} (w : World) (hgd : o.guard = none) (s x : Operand)
  (ho : o.op = .call { callee:=.builtin .append,args:=#[s,x],argTypes:=#[24,24] })
  (v : Value) (hs : a.eval s = v) (l l2 : List Nd) (lo c : Nat) (ao : Option Addr) (hx : a.eval x = .slice ao l2.length c) (V2 : Nat → Value)
  (hsrc : LiesN w ao c l2 V2) (hr : ∀ i,i < l2.length → RdV w (EntL w L v) (V2 i) (ensO (l2[i]?.getD nd0).es))
  (hown : SG w lo L v l) (hlo : lo ≤ w.heap.size) (hl : l.length + l2.length ≤ 8000)
  (h : ∀ v' w',SG w' lo L v' (l ++ l2) → w.grownBy w' v.ownBlock → (v'.ownBlock = v.ownBlock ∨ v'.ownBlock = some w.heap.size) → K (a.put o.dst v') w') : if Region.wanted o (yielded ops a.tmps) = true then Oper.wp Tryz.prog o a w K Q else E:=by
 have hw : Region.wanted o (yielded ops a.tmps) = true:=by simp [Region.wanted,hgd]
 rw [if_pos hw]
 obtain ⟨v',w',hrun,hs',hg,hgg⟩:=run_appN w o.type v l l2 lo c ao V2 hsrc hr hown hlo hl
 unfold Oper.wp execOp
 simp only [ho,resolve,invoke,builtin,Sem.run_bind,Sem.run_pure,Result.andThen_ok,List.map_toArray,List.map_cons,List.map_nil,hs,hx,hrun]
 exact h v' w' hs' hg hgg
theorem wpList_appN {L : Nat → Prop} {ops : Array Oper} {rest : List Oper} {o : Oper} {a : Act} {Q : Exit → Act → World → Prop} (w : World) (hgd : o.guard = none) (s x : Operand)
  (ho : o.op = .call { callee:=.builtin .append,args:=#[s,x],argTypes:=#[24,24] })
  (v : Value) (hs : a.eval s = v) (l l2 : List Nd) (lo c : Nat) (ao : Option Addr) (hx : a.eval x = .slice ao l2.length c) (V2 : Nat → Value)
  (hsrc : LiesN w ao c l2 V2) (hr : ∀ i,i < l2.length → RdV w (EntL w L v) (V2 i) (ensO (l2[i]?.getD nd0).es))
  (hown : SG w lo L v l) (hlo : lo ≤ w.heap.size) (hl : l.length + l2.length ≤ 8000)
  (h : ∀ v' w',SG w' lo L v' (l ++ l2) → w.grownBy w' v.ownBlock → (v'.ownBlock = v.ownBlock ∨ v'.ownBlock = some w.heap.size) → wpList Tryz.prog ops Q rest (a.put o.dst v') w') : wpList Tryz.prog ops Q (o :: rest) a w:=by
 obtain ⟨v',w',hrun,hs',hg,hgg⟩:=run_appN w o.type v l l2 lo c ao V2 hsrc hr hown hlo hl
 refine wpList_plain hgd fun K hK => ?_
 unfold Oper.wp execOp
 simp only [ho,resolve,invoke,builtin,Sem.run_bind,Sem.run_pure,Result.andThen_ok,List.map_toArray,List.map_cons,List.map_nil,hs,hx,hrun]
 exact hK _ _ (h v' w' hs' hg hgg)
theorem getD_take {α : Type} (l : List α) (k i : Nat) (z : α) (hi : i < (l.take k).length) : (l.take k)[i]?.getD z = l[i]?.getD z:=by
 rw [List.getElem?_take,if_pos (by rw [List.length_take] at hi; omega)]
theorem getD_drop {α : Type} (l : List α) (k i : Nat) (z : α) : (l.drop k)[i]?.getD z = l[k + i]?.getD z:=by rw [List.getElem?_drop]
theorem sliceH_run (t : TypeId) (h : Tryz.prog.underlying t = some (.slice (Tryz.prog.elem t))) {s : Nat} (hs : ∀ W,(sizeOf (Tryz.prog.elem t)).run Tryz.prog W = .ok s W) (xa : Option Addr) (n c k : Nat) (hk : k ≤ c) (W : World) : (Instr.sliceAt t (.slice xa n c) none (some (.i (k : Int))) none).run Tryz.prog W = .ok (.slice xa k c) W:=by
 rw [run_sliceAt_slice W t _ _ _ _ h,run_slice_h W t xa n c h .i64 (k : Int) (by omega) (by omega),hs]
 simp [Result.andThen,sliced]
 intro _
 cases xa with
 | none => rfl
 | some ad => obtain ⟨b,o,p⟩:=ad; cases p <;> simp [Addr.add]
theorem sliceL_run (t : TypeId) (h : Tryz.prog.underlying t = some (.slice (Tryz.prog.elem t))) {s : Nat} (hs : ∀ W,(sizeOf (Tryz.prog.elem t)).run Tryz.prog W = .ok s W) (xa : Option Addr) (n c k : Nat) (hk : k ≤ n) (W : World) : (Instr.sliceAt t (.slice xa n c) (some (.i (k : Int))) none none).run Tryz.prog W = .ok (.slice (if c = k then xa else xa.map (·.add (k * s))) (n - k) (c - k)) W:=by
 rw [run_sliceAt_slice W t _ _ _ _ h,run_slice_l W t xa n c h .i64 (k : Int) (by omega) (by omega),hs]
 simp [Result.andThen,sliced]
theorem size_of_info {t : TypeId} {x : Option Value} {s b : Nat} (h : (Tryz.prog.info? t).map (fun i => (i.zero,i.size,i.bytes)) = some (x,s,b)) (W : World) : (sizeOf t).run Tryz.prog W = .ok s W:=by
 cases hq : Tryz.prog.info? t with
 | none => rw [hq] at h; cases h
 | some i => rw [hq] at h; simp only [Option.map_some,Option.some.injEq,Prod.mk.injEq] at h; simp [sizeOf,typeInfo,hq,h.2.1]
theorem elemEn : Tryz.prog.underlying 49 = some (.slice (Tryz.prog.elem 49)):=by kernel_rfl
theorem elemNd : Tryz.prog.underlying 24 = some (.slice (Tryz.prog.elem 24)):=by kernel_rfl
theorem sizeEn (W : World) : (sizeOf (Tryz.prog.elem 49)).run Tryz.prog W = .ok 4 W:=by
 rw [show Tryz.prog.elem 49 = 86 by kernel_rfl]; exact size_of_info Tryz.infoEn W
theorem sizeNd (W : World) : (sizeOf (Tryz.prog.elem 24)).run Tryz.prog W = .ok 9 W:=by
 rw [show Tryz.prog.elem 24 = 77 by kernel_rfl]; exact size_of_info Tryz.infoNd W
theorem sliceHE (xa : Option Addr) (n c k : Nat) (hk : k ≤ c) (W : World) : (Instr.sliceAt 49 (.slice xa n c) none (some (.i (k : Int))) none).run Tryz.prog W = .ok (.slice xa k c) W:=sliceH_run _ elemEn sizeEn xa n c k hk W
theorem sliceLE (xa : Option Addr) (n c k : Nat) (hk : k ≤ n) (W : World) : (Instr.sliceAt 49 (.slice xa n c) (some (.i (k : Int))) none none).run Tryz.prog W = .ok (.slice (if c = k then xa else xa.map (·.add (k * 4))) (n - k) (c - k)) W:=sliceL_run _ elemEn sizeEn xa n c k hk W
theorem sliceHN (xa : Option Addr) (n c k : Nat) (hk : k ≤ c) (W : World) : (Instr.sliceAt 24 (.slice xa n c) none (some (.i (k : Int))) none).run Tryz.prog W = .ok (.slice xa k c) W:=sliceH_run _ elemNd sizeNd xa n c k hk W
theorem sliceLN (xa : Option Addr) (n c k : Nat) (hk : k ≤ n) (W : World) : (Instr.sliceAt 24 (.slice xa n c) (some (.i (k : Int))) none none).run Tryz.prog W = .ok (.slice (if c = k then xa else xa.map (·.add (k * 9))) (n - k) (c - k)) W:=sliceL_run _ elemNd sizeNd xa n c k hk W
theorem wpList_sl {ops : Array Oper} {rest : List Oper} {t t' : TypeId} {dst : Option Tmp} {x : Operand} {lo hi : Option Operand} {pos : String} {af : Array Edge} {a : Act} {Q : Exit → Act → World → Prop} {w : World} (v : Value)
  (hrun : (Instr.sliceAt t (a.eval x) (lo.map a.eval) (hi.map a.eval) none).run Tryz.prog w = .ok v w) (hK : wpList Tryz.prog ops Q rest (a.put dst v) w) : wpList Tryz.prog ops Q (⟨dst,.slice t x lo hi none,t',pos,af,none⟩ :: rest) a w:=by
 refine wpList_plain rfl fun K' hK' => ?_
 unfold Oper.wp execOp
 simp only [Option.map_none,hrun,Sem.run_bind,Sem.run_pure,Result.andThen_ok]
 exact hK' _ _ hK
theorem RdV.lies {w : World} {S : Nat → Prop} {xa : Option Addr} {xc : Nat} {es : List En} (r : RdV w S (.slice xa es.length xc) (ensDt es)) :
  ∃ V : Nat → Value,(∀ i,i < es.length → RdV w S (V i) (.bytes (es[i]?.getD en0).nm)) ∧ ∀ k,k ≤ es.length → Lies w xa xc (es.take k) V ∧ Lies w (if xc = k then xa else xa.map (·.add (k * 4))) (xc - k) (es.drop k) (fun i => V (k + i)):=by
 unfold ensDt at r
 obtain ⟨a,cap,V,hv,hh,hc,he⟩:=r.inv
 simp only [Value.slice.injEq] at hv
 obtain ⟨rfl,-,rfl⟩:=hv
 refine ⟨fun i => V i 0,fun i hi => he i 0 hi (by omega),fun k hk => ?_⟩
 have hval : ∀ i j,i < es.length → j < 4 → V i j = enVal (es[i]?.getD en0) (V i 0) j:=fun i j hi hj => by
  have:=he i j hi hj
  match j,hj with
  | 0,_ => rfl
  | 1,_ => exact this
  | 2,_ => exact this
  | 3,_ => exact this
 cases xa with
 | none =>
  obtain ⟨h0,h1⟩:=hh.2.2 rfl
  have : es = []:=List.eq_nil_of_length_eq_zero h0
  subst this
  subst h1
  exact ⟨.inl ⟨rfl,by simp,rfl⟩,.inl ⟨by simp,by simp,by simp⟩⟩
 | some ad =>
  rcases hc with h0 | ⟨b,off,ha,h1,h2,hc⟩
  ·have : es = []:=List.eq_nil_of_length_eq_zero h0
   subst this
   refine ⟨.inr ⟨ad,rfl,fun t u ht => by simp [enRow] at ht⟩,.inr ?_⟩
   obtain ⟨ad2,e2⟩ : ∃ ad2,(if xc = k then some ad else Option.map (fun x => x.add (k * 4)) (some ad)) = some ad2:=by split <;> exact ⟨_,rfl⟩
   exact ⟨ad2,e2,fun t u ht => by simp [enRow] at ht⟩
  ·simp only [Option.some.injEq] at ha
   subst ha
   refine ⟨.inr ⟨_,rfl,fun t u ht => ?_⟩,.inr ?_⟩
   ·obtain ⟨ht1,rfl⟩:=enRow_of ht
    have hlt : t / 4 < (es.take k).length:=by omega
    have hlt2 : t / 4 < es.length:=by rw [List.length_take] at hlt; omega
    rw [add_plainT,getD_take _ _ _ _ hlt,← hval _ _ hlt2 (by omega),← hc (t / 4) (t % 4) hlt2 (by omega),show t / 4 * 4 + t % 4 = t by omega]
   ·by_cases hck : xc = k
    ·refine ⟨⟨b,off,none⟩,by rw [if_pos hck],fun t u ht => ?_⟩
     obtain ⟨ht1,rfl⟩:=enRow_of ht
     have:=hh.1
     rw [List.length_drop] at ht1
     omega
    ·refine ⟨(Addr.mk b off none).add (k * 4),by rw [if_neg hck]; rfl,fun t u ht => ?_⟩
     obtain ⟨ht1,rfl⟩:=enRow_of ht
     rw [List.length_drop] at ht1
     have hlt2 : k + t / 4 < es.length:=by omega
     rw [add_plainT,add_plainT,getD_drop,← hval _ _ hlt2 (by omega),← hc (k + t / 4) (t % 4) hlt2 (by omega),show off + k * 4 + t = off + ((k + t / 4) * 4 + t % 4) by omega]
theorem SG.lies {L : Nat → Prop} {w : World} {lo g c : Nat} {l : List Nd} (s : SG w lo L (.slice (some ⟨g,0,none⟩) l.length c) l) :
  ∃ V : Nat → Value,(∀ i,i < l.length → RdV w (fun b => L b ∧ b < w.heap.size ∧ b ≠ g) (V i) (ensO (l[i]?.getD nd0).es)) ∧ l.length ≤ c ∧ ∀ k,k ≤ l.length → LiesN w (some ⟨g,0,none⟩) c (l.take k) V ∧ LiesN w (if c = k then some ⟨g,0,none⟩ else (some (Addr.mk g 0 none)).map (·.add (k * 9))) (c - k) (l.drop k) (fun i => V (k + i)):=by
 obtain ⟨V,C,h1,h2,h3⟩:=s
 have hcap : l.length ≤ c:=by
  rcases h1.2 with ⟨hv,h0⟩ | ⟨g',c',cur,hv,hg,hh,hnc,hm,_⟩
  ·cases hv
  ·simp only [Value.slice.injEq] at hv; obtain ⟨-,-,rfl⟩:=hv; exact hnc
 refine ⟨V,fun i hi => RdV.mono (fun b hb => ⟨hb.1,hb.2.1,fun e => hb.2.2 (by rw [e]; rfl)⟩) (h3 i hi),hcap,fun k hk => ⟨.inr ⟨_,rfl,fun t u ht => ?_⟩,.inr ?_⟩⟩
 ·obtain ⟨ht1,rfl⟩:=ndRow_of ht
  have hlt : t / 9 < (l.take k).length:=by omega
  have hlt2 : t / 9 < l.length:=by rw [List.length_take] at hlt; omega
  rw [add_plainT,getD_take _ _ _ _ hlt,← h2 _ _ hlt2 (by omega),Nat.zero_add,show t / 9 * 9 + t % 9 = t by omega]
  exact World.ownsRow.cellAt h1 t (by omega)
 ·by_cases hck : c = k
  ·refine ⟨⟨g,0,none⟩,by rw [if_pos hck],fun t u ht => ?_⟩
   obtain ⟨ht1,rfl⟩:=ndRow_of ht
   rw [List.length_drop] at ht1
   omega
  ·refine ⟨(Addr.mk g 0 none).add (k * 9),by rw [if_neg hck]; rfl,fun t u ht => ?_⟩
   obtain ⟨ht1,rfl⟩:=ndRow_of ht
   rw [List.length_drop] at ht1
   have hlt2 : k + t / 9 < l.length:=by omega
   rw [add_plainT,add_plainT,getD_drop,← h2 _ _ hlt2 (by omega),Nat.zero_add,show (k + t / 9) * 9 + t % 9 = k * 9 + t by omega]
   exact World.ownsRow.cellAt h1 _ (by omega)
theorem LiesN.step {w W : World} {ao : Option Addr} {c : Nat} {l2 : List Nd} {V2 : Nat → Value} (h : LiesN w ao c l2 V2) (hb : Below w.heap.size w W) : LiesN W ao c l2 V2:=by
 rcases h with h | ⟨ad,ha,hc⟩
 ·exact .inl h
 ·exact .inr ⟨ad,ha,fun t u ht => (hb.cell (p:=ad.add t) (block_lt_of_cell (hc t u ht))).trans (hc t u ht)⟩
theorem SG.low {w : World} {lo lo' : Nat} {L : Nat → Prop} {v : Value} {l : List Nd} (s : SG w lo L v l) (h : lo' ≤ lo) : SG w lo' L v l:=by
 obtain ⟨V,C,h1,h2,h3⟩:=s
 exact ⟨V,C,⟨h1.1,h1.2.imp id (fun ⟨g,c,cur,hv,hg,r⟩ => ⟨g,c,cur,hv,Nat.le_trans h hg,r⟩)⟩,h2,h3⟩
theorem ndRow_one (n : Nd) (V : Nat → Value) : ndRow [n] V = [.i n.h.sh,.i n.h.ino,.bool n.h.dir,.i n.par.sh,.i n.par.ino,.bool n.par.dir,.i n.links,.i n.val,V 0]:=by simp [ndRow,List.range,List.range.loop,ndVal]
end
section
def enOk (e : En) : Bool:=isNm e.nm && HOk e.h
def enOkAt (l : List En) (i : Nat) : Bool:=enOk (l[i]?.getD en0)
def noneOk (h : Hd) : Bool:=decide (h = hd0) || HOk h
def ROk (r : RpD) : Bool:=((decide (0 ≤ r.code) && decide (r.code ≤ 11)) && (num r.val && (noneOk r.h && decide (r.list.length ≤ 12)))) && (List.range r.list.length).all (enOkAt r.list)
end
section
def isEndB (n : Int) : Bool:=decide (0 ≤ n) && decide (n < 8)
def isCd (n : Int) : Bool:=decide (0 ≤ n) && decide (n ≤ 11)
def zOp (o : OpD) : Bool:=decide (o.kind = 0) && (decide (o.dir = hd0) && (decide (o.nm.length = 0) && (decide (o.to = hd0) && (decide (o.asn.length = 0) && decide (o.val = 0)))))
def zRp (r : RpD) : Bool:=decide (r.code = 0) && (decide (r.h = hd0) && (decide (r.val = 0) && decide (r.list.length = 0)))
def zPt (p : PtD) : Bool:=decide (p.kind = 0) && (decide (p.h = hd0) && (decide (p.asn.length = 0) && decide (p.to = hd0)))
def zTx (t : TxD) : Bool:=decide (t = tx0)
def MBody (m : MsD) : Bool:=
 if m.kind = 0 then (num m.req && OOk m.op) && (zRp m.rp && (zTx m.tx && (zPt m.pt && (decide (m.code = 0) && decide (m.h = hd0)))))
 else if m.kind = 1 then (num m.req && ROk m.rp) && (zOp m.op && (zTx m.tx && (zPt m.pt && (decide (m.code = 0) && decide (m.h = hd0)))))
 else if m.kind = 2 then (TOk m.tx && POk m.pt) && (decide (m.req = 0) && (zOp m.op && (zRp m.rp && (decide (m.code = 0) && decide (m.h = hd0)))))
 else if m.kind = 3 then (TOk m.tx && (POk m.pt && (isCd m.code && noneOk m.h))) && (decide (m.req = 0) && (zOp m.op && zRp m.rp))
 else if m.kind = 4 then TOk m.tx && (decide (m.req = 0) && (zOp m.op && (zRp m.rp && (zPt m.pt && (decide (m.code = 0) && decide (m.h = hd0))))))
 else if m.kind = 5 then (TOk m.tx && (decide (m.code = 0) || decide (m.code = 1))) && (decide (m.req = 0) && (zOp m.op && (zRp m.rp && (zPt m.pt && decide (m.h = hd0)))))
 else if m.kind = 6 then (TOk m.tx && (num m.req && (HOk m.h && m.h.dir))) && (zOp m.op && (zRp m.rp && (zPt m.pt && decide (m.code = 0))))
 else (TOk m.tx && (num m.req && (isCd m.code && noneOk m.h))) && (zOp m.op && (zRp m.rp && zPt m.pt))
def MOk (m : MsD) : Bool:=(decide (0 ≤ m.kind) && decide (m.kind ≤ 7)) && ((isEndB m.fr && isEndB m.to) && MBody m)
end
section
def cmpB (xs ys : List Int) : Int:=Lib.compareBytes (Lib.bytesOf xs) (Lib.bytesOf ys)
theorem cmp_less : ∀ (a b : List UInt8),decide (0 ≤ Lib.compareBytes a b) = !Op.bytesLess a b
 | [],[] => by simp [Lib.compareBytes,Op.bytesLess]
 | [],_ :: _ => by simp [Lib.compareBytes,Op.bytesLess]
 | _ :: _,[] => by simp [Lib.compareBytes,Op.bytesLess]
 | x :: a,y :: b => by
  have ih:=cmp_less a b
  simp only [Lib.compareBytes,Op.bytesLess]
  by_cases h1 : x < y
  ·simp [h1]
  ·by_cases h2 : y < x
   ·have h3 : ¬ x = y:=fun e => by subst e; exact UInt8.lt_irrefl x h2
    simp [h1,h2,h3]
   ·have h3 : x = y:=UInt8.le_antisymm (UInt8.not_lt.1 h2) (UInt8.not_lt.1 h1)
    subst h3
    simp [h1]
    simpa using ih
theorem cmpB_ge (xs ys : List Int) : decide (0 ≤ cmpB xs ys) = geS xs ys:=by
 unfold cmpB geS
 rw [cmp_less,Lib.strOfNums_toList,Lib.strOfNums_toList]
theorem run_bytesOf (v : Value) (xs : List Int) (S : Nat → Prop) (w : World) (r : RdV w S v (.bytes xs)) : (Extern.Bytes.bytesOf v).run Tryz.prog w = .ok ⟨(Lib.bytesOf xs).toArray⟩ w:=by
 obtain ⟨a,cap,rfl,hh,hr⟩:=r.b.reads
 cases a with
 | none =>
  have h0:=(hh.2.2 rfl).1
  have : xs = []:=List.eq_nil_of_length_eq_zero h0
  subst this
  simp [Extern.Bytes.bytesOf,Lib.bytesOf]
  rfl
 | some ad =>
  have hl:=Lib.run_loadBytesX (P:=Tryz.prog) w xs ad .empty (fun j x hj => by
   have hjl : j < xs.length:=(List.getElem?_eq_some_iff.1 hj).1
   have:=hr.srcAt j (.int .u8 x) (by simp [bcells,hj])
   exact this)
  have he : (⟨ByteArray.empty.data ++ (Lib.bytesOf xs).toArray⟩ : ByteArray) = ⟨(Lib.bytesOf xs).toArray⟩:=by
   apply ByteArray.ext
   show (#[] : Array UInt8) ++ (Lib.bytesOf xs).toArray = (Lib.bytesOf xs).toArray
   simp
  rw [he] at hl
  exact hl
theorem run_cmp (v u : Value) (xs ys : List Int) (S S2 : Nat → Prop) (w : World) (r : RdV w S v (.bytes xs)) (r2 : RdV w S2 u (.bytes ys)) :
  (Extern.BytealgCompare.compare #[v,u]).run Tryz.prog w = .ok (.i (cmpB xs ys)) w:=by
 change Sem.run Tryz.prog (do pure (goInt (Extern.BytealgCompare.cmp (← Extern.Bytes.bytesOf v) (← Extern.Bytes.bytesOf u)))) w = _
 have h1:=run_bytesOf v xs S w r
 have h2:=run_bytesOf u ys S2 w r2
 simp only [Sem.run_bind,Sem.run_pure,h1,h2,Result.andThen]
 rw [Lib.cmp_eq]
 rfl
set_option maxRecDepth 100000 in
theorem bytesCompare_any (v u : Value) (xs ys : List Int) (S S2 : Nat → Prop) (w : World) (r : RdV w S v (.bytes xs)) (r2 : RdV w S2 u (.bytes ys)) :
  Calls Tryz.prog 129 #[v,u] w fun e w' => e = .returned (.i (cmpB xs ys)) ∧ w' = w:=by
 have HC : Hid _:=run_cmp v u xs ys S S2 w r r2
 obtain ⟨a,cap,rfl⟩:=r.sliceB
 obtain ⟨a2,cap2,rfl⟩:=r2.sliceB
 generalize xs.length = n0 at *
 generalize ys.length = n1 at *
 generalize cmpB xs ys = c at *
 clear r r2
 go_enter Tryz.func129,Tryz.ntmps129
 go_wp2
 rw [run_callFunc_extern Tryz.func147 (by kernel_rfl) (by kernel_rfl) (by kernel_rfl) (e:=Extern.BytealgCompare.compare) (by kernel_rfl),HC.out]
 simp only [Result.andThen]
 rw [Oper.upon_value]
 go_wp2
 go_ret
 exact ⟨rfl,rfl⟩
end
end Go.Proofs.YtblahkhniabhiaaGreatDoor
