/- Joined: DL1 DL2 IC29 DP7 DP8 DP9. -/
import Derived.Test.YtblahkhniabhiaaGreatDoorFSpecD18
import Derived.Deep.CutRange
import Derived.Deep.CutBlock
import Derived.Test.YtblahkhniabhiaaGreatDoorFA01
import Derived.Test.YtblahkhniabhiaaGreatDoorFA07
import Derived.Test.YtblahkhniabhiaaGreatDoorFA06
import Derived.Test.YtblahkhniabhiaaGreatDoorFImplT10
import Derived.Test.YtblahkhniabhiaaGreatDoorFA08

namespace Go.Proofs.YtblahkhniabhiaaGreatDoor
open Go.RowKit
set_option linter.unusedVariables false
set_option linter.unusedSimpArgs false
set_option maxRecDepth 100000
section
def FrV (w W : World) (q : Nat → Prop) (x : Value) (d : Dt) : Prop:=RdV W (fun b => w.heap.size ≤ b ∧ b < W.heap.size ∧ ¬ q b) x d
theorem FrV.new {w W : World} {q q' : Nat → Prop} {x : Value} {d : Dt} (h : FrV w W q x d) (o : Obj) (hq : ∀ b,q' b → q b ∨ W.heap.size ≤ b) : FrV w (W.alloc o) q' x d:=
 RdV.mono (fun c hc => ⟨hc.1,Nat.lt_of_lt_of_le hc.2.1 (Below.newH (w:=W) o).size,fun e => by rcases hq c e with h1 | h1; exact hc.2.2 h1; (have h2:=hc.2.1; omega)⟩) (RdV.step h (Below.newH _))
theorem FrV.turn {w W W' : World} {q : Nat → Prop} {x : Value} {d : Dt} {C : Nat} (h : FrV w W q x d) (t : Turned (fun b => b = C) W W') (hC : q C) : FrV w W' q x d:=
 RdV.mono (fun c hc => ⟨hc.1,Nat.lt_of_lt_of_le hc.2.1 t.size,hc.2.2⟩) (RdV.keep (t.keeps (fun c hc e => hc.2.2 (e ▸ hC))) h)
theorem FrV.made {w W W' : World} {q : Nat → Prop} {x : Value} {d : Dt} (h : RdV W' (fun b => W.heap.size ≤ b ∧ b < W'.heap.size) x d) (hw : w.heap.size ≤ W.heap.size) (hq : ∀ b,q b → b < W.heap.size) : FrV w W' q x d:=
 RdV.mono (fun c hc => ⟨Nat.le_trans hw hc.1,hc.2,fun e => by have:=hq c e; omega⟩) h
def FrO (w W : World) (q : Nat → Prop) (x : Value) (d : Dt) (y : Value) (e : Dt) : Prop:=
 ∃ R1 R2 : Nat → Prop,OwV W R1 x d ∧ OwV W R2 y e ∧ (∀ c,R1 c → R2 c → False) ∧ ∀ c,R1 c ∨ R2 c → w.heap.size ≤ c ∧ c < W.heap.size ∧ ¬ q c
theorem FrO.new {w W : World} {q q' : Nat → Prop} {x y : Value} {d e : Dt} (h : FrO w W q x d y e) (o : Obj) (hq : ∀ b,q' b → q b ∨ W.heap.size ≤ b) : FrO w (W.alloc o) q' x d y e:=by
 obtain ⟨R1,R2,h1,h2,h3,h4⟩:=h
 exact ⟨R1,R2,h1.step (Below.newH _),h2.step (Below.newH _),h3,fun c hc => ⟨(h4 c hc).1,Nat.lt_of_lt_of_le (h4 c hc).2.1 (Below.newH (w:=W) o).size,fun e => by rcases hq c e with k | k; exact (h4 c hc).2.2 k; (have:=(h4 c hc).2.1; omega)⟩⟩
theorem FrO.turn {w W W' : World} {q : Nat → Prop} {x y : Value} {d e : Dt} {C : Nat} (h : FrO w W q x d y e) (t : Turned (fun b => b = C) W W') (hC : q C) : FrO w W' q x d y e:=by
 obtain ⟨R1,R2,h1,h2,h3,h4⟩:=h
 exact ⟨R1,R2,OwV.keep (t.keeps (fun c hc e => (h4 c (.inl hc)).2.2 (e ▸ hC))) h1,OwV.keep (t.keeps (fun c hc e => (h4 c (.inr hc)).2.2 (e ▸ hC))) h2,h3,fun c hc => ⟨(h4 c hc).1,Nat.lt_of_lt_of_le (h4 c hc).2.1 t.size,(h4 c hc).2.2⟩⟩
theorem FrO.y {w W : World} {q : Nat → Prop} {x y : Value} {d e : Dt} (h : FrO w W q x d y e) : FrV w W q y e:=by
 obtain ⟨R1,R2,h1,h2,h3,h4⟩:=h
 exact RdV.mono (fun c hc => h4 c (.inr hc)) (OwV.rd h2)
theorem turn1 {w W W' : World} {C : Nat} (hB : Below w.heap.size w W) (t : Turned (fun b => b = C) W W') (hC : w.heap.size ≤ C) : Below w.heap.size w W':=Turned.below hB t hB.size (fun i e => by omega)
def DoS (w : World) (res : List Nd × RpD) (e : Ending) (w' : World) : Prop:=
 ∃ ta tn tc ra rn rc,e = .returned (.tuple #[.agg #[.slice ta tn tc],rpV res.2 (.slice ra rn rc)]) ∧ RdV w' (fun b => w.heap.size ≤ b ∧ b < w'.heap.size) (.slice ta tn tc) (ndsDt res.1) ∧ RdV w' (fun b => w.heap.size ≤ b ∧ b < w'.heap.size) (.slice ra rn rc) (ensDt res.2.list) ∧ Below w.heap.size w w'
theorem DoS.of {w w' : World} {res : List Nd × RpD} {e : Ending} (h : DoSaid w res e w') : DoS w res e w':=by
 obtain ⟨ta,tn,tc,zx,rfl,h1,h2,h3⟩:=h
 obtain ⟨a,c,rfl,_⟩:=RdV.sliced h2
 exact ⟨_,_,_,_,_,_,rfl,RdV.nds h1,h2,h3⟩
end
section
structure AnsR (lo hi : Nat) (W : World) (C D : Nat) (tv : Value) (rc : Array Value) (zv : Value) (d e : Dt) : Prop where
 vC : VarA W C 26 #[tv]
 vD : VarA W D 51 rc
 t : RdV W (fun b => lo ≤ b ∧ b < hi) tv d
 z : RdV W (fun b => lo ≤ b ∧ b < hi) zv e
 hC : lo ≤ C ∧ C < hi
 hD : lo ≤ D ∧ D < hi
 hW : hi ≤ W.heap.size
structure AnsO (lo hi : Nat) (R1 R2 : Nat → Prop) (W : World) (C D : Nat) (tv : Value) (rc : Array Value) (zv : Value) (d e : Dt) : Prop where
 vC : VarA W C 26 #[tv]
 vD : VarA W D 51 rc
 t : OwV W R1 tv d
 z : OwV W R2 zv e
 ap : ∀ c,R1 c → R2 c → False
 r : ∀ c,R1 c ∨ R2 c → lo ≤ c ∧ c < hi ∧ c ≠ C ∧ c ≠ D
 hC : lo ≤ C ∧ C < hi
 hD : lo ≤ D ∧ D < hi
 hW : hi ≤ W.heap.size
theorem FrO.made {w W W' : World} {R1 R2 q : Nat → Prop} {x y : Value} {d e : Dt} (o1 : OwV W' R1 x d) (o2 : OwV W' R2 y e) (h12 : ∀ c,R1 c → R2 c → False) (h1 : ∀ c,R1 c → W.heap.size ≤ c ∧ c < W'.heap.size) (h2 : ∀ c,R2 c → W.heap.size ≤ c ∧ c < W'.heap.size) (hw : w.heap.size ≤ W.heap.size) (hq : ∀ b,q b → b < W.heap.size) : FrO w W' q x d y e:=
 ⟨R1,R2,o1,o2,h12,fun c hc => by have : W.heap.size ≤ c ∧ c < W'.heap.size:=hc.elim (h1 c) (h2 c); exact ⟨by omega,this.2,fun k => by have:=hq c k; omega⟩⟩
structure XS (n : Nat) (W : World) (E F M : Nat) (xv : Value) (oc : Array Value) (yv zv : Value) (l : List Nd) (nm asn : List Int) : Prop where
 vE : VarA W E 26 #[xv]
 vF : VarA W F 53 oc
 x : OwV W (fun b => n ≤ b ∧ b < E) xv (ndsDt l)
 y : OwV W (fun b => E + 1 ≤ b ∧ b < M) yv (.bytes nm)
 z : OwV W (fun b => M ≤ b ∧ b < F) zv (.bytes asn)
 hE : n ≤ E
 hM : E + 1 ≤ M ∧ M ≤ F
abbrev V25 (w W : World) (C : Nat) : Prop:=w.heap.size ≤ C ∧ VarA W C 26 #[.n0]
abbrev V34 (w W : World) (D : Nat) : Prop:=w.heap.size ≤ D ∧ VarA W D 51 #[.i 0,.i 0,.i 0,.bool false,.i 0,.n0]
abbrev pt (C : Nat) : Value:=.pointer (some ⟨C,0,none⟩)
end
section
open Go.Maps
structure DoAg (l : List Nd) (o : OpD) (fr : Hd) : Prop where
 ok : FOk (atH l l.length)
 one : OneH l
 ins : ∀ i,i < l.length → HIn (l[i]?.getD nd0).h
 rep : (doF (atH l l.length) l.length o fr).2.2 = (dO l o fr).2
 mem : ∀ n,n ∈ (dO l o fr).1 ↔ (doF (atH l l.length) l.length o fr).1 n.h = some n
 srt : (dO l o fr).1.Pairwise (fun a b => byHd a.h b.h < 0)
 len : (dO l o fr).1.length ≤ 3000 ∧ (doF (atH l l.length) l.length o fr).2.1 ≤ 3000
 hin : ∀ g n,(doF (atH l l.length) l.length o fr).1 g = some n → HIn g
 op : OOk o = true
theorem implDoA (b s : Nat) (f : Hd → Option Nd) (o : OpD) (fr : Hd) (y z : Value) (S2 P : Nat → Prop) (w : World) (N : NM w b s f P) (ok : FOk f) (hin : HIn o.dir) (hito : HIn o.to) (hfr : HIn fr) (r2 : RdV w S2 y (.bytes o.nm)) (r3 : RdV w S2 z (.bytes o.asn)) (hS2 : ∀ c,S2 c → ¬ P c) (hSS : ∀ c,S2 c → c < w.heap.size) (hnm : o.nm.length ≤ 2097152) (hna : o.asn.length ≤ 2097152) (hs : s ≤ 2097000) (hok : OOk o = true) :
  Calls Tryz.prog 85 #[.map (some b),opV o y z,fr.v] w (DSub w b P (doF f s o fr)):=by
 have hk:=OOk_kind hok
 rcases kinds hk.1 hk.2 with h | h | h | h | h | h | h | h
 ·exact implDo0 b s f o fr y z S2 P w N ok hin hito hfr r2 r3 hS2 hSS hnm hna hs hok h
 ·exact implDo1 b s f o fr y z S2 P w N ok hin hito hfr r2 r3 hS2 hSS hnm hna hs hok h
 ·exact implDo2 b s f o fr y z S2 P w N ok hin hito hfr r2 r3 hS2 hSS hnm hna hs hok h
 ·exact implDo3 b s f o fr y z S2 P w N ok hin hito hfr r2 r3 hS2 hSS hnm hna hs hok h
 ·exact implDo4 b s f o fr y z S2 P w N ok hin hito hfr r2 r3 hS2 hSS hnm hna hs hok h
 ·exact implDo5 b s f o fr y z S2 P w N ok hin hito hfr r2 r3 hS2 hSS hnm hna hs hok h
 ·exact implDo6 b s f o fr y z S2 P w N ok hin hito hfr r2 r3 hS2 hSS hnm hna hs hok h
 ·exact implDo7 b s f o fr y z S2 P w N ok hin hito hfr r2 r3 hS2 hSS hnm hna hs hok h
theorem NM.copied {w w' : World} {a : Option Addr} {n c : Nat} {l : List Nd} {lo : Nat} (ho : OneH l) (o : OwV w (fun b => lo ≤ b ∧ b < w.heap.size) (.slice a n c) (ndsDt l)) (hin : ∀ i,i < l.length → HIn (l[i]?.getD nd0).h) (hl : l.length ≤ 2097152) :
  ∃ X,EntsAt w (.slice a n c) l X ∧ ∀ w',Below w.heap.size w w' → w.heap.size < w'.heap.size → MapH (ndX X) w' w.heap.size l.length (atH l l.length) → NM w' w.heap.size l.length (atH l l.length) (fun c => lo ≤ c ∧ c < w.heap.size ∨ c = w.heap.size):=by
 obtain ⟨X,Q,h1,h2,h3,h4⟩:=entsX ho o
 refine ⟨X,h1,fun w' hb hlt M => ?_⟩
 have key : ∀ g k,atH l l.length g = some k → ∃ i,i < l.length ∧ l[i]?.getD nd0 = k ∧ k.h = g:=by
  intro g k hk
  rw [atH_fi] at hk
  by_cases hfi : fi l g < l.length
  ·rw [if_pos hfi] at hk
   exact ⟨fi l g,hfi,Option.some.inj hk,by rw [← Option.some.inj hk]; exact fi_h hfi⟩
  ·rw [if_neg hfi] at hk; cases hk
 refine ⟨X,Q,M,?_,?_,?_,?_,.inr rfl,?_⟩
 ·intro g k hk
  obtain ⟨i,_,_,h⟩:=key g k hk
  exact h
 ·intro g k hk
  obtain ⟨i,hi,he,h⟩:=key g k hk
  have:=h2 i hi
  rw [he,h] at this
  exact this.step hb
 ·intro g k c hk hc
  obtain ⟨i,hi,he,h⟩:=key g k hk
  have:=h3 i c hi (by rw [he,h]; exact hc)
  exact ⟨.inl this.1,by have:=this.1.2; omega⟩
 ·intro g g' k k' c hk hk' hc hc'
  obtain ⟨i,hi,he,h⟩:=key g k hk
  obtain ⟨i',hi',he',h'⟩:=key g' k' hk'
  have:=h4 i i' c hi hi' (by rw [he,h]; exact hc) (by rw [he',h']; exact hc')
  subst this
  rw [← h,← h',← he,← he']
 ·intro c hc
  rcases hc with hc | hc <;> omega
theorem op_in {o : OpD} (h : OOk o = true) : HIn o.dir ∧ HIn o.to:=by
 unfold OOk at h
 simp only [Bool.and_eq_true] at h
 refine ⟨HOk.inn h.1.2,?_⟩
 have ht:=h.2.2.1
 unfold toB at ht
 split at ht
 ·simp only [Bool.and_eq_true,decide_eq_true_eq] at ht
  exact ⟨WalkArith.wf_i64 (by omega),WalkArith.wf_i64 (by omega)⟩
 split at ht
 ·exact HOk.inn ht
 ·rw [of_decide_eq_true ht]; exact hd0_in
def DoI (w : World) (res : List Nd × RpD) (e : Ending) (w' : World) : Prop:=
 ∃ ta tn tc ra rn rc,∃ (R1 R2 : Nat → Prop),e = .returned (.tuple #[.agg #[.slice ta tn tc],rpV res.2 (.slice ra rn rc)]) ∧ OwV w' R1 (.slice ta tn tc) (ndsDt res.1) ∧ OwV w' R2 (.slice ra rn rc) (ensDt res.2.list) ∧ (∀ c,R1 c → R2 c → False) ∧ (∀ c,R1 c → w.heap.size ≤ c ∧ c < w'.heap.size) ∧ (∀ c,R2 c → w.heap.size ≤ c ∧ c < w'.heap.size) ∧ Below w.heap.size w w'
set_option maxHeartbeats 4000000 in
theorem implDo_any (x y z : Value) (l : List Nd) (o : OpD) (fr : Hd) (S : Nat → Prop) (w : World) (r : RdV w S x (ndsDt l)) (r1 : RdV w S y (.bytes o.nm)) (r2 : RdV w S z (.bytes o.asn)) (hS : ∀ b,S b → b < w.heap.size) (hsz : szNds l ≤ 2097152) (hn1 : o.nm.length ≤ 2097152) (hn2 : o.asn.length ≤ 2097152) (hfr : HIn fr)
  (hag : (treeOk l && OOk o) = true → DoAg l o fr) :
  Calls Tryz.prog 67 #[.agg #[x],opV o y z,fr.v] w (DoI w (dO l o fr)):=by
 obtain ⟨xa,xc,rfl,_⟩:=RdV.sliced r
 obtain ⟨ya,yc,rfl⟩:=r1.sliceB
 obtain ⟨za,zc,rfl⟩:=r2.sliceB
 have HTO : Hid (∀ W,Below w.heap.size w W → _):=fun W hW => implTree_any (.slice xa l.length xc) l S W (r.step hW) hsz
 have HOO : Hid (∀ W,Below w.heap.size w W → _):=fun W hW => implOpOk_any (.slice ya o.nm.length yc) (.slice za o.asn.length zc) o S W (r1.step hW) (r2.step hW) hn1 hn2
 have hn : l.length ≤ 2097152:=by have : l.length ≤ szNds l:=Nat.le_add_right _ _; omega
 have HCN : Hid (treeOk l = true → ∀ W,Below w.heap.size w W → _):=fun ht W hW => implCopyNd_any (.slice xa l.length xc) l S W (r.step hW) hsz (by have:=(treeOk_small ht).1; omega) (fun i => ((treeOk_small ht).2 i).1)
 have HN3 : Hid (treeOk l = true → l.length ≤ 3000):=fun ht => (treeOk_small ht).1
 have HAGR : Hid ((treeOk l && OOk o) = true → DoAg l o fr):=hag
 have HR1 : Hid (RdV w S (.slice ya o.nm.length yc) (.bytes o.nm)):=r1
 have HR2 : Hid (RdV w S (.slice za o.asn.length zc) (.bytes o.asn)):=r2
 have HSS : Hid (∀ b,S b → b < w.heap.size):=hS
 have HLN : Hid (l.length ≤ 2097152 ∧ o.nm.length ≤ 2097152 ∧ o.asn.length ≤ 2097152):=⟨hn,hn1,hn2⟩
 obtain ⟨tv,htv⟩ : ∃ t,treeI l = t:=⟨_,rfl⟩
 rw [htv] at HTO
 have HTV : Hid (treeOk l = tv):=(tree_same l).trans htv
 obtain ⟨ov_,hov⟩ : ∃ t,OOk o = t:=⟨_,rfl⟩
 rw [hov] at HOO
 have HOV : Hid (OOk o = ov_):=hov
 have HSB : Hid (∀ (ag : DoAg l o fr) (hl3 : l.length ≤ 3000) W b P,NM W b l.length (atH l l.length) P → RdV W S (.slice ya o.nm.length yc) (.bytes o.nm) → RdV W S (.slice za o.asn.length zc) (.bytes o.asn) → (∀ c,S c → ¬ P c) → (∀ c,S c → c < W.heap.size) → _):=fun ag hl3 W b P N q1 q2 h1 h2 => implDoA b l.length (atH l l.length) o fr (.slice ya o.nm.length yc) (.slice za o.asn.length zc) S P W N ag.ok (op_in ag.op).1 (op_in ag.op).2 hfr q1 q2 h1 h2 hn1 hn2 (by omega) ag.op
 have HBAD : Hid ((treeOk l && OOk o) = false → dO l o fr = ([],rc 11)):=fun h => by unfold dO; rw [if_neg (by rw [h]; simp)]
 clear r r1 r2 hsz htv hov hfr hag hS
 obtain ⟨kd,⟨p,q,d⟩,nm,⟨p2,q2,d2⟩,asn,ov⟩:=o
 obtain ⟨pf,qf,df⟩:=fr
 dsimp only at HTO HOO HCN HR1 HR2 HSB HLN hn1 hn2
 generalize hyn : nm.length = yn at *
 generalize hzn : asn.length = zn at *
 generalize hxn : l.length = xn at *
 go_enter Tryz.func67,Tryz.ntmps67
 go_wp2_with fail
 go_at_call 81
 refine Calls.mono (HTO.out _ (by repeat (first | exact Below.refl _ _ | refine Below.al2 ?_ _))) ?_
 rintro e w1 ⟨rfl,hb1⟩
 have m1 : DS w w1 (.slice xa xn xc) #[.i kd,.i p,.i q,.bool d,.slice ya yn yc,.i p2,.i q2,.bool d2,.slice za zn zc,.i ov] #[.i pf,.i qf,.bool df]:=DS.step (wc:=(((((w.alloc _).alloc _).alloc _).alloc _).alloc _)) ⟨(by repeat (first | exact Below.refl _ _ | refine Below.al2 ?_ _)),((((VarA.new w _ _).alloc _).alloc _).alloc _).alloc _,(((by simpa using VarA.new (w.alloc _) 53 _ : VarA ((w.alloc _).alloc (.cells #[.i kd,.i p,.i q,.bool d,.slice ya yn yc,.i p2,.i q2,.bool d2,.slice za zn zc,.i ov] 53)) (w.heap.size + 1) _ _).alloc _).alloc _).alloc _,((by simpa using VarA.new ((w.alloc _).alloc _) 48 _ : VarA (((w.alloc _).alloc _).alloc (.cells #[.i pf,.i qf,.bool df] 48)) (w.heap.size + 2) _ _).alloc _).alloc _,(by simpa using VarA.new (((w.alloc _).alloc _).alloc _) 26 _ : VarA ((((w.alloc _).alloc _).alloc _).alloc (.cells #[.n0] 26)) (w.heap.size + 3) _ _).alloc _,(by simpa using VarA.new ((((w.alloc _).alloc _).alloc _).alloc _) 51 _ : VarA (((((w.alloc _).alloc _).alloc _).alloc _).alloc (.cells #[.i 0,.i 0,.i 0,.bool false,.i 0,.n0] 51)) (w.heap.size + 4) _ _)⟩ hb1
 clear hb1
 have HM1 : Hid (DS w w1 (.slice xa xn xc) #[.i kd,.i p,.i q,.bool d,.slice ya yn yc,.i p2,.i q2,.bool d2,.slice za zn zc,.i ov] #[.i pf,.i qf,.bool df]):=m1
 have s1:=m1.vR.lt
 obtain ⟨q0,q1,q2_,q3,q4,q5,q6,q7,q8,q9⟩:=m1.vO.l10
 have k0:=m1.vT.l1
 clear m1
 cases tv
 case false =>
  have HBD : Hid (dO l ⟨kd,(p,q,d),nm,(p2,q2,d2),asn,ov⟩ (pf,qf,df) = ([],rc 11)):=HBAD.out (by rw [HTV.out]; rfl)
  go_wp2_with (first | ((with_reducible refine gS 26 ?_); refine sF HM1.out.vX rfl rfl (by kernel_rfl) rfl rfl ?_; intro wy vY tY; have rY:=HM1.out.vR.turn tY (by show w.heap.size + 4 ≠ w.heap.size + 3; omega)) | ((with_reducible refine gS 51 ?_); refine sF rY rfl rfl (by kernel_rfl) rfl rfl ?_; intro wz vZ t_))
  refine bodyPost_ret (results_two Tryz.results67 _ _ _ _ _ _ _ _ _ _ rfl rfl (vY.turn t_ (by show w.heap.size + 3 ≠ w.heap.size + 4; omega)) vZ Tryz.underlying26 rfl (by kernel_rfl) Tryz.underlying51 rfl (by kernel_rfl)) rfl ?_
  rw [HBD.out]
  exact ⟨none,0,0,none,0,0,fun _ => False,fun _ => False,rfl,OwV.nilR _ _ _ _ _,OwV.nilR _ _ _ _ _,fun c hc => hc.elim,fun c hc => hc.elim,fun c hc => hc.elim,below2 HM1.out.B tY t_ (by omega) (by omega)⟩
 cases ov_
 case false =>
  have HBD : Hid (dO l ⟨kd,(p,q,d),nm,(p2,q2,d2),asn,ov⟩ (pf,qf,df) = ([],rc 11)):=HBAD.out (by rw [HTV.out,HOV.out]; rfl)
  go_wp2_with (first | (go_at_call 82; refine Calls.mono (HOO.out _ HM1.out.B) ?_; rintro e w2 ⟨rfl,hb2⟩; have HM2 : Hid (DS w w2 (.slice xa xn xc) #[.i kd,.i p,.i q,.bool d,.slice ya yn yc,.i p2,.i q2,.bool d2,.slice za zn zc,.i ov] #[.i pf,.i qf,.bool df]):=HM1.out.step hb2; clear hb2) | ((with_reducible refine gS 26 ?_); refine sF HM2.out.vX rfl rfl (by kernel_rfl) rfl rfl ?_; intro wy vY tY; have rY:=HM2.out.vR.turn tY (by show w.heap.size + 4 ≠ w.heap.size + 3; omega)) | ((with_reducible refine gS 51 ?_); refine sF rY rfl rfl (by kernel_rfl) rfl rfl ?_; intro wz vZ t_))
  refine bodyPost_ret (results_two Tryz.results67 _ _ _ _ _ _ _ _ _ _ rfl rfl (vY.turn t_ (by show w.heap.size + 3 ≠ w.heap.size + 4; omega)) vZ Tryz.underlying26 rfl (by kernel_rfl) Tryz.underlying51 rfl (by kernel_rfl)) rfl ?_
  rw [HBD.out]
  exact ⟨none,0,0,none,0,0,fun _ => False,fun _ => False,rfl,OwV.nilR _ _ _ _ _,OwV.nilR _ _ _ _ _,fun c hc => hc.elim,fun c hc => hc.elim,fun c hc => hc.elim,below2 HM2.out.B tY t_ (by omega) (by omega)⟩
 have ag:=HAGR.out (by rw [HTV.out,HOV.out]; rfl)
 obtain ⟨rp,hrp⟩ : ∃ r,(doF (atH l xn) xn ⟨kd,(p,q,d),nm,(p2,q2,d2),asn,ov⟩ (pf,qf,df)) = r:=⟨_,rfl⟩
 obtain ⟨f7,sz7,⟨rcode,⟨rh1,rh2,rh3⟩,rval,rlist⟩⟩:=rp
 have hrep:=ag.rep
 have hmem:=ag.mem
 have hlen:=ag.len
 have hhin:=ag.hin
 rw [hxn,hrp] at hrep hmem hlen hhin
 have HREP : Hid ((dO l ⟨kd,(p,q,d),nm,(p2,q2,d2),asn,ov⟩ (pf,qf,df)).2 = ⟨rcode,(rh1,rh2,rh3),rval,rlist⟩):=hrep.symm
 have HAS : Hid (∀ b P W,NM W b sz7 f7 P → _):=fun b P W N => ascending_any2 b sz7 f7 P W N hhin (dO l ⟨kd,(p,q,d),nm,(p2,q2,d2),asn,ov⟩ (pf,qf,df)).1 hmem ag.srt hlen.1 hlen.2
 have HSB2 : Hid (∀ W b P,NM W b xn (atH l xn) P → RdV W S (.slice ya yn yc) (.bytes nm) → RdV W S (.slice za zn zc) (.bytes asn) → (∀ c,S c → ¬ P c) → (∀ c,S c → c < W.heap.size) → Calls Tryz.prog 85 #[.map (some b),.agg #[.i kd,.i p,.i q,.bool d,.slice ya yn yc,.i p2,.i q2,.bool d2,.slice za zn zc,.i ov],.agg #[.i pf,.i qf,.bool df]] W (DSub W b P (f7,sz7,⟨rcode,(rh1,rh2,rh3),rval,rlist⟩))):=fun W b P N q1 q2 h1 h2 => by have h9:=HSB.out ag (HN3.out HTV.out) W b P N q1 q2 h1 h2; rw [hrp] at h9; exact h9
 have HONE : Hid (OneH l):=ag.one
 have HINS : Hid (∀ i,i < xn → HIn (l[i]?.getD nd0).h):=by show ∀ i,_; rw [← hxn]; exact ag.ins
 clear HAGR HSB HBAD ag hrep hmem hlen hhin hrp
 go_wp2_with (first | (go_at_call 82; refine Calls.mono (HOO.out _ HM1.out.B) ?_; rintro e w2 ⟨rfl,hb2⟩; have m2:=HM1.out.step hb2; have HM2 : Hid (DS w w2 (.slice xa xn xc) #[.i kd,.i p,.i q,.bool d,.slice ya yn yc,.i p2,.i q2,.bool d2,.slice za zn zc,.i ov] #[.i pf,.i qf,.bool df]):=m2; have s2:=hb2.size; have k2:=m2.vT.l1; clear hb2 m2) | (go_at_call 84; refine Calls.mono (HCN.out HTV.out _ HM2.out.B) ?_; rintro e w3 ⟨ca,cn,cc,rfl,o3,b3⟩; have s3:=b3.size; have HB3 : Hid (Below w2.heap.size w2 w3):=b3; have HO3 : Hid (OwV w3 (fun b => w2.heap.size ≤ b ∧ b < w3.heap.size) (.slice ca cn cc) (ndsDt l)):=o3; clear o3 b3) | (go_at_call 83; obtain ⟨X3,hX3,hN3⟩:=NM.copied (w':=w3) (lo:=w2.heap.size) HONE.out HO3.out (by rw [hxn]; exact HINS.out) (by rw [hxn]; omega); have hq:=nodesX_any (.slice ca cn cc) l _ w3 (OwV.rd HO3.out) X3 hX3 (by rw [hxn]; omega) HONE.out (by rw [hxn]; exact HINS.out); rw [hxn] at hq hN3; refine Calls.mono hq ?_; rintro e w4 ⟨rfl,b4,M4⟩; have s4:=b4.size; have l4:=M4.lt; have HM4 : Hid (DS w w4 (.slice xa xn xc) #[.i kd,.i p,.i q,.bool d,.slice ya yn yc,.i p2,.i q2,.bool d2,.slice za zn zc,.i ov] #[.i pf,.i qf,.bool df]):=(HM2.out.step HB3.out).step b4; have HN4 : Hid (NM w4 w3.heap.size xn (atH l xn) (fun c => w2.heap.size ≤ c ∧ c < w3.heap.size ∨ c = w3.heap.size)):=hN3 w4 b4 l4 M4; obtain ⟨p0,p1,p2_,p3,p4,p5,p6,p7,p8,p9⟩:=HM4.out.vO.l10; obtain ⟨f0,f1,f2⟩:=HM4.out.vF.l3; clear hX3 hN3 hq b4 M4) | (go_at_call 85; refine Calls.mono (HSB2.out w4 _ _ HN4.out (HR1.out.step HM4.out.B) (HR2.out.step HM4.out.B) (fun c hc hp => by have:=HSS.out c hc; have:=HM2.out.B.size; omega) (fun c hc => by have:=HSS.out c hc; have:=HM4.out.B.size; omega)) ?_; rintro e w6 ⟨ra,rn_,rcp,R7,P7,rfl,o7,n7,d7,r7,p7_,t7⟩; have s7:=t7.size; have HT7 : Hid (Turned _ w4 w6):=t7; have HO6 : Hid (OwV w6 R7 (.slice ra rn_ rcp) (ensDt rlist)):=o7; have HN6 : Hid (NM w6 w3.heap.size sz7 f7 P7):=n7; have HD7 : Hid (∀ c,R7 c → ¬ P7 c):=d7; have HR7 : Hid (∀ c,R7 c → w4.heap.size ≤ c ∧ c < w6.heap.size):=r7; have HP7a : Hid (∀ c,P7 c → (w2.heap.size ≤ c ∧ c < w3.heap.size ∨ c = w3.heap.size) ∨ w4.heap.size ≤ c):=p7_; clear o7 n7 d7 r7 p7_ t7))
 case _ =>
  have HP7 : Hid (∀ c,P7 c → (w.heap.size + 5 ≤ c ∧ True) ∨ w.heap.size + 5 ≤ c):=fun c hc => by have:=HP7a.out c hc; exact .inr (by omega)
  refine gen_world (P:=fun W => Code.wp _ _ _ _ W) (fun W => VarA W w6.heap.size 51 #[.i rcode,.i rh1,.i rh2,.bool rh3,.i rval,.slice ra rn_ rcp] ∧ Below w6.heap.size w6 W ∧ W.heap.size = w6.heap.size + 1) ⟨VarA.new w6 _ _,(by repeat (first | exact Below.refl _ _ | refine Below.al2 ?_ _)),by simp⟩ ?_
  rintro w7 ⟨vP,b7,s77⟩
  have nP : ∀ k,k ≤ w.heap.size + 4 → ¬ (w2.heap.size ≤ k ∧ k < w3.heap.size ∨ k = w3.heap.size):=fun k hk h => by omega
  have HVT : Hid (VarA w7 (w.heap.size + 3) 26 #[.n0]):=(HM4.out.vX.turn HT7.out (nP _ (by omega))).step b7
  have HVR : Hid (VarA w7 (w.heap.size + 4) 51 #[.i 0,.i 0,.i 0,.bool false,.i 0,.n0]):=(HM4.out.vR.turn HT7.out (nP _ (by omega))).step b7
  have HVP : Hid (VarA w7 w6.heap.size 51 #[.i rcode,.i rh1,.i rh2,.bool rh3,.i rval,.slice ra rn_ rcp]):=vP
  have HO7 : Hid (OwV w7 R7 (.slice ra rn_ rcp) (ensDt rlist)):=OwV.step HO6.out b7
  have HN7 : Hid (NM w7 w3.heap.size sz7 f7 P7):=HN6.out.step b7
  have HB7 : Hid (Below w.heap.size w w7):=(Turned.below HM4.out.B HT7.out HM4.out.B.size (fun i hi => by have:=HM2.out.B.size; omega)).trans (b7.mono (by have:=HM4.out.B.size; omega))
  have HS : Hid (∀ W : World,Below w7.heap.size w7 W → W.cell? ⟨w6.heap.size,0,none⟩ = some (.i rcode) ∧ W.cell? ⟨w6.heap.size,1,none⟩ = some (.i rh1) ∧ W.cell? ⟨w6.heap.size,2,none⟩ = some (.i rh2) ∧ W.cell? ⟨w6.heap.size,3,none⟩ = some (.bool rh3) ∧ W.cell? ⟨w6.heap.size,4,none⟩ = some (.i rval) ∧ W.cell? ⟨w6.heap.size,5,none⟩ = some (.slice ra rn_ rcp)):=fun W hW => ⟨(HVP.out.step hW).c 0 rfl,(HVP.out.step hW).c 1 rfl,(HVP.out.step hW).c 2 rfl,(HVP.out.step hW).c 3 rfl,(HVP.out.step hW).c 4 rfl,(HVP.out.step hW).c 5 rfl⟩
  have hw7:=HB7.out.size
  clear vP nP p0 p1 p2_ p3 p4 p5 p6 p7 p8 p9 f0 f1 f2 k2 q0 q1 q2_ q3 q4 q5 q6 q7 q8 q9 k0
  refine wp_region_noPanic ?_
  refine wp_region_held_drew (S:=fun W => W.cell? ⟨w6.heap.size,0,none⟩ = some (.i rcode) ∧ W.cell? ⟨w6.heap.size,1,none⟩ = some (.i rh1) ∧ W.cell? ⟨w6.heap.size,2,none⟩ = some (.i rh2) ∧ W.cell? ⟨w6.heap.size,3,none⟩ = some (.bool rh3) ∧ W.cell? ⟨w6.heap.size,4,none⟩ = some (.i rval) ∧ W.cell? ⟨w6.heap.size,5,none⟩ = some (.slice ra rn_ rcp)) (by kernel_rfl) (HS.out _ (Below.drew (Below.refl w7.heap.size w7))) (fun hHeld => ?_)
  apply tkh 0 _ rfl (by kernel_rfl) rfl (by assumption)
  ·(intro _ h; (try dsimp only at h); go_simp; try with_reducible rfl)
  try simp only [qz]
  apply tkh 3 _ rfl (by kernel_rfl) rfl (by assumption)
  ·(intro _ h; (try dsimp only at h); go_simp; try with_reducible rfl)
  try simp only [qz]
  refine doH 1 (by kernel_rfl) rfl fun K hK => ?_
  go_simp
  refine Calls.mono (HAS.out _ _ w7.drew (HN7.out.step (Below.drew (Below.refl w7.heap.size w7)))) ?_
  rintro e w8 ⟨ta,tn,tc,rfl,o8,b8⟩
  have b8p : Below w7.heap.size w7 w8:=(Below.drew (Below.refl w7.heap.size w7)).trans b8
  have s8:=b8p.size
  dsimp only
  refine hK.out _ _ (HS.out _ b8p) (fun hHeld => ?_)
  clear hK K
  try simp only [qz]
  apply tkh 2 _ rfl (by kernel_rfl) rfl (by assumption)
  ·(intro _ h; (try dsimp only at h); go_simp; try with_reducible rfl)
  try simp only [qz]
  refine doH 4 (by kernel_rfl) rfl fun K hK => ?_
  refine step_stF ((HVT.out).step b8p) (by rfl) (by rfl) (by kernel_rfl) rfl (of_decide_eq_true rfl) rfl ?_
  intro wy vY tY
  have pY:=(HVP.out.step b8p).turn tY (by show w6.heap.size ≠ w.heap.size + 3; omega)
  have rY:=(HVR.out.step b8p).turn tY (by show w.heap.size + 4 ≠ w.heap.size + 3; omega)
  refine hK.out _ _ ⟨VarA.c pY 0 rfl,VarA.c pY 1 rfl,VarA.c pY 2 rfl,VarA.c pY 3 rfl,VarA.c pY 4 rfl,VarA.c pY 5 rfl⟩ (fun hHeld => ?_)
  clear hK K
  try simp only [qz]
  refine doH 5 (by kernel_rfl) rfl fun K hK => ?_
  refine step_stF rY (by rfl) (by rfl) (by kernel_rfl) rfl (of_decide_eq_true rfl) rfl ?_
  intro wz vZ t_
  have pZ:=pY.turn t_ (by show w6.heap.size ≠ w.heap.size + 4; omega)
  refine hK.out _ _ ⟨VarA.c pZ 0 rfl,VarA.c pZ 1 rfl,VarA.c pZ 2 rfl,VarA.c pZ 3 rfl,VarA.c pZ 4 rfl,VarA.c pZ 5 rfl⟩ (fun hHeld => ?_)
  clear hK K
  try simp only [qz]
  refine wpAnyH_done (by kernel_rfl) (NoPanic.normal ?_) _
  clear hHeld pZ pY rY
  go_wp2
  refine bodyPost_ret (results_two Tryz.results67 _ _ _ _ _ _ _ _ _ _ rfl rfl (vY.turn t_ (by show w.heap.size + 3 ≠ w.heap.size + 4; omega)) vZ Tryz.underlying26 rfl (by kernel_rfl) Tryz.underlying51 rfl (by kernel_rfl)) rfl ?_
  have sy:=tY.size
  have sz:=t_.size
  refine ⟨ta,tn,tc,ra,rn_,rcp,(fun c => P7 c ∨ w7.heap.size ≤ c ∧ c < w8.heap.size),R7,?_,?_,?_,?_,?_,?_,?_⟩
  ·rw [HREP.out]; rfl
  ·exact OwV.keep (t_.keeps (fun c hc e => by subst e; rcases hc with hc | hc; (rcases HP7.out _ hc with h | h; (have:=h.1; omega); omega); omega)) (OwV.keep (tY.keeps (fun c hc e => by subst e; rcases hc with hc | hc; (rcases HP7.out _ hc with h | h; (have:=h.1; omega); omega); omega)) o8)
  ·rw [HREP.out]
   exact OwV.keep (t_.keeps (fun c hc e => by have:=(HR7.out c hc).1; omega)) (OwV.keep (tY.keeps (fun c hc e => by have:=(HR7.out c hc).1; omega)) (OwV.step HO7.out b8p))
  ·intro c hc hr
   rcases hc with hc | hc
   ·exact HD7.out c hr hc
   ·have:=(HR7.out c hr).2; omega
  ·intro c hc
   rcases hc with hc | hc
   ·have h9:=HN7.out.sm c hc
    rcases HP7.out _ hc with h | h
    ·exact ⟨by have:=h.1; omega,by omega⟩
    ·exact ⟨by omega,by omega⟩
   ·exact ⟨by omega,by omega⟩
  ·intro c hc
   have:=HR7.out c hc
   exact ⟨by omega,by omega⟩
  ·exact below2 (HB7.out.trans (b8p.mono HB7.out.size)) tY t_ (by omega) (by omega)
end
section
theorem agK5 {l : List Nd} (ht : treeOk l = true) (dir tt fr : Hd) (nm asn : List Int) (ov : Int) : Ag (doD l ⟨5,dir,nm,tt,asn,ov⟩ fr) (doF (atH l l.length) l.length ⟨5,dir,nm,tt,asn,ov⟩ fr):=by
 by_cases hd : dir.dir = true
 ·by_cases hf : fi l dir < l.length
  ·exact ag5 ht dir tt fr nm asn ov hd hf rfl
  ·have hD : doD l ⟨5,dir,nm,tt,asn,ov⟩ fr = (l,rc 1):=by unfold doD; simp [hd,hf]
   have hF : doF (atH l l.length) l.length ⟨5,dir,nm,tt,asn,ov⟩ fr = (atH l l.length,l.length,rc 1):=by unfold doF dirC; simp [at_is,hd,hf]; rfl
   rw [hD,hF]; exact ag_same ht _
 ·have hD : doD l ⟨5,dir,nm,tt,asn,ov⟩ fr = (l,rc 2):=by unfold doD; simp [hd]
  have hF : doF (atH l l.length) l.length ⟨5,dir,nm,tt,asn,ov⟩ fr = (atH l l.length,l.length,rc 2):=by unfold doF dirC; simp [at_is,hd]; rfl
  rw [hD,hF]; exact ag_same ht _
theorem agK7 {l : List Nd} (ht : treeOk l = true) (dir tt fr : Hd) (nm asn : List Int) (ov : Int) : Ag (doD l ⟨7,dir,nm,tt,asn,ov⟩ fr) (doF (atH l l.length) l.length ⟨7,dir,nm,tt,asn,ov⟩ fr):=by
 by_cases hd : dir.dir = true
 ·by_cases hf : fi l dir < l.length
  ·exact ag7 ht dir tt fr nm asn ov hd hf rfl
  ·have hD : doD l ⟨7,dir,nm,tt,asn,ov⟩ fr = (l,rc 1):=by unfold doD; simp [hd,hf]
   have hF : doF (atH l l.length) l.length ⟨7,dir,nm,tt,asn,ov⟩ fr = (atH l l.length,l.length,rc 1):=by unfold doF dirC; simp [at_is,hd,hf]; rfl
   rw [hD,hF]; exact ag_same ht _
 ·have hD : doD l ⟨7,dir,nm,tt,asn,ov⟩ fr = (l,rc 2):=by unfold doD; simp [hd]
  have hF : doF (atH l l.length) l.length ⟨7,dir,nm,tt,asn,ov⟩ fr = (atH l l.length,l.length,rc 2):=by unfold doF dirC; simp [at_is,hd]; rfl
  rw [hD,hF]; exact ag_same ht _
theorem ag_do {l : List Nd} (ht : treeOk l = true) (o : OpD) (ho : OOk o = true) (fr : Hd) : Ag (dO l o fr) (doF (atH l l.length) l.length o fr):=by
 have hk:=OOk_kind ho
 have htb:=takes_bad l o fr
 obtain ⟨kd,dir,nm,tt,asn,ov⟩:=o
 dsimp only at hk htb
 have hdO : dO l ⟨kd,dir,nm,tt,asn,ov⟩ fr = if kd = 4 ∧ badFr l ⟨kd,dir,nm,tt,asn,ov⟩ fr = true then (l,rc 11) else doD l ⟨kd,dir,nm,tt,asn,ov⟩ fr:=by
  unfold dO
  rw [if_pos (by rw [ht,ho]; rfl)]
 rcases kinds hk.1 hk.2 with rfl | rfl | rfl | rfl | rfl | rfl | rfl | rfl
 case inr.inr.inr.inr.inl =>
  cases hb : badFr l ⟨4,dir,nm,tt,asn,ov⟩ fr
  ·rw [hdO,hb,if_neg (by simp)]
   rw [hb] at htb
   have htb2 : takesB fr tt (atH l l.length (fr.sh,fr.ino,false)).isSome (atH l l.length (fr.sh,fr.ino,true)).isSome l.length = true:=htb
   have hpl : ∀ c,¬ fi l (fr.sh,fr.ino,c) < l.length:=fun c hc => by
    unfold takesB at htb2
    simp only [Bool.and_eq_true,Bool.not_eq_true',decide_eq_true_eq,at_is,decide_eq_false_iff_not] at htb2
    cases c
    ·exact htb2.2.2.2.1 hc
    ·exact htb2.2.2.2.2.1 hc
   have hok : HOk fr = true:=by
    unfold takesB at htb2
    simp only [Bool.and_eq_true] at htb2
    exact htb2.1
   refine agK4 ht dir tt fr nm asn ov htb2 (HOk.inn hok) ?_ hpl
   rw [atH_fi,if_neg (by have:=hpl fr.dir; exact this)]
  ·rw [hdO,hb,if_pos ⟨rfl,rfl⟩]
   have hF : doF (atH l l.length) l.length ⟨4,dir,nm,tt,asn,ov⟩ fr = (atH l l.length,l.length,rc 11):=by
    unfold doF
    dsimp only
    rw [htb,hb,if_pos ⟨rfl,rfl⟩]
    rfl
   rw [hF]
   exact ag_same ht _
 all_goals rw [hdO,if_neg (by simp)]
 ·exact agK0 ht dir tt fr nm asn ov
 ·exact agK1 ht dir tt fr nm asn ov
 ·exact agK2 ht dir tt fr nm asn ov
 ·exact agK3 ht dir tt fr nm asn ov
 ·exact agK5 ht dir tt fr nm asn ov
 ·exact agK6 ht dir tt fr nm asn ov
 ·exact agK7 ht dir tt fr nm asn ov
theorem do_ag {l : List Nd} (hsz : szNds l ≤ 2097152) (o : OpD) (fr : Hd) (h : (treeOk l && OOk o) = true) : DoAg l o fr:=by
 rw [Bool.and_eq_true] at h
 obtain ⟨r,e,h1,h2,h3⟩:=ag_do h.1 o h.2 fr
 refine ⟨tree_fok h.1 hsz,tree_one h.1,fun i hi => ?_,e,r.mem,?_,⟨h1,h2⟩,h3,h.2⟩
 ·exact ndI_h (by rw [← nd_same]; exact tree_nd h.1 (node_mem hi))
 ·refine r.asc.imp (fun {a b} hx => (byHd_lt _ _).2 ?_)
  simp only [lessH,Bool.or_eq_true,Bool.and_eq_true,decide_eq_true_eq] at hx
  dsimp only [Hd.sh,Hd.ino] at hx
  omega
end
section
def Sh (k : Nat) (es : List En) : Prop:=es.length ≤ k ∧ ∀ e ∈ es,e.nm.length ≤ 6
theorem Sh.sz {k : Nat} {es : List En} (h : Sh k es) : szEns es ≤ 7 * k:=by
 obtain ⟨h1,h2⟩:=h
 have h3 : (es.map (fun e => e.nm.length)).sum ≤ 6 * es.length:=by
  clear h1
  induction es with
  | nil => simp
  | cons x r ih =>
   have a:=h2 x List.mem_cons_self
   have b:=ih (fun e he => h2 e (List.mem_cons_of_mem _ he))
   simp only [List.map_cons,List.sum_cons,List.length_cons]
   omega
 unfold szEns
 omega
theorem Sh.mono {k m : Nat} {es : List En} (h : Sh k es) (hk : k ≤ m) : Sh m es:=⟨by have:=h.1; omega,h.2⟩
theorem Sh.out {k : Nat} {es : List En} (h : Sh k es) (nm : List Int) : Sh k (outE es nm):=⟨Nat.le_trans (outE_len _ _) h.1,fun e he => h.2 e (List.mem_filter.1 he).1⟩
theorem Sh.add {k : Nat} {es : List En} (h : Sh k es) {nm : List Int} (hn : nm.length ≤ 6) (hd : Hd) : Sh (k + 1) (addE es nm hd):=by
 have hp:=addE_perm es nm hd
 refine ⟨by rw [← hp.length_eq]; simp; exact h.1,fun e he => ?_⟩
 rcases List.mem_append.1 (hp.mem_iff.2 he) with h1 | h1
 ·exact h.2 e h1
 ·rw [List.mem_singleton] at h1; subst h1; exact hn
theorem nm_short {nm : List Int} (h : isNm nm = true) : nm.length ≤ 6:=by
 simp only [isNm,Bool.and_eq_true,decide_eq_true_eq] at h
 exact h.1.2
def ShF (f : Hd → Option Nd) : Prop:=∀ g n,f g = some n → Sh 13 n.es
theorem ShF.set {f : Hd → Option Nd} (h : ShF f) {k : Hd} {m : Nd} (hm : Sh 13 m.es) : ShF (setN f k m):=by
 intro g n e
 unfold setN at e
 by_cases x : g = k
 ·rw [if_pos x] at e; rw [← Option.some.inj e]; exact hm
 ·rw [if_neg x] at e; exact h g n e
theorem ShF.del {f : Hd → Option Nd} (h : ShF f) (k : Hd) : ShF (delN f k):=fun g n e => h g n (delN_at e).2
theorem ShF.get {f : Hd → Option Nd} (h : ShF f) (g : Hd) : Sh 13 ((f g).getD nd0).es:=by
 cases hf : f g with
 | none => exact ⟨by simp [nd0],fun e he => by simp [nd0] at he⟩
 | some n => exact h g n hf
theorem do_shf {f : Hd → Option Nd} (h : ShF f) (h12 : ∀ g,Sh 12 ((f g).getD nd0).es) (s : Nat) (o : OpD) (ho : OOk o = true) (fr : Hd) : ShF (doF f s o fr).1:=by
 have hk:=OOk_kind ho
 have hnm : o.kind = 4 ∨ o.kind = 6 → o.nm.length ≤ 6:=by
  intro hx
  refine nm_short ?_
  rcases hx with hx | hx <;> simp [OOk,nmB,nmP,hx] at ho <;> exact ho.2.1
 have hna : o.kind = 7 → o.asn.length ≤ 6:=fun hx => nm_short (by simp [OOk,asB,asP,hx] at ho; exact ho.2.2.2.1)
 unfold doF
 split
 ·exact h
 split
 ·exact h
 unfold doF2
 split
 ·exact h
 split
 ·exact h
 split
 ·exact h
 split
 ·exact h.set (h.get _)
 split
 ·rename_i h4
  unfold makeF
  split
  ·exact h
  ·refine ShF.set (ShF.set h ?_) ?_
   ·exact ⟨by simp,fun e he => by simp at he⟩
   ·exact (h12 _).add (hnm (.inl h4)) _
 split
 ·unfold dropF
  split
  ·exact h
  split
  ·exact h
  ·have h1 : ShF (setN f o.dir { (f o.dir).getD nd0 with es:=outE ((f o.dir).getD nd0).es o.nm }):=h.set ((h.get _).out _)
   unfold unlN
   dsimp only
   split
   ·exact h1.del _
   ·exact h1.set (h1.get _)
 split
 ·rename_i h6
  unfold linkF
  split
  ·exact h
  split
  ·exact h
  split
  ·exact h
  ·refine ShF.set (ShF.set h ?_) ?_
   ·exact h.get _
   ·exact (h12 _).add (hnm (.inr h6)) _
 ·have h7 : o.kind = 7:=by omega
  unfold moveF
  split
  ·exact h
  split
  ·exact h
  ·have hm : ShF (mvF f o.dir o.to o.nm o.asn (fdH ((f o.dir).getD nd0).es o.nm)):=by
    unfold mvF
    refine (h.set ((h.get _).out _)).set (Sh.add ?_ (hna h7) _)
    unfold setN
    by_cases x : o.to = o.dir
    ·rw [if_pos x]; exact (h12 _).out _
    ·rw [if_neg x]; exact h12 _
   dsimp only
   split
   ·exact hm.set (hm.get _)
   ·exact hm
theorem sz_short : ∀ {l : List Nd},(∀ n ∈ l,Sh 13 n.es) → szNds l ≤ 92 * l.length:=by
 intro l h
 have h3 : (l.map (fun n => szEns n.es)).sum ≤ 91 * l.length:=by
  induction l with
  | nil => simp
  | cons x r ih =>
   have a:=(h x List.mem_cons_self).sz
   have b:=ih (fun e he => h e (List.mem_cons_of_mem _ he))
   simp only [List.map_cons,List.sum_cons,List.length_cons]
   omega
 unfold szNds
 omega
theorem do_small {l : List Nd} (hsz : szNds l ≤ 2097152) (o : OpD) (fr : Hd) (h : (treeOk l && OOk o) = true) : (∀ n ∈ (dO l o fr).1,Sh 13 n.es) ∧ szNds (dO l o fr).1 ≤ 300000:=by
 have ag:=do_ag hsz o fr h
 rw [Bool.and_eq_true] at h
 have h12 : ∀ g,Sh 12 ((atH l l.length g).getD nd0).es:=fun g => by
  cases hf : atH l l.length g with
  | none => exact ⟨by simp [nd0],fun e he => by simp [nd0] at he⟩
  | some n =>
   have hn:=tree_nd h.1 (atH_mem hf)
   exact ⟨(ndOk_small hn).1,fun e he => nm_short ((nd_asc hn).2 e he)⟩
 have hs : ShF (atH l l.length):=fun g n e => by have:=h12 g; rw [e] at this; exact this.mono (by omega)
 have h1 : ∀ n ∈ (dO l o fr).1,Sh 13 n.es:=fun n hn => do_shf hs h12 _ o h.2 fr _ _ ((ag.mem n).1 hn)
 refine ⟨h1,Nat.le_trans (sz_short h1) ?_⟩
 have:=ag.len.1
 omega
end
section
theorem doF_list (f : Hd → Option Nd) (s : Nat) (o : OpD) (fr : Hd) : (doF f s o fr).2.2.list = [] ∨ (doF f s o fr).2.2.list = ((f o.dir).getD nd0).es:=by
 unfold doF
 split
 ·exact .inl rfl
 split
 ·exact .inl rfl
 unfold doF2
 split
 ·left; unfold lookF; split <;> rfl
 split
 ·exact .inr rfl
 split
 ·exact .inl rfl
 split
 ·left; unfold writeF; rfl
 split
 ·left; unfold makeF; split <;> rfl
 split
 ·left; unfold dropF; split; rfl; split <;> rfl
 split
 ·left; unfold linkF; split; rfl; split; rfl; split <;> rfl
 ·left; unfold moveF; split; rfl; split <;> rfl
theorem do_sizes {l : List Nd} (hsz : szNds l ≤ 2097152) (o : OpD) (fr : Hd) : szNds (dO l o fr).1 ≤ 300000 ∧ szEns (dO l o fr).2.list ≤ 300000:=by
 by_cases h : (treeOk l && OOk o) = true
 ·have h1:=do_small hsz o fr h
  refine ⟨h1.2,?_⟩
  have ag:=do_ag hsz o fr h
  rw [← ag.rep]
  rcases doF_list (atH l l.length) l.length o fr with e | e
  ·rw [e]; simp [szEns]
  ·rw [e]
   rw [Bool.and_eq_true] at h
   cases hf : atH l l.length o.dir with
   | none => simp [nd0,szEns]
   | some n =>
    have hn:=tree_nd h.1 (atH_mem hf)
    have : Sh 12 n.es:=⟨(ndOk_small hn).1,fun e he => nm_short ((nd_asc hn).2 e he)⟩
    have:=this.sz
    simp only [Option.getD_some]
    omega
 ·have : dO l o fr = ([],rc 11):=by unfold dO; rw [if_neg h]
  rw [this]
  simp [szNds,szEns,rc]
end
end Go.Proofs.YtblahkhniabhiaaGreatDoor
