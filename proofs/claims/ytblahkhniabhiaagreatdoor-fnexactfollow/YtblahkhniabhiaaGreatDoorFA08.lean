/- Joined: SpecD17 FP1 DP2 DP3 DP4 DP5 DP6. -/
import Derived.Test.YtblahkhniabhiaaGreatDoorFA07
import Derived.Test.YtblahkhniabhiaaGreatDoorFSpecD16k4
import Derived.Test.YtblahkhniabhiaaGreatDoorFSpecD16k6
import Derived.Test.YtblahkhniabhiaaGreatDoorFSpecT6
import Derived.Test.YtblahkhniabhiaaGreatDoorFOpOks
import Derived.Test.YtblahkhniabhiaaGreatDoorFRpE
import Derived.Test.YtblahkhniabhiaaGreatDoorFA01
import Derived.Test.YtblahkhniabhiaaGreatDoorFA05

namespace Go.Proofs.YtblahkhniabhiaaGreatDoor
open Go.RowKit
set_option linter.unusedVariables false
set_option linter.unusedSimpArgs false
set_option maxRecDepth 100000
section
theorem treeOk_at {l : List Nd} (h : treeOk l = true) {i : Nat} (hi : i < l.length) : nodeT l i = true:=by
 unfold treeOk at h
 rw [Bool.and_eq_true] at h
 exact (List.all_eq_true.1 h.2) i (by simpa using hi)
theorem treeOk_len {l : List Nd} (h : treeOk l = true) : 1 ≤ l.length ∧ l.length ≤ 240:=by
 unfold treeOk headT at h
 simp only [Bool.and_eq_true,decide_eq_true_eq] at h
 exact h.1.1
theorem ndOk_small {n : Nd} (h : ndOk n = true) : n.es.length ≤ 12 ∧ 1 ≤ n.links ∧ n.links ≤ 2147483647:=by
 unfold ndOk baseOk at h
 simp only [Bool.and_eq_true,decide_eq_true_eq] at h
 omega
theorem nodeT_parts {l : List Nd} {i : Nat} (h : nodeT l i = true) : ndOk (l[i]?.getD nd0) = true ∧ (i = 0 ∨ lessH (l[i - 1]?.getD nd0).h (l[i]?.getD nd0).h = true) ∧ (∀ e ∈ (l[i]?.getD nd0).es,entLead l (l[i]?.getD nd0) e = true) ∧ tailT l (l[i]?.getD nd0) = true:=by
 unfold nodeT at h
 simp only [Bool.and_eq_true,Bool.or_eq_true,decide_eq_true_eq,List.all_eq_true] at h
 exact ⟨h.1,h.2.1,h.2.2.1,h.2.2.2⟩
theorem treeOk_small {l : List Nd} (h : treeOk l = true) : Small l:=by
 refine ⟨by have:=(treeOk_len h).2; omega,fun i => ?_⟩
 by_cases hi : i < l.length
 ·have:=ndOk_small (nodeT_parts (treeOk_at h hi)).1
  omega
 ·rw [List.getElem?_eq_none (by omega)]
  simp [nd0]
theorem treeOk_in {l : List Nd} (h : treeOk l = true) (i j : Nat) (hi : i < l.length) (hj : j < (l[i]?.getD nd0).es.length) : fi l ((l[i]?.getD nd0).es[j]?.getD en0).h < l.length:=by
 have h3:=(nodeT_parts (treeOk_at h hi)).2.2.1 _ (List.getElem_mem hj)
 unfold entLead at h3
 simp only [Bool.and_eq_true,decide_eq_true_eq] at h3
 rw [List.getElem?_eq_getElem hj]
 exact h3.1
theorem OOk_kind {o : OpD} (h : OOk o = true) : 0 ≤ o.kind ∧ o.kind ≤ 7:=by
 unfold OOk at h
 simp only [Bool.and_eq_true,decide_eq_true_eq] at h
 exact h.1.1
theorem specL4do_any (tb lo : Nat) (o : OpD) (fr : Hd) (y z : Value) (l : List Nd) (S2 L : Nat → Prop) (w : World) (tv : TV w tb lo L l) (hLt : ¬ L tb) (hLn : ∀ b,w.heap.size ≤ b → L b) (hlo : lo ≤ w.heap.size) (htbl : lo ≤ tb) (ht : treeOk l = true) (hsz : szNds l ≤ 2097152) (r1 : RdV w S2 y (.bytes o.nm)) (r2 : RdV w S2 z (.bytes o.asn)) (hS2 : ∀ b,S2 b → b < lo) (hn1 : o.nm.length ≤ 2097152) (hn2 : o.asn.length ≤ 2097152) (hk : 0 ≤ o.kind ∧ o.kind ≤ 7) :
  Calls Tryz.prog 34 #[.pointer (some ⟨tb,0,none⟩),opV o y z,fr.v] w (DoPost w tb lo L (doD l o fr)):=by
 have h0 : 0 < l.length:=(treeOk_len ht).1
 have sm:=treeOk_small ht
 have hin:=treeOk_in ht
 rcases kinds hk.1 hk.2 with h | h | h | h | h | h | h | h
 ·exact specDo0 tb lo o fr y z l S2 L w tv hLt hLn h0 hlo htbl sm hsz r1 r2 hS2 hn1 hn2 hin h
 ·exact specDo1 tb lo o fr y z l S2 L w tv hLt hLn h0 hlo htbl sm hsz r1 r2 hS2 hn1 hn2 hin h
 ·exact specDo2 tb lo o fr y z l S2 L w tv hLt hLn h0 hlo htbl sm hsz r1 r2 hS2 hn1 hn2 hin h
 ·exact specDo3 tb lo o fr y z l S2 L w tv hLt hLn h0 hlo htbl sm hsz r1 r2 hS2 hn1 hn2 hin h
 ·exact specDo4 tb lo o fr y z l S2 L w tv hLt hLn h0 hlo htbl sm hsz r1 r2 hS2 hn1 hn2 hin h
 ·exact specDo5 tb lo o fr y z l S2 L w tv hLt hLn h0 hlo htbl sm hsz r1 r2 hS2 hn1 hn2 hin h
 ·exact specDo6 tb lo o fr y z l S2 L w tv hLt hLn h0 hlo htbl sm hsz r1 r2 hS2 hn1 hn2 hin h
 ·exact specDo7 tb lo o fr y z l S2 L w tv hLt hLn h0 hlo htbl sm hsz r1 r2 hS2 hn1 hn2 hin h
def badFr (l : List Nd) (o : OpD) (fr : Hd) : Bool:=!HOk fr || (decide (fr.sh ≠ o.to.sh) || (decide (fr.dir ≠ o.to.dir) || (decide (fi l fr < l.length) || (decide (fi l (fr.sh,fr.ino,!fr.dir) < l.length) || decide (240 ≤ l.length)))))
def dO (l : List Nd) (o : OpD) (fr : Hd) : List Nd × RpD:=
 if (treeOk l && OOk o) = true then (if o.kind = 4 ∧ badFr l o fr = true then (l,rc 11) else doD l o fr) else ([],rc 11)
end
section
def frS (e : DdD) : Hd:=if e.op.kind = 4 ∧ e.rp.code ≠ 0 then (e.op.to.sh,2147483647,e.op.to.dir) else e.rp.h
def dDo (t : List Nd) (e : DdD) : List Nd × RpD:=dO t e.op (frS e)
def folB (t : List Nd) (e : DdD) : Bool:=eqRp (dDo t e).2 e.rp && !decide ((dDo t e).2.code = 11)
def fol : Nat → List Nd → List DdD → List Nd × Int
 | _,t,[] => (t,-1)
 | i,t,d :: r => if folB t d = true then fol (i + 1) (dDo t d).1 r else (t,(i : Int))
theorem doD_fr {l : List Nd} {o : OpD} (fr fr' : Hd) (hk : o.kind ≠ 4) : doD l o fr = doD l o fr':=by
 unfold doD
 simp only [hk,if_false]
theorem dO_fr {l : List Nd} {o : OpD} (fr fr' : Hd) (hk : o.kind ≠ 4) : dO l o fr = dO l o fr':=by
 unfold dO
 simp only [hk,false_and,if_false]
 rw [doD_fr fr fr' hk]
theorem dDo_frD (t : List Nd) (e : DdD) : dO t e.op (frD e) = dDo t e:=by
 unfold dDo
 by_cases hk : e.op.kind = 4
 ·have : frS e = frD e:=by
   unfold frS frD
   by_cases hc : e.rp.code = 0
   ·simp only [hc,ne_eq,not_true,and_false,if_false,if_true]
   ·simp only [hk,hc,ne_eq,not_false_eq_true,and_self,if_true,if_false]
  rw [this]
 ·exact dO_fr _ _ hk
theorem drop_at (l : List DdD) (j : Nat) (hj : j < l.length) : l.drop j = l[j]?.getD dd0 :: l.drop (j + 1):=by
 rw [List.drop_eq_getElem_cons hj,List.getElem?_eq_getElem hj]; rfl
theorem fol_next {l : List DdD} {j : Nat} {t : List Nd} {e : DdD} (hj : j < l.length) (he : l[j]?.getD dd0 = e) (h : folB t e = true) : fol j t (l.drop j) = fol (j + 1) (dDo t e).1 (l.drop (j + 1)):=by
 rw [drop_at l j hj,he]
 simp only [fol,h,if_true]
theorem fol_stop {l : List DdD} {j : Nat} {t : List Nd} {e : DdD} (hj : j < l.length) (he : l[j]?.getD dd0 = e) (h : folB t e = false) : fol j t (l.drop j) = (t,(j : Int)):=by
 rw [drop_at l j hj,he]
 simp [fol,h]
theorem fol_end {l : List DdD} {j : Nat} {t : List Nd} (hj : l.length ≤ j) : fol j t (l.drop j) = (t,-1):=by
 rw [List.drop_eq_nil_of_le hj]; rfl
theorem frD_in {e : DdD} (h : HIn e.rp.h ∧ HIn e.op.to) : HIn (frD e):=by
 unfold frD
 split
 ·exact h.1
 ·exact ⟨h.2.1,(by decide : (Lit.int .i64 2147483647).wf = true)⟩
end
section
structure Rp (l : List Nd) (f : Hd → Option Nd) : Prop where
 mem : ∀ n,n ∈ l ↔ f n.h = some n
 asc : l.Pairwise (fun a b => lessH a.h b.h = true)
 key : ∀ g n,f g = some n → n.h = g
theorem less_ne {a b : Hd} (h : lessH a b = true) : a ≠ b:=fun e => by rw [e,lessH_irr] at h; cases h
theorem Rp.set' {A B : List Nd} {x n : Nd} {f : Hd → Option Nd} (r : Rp (A ++ x :: B) f) (hn : n.h = x.h) : Rp (A ++ n :: B) (setN f n.h n):=by
 have hp:=r.asc
 rw [List.pairwise_append,List.pairwise_cons] at hp
 refine ⟨fun m => ?_,?_,setN_key r.key rfl⟩
 ·by_cases e : m.h = n.h
  ·unfold setN
   rw [if_pos e]
   constructor
   ·intro h
    rcases List.mem_append.1 h with h | h
    ·exact absurd (e.trans hn) (less_ne (hp.2.2 m h x List.mem_cons_self))
    ·rcases List.mem_cons.1 h with h | h
     ·rw [h]
     ·exact absurd (e.trans hn).symm (less_ne (hp.2.1.1 m h))
   ·intro h
    rw [Option.some.inj h]
    exact List.mem_append_right _ List.mem_cons_self
  ·unfold setN
   rw [if_neg e,← r.mem]
   constructor
   ·intro h
    rcases List.mem_append.1 h with h | h
    ·exact List.mem_append_left _ h
    ·rcases List.mem_cons.1 h with h | h
     ·exact absurd (by rw [h]) e
     ·exact List.mem_append_right _ (List.mem_cons_of_mem _ h)
   ·intro h
    rcases List.mem_append.1 h with h | h
    ·exact List.mem_append_left _ h
    ·rcases List.mem_cons.1 h with h | h
     ·exact absurd (by rw [h,hn]) e
     ·exact List.mem_append_right _ (List.mem_cons_of_mem _ h)
 ·rw [List.pairwise_append,List.pairwise_cons]
  refine ⟨hp.1,⟨fun b hb => by rw [hn]; exact hp.2.1.1 b hb,hp.2.1.2⟩,fun a ha b hb => ?_⟩
  rcases List.mem_cons.1 hb with rfl | hb
  ·rw [hn]; exact hp.2.2 a ha x List.mem_cons_self
  ·exact hp.2.2 a ha b (List.mem_cons_of_mem _ hb)
theorem Rp.del' {A B : List Nd} {x : Nd} {f : Hd → Option Nd} (r : Rp (A ++ x :: B) f) : Rp (A ++ B) (delN f x.h):=by
 have hp:=r.asc
 rw [List.pairwise_append,List.pairwise_cons] at hp
 refine ⟨fun m => ?_,?_,fun g n h => r.key g n (delN_at h).2⟩
 ·by_cases e : m.h = x.h
  ·unfold delN
   rw [if_pos e]
   constructor
   ·intro h
    rcases List.mem_append.1 h with h | h
    ·exact absurd e (less_ne (hp.2.2 m h x List.mem_cons_self))
    ·exact absurd e.symm (less_ne (hp.2.1.1 m h))
   ·intro h; cases h
  ·unfold delN
   rw [if_neg e,← r.mem]
   constructor
   ·intro h
    rcases List.mem_append.1 h with h | h
    ·exact List.mem_append_left _ h
    ·exact List.mem_append_right _ (List.mem_cons_of_mem _ h)
   ·intro h
    rcases List.mem_append.1 h with h | h
    ·exact List.mem_append_left _ h
    ·rcases List.mem_cons.1 h with h | h
     ·exact absurd (by rw [h]) e
     ·exact List.mem_append_right _ h
 ·rw [List.pairwise_append]
  exact ⟨hp.1,hp.2.1.2,fun a ha b hb => hp.2.2 a ha b (List.mem_cons_of_mem _ hb)⟩
theorem Rp.ins' {A B : List Nd} {n : Nd} {f : Hd → Option Nd} (r : Rp (A ++ B) f) (hA : ∀ a ∈ A,lessH a.h n.h = true) (hB : ∀ b ∈ B,lessH n.h b.h = true) : Rp (A ++ n :: B) (setN f n.h n):=by
 have hp:=r.asc
 rw [List.pairwise_append] at hp
 refine ⟨fun m => ?_,?_,setN_key r.key rfl⟩
 ·by_cases e : m.h = n.h
  ·unfold setN
   rw [if_pos e]
   constructor
   ·intro h
    rcases List.mem_append.1 h with h | h
    ·exact absurd e (less_ne (hA m h))
    ·rcases List.mem_cons.1 h with h | h
     ·rw [h]
     ·exact absurd e.symm (less_ne (hB m h))
   ·intro h
    rw [Option.some.inj h]
    exact List.mem_append_right _ List.mem_cons_self
  ·unfold setN
   rw [if_neg e,← r.mem]
   constructor
   ·intro h
    rcases List.mem_append.1 h with h | h
    ·exact List.mem_append_left _ h
    ·rcases List.mem_cons.1 h with h | h
     ·exact absurd (by rw [h]) e
     ·exact List.mem_append_right _ h
   ·intro h
    rcases List.mem_append.1 h with h | h
    ·exact List.mem_append_left _ h
    ·exact List.mem_append_right _ (List.mem_cons_of_mem _ h)
 ·rw [List.pairwise_append,List.pairwise_cons]
  refine ⟨hp.1,⟨hB,hp.2.1⟩,fun a ha b hb => ?_⟩
  rcases List.mem_cons.1 hb with rfl | hb
  ·exact hA a ha
  ·exact hp.2.2 a ha b hb
theorem split_at {l : List Nd} {i : Nat} (hi : i < l.length) : l = l.take i ++ (l[i]?.getD nd0) :: l.drop (i + 1):=by
 rw [List.getElem?_eq_getElem hi]
 simp only [Option.getD_some]
 rw [List.getElem_cons_drop,List.take_append_drop]
theorem Rp.set {l : List Nd} {f : Hd → Option Nd} (r : Rp l f) {i : Nat} (hi : i < l.length) {n : Nd} (hn : n.h = (l[i]?.getD nd0).h) : Rp (l.set i n) (setN f n.h n):=by
 have h:=r
 rw [split_at hi] at h
 have h2:=h.set' hn
 rw [List.set_eq_take_append_cons_drop,if_pos hi]
 exact h2
theorem Rp.out {l : List Nd} {f : Hd → Option Nd} (r : Rp l f) {i : Nat} (hi : i < l.length) : Rp (outN l i) (delN f (l[i]?.getD nd0).h):=by
 have h:=r
 rw [split_at hi] at h
 exact h.del'
theorem Rp.ins {l : List Nd} {f : Hd → Option Nd} (r : Rp l f) {n : Nd} (hn : ∀ m ∈ l,¬ (m.h.sh = n.h.sh ∧ m.h.ino = n.h.ino)) : Rp (insN l n) (setN f n.h n):=by
 unfold insN
 rw [List.append_assoc,List.singleton_append]
 refine Rp.ins' (by rw [List.take_append_drop]; exact r) ?_ ?_
 ·intro a ha
  obtain ⟨i,hi,rfl⟩:=List.getElem_of_mem ha
  rw [List.length_take] at hi
  have h9:=List.not_of_lt_findIdx (p:=fun m : Nd => !lessH m.h n.h) (xs:=l) (i:=i) (by unfold plN at hi; omega)
  rw [List.getElem_take]
  simpa using h9
 ·intro b hb
  obtain ⟨j,hj,rfl⟩:=List.getElem_of_mem hb
  rw [List.length_drop] at hj
  rw [List.getElem_drop]
  have hpl : plN l n.h < l.length:=by omega
  have hg : (!lessH (l[plN l n.h]'hpl).h n.h) = true:=List.findIdx_getElem (p:=fun m : Nd => !lessH m.h n.h) (w:=hpl)
  have hno:=hn _ (List.getElem_mem hpl)
  have h0 : lessH n.h (l[plN l n.h]'hpl).h = true:=by
   simp only [Bool.not_eq_true',lessH,Bool.or_eq_false_iff,Bool.and_eq_false_iff,decide_eq_false_iff_not] at hg
   simp only [lessH,Bool.or_eq_true,Bool.and_eq_true,decide_eq_true_eq]
   omega
  by_cases hj0 : j = 0
  ·subst hj0; simpa using h0
  ·have h8:=r.asc
   rw [List.pairwise_iff_getElem] at h8
   exact lessH_trans h0 (h8 (plN l n.h) (plN l n.h + j) hpl (by omega) (by omega))
theorem set_at {l : List Nd} {i j : Nat} {n : Nd} (hi : i < l.length) : (l.set i n)[j]?.getD nd0 = if j = i then n else l[j]?.getD nd0:=by
 rw [List.getElem?_set]
 by_cases h : i = j
 ·subst h; simp [hi]
 ·simp [h,Ne.symm h]
theorem setN_comm (f : Hd → Option Nd) {g h : Hd} (hne : g ≠ h) (n m : Nd) : setN (setN f g n) h m = setN (setN f h m) g n:=by
 funext k
 unfold setN
 by_cases h1 : k = g <;> by_cases h2 : k = h
 ·exact absurd (h1.symm.trans h2) hne
 ·simp [h1,hne]
 ·simp [h2,Ne.symm hne]
 ·simp [h1,h2]
theorem setN_twice (f : Hd → Option Nd) (g : Hd) (n m : Nd) : setN (setN f g n) g m = setN f g m:=by
 funext k
 unfold setN
 by_cases h1 : k = g <;> simp [h1]
theorem delN_set (f : Hd → Option Nd) (g : Hd) (n : Nd) : delN (setN f g n) g = delN f g:=by
 funext k
 unfold setN delN
 by_cases h1 : k = g <;> simp [h1]
theorem setN_self {f : Hd → Option Nd} {g : Hd} {n : Nd} (h : f g = some n) : setN f g n = f:=by
 funext k
 unfold setN
 by_cases h1 : k = g
 ·rw [if_pos h1,h1,h]
 ·rw [if_neg h1]
end
section
theorem tree_asc {l : List Nd} (ht : treeOk l = true) : ascL l = true:=by
 unfold ascL
 rw [List.all_eq_true]
 intro i hi
 have h:=(nodeT_parts (treeOk_at ht (by simpa using hi))).2.1
 unfold ascAt
 rcases h with h | h
 ·simp [h]
 ·simp [h]
theorem tree_one {l : List Nd} (ht : treeOk l = true) : OneH l:=ascL_one (tree_asc ht)
theorem tree_rp {l : List Nd} (ht : treeOk l = true) : Rp l (atH l l.length):=by
 refine ⟨fun n => ⟨fun h => ?_,fun h => atH_mem h⟩,?_,fun g n h => ?_⟩
 ·obtain ⟨i,hi,rfl⟩:=List.getElem_of_mem h
  have h1:=fiP_at (tree_one ht) hi
  have h2 : l[i]?.getD nd0 = l[i]:=by rw [List.getElem?_eq_getElem hi]; rfl
  rw [h2] at h1
  rw [atH_fi,h1,if_pos hi,h2]
 ·rw [List.pairwise_iff_getElem]
  intro i j hi hj hij
  have h1:=ascL_less (tree_asc ht) i (j - i - 1) (by omega)
  rw [show i + (j - i - 1) + 1 = j by omega,List.getElem?_eq_getElem hi,List.getElem?_eq_getElem hj] at h1
  exact h1
 ·rw [atH_fi] at h
  by_cases hf : fi l g < l.length
  ·rw [if_pos hf] at h; rw [← Option.some.inj h]; exact fi_h hf
  ·rw [if_neg hf] at h; cases h
theorem tree_nd {l : List Nd} (ht : treeOk l = true) {n : Nd} (hn : n ∈ l) : ndOk n = true:=by
 obtain ⟨i,hi,rfl⟩:=List.getElem_of_mem hn
 have h:=(nodeT_parts (treeOk_at ht hi)).1
 rw [List.getElem?_eq_getElem hi] at h
 exact h
theorem tree_lead {l : List Nd} (ht : treeOk l = true) {n : Nd} (hn : n ∈ l) {e : En} (he : e ∈ n.es) : entLead l n e = true:=by
 obtain ⟨i,hi,rfl⟩:=List.getElem_of_mem hn
 have h:=(nodeT_parts (treeOk_at ht hi)).2.2.1
 rw [List.getElem?_eq_getElem hi] at h
 exact h e he
theorem tree_tail {l : List Nd} (ht : treeOk l = true) {n : Nd} (hn : n ∈ l) : tailT l n = true:=by
 obtain ⟨i,hi,rfl⟩:=List.getElem_of_mem hn
 have h:=(nodeT_parts (treeOk_at ht hi)).2.2.2
 rw [List.getElem?_eq_getElem hi] at h
 exact h
theorem nd_asc {n : Nd} (h : ndOk n = true) : AscE n.es:=by
 unfold ndOk at h
 rw [Bool.and_eq_true] at h
 have h2:=h.2
 split at h2
 ·rw [Bool.and_eq_true,ents_same,List.all_eq_true] at h2
  exact ascE_of (fun i hi => h2.2 i (by simpa using hi))
 ·simp only [fileOk,Bool.and_eq_true,decide_eq_true_eq] at h2
  rw [List.eq_nil_of_length_eq_zero h2.1]
  exact ⟨List.Pairwise.nil,fun e he => by cases he⟩
theorem at_get (l : List Nd) (g : Hd) : (atH l l.length g).getD nd0 = l[fi l g]?.getD nd0:=by
 rw [atH_fi]
 by_cases hf : fi l g < l.length
 ·rw [if_pos hf]; rfl
 ·rw [if_neg hf,List.getElem?_eq_none (by omega)]
theorem at_is (l : List Nd) (g : Hd) : (atH l l.length g).isSome = decide (fi l g < l.length):=by
 rw [atH_fi]
 by_cases hf : fi l g < l.length
 ·simp [hf]
 ·simp [hf]
theorem at_so {l : List Nd} {g : Hd} (hf : fi l g < l.length) : atH l l.length g = some (l[fi l g]?.getD nd0):=by rw [atH_fi,if_pos hf]
theorem fdB_ei (es : List En) (nm : List Int) : fdB es nm = decide (ei es nm < es.length):=rfl
theorem findE_ei (es : List En) (nm : List Int) : (0 ≤ findE es nm) ↔ ei es nm < es.length:=by
 unfold findE
 by_cases h : ei es nm < es.length
 ·rw [if_pos h]; exact ⟨fun _ => h,fun _ => by omega⟩
 ·rw [if_neg h]; exact ⟨fun h2 => by omega,fun h2 => absurd h2 h⟩
theorem room_ref (l : List Nd) (g : Hd) (nm : List Int) : roomI (atH l l.length) g nm = refD (l[fi l g]?.getD nd0).es nm:=by
 unfold roomI refD
 rw [at_get,fdB_ei]
 by_cases h : ei (l[fi l g]?.getD nd0).es nm < (l[fi l g]?.getD nd0).es.length
 ·rw [if_pos ((findE_ei _ _).2 h)]; simp [h]
 ·rw [if_neg (fun h2 => h ((findE_ei _ _).1 h2))]; simp [h]
theorem takes_bad (l : List Nd) (o : OpD) (fr : Hd) : takesB fr o.to (atH l l.length (fr.sh,fr.ino,false)).isSome (atH l l.length (fr.sh,fr.ino,true)).isSome l.length = !badFr l o fr:=by
 unfold takesB badFr
 rw [at_is,at_is]
 obtain ⟨a,b,c⟩:=fr
 have e240 : decide ((l.length : Int) < 240) = !decide (240 ≤ l.length):=by
  by_cases h : 240 ≤ l.length
  ·simp [h]; omega
  ·simp [h]; omega
 have e1 : decide (a = o.to.sh) = !decide (a ≠ o.to.sh):=by by_cases h : a = o.to.sh <;> simp [h]
 have e2 : decide (c = o.to.dir) = !decide (c ≠ o.to.dir):=by by_cases h : c = o.to.dir <;> simp [h]
 dsimp only [Hd.sh,Hd.ino,Hd.dir] at e1 e2 ⊢
 rw [e240,e1,e2]
 generalize HOk (a,b,c) = x1
 generalize decide (a ≠ o.to.1) = x2
 generalize decide (c ≠ o.to.2.2) = x3
 generalize decide (240 ≤ l.length) = x4
 cases c
 ·generalize decide (fi l (a,b,false) < l.length) = x5
  simp only [Bool.not_false]
  generalize decide (fi l (a,b,true) < l.length) = x6
  cases x1 <;> cases x2 <;> cases x3 <;> cases x4 <;> cases x5 <;> cases x6 <;> rfl
 ·simp only [Bool.not_true]
  generalize decide (fi l (a,b,false) < l.length) = x5
  generalize decide (fi l (a,b,true) < l.length) = x6
  cases x1 <;> cases x2 <;> cases x3 <;> cases x4 <;> cases x5 <;> cases x6 <;> rfl
theorem tree_up {l : List Nd} (ht : treeOk l = true) {g : Hd} (hd : g.dir = true) (hf : fi l g < l.length) (hr : g ≠ rootH) : (l[fi l g]?.getD nd0).par.dir = true ∧ fi l (l[fi l g]?.getD nd0).par < l.length:=by
 have hm:=node_mem hf
 have hh:=fi_h hf
 have h1:=tree_nd ht hm
 have h2:=tree_tail ht hm
 generalize l[fi l g]?.getD nd0 = n at hm hh h1 h2 ⊢
 have hnd : n.h.dir = true:=by rw [hh]; exact hd
 have hnr : n.h ≠ rootH:=by rw [hh]; exact hr
 refine ⟨?_,?_⟩
 ·unfold ndOk at h1
  rw [Bool.and_eq_true,if_pos hnd,Bool.and_eq_true] at h1
  simp only [dirOk,Bool.and_eq_true] at h1
  exact h1.2.1.2.2.2
 ·unfold tailT at h2
  rw [if_neg hnr,Bool.and_eq_true] at h2
  have h3:=h2.2
  unfold rch at h3
  have hup : up n = true:=by unfold up; rw [hnd]; simp [hnr]
  rw [if_pos hup] at h3
  by_cases hx : fi l n.par < l.length
  ·exact hx
  ·rw [if_neg hx] at h3; cases h3
theorem way_und {l : List Nd} (ht : treeOk l = true) (h : Hd) : ∀ (k : Nat) (g : Hd),g.dir = true → fi l g < l.length → wayI (atH l l.length) h k g = (if undN l h k g = 1 then 8 else if undN l h k g = 2 then 9 else 0)
 | 0,g,_,_ => by simp [wayI,undN]
 | k + 1,g,hd,hf => by
  unfold wayI undN
  by_cases h1 : g = h
  ·simp [h1]
  ·rw [if_neg h1,if_neg h1]
   by_cases h2 : g = rootH
   ·simp [h2]
   ·rw [if_neg h2,if_neg h2,if_pos hf,at_get]
    obtain ⟨h3,h4⟩:=tree_up ht hd hf h2
    exact way_und ht h k _ h3 h4
theorem und_vals (l : List Nd) (h : Hd) : ∀ (k : Nat) (g : Hd),undN l h k g = 0 ∨ undN l h k g = 1 ∨ undN l h k g = 2
 | 0,g => by simp [undN]
 | k + 1,g => by
  unfold undN
  by_cases h1 : g = h
  ·simp [h1]
  ·rw [if_neg h1]
   by_cases h2 : g = rootH
   ·simp [h2]
   ·rw [if_neg h2]
    by_cases h3 : fi l g < l.length
    ·rw [if_pos h3]; exact und_vals l h k _
    ·rw [if_neg h3]; simp
theorem rch_round {l : List Nd} {n : Nd} (hup : up n = true) (hself : l[fi l n.par]?.getD nd0 = n) : ∀ k,rch l k n = false
 | 0 => by simp [rch,hup]
 | k + 1 => by
  unfold rch
  rw [if_pos hup]
  by_cases h : fi l n.par < l.length
  ·rw [if_pos h,hself]; exact rch_round hup hself k
  ·rw [if_neg h]
theorem not_self {l : List Nd} (ht : treeOk l = true) {g : Hd} (hg : g.dir = true) (hf : fi l g < l.length) {e : En} (he : e ∈ (l[fi l g]?.getD nd0).es) : e.h ≠ g:=by
 intro hx
 have hm:=node_mem hf
 have hh:=fi_h hf
 have hl:=tree_lead ht hm he
 have h2:=tree_tail ht hm
 unfold entLead at hl
 simp only [Bool.and_eq_true,Bool.or_eq_true,Bool.not_eq_true',decide_eq_true_eq] at hl
 rw [hx] at hl
 obtain ⟨N,hN⟩ : ∃ N,l[fi l g]?.getD nd0 = N:=⟨_,rfl⟩
 rw [hN] at hm hh hl h2 he
 have hpar : N.par = N.h:=by
  rcases hl.2 with h | h
  ·rw [hg] at h; cases h
  ·exact h
 unfold tailT at h2
 by_cases hr : N.h = rootH
 ·rw [if_pos hr,decide_eq_true_eq] at h2
  have hc : 0 < cntH l N.h:=by
   rw [cnt_same]
   unfold cntE
   rw [List.countP_pos_iff]
   exact ⟨e,List.mem_flatMap.2 ⟨N,hm,he⟩,by simp [hx,hh]⟩
  omega
 ·rw [if_neg hr,Bool.and_eq_true] at h2
  have hup : up N = true:=by unfold up; rw [hh,hg]; simp; rw [← hh]; exact hr
  rw [rch_round hup (by rw [hpar,hh]; exact hN)] at h2
  cases h2.2
theorem tree_fok {l : List Nd} (ht : treeOk l = true) (hsz : szNds l ≤ 2097152) : FOk (atH l l.length):=by
 have rp:=tree_rp ht
 have hm : ∀ g t,atH l l.length g = some t → t ∈ l:=fun g t h => atH_mem h
 have hi : ∀ g t,atH l l.length g = some t → ndI t = true:=fun g t h => by rw [← nd_same]; exact tree_nd ht (hm g t h)
 refine ⟨fun g t h => ⟨by have:=(ndI_es (hi g t h)).1; omega,ndI_par (hi g t h)⟩,fun g t h => ?_,fun g t h => ?_,fun g t nm h hb => ?_,fun g t hd nm hq h hb => ⟨addE_perm _ _ _,addE_asc (nd_asc (tree_nd ht (hm g t h))) hq hb hd⟩,fun g t hd nm nm2 hq h hb => ⟨addE_perm _ _ _,addE_asc (outE_asc (nd_asc (tree_nd ht (hm g t h))) nm2) hq (fdB_no.2 (fun e he => fdB_no.1 hb e (List.mem_filter.1 he).1)) hd⟩⟩
 ·have:=ndOk_small (tree_nd ht (hm g t h)); omega
 ·obtain ⟨i,hi',rfl⟩:=List.getElem_of_mem (hm g t h)
  have:=szNds_at l i
  rw [List.getElem?_eq_getElem hi'] at this
  exact Nat.le_trans this hsz
 ·have hei : ei t.es nm < t.es.length:=by rw [fdB_ei] at hb; exact of_decide_eq_true hb
  have he : fdH t.es nm = (t.es[ei t.es nm]'hei).h:=by unfold fdH; rw [if_pos hei,List.getElem?_eq_getElem hei]; rfl
  have hl:=tree_lead ht (hm g t h) (List.getElem_mem hei)
  unfold entLead at hl
  simp only [Bool.and_eq_true,decide_eq_true_eq] at hl
  rw [he]
  refine ⟨_,at_so hl.1,?_⟩
  have h9:=(ndI_es (hi g t h)).2 _ hei
  rw [List.getElem?_eq_getElem hei] at h9
  exact h9
end
section
def Ag (a : List Nd × RpD) (b : (Hd → Option Nd) × Nat × RpD) : Prop:=Rp a.1 b.1 ∧ b.2.2 = a.2 ∧ a.1.length ≤ 3000 ∧ b.2.1 ≤ 3000 ∧ ∀ g n,b.1 g = some n → HIn g
theorem tree_hin {l : List Nd} (ht : treeOk l = true) (g : Hd) (n : Nd) (h : atH l l.length g = some n) : HIn g:=by
 have h1:=ndI_h (n:=n) (by rw [← nd_same]; exact tree_nd ht (atH_mem h))
 rw [(tree_rp ht).key g n h] at h1
 exact h1
theorem ag_same {l : List Nd} (ht : treeOk l = true) (r : RpD) : Ag (l,r) (atH l l.length,l.length,r):=
 ⟨tree_rp ht,rfl,by have:=(treeOk_len ht).2; show l.length ≤ 3000; omega,by have:=(treeOk_len ht).2; show l.length ≤ 3000; omega,tree_hin ht⟩
theorem hin_set {f : Hd → Option Nd} (h : ∀ g n,f g = some n → HIn g) {k : Hd} (hk : HIn k) (m : Nd) : ∀ g n,setN f k m g = some n → HIn g:=by
 intro g n e
 unfold setN at e
 by_cases x : g = k
 ·rw [x]; exact hk
 ·rw [if_neg x] at e; exact h g n e
theorem hin_del {f : Hd → Option Nd} (h : ∀ g n,f g = some n → HIn g) (k : Hd) : ∀ g n,delN f k g = some n → HIn g:=fun g n e => h g n (delN_at e).2
section
variable {l : List Nd} (ht : treeOk l = true) (dir tt fr : Hd) (nm asn : List Int) (ov : Int)
include ht
theorem agK0 : Ag (doD l ⟨0,dir,nm,tt,asn,ov⟩ fr) (doF (atH l l.length) l.length ⟨0,dir,nm,tt,asn,ov⟩ fr):=by
 have hlen:=(treeOk_len ht).2
 by_cases hd : dir.dir = true
 ·by_cases hf : fi l dir < l.length
  ·by_cases he : ei (l[fi l dir]?.getD nd0).es nm < (l[fi l dir]?.getD nd0).es.length
   ·have hD : doD l ⟨0,dir,nm,tt,asn,ov⟩ fr = (l,⟨0,((l[fi l dir]?.getD nd0).es[ei (l[fi l dir]?.getD nd0).es nm]?.getD en0).h,0,[]⟩):=by
     unfold doD
     dsimp only
     generalize l[fi l dir]?.getD nd0 = N at he ⊢; simp [hd,hf,he]
    have hF : doF (atH l l.length) l.length ⟨0,dir,nm,tt,asn,ov⟩ fr = (atH l l.length,l.length,⟨0,((l[fi l dir]?.getD nd0).es[ei (l[fi l dir]?.getD nd0).es nm]?.getD en0).h,0,[]⟩):=by
     unfold doF dirC doF2 lookF fdH
     dsimp only
     simp only [at_is,at_get,fdB_ei,room_ref]
     generalize l[fi l dir]?.getD nd0 = N at he ⊢; simp [hd,hf,he]
     try rfl
    rw [hD,hF]
    exact ag_same ht _
   ·have hD : doD l ⟨0,dir,nm,tt,asn,ov⟩ fr = (l,rc 3):=by
     unfold doD
     dsimp only
     generalize l[fi l dir]?.getD nd0 = N at he ⊢; simp [hd,hf,he]
    have hF : doF (atH l l.length) l.length ⟨0,dir,nm,tt,asn,ov⟩ fr = (atH l l.length,l.length,rc 3):=by
     unfold doF dirC doF2 lookF fdH
     dsimp only
     simp only [at_is,at_get,fdB_ei,room_ref]
     generalize l[fi l dir]?.getD nd0 = N at he ⊢; simp [hd,hf,he]
     try rfl
    rw [hD,hF]
    exact ag_same ht _
  ·have hD : doD l ⟨0,dir,nm,tt,asn,ov⟩ fr = (l,rc 1):=by
    unfold doD
    dsimp only
    simp [hd,hf]
   have hF : doF (atH l l.length) l.length ⟨0,dir,nm,tt,asn,ov⟩ fr = (atH l l.length,l.length,rc 1):=by
    unfold doF dirC doF2
    dsimp only
    simp only [at_is,at_get,fdB_ei,room_ref]
    simp [hd,hf]
    try rfl
   rw [hD,hF]
   exact ag_same ht _
 ·have hD : doD l ⟨0,dir,nm,tt,asn,ov⟩ fr = (l,rc 2):=by
   unfold doD
   dsimp only
   simp [hd]
  have hF : doF (atH l l.length) l.length ⟨0,dir,nm,tt,asn,ov⟩ fr = (atH l l.length,l.length,rc 2):=by
   unfold doF dirC doF2
   dsimp only
   simp only [at_is,at_get,fdB_ei,room_ref]
   simp [hd]
   try rfl
  rw [hD,hF]
  exact ag_same ht _
theorem agK1 : Ag (doD l ⟨1,dir,nm,tt,asn,ov⟩ fr) (doF (atH l l.length) l.length ⟨1,dir,nm,tt,asn,ov⟩ fr):=by
 have hlen:=(treeOk_len ht).2
 by_cases hd : dir.dir = true
 ·by_cases hf : fi l dir < l.length
  ·have hD : doD l ⟨1,dir,nm,tt,asn,ov⟩ fr = (l,⟨0,hd0,0,(l[fi l dir]?.getD nd0).es⟩):=by
    unfold doD
    dsimp only
    generalize l[fi l dir]?.getD nd0 = N at  ⊢; simp [hd,hf]
   have hF : doF (atH l l.length) l.length ⟨1,dir,nm,tt,asn,ov⟩ fr = (atH l l.length,l.length,⟨0,hd0,0,(l[fi l dir]?.getD nd0).es⟩):=by
    unfold doF dirC doF2
    dsimp only
    simp only [at_is,at_get,fdB_ei,room_ref]
    generalize l[fi l dir]?.getD nd0 = N at  ⊢; simp [hd,hf]
    try rfl
   rw [hD,hF]
   exact ag_same ht _
  ·have hD : doD l ⟨1,dir,nm,tt,asn,ov⟩ fr = (l,rc 1):=by
    unfold doD
    dsimp only
    simp [hd,hf]
   have hF : doF (atH l l.length) l.length ⟨1,dir,nm,tt,asn,ov⟩ fr = (atH l l.length,l.length,rc 1):=by
    unfold doF dirC doF2
    dsimp only
    simp only [at_is,at_get,fdB_ei,room_ref]
    simp [hd,hf]
    try rfl
   rw [hD,hF]
   exact ag_same ht _
 ·have hD : doD l ⟨1,dir,nm,tt,asn,ov⟩ fr = (l,rc 2):=by
   unfold doD
   dsimp only
   simp [hd]
  have hF : doF (atH l l.length) l.length ⟨1,dir,nm,tt,asn,ov⟩ fr = (atH l l.length,l.length,rc 2):=by
   unfold doF dirC doF2
   dsimp only
   simp only [at_is,at_get,fdB_ei,room_ref]
   simp [hd]
   try rfl
  rw [hD,hF]
  exact ag_same ht _
theorem agK2 : Ag (doD l ⟨2,dir,nm,tt,asn,ov⟩ fr) (doF (atH l l.length) l.length ⟨2,dir,nm,tt,asn,ov⟩ fr):=by
 have hlen:=(treeOk_len ht).2
 by_cases hd : dir.dir = true
 ·have hD : doD l ⟨2,dir,nm,tt,asn,ov⟩ fr = (l,rc 6):=by
   unfold doD
   dsimp only
   simp [hd]
  have hF : doF (atH l l.length) l.length ⟨2,dir,nm,tt,asn,ov⟩ fr = (atH l l.length,l.length,rc 6):=by
   unfold doF dirC doF2
   dsimp only
   simp only [at_is,at_get,fdB_ei,room_ref]
   simp [hd]
   try rfl
  rw [hD,hF]
  exact ag_same ht _
 ·by_cases hf : fi l dir < l.length
  ·have hD : doD l ⟨2,dir,nm,tt,asn,ov⟩ fr = (l,⟨0,hd0,(l[fi l dir]?.getD nd0).val,[]⟩):=by
    unfold doD
    dsimp only
    generalize l[fi l dir]?.getD nd0 = N at  ⊢; simp [hd,hf]
   have hF : doF (atH l l.length) l.length ⟨2,dir,nm,tt,asn,ov⟩ fr = (atH l l.length,l.length,⟨0,hd0,(l[fi l dir]?.getD nd0).val,[]⟩):=by
    unfold doF dirC doF2
    dsimp only
    simp only [at_is,at_get,fdB_ei,room_ref]
    generalize l[fi l dir]?.getD nd0 = N at  ⊢; simp [hd,hf]
    try rfl
   rw [hD,hF]
   exact ag_same ht _
  ·have hD : doD l ⟨2,dir,nm,tt,asn,ov⟩ fr = (l,rc 1):=by
    unfold doD
    dsimp only
    simp [hd,hf]
   have hF : doF (atH l l.length) l.length ⟨2,dir,nm,tt,asn,ov⟩ fr = (atH l l.length,l.length,rc 1):=by
    unfold doF dirC doF2
    dsimp only
    simp only [at_is,at_get,fdB_ei,room_ref]
    simp [hd,hf]
    try rfl
   rw [hD,hF]
   exact ag_same ht _
theorem agK3 : Ag (doD l ⟨3,dir,nm,tt,asn,ov⟩ fr) (doF (atH l l.length) l.length ⟨3,dir,nm,tt,asn,ov⟩ fr):=by
 have hlen:=(treeOk_len ht).2
 by_cases hd : dir.dir = true
 ·have hD : doD l ⟨3,dir,nm,tt,asn,ov⟩ fr = (l,rc 6):=by
   unfold doD
   dsimp only
   simp [hd]
  have hF : doF (atH l l.length) l.length ⟨3,dir,nm,tt,asn,ov⟩ fr = (atH l l.length,l.length,rc 6):=by
   unfold doF dirC doF2
   dsimp only
   simp only [at_is,at_get,fdB_ei,room_ref]
   simp [hd]
   try rfl
  rw [hD,hF]
  exact ag_same ht _
 ·by_cases hf : fi l dir < l.length
  ·have hD : doD l ⟨3,dir,nm,tt,asn,ov⟩ fr = (valN l (fi l dir) ov,rc 0):=by
    unfold doD
    dsimp only
    simp [hd,hf]
   have hF : doF (atH l l.length) l.length ⟨3,dir,nm,tt,asn,ov⟩ fr = (setN (atH l l.length) dir { l[fi l dir]?.getD nd0 with val:=ov },l.length,rc 0):=by
    unfold doF dirC doF2 writeF
    dsimp only
    simp only [at_is,at_get,fdB_ei,room_ref]
    simp [hd,hf]
    try rfl
   rw [hD,hF]
   have hh:=fi_h hf
   have r:=(tree_rp ht).set hf (n:=(l[fi l dir]?.getD nd0).setVal ov) rfl
   have e : ((l[fi l dir]?.getD nd0).setVal ov).h = dir:=hh
   rw [e] at r
   exact ⟨r,rfl,by show (valN _ _ _).length ≤ 3000; unfold valN; rw [List.length_set]; omega,by show l.length ≤ 3000; omega,hin_set (tree_hin ht) (tree_hin ht _ _ (at_so hf)) _⟩
  ·have hD : doD l ⟨3,dir,nm,tt,asn,ov⟩ fr = (l,rc 1):=by
    unfold doD
    dsimp only
    simp [hd,hf]
   have hF : doF (atH l l.length) l.length ⟨3,dir,nm,tt,asn,ov⟩ fr = (atH l l.length,l.length,rc 1):=by
    unfold doF dirC doF2
    dsimp only
    simp only [at_is,at_get,fdB_ei,room_ref]
    simp [hd,hf]
    try rfl
   rw [hD,hF]
   exact ag_same ht _
theorem agK6 : Ag (doD l ⟨6,dir,nm,tt,asn,ov⟩ fr) (doF (atH l l.length) l.length ⟨6,dir,nm,tt,asn,ov⟩ fr):=by
 have hlen:=(treeOk_len ht).2
 by_cases hd : dir.dir = true
 ·by_cases hf : fi l dir < l.length
  ·by_cases hr : refD (l[fi l dir]?.getD nd0).es nm = 0
   ·by_cases hdt : tt.dir = true
    ·have hD : doD l ⟨6,dir,nm,tt,asn,ov⟩ fr = (l,rc 6):=by
      unfold doD
      dsimp only
      simp only [hr]
      simp [hd,hf,hdt]
     have hF : doF (atH l l.length) l.length ⟨6,dir,nm,tt,asn,ov⟩ fr = (atH l l.length,l.length,rc 6):=by
      unfold doF dirC doF2 linkF
      dsimp only
      simp only [at_is,at_get,room_ref,hr]
      simp [hd,hf,hdt]
      try rfl
     rw [hD,hF]
     exact ag_same ht _
    ·by_cases hft : fi l tt < l.length
     ·have hD : doD l ⟨6,dir,nm,tt,asn,ov⟩ fr = (addN (lkN l (fi l tt) 1) (fi l dir) nm tt,rc 0):=by
       unfold doD
       dsimp only
       simp only [hr]
       simp [hd,hf,hdt,hft]
      have hF : doF (atH l l.length) l.length ⟨6,dir,nm,tt,asn,ov⟩ fr = (setN (setN (atH l l.length) tt { l[fi l tt]?.getD nd0 with links:=(l[fi l tt]?.getD nd0).links + 1 }) dir { l[fi l dir]?.getD nd0 with es:=addE (l[fi l dir]?.getD nd0).es nm tt },l.length,rc 0):=by
       unfold doF dirC doF2 linkF
       dsimp only
       simp only [at_is,at_get,room_ref,hr]
       simp [hd,hf,hdt,hft]
       try rfl
      rw [hD,hF]
      have hh:=fi_h hf
      have hht:=fi_h hft
      have hne : fi l dir ≠ fi l tt:=fun x => by rw [x,hht] at hh; rw [hh] at hdt; exact hdt hd
      have r1:=(tree_rp ht).set hft (n:=(l[fi l tt]?.getD nd0).setLk ((l[fi l tt]?.getD nd0).links + 1)) rfl
      have e1 : ((l[fi l tt]?.getD nd0).setLk ((l[fi l tt]?.getD nd0).links + 1)).h = tt:=hht
      rw [e1] at r1
      have hf2 : fi l dir < (lkN l (fi l tt) 1).length:=by unfold lkN; rw [List.length_set]; exact hf
      have eN : (lkN l (fi l tt) 1)[fi l dir]?.getD nd0 = l[fi l dir]?.getD nd0:=by unfold lkN; rw [set_at hft,if_neg hne]
      have r2:=Rp.set (l:=lkN l (fi l tt) 1) r1 hf2 (n:=(l[fi l dir]?.getD nd0).setEs (addE (l[fi l dir]?.getD nd0).es nm tt)) (by rw [eN]; rfl)
      have e2 : ((l[fi l dir]?.getD nd0).setEs (addE (l[fi l dir]?.getD nd0).es nm tt)).h = dir:=hh
      rw [e2] at r2
      have eA : addN (lkN l (fi l tt) 1) (fi l dir) nm tt = (lkN l (fi l tt) 1).set (fi l dir) ((l[fi l dir]?.getD nd0).setEs (addE (l[fi l dir]?.getD nd0).es nm tt)):=by unfold addN; rw [eN]
      rw [eA]
      refine ⟨r2,rfl,?_,by show l.length ≤ 3000; omega,hin_set (hin_set (tree_hin ht) (tree_hin ht _ _ (at_so hft)) _) (tree_hin ht _ _ (at_so hf)) _⟩
      show (List.set _ _ _).length ≤ 3000
      unfold lkN
      simp
      omega
     ·have hD : doD l ⟨6,dir,nm,tt,asn,ov⟩ fr = (l,rc 1):=by
       unfold doD
       dsimp only
       simp only [hr]
       simp [hd,hf,hdt,hft]
      have hF : doF (atH l l.length) l.length ⟨6,dir,nm,tt,asn,ov⟩ fr = (atH l l.length,l.length,rc 1):=by
       unfold doF dirC doF2 linkF
       dsimp only
       simp only [at_is,at_get,room_ref,hr]
       simp [hd,hf,hdt,hft]
       try rfl
      rw [hD,hF]
      exact ag_same ht _
   ·have hD : doD l ⟨6,dir,nm,tt,asn,ov⟩ fr = (l,rc (refD (l[fi l dir]?.getD nd0).es nm)):=by
     unfold doD
     dsimp only
     generalize l[fi l dir]?.getD nd0 = N at hr ⊢; simp [hd,hf,hr]
    have hF : doF (atH l l.length) l.length ⟨6,dir,nm,tt,asn,ov⟩ fr = (atH l l.length,l.length,rc (refD (l[fi l dir]?.getD nd0).es nm)):=by
     unfold doF dirC doF2 linkF
     dsimp only
     simp only [at_is,at_get,fdB_ei,room_ref]
     generalize l[fi l dir]?.getD nd0 = N at hr ⊢; simp [hd,hf,hr]
     try rfl
    rw [hD,hF]
    exact ag_same ht _
  ·have hD : doD l ⟨6,dir,nm,tt,asn,ov⟩ fr = (l,rc 1):=by
    unfold doD
    dsimp only
    simp [hd,hf]
   have hF : doF (atH l l.length) l.length ⟨6,dir,nm,tt,asn,ov⟩ fr = (atH l l.length,l.length,rc 1):=by
    unfold doF dirC doF2
    dsimp only
    simp only [at_is,at_get,fdB_ei,room_ref]
    simp [hd,hf]
    try rfl
   rw [hD,hF]
   exact ag_same ht _
 ·have hD : doD l ⟨6,dir,nm,tt,asn,ov⟩ fr = (l,rc 2):=by
   unfold doD
   dsimp only
   simp [hd]
  have hF : doF (atH l l.length) l.length ⟨6,dir,nm,tt,asn,ov⟩ fr = (atH l l.length,l.length,rc 2):=by
   unfold doF dirC doF2
   dsimp only
   simp only [at_is,at_get,fdB_ei,room_ref]
   simp [hd]
   try rfl
  rw [hD,hF]
  exact ag_same ht _
theorem agK4 (htk : takesB fr tt (atH l l.length (fr.sh,fr.ino,false)).isSome (atH l l.length (fr.sh,fr.ino,true)).isSome l.length = true) (hfi : HIn fr) (hnew : atH l l.length fr = none) (hpl : ∀ c,¬ fi l (fr.sh,fr.ino,c) < l.length) : Ag (doD l ⟨4,dir,nm,tt,asn,ov⟩ fr) (doF (atH l l.length) l.length ⟨4,dir,nm,tt,asn,ov⟩ fr):=by
 have hlen:=(treeOk_len ht).2
 by_cases hd : dir.dir = true
 ·by_cases hf : fi l dir < l.length
  ·by_cases hr : refD (l[fi l dir]?.getD nd0).es nm = 0
   ·have hD : doD l ⟨4,dir,nm,tt,asn,ov⟩ fr = (insN (addN l (fi l dir) nm fr) ⟨fr,if fr.dir = true then dir else hd0,1,0,[]⟩,⟨0,fr,0,[]⟩):=by
     unfold doD
     dsimp only
     simp only [hr]
     simp [hd,hf,htk]
    have hF : doF (atH l l.length) l.length ⟨4,dir,nm,tt,asn,ov⟩ fr = (setN (setN (atH l l.length) fr ⟨fr,if fr.dir = true then dir else hd0,1,0,[]⟩) dir { l[fi l dir]?.getD nd0 with es:=addE (l[fi l dir]?.getD nd0).es nm fr },l.length + 1,⟨0,fr,0,[]⟩):=by
     unfold doF dirC doF2 makeF
     dsimp only
     rw [htk]
     simp only [at_is,at_get,room_ref,hr]
     simp [hd,hf,htk]
    rw [hD,hF]
    have hh:=fi_h hf
    have e : ((l[fi l dir]?.getD nd0).setEs (addE (l[fi l dir]?.getD nd0).es nm fr)).h = dir:=hh
    have r1:=(tree_rp ht).set hf (n:=(l[fi l dir]?.getD nd0).setEs (addE (l[fi l dir]?.getD nd0).es nm fr)) rfl
    rw [e] at r1
    have hfd : fr ≠ dir:=fun x => by rw [x,at_so hf] at hnew; cases hnew
    have hno : ∀ m ∈ l.set (fi l dir) ((l[fi l dir]?.getD nd0).setEs (addE (l[fi l dir]?.getD nd0).es nm fr)),¬ (m.h.sh = fr.sh ∧ m.h.ino = fr.ino):=by
     intro m hm hx
     have hm2 : m.h = dir ∨ m ∈ l:=by
      rcases List.mem_or_eq_of_mem_set hm with h | h
      ·exact .inr h
      ·left; rw [h]; exact hh
     have hloc : ∀ g,fi l g < l.length → ¬ (g.sh = fr.sh ∧ g.ino = fr.ino):=fun g hg hx2 => by
      obtain ⟨a,b,c⟩:=fr
      obtain ⟨a2,b2,c2⟩:=g
      obtain ⟨rfl,rfl⟩ : a2 = a ∧ b2 = b:=hx2
      have:=hpl c2
      exact this hg
     rcases hm2 with h | h
     ·exact hloc dir hf (by rw [← h]; exact hx)
     ·have h9:=((tree_rp ht).mem m).1 h
      rw [atH_fi] at h9
      by_cases hq : fi l m.h < l.length
      ·exact hloc m.h hq hx
      ·rw [if_neg hq] at h9; cases h9
    have r2:=r1.ins (n:=⟨fr,if fr.dir = true then dir else hd0,1,0,[]⟩) hno
    rw [setN_comm (atH l l.length) hfd]
    refine ⟨r2,rfl,?_,by show l.length + 1 ≤ 3000; omega,hin_set (hin_set (tree_hin ht) (tree_hin ht _ _ (at_so hf)) _) hfi _⟩
    show (insN _ _).length ≤ 3000
    unfold insN addN
    simp
    omega
   ·have hD : doD l ⟨4,dir,nm,tt,asn,ov⟩ fr = (l,rc (refD (l[fi l dir]?.getD nd0).es nm)):=by
     unfold doD
     dsimp only
     generalize l[fi l dir]?.getD nd0 = N at hr ⊢; simp [hd,hf,hr,htk]
    have hF : doF (atH l l.length) l.length ⟨4,dir,nm,tt,asn,ov⟩ fr = (atH l l.length,l.length,rc (refD (l[fi l dir]?.getD nd0).es nm)):=by
     unfold doF dirC doF2 makeF
     dsimp only
     rw [htk]
     simp only [at_is,at_get,fdB_ei,room_ref]
     generalize l[fi l dir]?.getD nd0 = N at hr ⊢; simp [hd,hf,hr,htk]
     try rfl
    rw [hD,hF]
    exact ag_same ht _
  ·have hD : doD l ⟨4,dir,nm,tt,asn,ov⟩ fr = (l,rc 1):=by
    unfold doD
    dsimp only
    simp [hd,hf,htk]
   have hF : doF (atH l l.length) l.length ⟨4,dir,nm,tt,asn,ov⟩ fr = (atH l l.length,l.length,rc 1):=by
    unfold doF dirC doF2
    dsimp only
    rw [htk]
    simp only [at_is,at_get,fdB_ei,room_ref]
    simp [hd,hf,htk]
    try rfl
   rw [hD,hF]
   exact ag_same ht _
 ·have hD : doD l ⟨4,dir,nm,tt,asn,ov⟩ fr = (l,rc 2):=by
   unfold doD
   dsimp only
   simp [hd,htk]
  have hF : doF (atH l l.length) l.length ⟨4,dir,nm,tt,asn,ov⟩ fr = (atH l l.length,l.length,rc 2):=by
   unfold doF dirC doF2
   dsimp only
   rw [htk]
   simp only [at_is,at_get,fdB_ei,room_ref]
   simp [hd,htk]
   try rfl
  rw [hD,hF]
  exact ag_same ht _
end
end
section
section
variable {l : List Nd} (ht : treeOk l = true) (dir tt fr : Hd) (nm asn : List Int) (ov : Int)
include ht
theorem ag5 (hd : dir.dir = true) (hf : fi l dir < l.length) {NN : Nd} (hNN : l[fi l dir]?.getD nd0 = NN) : Ag (doD l ⟨5,dir,nm,tt,asn,ov⟩ fr) (doF (atH l l.length) l.length ⟨5,dir,nm,tt,asn,ov⟩ fr):=by
 have hlen:=(treeOk_len ht).2
 by_cases he : ei NN.es nm < NN.es.length
 case neg =>
  have hD : doD l ⟨5,dir,nm,tt,asn,ov⟩ fr = (l,rc 3):=by unfold doD; dsimp only; simp only [hNN]; simp [hd,hf,he]
  have hF : doF (atH l l.length) l.length ⟨5,dir,nm,tt,asn,ov⟩ fr = (atH l l.length,l.length,rc 3):=by unfold doF dirC doF2 dropF; dsimp only; simp only [at_is,at_get,hNN,fdB_ei]; simp [hd,hf,he]; rfl
  rw [hD,hF]; exact ag_same ht _
 have hmN : NN ∈ l:=by rw [← hNN]; exact node_mem hf
 have hhN : NN.h = dir:=by rw [← hNN]; exact fi_h hf
 obtain ⟨h,hh⟩ : ∃ h,(NN.es[ei NN.es nm]?.getD en0).h = h:=⟨_,rfl⟩
 have hfdH : fdH NN.es nm = h:=by unfold fdH; rw [if_pos he]; exact hh
 have hmem : NN.es[ei NN.es nm]?.getD en0 ∈ NN.es:=by rw [List.getElem?_eq_getElem he]; exact List.getElem_mem he
 have hne : h ≠ dir:=by rw [← hh]; exact not_self ht hd hf (by rw [hNN]; exact hmem)
 have hfh : fi l h < l.length:=by
  have hl:=tree_lead ht hmN hmem
  unfold entLead at hl
  simp only [Bool.and_eq_true,decide_eq_true_eq] at hl
  rw [← hh]; exact hl.1
 obtain ⟨H,hH⟩ : ∃ n,l[fi l h]?.getD nd0 = n:=⟨_,rfl⟩
 have hhH : H.h = h:=by rw [← hH]; exact fi_h hfh
 have hlk:=ndOk_small (tree_nd ht (show H ∈ l by rw [← hH]; exact node_mem hfh))
 have hset : ∀ X,(setN (atH l l.length) dir X h).getD nd0 = H:=fun X => by unfold setN; rw [if_neg hne,at_get,hH]
 by_cases hc : h.dir = true ∧ 0 < H.es.length
 ·have hD : doD l ⟨5,dir,nm,tt,asn,ov⟩ fr = (l,rc 7):=by unfold doD dropD; dsimp only; simp only [hNN,hh,hH]; simp [hd,hf,he,hc]
  have hF : doF (atH l l.length) l.length ⟨5,dir,nm,tt,asn,ov⟩ fr = (atH l l.length,l.length,rc 7):=by unfold doF dirC doF2 dropF; dsimp only; simp only [at_is,at_get,hNN,fdB_ei,hfdH,hH]; simp [hd,hf,he,hc]; rfl
  rw [hD,hF]; exact ag_same ht _
 have hkd : fi l h ≠ fi l dir:=fun x => by
  have h1:=fi_h hfh
  rw [x,hNN,hhN] at h1
  exact hne h1.symm
 have hck : (cutN l (fi l dir) (ei NN.es nm))[fi l h]?.getD nd0 = H:=by unfold cutN; rw [set_at hf,if_neg hkd,hH]
 have hcl : (cutN l (fi l dir) (ei NN.es nm)).length = l.length:=by unfold cutN; rw [List.length_set]
 have hcut:=cut_out (nd_asc (tree_nd ht hmN)) he
 have r1:=(tree_rp ht).set hf (n:=NN.setEs (cutE NN.es (ei NN.es nm))) (by rw [hNN]; rfl)
 have eC : cutN l (fi l dir) (ei NN.es nm) = l.set (fi l dir) (NN.setEs (cutE NN.es (ei NN.es nm))):=by unfold cutN; rw [hNN]
 rw [← eC,show (NN.setEs (cutE NN.es (ei NN.es nm))).h = dir from hhN,hcut] at r1
 have r2:=r1.set (by rw [hcl]; exact hfh) (n:=H.setLk (H.links + -1)) (by rw [hck]; rfl)
 have eL : lkN (cutN l (fi l dir) (ei NN.es nm)) (fi l h) (-1) = (cutN l (fi l dir) (ei NN.es nm)).set (fi l h) (H.setLk (H.links + -1)):=by unfold lkN; rw [hck]
 rw [← eL,show (H.setLk (H.links + -1)).h = h from hhH] at r2
 have hF : doF (atH l l.length) l.length ⟨5,dir,nm,tt,asn,ov⟩ fr = (unlN (setN (atH l l.length) dir { NN with es:=outE NN.es nm }) h H,unlS l.length H,rc 0):=by unfold doF dirC doF2 dropF; dsimp only; simp only [at_is,at_get,hNN,fdB_ei,hfdH,hH,hset]; simp [hd,hf,he,hc]; rfl
 have hin2:=hin_set (tree_hin ht) (tree_hin ht _ _ (at_so hf)) ({ NN with es:=outE NN.es nm })
 by_cases hz : H.links - 1 = 0
 ·have hD : doD l ⟨5,dir,nm,tt,asn,ov⟩ fr = (outN (lkN (cutN l (fi l dir) (ei NN.es nm)) (fi l h) (-1)) (fi l h),rc 0):=by unfold doD dropD; dsimp only; simp only [hNN,hh,hH,hck]; simp [hd,hf,he,hc,hz]
  have hll : fi l h < (lkN (cutN l (fi l dir) (ei NN.es nm)) (fi l h) (-1)).length:=by unfold lkN; rw [List.length_set,hcl]; exact hfh
  have r3:=r2.out hll
  have e3 : ((lkN (cutN l (fi l dir) (ei NN.es nm)) (fi l h) (-1))[fi l h]?.getD nd0).h = h:=by rw [eL,set_at (by rw [hcl]; exact hfh),if_pos rfl]; exact hhH
  rw [e3,delN_set] at r3
  rw [hD,hF]
  have eU : unlN (setN (atH l l.length) dir { NN with es:=outE NN.es nm }) h H = delN (setN (atH l l.length) dir { NN with es:=outE NN.es nm }) h:=by unfold unlN; rw [if_pos (by omega)]
  refine ⟨by rw [eU]; exact r3,rfl,?_,?_,by rw [eU]; exact hin_del hin2 h⟩
  ·show (outN _ _).length ≤ 3000
   unfold outN
   have : (lkN (cutN l (fi l dir) (ei NN.es nm)) (fi l h) (-1)).length = l.length:=by unfold lkN; rw [List.length_set,hcl]
   simp [this]; omega
  ·show unlS _ _ ≤ 3000
   unfold unlS; split <;> omega
 ·have hD : doD l ⟨5,dir,nm,tt,asn,ov⟩ fr = (lkN (cutN l (fi l dir) (ei NN.es nm)) (fi l h) (-1),rc 0):=by unfold doD dropD; dsimp only; simp only [hNN,hh,hH,hck]; simp [hd,hf,he,hc,hz]
  rw [hD,hF]
  have eU : unlN (setN (atH l l.length) dir { NN with es:=outE NN.es nm }) h H = setN (setN (atH l l.length) dir { NN with es:=outE NN.es nm }) h (H.setLk (H.links + -1)):=by unfold unlN; rw [if_neg (by omega)]; rfl
  refine ⟨by rw [eU]; exact r2,rfl,?_,?_,by rw [eU]; exact hin_set hin2 (tree_hin ht _ _ (at_so hfh)) _⟩
  ·show (lkN _ _ _).length ≤ 3000
   unfold lkN; rw [List.length_set,hcl]; omega
  ·show unlS _ _ ≤ 3000
   unfold unlS; split <;> omega
end
end
section
section
variable {l : List Nd} (ht : treeOk l = true) (dir tt fr : Hd) (nm asn : List Int) (ov : Int)
include ht
set_option maxHeartbeats 1000000 in
theorem ag7 (hd : dir.dir = true) (hf : fi l dir < l.length) {NN : Nd} (hNN : l[fi l dir]?.getD nd0 = NN) : Ag (doD l ⟨7,dir,nm,tt,asn,ov⟩ fr) (doF (atH l l.length) l.length ⟨7,dir,nm,tt,asn,ov⟩ fr):=by
 have hlen:=(treeOk_len ht).2
 by_cases he : ei NN.es nm < NN.es.length
 case neg =>
  have hD : doD l ⟨7,dir,nm,tt,asn,ov⟩ fr = (l,rc 3):=by unfold doD moveD; dsimp only; simp only [hNN]; simp [hd,hf,he]
  have hF : doF (atH l l.length) l.length ⟨7,dir,nm,tt,asn,ov⟩ fr = (atH l l.length,l.length,rc 3):=by unfold doF dirC doF2 moveF; dsimp only; simp only [at_is,at_get,hNN,fdB_ei]; simp [hd,hf,he]; rfl
  rw [hD,hF]; exact ag_same ht _
 have hmN : NN ∈ l:=by rw [← hNN]; exact node_mem hf
 have hhN : NN.h = dir:=by rw [← hNN]; exact fi_h hf
 obtain ⟨h,hh⟩ : ∃ h,(NN.es[ei NN.es nm]?.getD en0).h = h:=⟨_,rfl⟩
 have hfdH : fdH NN.es nm = h:=by unfold fdH; rw [if_pos he]; exact hh
 have hmem : NN.es[ei NN.es nm]?.getD en0 ∈ NN.es:=by rw [List.getElem?_eq_getElem he]; exact List.getElem_mem he
 have hne : h ≠ dir:=by rw [← hh]; exact not_self ht hd hf (by rw [hNN]; exact hmem)
 have hlead : fi l h < l.length ∧ (h.dir = false ∨ (l[fi l h]?.getD nd0).par = dir):=by
  have hl:=tree_lead ht hmN hmem
  unfold entLead at hl
  simp only [Bool.and_eq_true,Bool.or_eq_true,Bool.not_eq_true',decide_eq_true_eq] at hl
  rw [hh,hhN] at hl
  exact hl
 have hfh:=hlead.1
 obtain ⟨H,hH⟩ : ∃ n,l[fi l h]?.getD nd0 = n:=⟨_,rfl⟩
 rw [hH] at hlead
 have hhH : H.h = h:=by rw [← hH]; exact fi_h hfh
 by_cases h2 : tt.dir = true
 case neg =>
  have hD : doD l ⟨7,dir,nm,tt,asn,ov⟩ fr = (l,rc 2):=by unfold doD moveD; dsimp only; simp only [hNN]; simp [hd,hf,he,h2]
  have hF : doF (atH l l.length) l.length ⟨7,dir,nm,tt,asn,ov⟩ fr = (atH l l.length,l.length,rc 2):=by unfold doF dirC doF2 moveF moveI; dsimp only; simp only [at_is,at_get,hNN,fdB_ei,hfdH]; simp [hd,hf,he,h2]; rfl
  rw [hD,hF]; exact ag_same ht _
 by_cases h3 : fi l tt < l.length
 case neg =>
  have hD : doD l ⟨7,dir,nm,tt,asn,ov⟩ fr = (l,rc 1):=by unfold doD moveD; dsimp only; simp only [hNN]; simp [hd,hf,he,h2,h3]
  have hF : doF (atH l l.length) l.length ⟨7,dir,nm,tt,asn,ov⟩ fr = (atH l l.length,l.length,rc 1):=by unfold doF dirC doF2 moveF moveI; dsimp only; simp only [at_is,at_get,hNN,fdB_ei,hfdH]; simp [hd,hf,he,h2,h3]; rfl
  rw [hD,hF]; exact ag_same ht _
 have hcut:=cut_out (nd_asc (tree_nd ht hmN)) he
 have hkd : fi l h ≠ fi l dir:=fun x => by
  have h1:=fi_h hfh
  rw [x,hNN,hhN] at h1
  exact hne h1.symm
 have eC : cutN l (fi l dir) (ei NN.es nm) = l.set (fi l dir) (NN.setEs (outE NN.es nm)):=by unfold cutN; rw [hNN,hcut]
 have hcl : (cutN l (fi l dir) (ei NN.es nm)).length = l.length:=by unfold cutN; rw [List.length_set]
 have r1:=(tree_rp ht).set hf (n:=NN.setEs (outE NN.es nm)) (by rw [hNN]; rfl)
 rw [← eC,show (NN.setEs (outE NN.es nm)).h = dir from hhN] at r1
 have hin1:=fun X => hin_set (tree_hin ht) (tree_hin ht _ _ (at_so hf)) X
 by_cases h4 : tt = dir
 case pos =>
  subst h4
  by_cases h5 : ei NN.es asn < NN.es.length
  ·have hD : doD l ⟨7,tt,nm,tt,asn,ov⟩ fr = (l,rc 4):=by unfold doD moveD; dsimp only; simp only [hNN,findE_ei]; simp [hd,hf,he,h5]
   have hF : doF (atH l l.length) l.length ⟨7,tt,nm,tt,asn,ov⟩ fr = (atH l l.length,l.length,rc 4):=by unfold doF dirC doF2 moveF moveI; dsimp only; simp only [at_is,at_get,hNN,fdB_ei,hfdH]; simp [hd,hf,he,h5]; rfl
   rw [hD,hF]; exact ag_same ht _
  ·have hD : doD l ⟨7,tt,nm,tt,asn,ov⟩ fr = (addN (cutN l (fi l tt) (ei NN.es nm)) (fi l tt) asn h,rc 0):=by unfold doD moveD; dsimp only; simp only [hNN,findE_ei,hh]; simp [hd,hf,he,h5]
   have hsD : ∀ X,(setN (atH l l.length) tt X tt).getD nd0 = X:=fun X => by simp [setN]
   have hsH : ∀ X Y,(setN (setN (atH l l.length) tt X) tt Y h).getD nd0 = H:=fun X Y => by rw [setN_twice]; unfold setN; rw [if_neg hne,at_get,hH]
   have hF : doF (atH l l.length) l.length ⟨7,tt,nm,tt,asn,ov⟩ fr = (if h.dir = true then setN (setN (setN (atH l l.length) tt { NN with es:=outE NN.es nm }) tt { NN with es:=addE (outE NN.es nm) asn h }) h { H with par:=tt } else setN (setN (atH l l.length) tt { NN with es:=outE NN.es nm }) tt { NN with es:=addE (outE NN.es nm) asn h },l.length,rc 0):=by
    unfold doF dirC doF2 moveF moveI mvF
    dsimp only
    simp only [at_is,at_get,hNN,fdB_ei,hfdH,hsD,hsH]
    simp [hd,hf,he,h5]
    rfl
   rw [hD,hF]
   have hcN : (cutN l (fi l tt) (ei NN.es nm))[fi l tt]?.getD nd0 = NN.setEs (outE NN.es nm):=by rw [eC,set_at hf,if_pos rfl]
   have r2:=r1.set (by rw [hcl]; exact hf) (n:=NN.setEs (addE (outE NN.es nm) asn h)) (by rw [hcN]; rfl)
   rw [show (NN.setEs (addE (outE NN.es nm) asn h)).h = tt from hhN] at r2
   have eA : addN (cutN l (fi l tt) (ei NN.es nm)) (fi l tt) asn h = (cutN l (fi l tt) (ei NN.es nm)).set (fi l tt) (NN.setEs (addE (outE NN.es nm) asn h)):=by unfold addN; rw [hcN]; rfl
   rw [← eA] at r2
   have hfin : (if h.dir = true then setN (setN (setN (atH l l.length) tt { NN with es:=outE NN.es nm }) tt { NN with es:=addE (outE NN.es nm) asn h }) h { H with par:=tt } else setN (setN (atH l l.length) tt { NN with es:=outE NN.es nm }) tt { NN with es:=addE (outE NN.es nm) asn h }) = setN (setN (atH l l.length) tt (NN.setEs (outE NN.es nm))) tt (NN.setEs (addE (outE NN.es nm) asn h)):=by
    by_cases h6 : h.dir = true
    ·rw [if_pos h6]
     have hp : H.par = tt:=by
      rcases hlead.2 with x | x
      ·rw [h6] at x; cases x
      ·exact x
     have hH2 : ({ H with par:=tt } : Nd) = H:=by rw [← hp]
     rw [hH2]
     refine setN_self ?_
     rw [setN_twice]
     unfold setN
     rw [if_neg hne,at_so hfh,hH]
    ·rw [if_neg h6]; rfl
   rw [hfin]
   refine ⟨r2,rfl,?_,by show l.length ≤ 3000; omega,hin_set (hin1 _) (tree_hin ht _ _ (at_so hf)) _⟩
   show (addN _ _ _ _).length ≤ 3000
   rw [eA,List.length_set,hcl]; omega
 have h4' : ¬ fi l tt = fi l dir:=fun x => by
  have h1:=fi_h h3
  rw [x,hNN,hhN] at h1
  exact h4 h1.symm
 obtain ⟨TT,hTT⟩ : ∃ n,l[fi l tt]?.getD nd0 = n:=⟨_,rfl⟩
 have hhT : TT.h = tt:=by rw [← hTT]; exact fi_h h3
 by_cases h5 : refD TT.es asn = 0
 case neg =>
  have hD : doD l ⟨7,dir,nm,tt,asn,ov⟩ fr = (l,rc (refD TT.es asn)):=by unfold doD moveD; dsimp only; simp only [hNN,hTT]; simp [hd,hf,he,h2,h3,h4',h5]
  have hF : doF (atH l l.length) l.length ⟨7,dir,nm,tt,asn,ov⟩ fr = (atH l l.length,l.length,rc (refD TT.es asn)):=by unfold doF dirC doF2 moveF moveI; dsimp only; simp only [at_is,at_get,hNN,fdB_ei,hfdH,room_ref,hTT]; simp [hd,hf,he,h2,h3,h4,h5]; rfl
  rw [hD,hF]; exact ag_same ht _
 have hsT : ∀ X,(setN (atH l l.length) dir X tt).getD nd0 = TT:=fun X => by unfold setN; rw [if_neg h4,at_get,hTT]
 by_cases h6 : h.dir = true
 case neg =>
  have hD : doD l ⟨7,dir,nm,tt,asn,ov⟩ fr = (addN (cutN l (fi l dir) (ei NN.es nm)) (fi l tt) asn h,rc 0):=by unfold doD moveD; dsimp only; simp only [hNN,hTT,hh,h5]; simp [hd,hf,he,h2,h3,h4',h6]
  have hF : doF (atH l l.length) l.length ⟨7,dir,nm,tt,asn,ov⟩ fr = (setN (setN (atH l l.length) dir { NN with es:=outE NN.es nm }) tt { TT with es:=addE TT.es asn h },l.length,rc 0):=by unfold doF dirC doF2 moveF moveI mvF; dsimp only; simp only [at_is,at_get,hNN,fdB_ei,hfdH,room_ref,hTT,h5,hsT]; simp [hd,hf,he,h2,h3,h4,h6]; rfl
  rw [hD,hF]
  have hcT : (cutN l (fi l dir) (ei NN.es nm))[fi l tt]?.getD nd0 = TT:=by rw [eC,set_at hf,if_neg h4',hTT]
  have r2:=r1.set (by rw [hcl]; exact h3) (n:=TT.setEs (addE TT.es asn h)) (by rw [hcT]; rfl)
  rw [show (TT.setEs (addE TT.es asn h)).h = tt from hhT] at r2
  have eA : addN (cutN l (fi l dir) (ei NN.es nm)) (fi l tt) asn h = (cutN l (fi l dir) (ei NN.es nm)).set (fi l tt) (TT.setEs (addE TT.es asn h)):=by unfold addN; rw [hcT]
  rw [← eA] at r2
  refine ⟨r2,rfl,?_,by show l.length ≤ 3000; omega,hin_set (hin1 _) (tree_hin ht _ _ (at_so h3)) _⟩
  show (addN _ _ _ _).length ≤ 3000
  rw [eA,List.length_set,hcl]; omega
 have hway:=way_und ht h 12 tt h2 h3
 rcases und_vals l h 12 tt with hu | hu | hu
 case inr.inl =>
  rw [hu] at hway
  simp at hway
  have hD : doD l ⟨7,dir,nm,tt,asn,ov⟩ fr = (l,rc 8):=by unfold doD moveD; dsimp only; simp only [hNN,hTT,hh,h5,hu]; simp [hd,hf,he,h2,h3,h4',h6]
  have hF : doF (atH l l.length) l.length ⟨7,dir,nm,tt,asn,ov⟩ fr = (atH l l.length,l.length,rc 8):=by unfold doF dirC doF2 moveF moveI; dsimp only; simp only [at_is,at_get,hNN,fdB_ei,hfdH,room_ref,hTT,h5,hway]; simp [hd,hf,he,h2,h3,h4,h6]; rfl
  rw [hD,hF]; exact ag_same ht _
 case inr.inr =>
  rw [hu] at hway
  simp at hway
  have hD : doD l ⟨7,dir,nm,tt,asn,ov⟩ fr = (l,rc 9):=by unfold doD moveD; dsimp only; simp only [hNN,hTT,hh,h5,hu]; simp [hd,hf,he,h2,h3,h4',h6]
  have hF : doF (atH l l.length) l.length ⟨7,dir,nm,tt,asn,ov⟩ fr = (atH l l.length,l.length,rc 9):=by unfold doF dirC doF2 moveF moveI; dsimp only; simp only [at_is,at_get,hNN,fdB_ei,hfdH,room_ref,hTT,h5,hway]; simp [hd,hf,he,h2,h3,h4,h6]; rfl
  rw [hD,hF]; exact ag_same ht _
 rw [hu] at hway
 simp at hway
 have hht : tt ≠ h:=fun x => by
  rw [show (12 : Nat) = 11 + 1 from rfl] at hu
  unfold undN at hu
  rw [if_pos x] at hu
  cases hu
 have hkt : fi l tt ≠ fi l h:=fun x => by
  have h1:=fi_h h3
  rw [x,hH,hhH] at h1
  exact hht h1.symm
 have hsH : ∀ X Y,(setN (setN (atH l l.length) dir X) tt Y h).getD nd0 = H:=fun X Y => by unfold setN; rw [if_neg (Ne.symm hht),if_neg hne,at_get,hH]
 have hD : doD l ⟨7,dir,nm,tt,asn,ov⟩ fr = (addN (cutN (parN l (fi l h) tt) (fi l dir) (ei NN.es nm)) (fi l tt) asn h,rc 0):=by unfold doD moveD; dsimp only; simp only [hNN,hTT,hh,h5,hu]; simp [hd,hf,he,h2,h3,h4',h6]
 have hF : doF (atH l l.length) l.length ⟨7,dir,nm,tt,asn,ov⟩ fr = (setN (setN (setN (atH l l.length) dir { NN with es:=outE NN.es nm }) tt { TT with es:=addE TT.es asn h }) h { H with par:=tt },l.length,rc 0):=by unfold doF dirC doF2 moveF moveI mvF; dsimp only; simp only [at_is,at_get,hNN,fdB_ei,hfdH,room_ref,hTT,h5,hway,hsT,hsH]; simp [hd,hf,he,h2,h3,h4,h6]; rfl
 rw [hD,hF]
 have rA:=(tree_rp ht).set hfh (n:=H.setPar tt) (by rw [hH]; rfl)
 have eP : parN l (fi l h) tt = l.set (fi l h) (H.setPar tt):=by unfold parN; rw [hH]
 rw [← eP,show (H.setPar tt).h = h from hhH] at rA
 have hpl : (parN l (fi l h) tt).length = l.length:=by rw [eP,List.length_set]
 have hpN : (parN l (fi l h) tt)[fi l dir]?.getD nd0 = NN:=by rw [eP,set_at hfh,if_neg (Ne.symm hkd),hNN]
 have rB:=rA.set (by rw [hpl]; exact hf) (n:=NN.setEs (outE NN.es nm)) (by rw [hpN]; rfl)
 have eB : cutN (parN l (fi l h) tt) (fi l dir) (ei NN.es nm) = (parN l (fi l h) tt).set (fi l dir) (NN.setEs (outE NN.es nm)):=by unfold cutN; rw [hpN,hcut]
 rw [← eB,show (NN.setEs (outE NN.es nm)).h = dir from hhN] at rB
 have hbl : (cutN (parN l (fi l h) tt) (fi l dir) (ei NN.es nm)).length = l.length:=by rw [eB,List.length_set,hpl]
 have hbT : (cutN (parN l (fi l h) tt) (fi l dir) (ei NN.es nm))[fi l tt]?.getD nd0 = TT:=by rw [eB,set_at (by rw [hpl]; exact hf),if_neg h4',eP,set_at hfh,if_neg hkt,hTT]
 have rC:=rB.set (by rw [hbl]; exact h3) (n:=TT.setEs (addE TT.es asn h)) (by rw [hbT]; rfl)
 have eD : addN (cutN (parN l (fi l h) tt) (fi l dir) (ei NN.es nm)) (fi l tt) asn h = (cutN (parN l (fi l h) tt) (fi l dir) (ei NN.es nm)).set (fi l tt) (TT.setEs (addE TT.es asn h)):=by unfold addN; rw [hbT]
 rw [← eD,show (TT.setEs (addE TT.es asn h)).h = tt from hhT,setN_comm _ hne,setN_comm _ (Ne.symm hht)] at rC
 refine ⟨rC,rfl,?_,by show l.length ≤ 3000; omega,hin_set (hin_set (hin1 _) (tree_hin ht _ _ (at_so h3)) _) (tree_hin ht _ _ (at_so hfh)) _⟩
 show (addN _ _ _ _).length ≤ 3000
 rw [eD,List.length_set,hbl]; omega
end
end
end Go.Proofs.YtblahkhniabhiaaGreatDoor
