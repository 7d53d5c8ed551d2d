/- The specification's looks into a tree: order, a node by its handle, how many entries lead to one. Condition: at most 2^21 of all. -/
import Derived.Test.YtblahkhniabhiaaGreatDoorFA01
namespace Go.Proofs.YtblahkhniabhiaaGreatDoor
open Go.RowKit
set_option linter.unusedVariables false
set_option linter.unusedSimpArgs false

def lessH (a b : Hd) : Bool:=decide (a.sh < b.sh) || (decide (a.sh = b.sh) && decide (a.ino < b.ino))
theorem specLess_any (a b : Hd) (w : World) : Calls Tryz.prog 50 #[a.v,b.v] w fun e w' => e = .returned (.bool (lessH a b)) ∧ Below w.heap.size w w':=by
 obtain ⟨s,i,d⟩:=a
 obtain ⟨s2,i2,d2⟩:=b
 go_enter Tryz.func50,Tryz.ntmps50
 go_wp2
 all_goals (go_ret; exact ⟨by first | rfl | (simp_all [lessH] <;> omega),Below.newH2 _ _⟩)

def fi (l : List Nd) (h : Hd) : Nat:=l.findIdx (fun n => decide (n.h = h))
def findH (l : List Nd) (h : Hd) : Int:=if fi l h < l.length then (fi l h : Int) else -1
theorem fi_at (l : List Nd) (h : Hd) (k : Nat) (hk : k < l.length) (h1 : (l[k]?.getD nd0).h = h) (h2 : ∀ i,i < k → (l[i]?.getD nd0).h ≠ h) : fi l h = k:=by
 unfold fi
 rw [List.findIdx_eq hk]
 refine ⟨by simpa [hk] using h1,fun j hj => ?_⟩
 have:=h2 j hj
 have hj' : j < l.length:=by omega
 simpa [hj'] using this
theorem fi_none (l : List Nd) (h : Hd) (h2 : ∀ i,i < l.length → (l[i]?.getD nd0).h ≠ h) : findH l h = -1:=by
 unfold findH fi
 rw [if_neg]
 rw [List.findIdx_lt_length]
 rintro ⟨x,hx,hp⟩
 obtain ⟨i,hi,rfl⟩:=List.getElem_of_mem hx
 exact h2 i hi (by simpa [hi] using hp)

set_option maxHeartbeats 2000000 in
theorem specFind_any (x : Value) (l : List Nd) (h : Hd) (S : Nat → Prop) (w : World) (r : RdV w S x (ndsDt l)) (hl : l.length ≤ 2097152) :
  Calls Tryz.prog 33 #[.agg #[x],h.v] w fun e w' => e = .returned (.i (findH l h)) ∧ Below w.heap.size w w':=by
 obtain ⟨a,cap,rfl,_⟩:=RdV.sliced r
 obtain ⟨s,ino,d⟩:=h
 have HR : Hid (∀ W,Below w.heap.size w W → RdV W S (.slice a l.length cap) (.rows 77 9 l.length (fun i j => ndCell (l[i]?.getD nd0) j))):=RdV.old r
 obtain ⟨n,hn⟩ : ∃ n,l.length = n:=⟨_,rfl⟩
 rw [hn] at hl HR ⊢
 have HN : Hid _:=hn
 clear r hn
 go_enter Tryz.func33,Tryz.ntmps33
 go_wp2
 go_loopw [5] (fun i wr => ∃ k : Nat,k ≤ n ∧ i = .i k ∧ Below w.heap.size w wr ∧ VarA wr w.heap.size 26 #[.slice a n cap] ∧ VarA wr (w.heap.size + 1) 48 #[.i s,.i ino,.bool d] ∧ Hid (∀ i,i < k → (l[i]?.getD nd0).h ≠ (s,ino,d))) (fun i _ => n - (intOf i).toNat)
 case atStart => exact ⟨0,Nat.zero_le _,rfl,Below.newH2 _ _,(VarA.new w _ _).alloc _,by have:=VarA.new (w.alloc (.cells #[.slice a n cap] 26)) 48 #[.i s,.i ino,.bool d]; simpa using this,fun i hi => absurd hi (Nat.not_lt_zero _)⟩
 case round =>
  obtain ⟨k,hk,rfl,hbel,v0,v1,HA⟩:=hrel
  have c0:=v0.l1
  obtain ⟨f0,f1,f2⟩:=v1.l3
  by_cases hlt : k < n
  ·obtain ⟨b,off,rfl,hbl,_,hx⟩:=RdV.at (HR.out wr hbel) hlt
   obtain ⟨e,he⟩ : ∃ e,l[k]?.getD nd0 = e:=⟨_,rfl⟩
   obtain ⟨x0,c1,r0⟩:=hx 0 (by omega)
   obtain ⟨x1,c2,r1⟩:=hx 1 (by omega)
   obtain ⟨x2,c3,r2⟩:=hx 2 (by omega)
   rw [he] at r0 r1 r2
   have HE : Hid _:=he
   clear hx he
   obtain ⟨⟨p,q,dd⟩,par,lk,vl,es⟩:=e
   obtain rfl : x0 = .i p:=r0
   obtain rfl : x1 = .i q:=r1
   obtain rfl : x2 = .bool dd:=r2
   simp only [Nat.add_zero] at c1
   have HY : Hid ((p = s ∧ q = ino ∧ dd = d) → findH l (s,ino,d) = (k : Int)):=by
    rintro ⟨rfl,rfl,rfl⟩
    have:=fi_at l (p,q,dd) k (by rw [HN.out]; exact hlt) (by rw [HE.out]) HA.out
    show _ = _
    unfold findH
    rw [this,if_pos (by rw [HN.out]; exact hlt)]
   have HZ : Hid (¬ (p = s ∧ q = ino ∧ dd = d) → ∀ i,i < k + 1 → (l[i]?.getD nd0).h ≠ (s,ino,d)):=fun hne i hi => by
    by_cases h1 : i < k
    ·exact HA.out i h1
    ·obtain rfl : i = k:=by omega
     rw [HE.out]
     intro e
     simp only [Prod.mk.injEq] at e
     exact hne e
   clear HA
   by_cases h1 : p = s
   case neg =>
    have g1 : (p == s) = false:=by simpa using h1
    have HF : Hid _:=HZ.out (fun e => h1 e.1)
    clear HY HZ
    go_wp2
    go_quiet (fail)
    go_wp2
    go_roundw
    case rel => exact ⟨k + 1,by omega,by go_num,below_drewN2 hbel _,v0,v1,HF.out⟩
    case measure => simp [intOf]; omega
   subst h1
   by_cases h2 : q = ino
   case neg =>
    have g1 : (q == ino) = false:=by simpa using h2
    have HF : Hid _:=HZ.out (fun e => h2 e.2.1)
    clear HY HZ
    go_wp2
    go_quiet (fail)
    go_wp2
    go_roundw
    case rel => exact ⟨k + 1,by omega,by go_num,below_drewN2 hbel _,v0,v1,HF.out⟩
    case measure => simp [intOf]; omega
   subst h2
   by_cases h3 : dd = d
   case neg =>
    have g1 : (dd == d) = false:=by simpa using h3
    have HF : Hid _:=HZ.out (fun e => h3 e.2.2)
    clear HY HZ
    go_wp2
    go_quiet (fail)
    go_wp2
    go_roundw
    case rel => exact ⟨k + 1,by omega,by go_num,below_drewN2 hbel _,v0,v1,HF.out⟩
    case measure => simp [intOf]; omega
   subst h3
   have HF : Hid _:=HY.out ⟨rfl,rfl,rfl⟩
   clear HY HZ
   go_wp2
   go_quiet (fail)
   go_wp2
   go_ret
   exact ⟨by rw [HF.out]; rfl,below_drewN2 hbel _⟩
  ·have he : k = n:=by omega
   subst he
   have HF : Hid (findH l (s,ino,d) = -1):=fi_none l _ (fun i hi => HA.out i (by rw [HN.out] at hi; exact hi))
   go_wp2
   go_ret
   exact ⟨by rw [HF.out]; rfl,hbel⟩

def cntE (es : List En) (h : Hd) : Nat:=es.countP (fun e => decide (e.h = h))
def cntH (l : List Nd) (h : Hd) : Nat:=psum (fun n => cntE n.es h) l l.length
theorem cntE_next (es : List En) (h : Hd) (k : Nat) (hk : k < es.length) : cntE (es.take (k + 1)) h = cntE (es.take k) h + (if (es[k]?.getD en0).h = h then 1 else 0):=by
 unfold cntE
 rw [List.take_succ_eq_append_getElem hk,List.countP_append]
 simp [hk,List.countP_cons]
theorem cntE_le (es : List En) (h : Hd) (k : Nat) : cntE (es.take k) h ≤ es.length:=by
 unfold cntE
 exact Nat.le_trans List.countP_le_length (by simp; omega)
end Go.Proofs.YtblahkhniabhiaaGreatDoor
