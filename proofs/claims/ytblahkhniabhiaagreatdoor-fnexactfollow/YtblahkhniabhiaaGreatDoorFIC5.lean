/- The program's map of nodes: what is looked up in it; may the operation's directory be? Condition: the handle's numbers are of their type. -/
import Derived.Test.YtblahkhniabhiaaGreatDoorFA05
namespace Go.Proofs.YtblahkhniabhiaaGreatDoor
open Go.RowKit
set_option linter.unusedVariables false
set_option linter.unusedSimpArgs false
set_option maxRecDepth 100000

def atX (f : Hd → Option Nd) (X : Hd → Value) (h : Hd) : Value:=match f h with | some n => ndV n (X n.h) | none => ndV nd0 (.n0)
theorem wpList_lookX (w : World) {ops : Array Oper} {rest : List Oper} {o : Oper} {a : Act} {Q : Exit → Act → World → Prop}
  (hg : o.guard = none) (m x : Operand) (hop : o.op = Op.lookup 148 m x false) (b s : Nat) (f : Hd → Option Nd) (X : Hd → Value)
  (hm : a.eval m = .map (some b)) (M : MapH (ndX X) w b s f) (h : Hd) (hh : HIn h) (hx : a.eval x = h.v)
  (hK : wpList Tryz.prog ops Q rest (a.put o.dst (atX f X h)) w) :
  wpList Tryz.prog ops Q (o :: rest) a w:=by
 refine wpList_plain hg fun K' hK' => ?_
 obtain ⟨v,hrun,r1,r2⟩:=M.look Tryz.underlying148 (zeroNd w) hh
 obtain rfl : v = atX f X h:=by
  unfold atX
  cases hf : f h with
  | none => exact r1 hf
  | some n => exact r2 n hf
 unfold Oper.wp
 simp [execOp,hop,hm,hx,hrun,Result.andThen]
 exact hK' _ _ hK
theorem wpList_lookOkX (w : World) {ops : Array Oper} {rest : List Oper} {o : Oper} {a : Act} {Q : Exit → Act → World → Prop}
  (hg : o.guard = none) (m x : Operand) (hop : o.op = Op.lookup 148 m x true) (b s : Nat) (f : Hd → Option Nd) (X : Hd → Value)
  (hm : a.eval m = .map (some b)) (M : MapH (ndX X) w b s f) (h : Hd) (hh : HIn h) (hx : a.eval x = h.v)
  (hK : wpList Tryz.prog ops Q rest (a.put o.dst (.tuple #[atX f X h,.bool (f h).isSome])) w) :
  wpList Tryz.prog ops Q (o :: rest) a w:=by
 refine wpList_plain hg fun K' hK' => ?_
 obtain ⟨v,hrun,r1,r2⟩:=M.look_ok Tryz.underlying148 (zeroNd w) hh
 obtain rfl : v = atX f X h:=by
  unfold atX
  cases hf : f h with
  | none => exact r1 hf
  | some n => exact r2 n hf
 unfold Oper.wp
 simp [execOp,hop,hm,hx,hrun,Result.andThen]
 exact hK' _ _ hK
theorem atX_form (f : Hd → Option Nd) (X : Hd → Value) (h : Hd) (hX : ∀ n,f h = some n → ∃ a m c,X n.h = .slice a m c) : ∃ n a m c,atX f X h = ndV n (.slice a m c):=by
 unfold atX
 cases hf : f h with
 | none => exact ⟨_,_,_,_,rfl⟩
 | some n => obtain ⟨a,m,c,e⟩:=hX n hf; exact ⟨n,a,m,c,by show ndV n (X n.h) = _; rw [e]⟩
def dirC (k : Int) (d there : Bool) : Int:=if (k = 2 ∨ k = 3) ∧ d = true then 6 else if ¬ (k = 2 ∨ k = 3) ∧ d = false then 2 else if there = false then 1 else 0
set_option maxHeartbeats 4000000 in
theorem dirCode_any (b s : Nat) (f : Hd → Option Nd) (X : Hd → Value) (o : OpD) (ya za : Option Addr) (yn yc zn zc : Nat) (w : World) (M : MapH (ndX X) w b s f) (hin : HIn o.dir) (hX : ∀ n,f o.dir = some n → ∃ a m c,X n.h = .slice a m c) :
  Calls Tryz.prog 101 #[.map (some b),opV o (.slice ya yn yc) (.slice za zn zc)] w fun e w' => e = .returned (.i (dirC o.kind o.dir.dir (f o.dir).isSome)) ∧ Below w.heap.size w w':=by
 obtain ⟨kd,⟨p,q,d⟩,nm,⟨p2,q2,d2⟩,asn,vl⟩:=o
 dsimp only at hin hX ⊢
 obtain ⟨n,na,nm_,nc,hat⟩:=atX_form f X (p,q,d) hX
 obtain ⟨⟨s0,s1,s2⟩,⟨s3,s4,s5⟩,lk,vl2,es⟩:=n
 have HM : Hid (MapH (ndX X) w b s f):=M
 have HI : Hid (HIn (p,q,d)):=hin
 have HA : Hid _:=hat
 have HB : Hid (b < w.heap.size):=M.lt
 generalize hth : (f (p,q,d)).isSome = th
 have HT : Hid ((f (p,q,d)).isSome = th):=hth
 clear M hin hX hat hth
 show Calls _ _ _ _ fun e w' => e = .returned (.i (dirC kd d th)) ∧ Below w.heap.size w w'
 obtain ⟨res,hres⟩ : ∃ r,dirC kd d th = r:=⟨_,rfl⟩
 rw [hres]
 have HRES : Hid _:=hres
 clear hres
 go_enter Tryz.func101,Tryz.ntmps101
 rcases (show kd = 2 ∨ kd = 3 ∨ (¬ kd = 2 ∧ ¬ kd = 3) by omega) with rfl | rfl | ⟨h2,h3⟩
 all_goals cases d
 all_goals cases th
 all_goals
  try have hk2 : (kd == 2) = false:=by simpa using h2
  try have hk3 : (kd == 3) = false:=by simpa using h3
  go_wp2_with (at_lookup; refine wpList_lookOkX _ rfl (.tmp 17) (.tmp 19) rfl b s f X rfl (HM.out.alloc _) (p,q,_) HI.out rfl ?_; rw [HA.out,HT.out])
  go_ret
  refine ⟨?_,(Below.newH2 _ _)⟩
  rw [← HRES.out]
  simp [dirC, *]
end Go.Proofs.YtblahkhniabhiaaGreatDoor
