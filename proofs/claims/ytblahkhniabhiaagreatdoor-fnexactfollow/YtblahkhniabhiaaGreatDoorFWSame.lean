/- The program compares operations, replies and parts with themselves and with the zero value. Condition: no more than 2^21 of all. -/
import Derived.Test.YtblahkhniabhiaaGreatDoorFA03
import Derived.Test.YtblahkhniabhiaaGreatDoorFA01
namespace Go.Proofs.YtblahkhniabhiaaGreatDoor
open Go.RowKit
set_option linter.unusedVariables false
set_option linter.unusedSimpArgs false
set_option maxRecDepth 100000

set_option maxHeartbeats 1000000 in
theorem bytesEq_any (v u : Value) (xs ys : List Int) (S S2 : Nat → Prop) (w : World) (r : RdV w S v (.bytes xs)) (r2 : RdV w S2 u (.bytes ys)) :
  Calls Tryz.prog 111 #[v,u] w fun e w' => e = .returned (.bool (decide (xs = ys))) ∧ w' = w:=by
 obtain ⟨a,cap,rfl,_,hx⟩:=r.b.reads
 obtain ⟨a2,cap2,rfl,_,hy⟩:=r2.b.reads
 have h1:=conv_any a xs xs.length cap w hx rfl
 have h2:=conv_any a2 ys ys.length cap2 w hy rfl
 have hst:=str_eq xs ys hx.1 hy.1
 rw [← hst]
 generalize strOfNums xs = s1 at h1 hst
 generalize strOfNums ys = s2 at h2 hst
 clear hst hx hy r r2
 generalize xs.length = n1 at *
 generalize ys.length = n2 at *
 go_enter Tryz.func111,Tryz.ntmps111
 go_wp2
 go_ret
 exact ⟨rfl,rfl⟩
theorem nilB (w : World) (S : Nat → Prop) : RdV w S (.n0) (.bytes []):=⟨isBytes_nil,none,0,0,rfl,rfl,⟨Nat.le_refl _,Nat.zero_le _,fun _ => ⟨rfl,rfl⟩⟩,.inl rfl⟩
end Go.Proofs.YtblahkhniabhiaaGreatDoor
