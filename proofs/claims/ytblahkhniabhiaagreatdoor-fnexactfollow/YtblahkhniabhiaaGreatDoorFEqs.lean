/- Entries, nodes, trees and operations that read alike are found so by the verifier's helpers. Condition: no more than 2^21 of all. -/
import Derived.Test.YtblahkhniabhiaaGreatDoorFA01
import Derived.Deep.QuietTactic
import Derived.Deep.RegionHeld3
import Derived.BigQuiet
namespace Go.Proofs.YtblahkhniabhiaaGreatDoor
open Go.RowKit
set_option linter.unusedVariables false

theorem eqByteS_same (v u : Value) (zs : List Int) (S S2 : Nat → Prop) (w : World) (r : RdV w S v (.bytes zs)) (r2 : RdV w S2 u (.bytes zs)) (hl : zs.length ≤ 2097152) :
  Calls Tryz.prog 75 #[v,u] w fun e w' => e = .returned (.bool true) ∧ Below w.heap.size w w':=by
 obtain ⟨a,cap,rfl,hh,hr⟩:=r.b.reads
 obtain ⟨a2,cap2,rfl,hh2,hr2⟩:=r2.b.reads
 refine (eqByteS_any a a2 zs zs cap cap2 w hr hr2 hl hl).mono ?_
 rintro e w' ⟨rfl,n,rfl⟩
 exact ⟨by rw [beq_self_eq_true],below_drewN2 (Below.refl _ _) n⟩

set_option maxHeartbeats 1000000 in
theorem eqEntry_same (x y : Value) (e : En) (S S2 : Nat → Prop) (w : World) (r : RdV w S x (.bytes e.nm)) (r2 : RdV w S2 y (.bytes e.nm)) (hl : e.nm.length ≤ 2097152) :
  Calls Tryz.prog 89 #[enV x e.h,enV y e.h] w fun q w' => q = .returned (.bool true) ∧ Below w.heap.size w w':=by
 obtain ⟨a,cap,rfl⟩:=r.sliceB
 obtain ⟨a2,cap2,rfl⟩:=r2.sliceB
 obtain ⟨nm,⟨p,q,d⟩⟩:=e
 have HR : Hid (∀ W,Below w.heap.size w W → _):=r.old
 have HR2 : Hid (∀ W,Below w.heap.size w W → _):=r2.old
 have HH : Hid (∀ W,_):=fun W => eqHandle_same (p,q,d) W
 have HL : Hid (nm.length ≤ 2097152):=hl
 clear r r2 hl
 dsimp only at HR HR2 ⊢
 generalize nm.length = n0 at HR HR2
 go_enter Tryz.func89,Tryz.ntmps89
 go_wp2_with fail
 refine Calls.mono (eqByteS_same _ _ nm S S2 _ (HR.out _ (Below.newH2 _ _)) (HR2.out _ (Below.newH2 _ _)) HL.out) ?_
 rintro e w2 ⟨rfl,b_⟩
 have vA : VarA w2 w.heap.size 86 #[.slice a n0 cap,.i p,.i q,.bool d]:=VarA.step ((VarA.new w _ _).alloc _) b_
 have vB : VarA w2 (w.heap.size + 1) 86 #[.slice a2 n0 cap2,.i p,.i q,.bool d]:=by
  have:=VarA.step (VarA.new (w.alloc _) _ _) b_
  simpa using this
 have HB : Hid _:=(Below.newH2 (w:=w) _ _).trans (b_.mono (by simp; omega))
 clear b_
 obtain ⟨a0_,a1_,a2_,a3_⟩:=vA.l4
 obtain ⟨b0_,b1_,b2_,b3_⟩:=vB.l4
 go_wp2_with fail
 refine Calls.mono (HH.out _) ?_
 rintro e w3 ⟨rfl,b_⟩
 have vA_:=vA.step b_
 have vB_:=vB.step b_
 have HB_ : Hid _:=HB.out.trans (b_.mono HB.out.size)
 clear vA vB HB b_ a0_ a1_ a2_ a3_ b0_ b1_ b2_ b3_
 have vA:=vA_
 have vB:=vB_
 have HB:=HB_
 clear vA_ vB_ HB_
 obtain ⟨a0_,a1_,a2_,a3_⟩:=vA.l4
 obtain ⟨b0_,b1_,b2_,b3_⟩:=vB.l4
 go_wp2
 go_ret
 exact ⟨rfl,HB.out⟩

set_option maxHeartbeats 2000000 in
theorem eqEntryS_same (v u : Value) (l : List En) (S S2 : Nat → Prop) (w : World) (r : RdV w S v (ensDt l)) (r2 : RdV w S2 u (ensDt l)) (hl : szEns l ≤ 2097152) :
  Calls Tryz.prog 74 #[v,u] w fun e w' => e = .returned (.bool true) ∧ Below w.heap.size w w':=by
 obtain ⟨a,cap,rfl,_⟩:=RdV.sliced r
 obtain ⟨a2,cap2,rfl,_⟩:=RdV.sliced r2
 have HR : Hid (∀ W,Below w.heap.size w W → RdV W S (.slice a l.length cap) (ensDt l)):=r.old
 have HR2 : Hid (∀ W,Below w.heap.size w W → RdV W S2 (.slice a2 l.length cap2) (ensDt l)):=r2.old
 have HD : Hid (ensDt l = .rows 86 4 l.length (fun i j => enCell (l[i]?.getD en0) j)):=rfl
 have hnn : l.length ≤ 2097152:=by unfold szEns at hl; omega
 have HL : Hid _:=hl
 clear r r2 hl
 rw [HD.out] at HR HR2
 clear HD
 generalize l.length = n at hnn HR HR2 ⊢
 go_enter Tryz.func74,Tryz.ntmps74
 go_wp2
 go_loopw [5] (fun i wr => ∃ k : Nat,k ≤ n ∧ i = .i k ∧ Below w.heap.size w wr) (fun i _ => n - (intOf i).toNat)
 case atStart => exact ⟨0,Nat.zero_le _,rfl,Below.refl _ _⟩
 case round =>
  obtain ⟨k,hk,rfl,hbel⟩:=hrel
  by_cases hlt : k < n
  ·obtain ⟨b,off,rfl,hbl,_,hx⟩:=RdV.at (HR.out wr hbel) hlt
   obtain ⟨b2,off2,rfl,hbl2,_,hy⟩:=RdV.at (HR2.out wr hbel) hlt
   obtain ⟨e,he⟩ : ∃ e,l[k]?.getD en0 = e:=⟨_,rfl⟩
   obtain ⟨x0,c0,r0⟩:=hx 0 (by omega)
   obtain ⟨y0,dd0,s0⟩:=hy 0 (by omega)
   obtain ⟨x1,c1,r1⟩:=hx 1 (by omega)
   obtain ⟨y1,dd1,s1⟩:=hy 1 (by omega)
   obtain ⟨x2,c2,r2⟩:=hx 2 (by omega)
   obtain ⟨y2,dd2,s2⟩:=hy 2 (by omega)
   obtain ⟨x3,c3,r3⟩:=hx 3 (by omega)
   obtain ⟨y3,dd3,s3⟩:=hy 3 (by omega)
   rw [he] at r0 s0 r1 s1 r2 s2 r3 s3
   have HZ : Hid (e.nm.length ≤ 2097152):=by have h1:=szEns_at l k; rw [he] at h1; have h2:=HL.out; show _ ≤ _; omega
   clear hx hy he
   obtain ⟨nm,⟨p,q,d⟩⟩:=e
   obtain rfl : x1 = .i p:=r1
   obtain rfl : y1 = .i p:=s1
   obtain rfl : x2 = .i q:=r2
   obtain rfl : y2 = .i q:=s2
   obtain rfl : x3 = .bool d:=r3
   obtain rfl : y3 = .bool d:=s3
   simp only [Nat.add_zero] at c0 dd0
   have RS : Hid (RdV wr S x0 (.bytes nm)):=r0
   have RS2 : Hid (RdV wr S2 y0 (.bytes nm)):=s0
   clear r0 s0
   obtain ⟨xa,xc,rfl⟩:=RdV.sliceB RS.out
   obtain ⟨ya,yc,rfl⟩:=RdV.sliceB RS2.out
   have RC : Hid _:=eqEntry_same _ _ ⟨nm,p,q,d⟩ S S2 wr.drew (RS.out.step (Below.drew (Below.refl _ _))) (RS2.out.step (Below.drew (Below.refl _ _))) HZ.out
   generalize nm.length = xn at RC c0 dd0
   have hws:=hbel.size
   clear HZ RS RS2
   go_wp2
   go_region_held3 (fun w' => w'.cell? ⟨b,off + k * 4,none⟩ = some (.slice xa xn xc) ∧ w'.cell? ⟨b,off + k * 4 + 1,none⟩ = some (.i p) ∧ w'.cell? ⟨b,off + k * 4 + 2,none⟩ = some (.i q) ∧ w'.cell? ⟨b,off + k * 4 + 3,none⟩ = some (.bool d) ∧ w'.cell? ⟨b2,off2 + k * 4,none⟩ = some (.slice ya xn yc) ∧ w'.cell? ⟨b2,off2 + k * 4 + 1,none⟩ = some (.i p) ∧ w'.cell? ⟨b2,off2 + k * 4 + 2,none⟩ = some (.i q) ∧ w'.cell? ⟨b2,off2 + k * 4 + 3,none⟩ = some (.bool d)) (first | go_keep | (refine ⟨?_,?_,?_,?_,?_,?_,?_,?_⟩ <;> assumption)) (first | (go_at_call 89; refine Calls.mono RC.out ?_; rintro e w' ⟨rfl,hbw⟩; have q0:=(hbw.cell (p:=⟨b,off + k * 4,none⟩) hbl).trans c0; have q1:=(hbw.cell (p:=⟨b,off + k * 4 + 1,none⟩) hbl).trans c1; have q2:=(hbw.cell (p:=⟨b,off + k * 4 + 2,none⟩) hbl).trans c2; have q3:=(hbw.cell (p:=⟨b,off + k * 4 + 3,none⟩) hbl).trans c3; have q4:=(hbw.cell (p:=⟨b2,off2 + k * 4,none⟩) hbl2).trans dd0; have q5:=(hbw.cell (p:=⟨b2,off2 + k * 4 + 1,none⟩) hbl2).trans dd1; have q6:=(hbw.cell (p:=⟨b2,off2 + k * 4 + 2,none⟩) hbl2).trans dd2; have q7:=(hbw.cell (p:=⟨b2,off2 + k * 4 + 3,none⟩) hbl2).trans dd3))
   go_wp2
   go_roundw
   case rel => exact ⟨k + 1,by omega,by go_num,hbel.drew.trans (hbw.mono hws)⟩
   case measure => simp [intOf]; omega
  ·have hkn : k = n:=by omega
   subst hkn
   go_wp2
   go_ret
   exact ⟨rfl,hbel⟩

set_option maxHeartbeats 2000000 in
theorem eqNode_same (x y : Value) (n : Nd) (S S2 : Nat → Prop) (w : World) (r : RdV w S x (ensDt n.es)) (r2 : RdV w S2 y (ensDt n.es)) (hl : szEns n.es ≤ 2097152) :
  Calls Tryz.prog 43 #[ndV n x,ndV n y] w fun q w' => q = .returned (.bool true) ∧ Below w.heap.size w w':=by
 obtain ⟨a,cap,rfl,_⟩:=RdV.sliced r
 obtain ⟨a2,cap2,rfl,_⟩:=RdV.sliced r2
 obtain ⟨⟨p,q,d⟩,⟨p2,q2,d2⟩,lk,vl,es⟩:=n
 have HR : Hid (∀ W,Below w.heap.size w W → _):=r.old
 have HR2 : Hid (∀ W,Below w.heap.size w W → _):=r2.old
 have HH : Hid (∀ W,_):=fun W => eqHandle_same (p,q,d) W
 have HH2 : Hid (∀ W,_):=fun W => eqHandle_same (p2,q2,d2) W
 have HL : Hid (szEns es ≤ 2097152):=hl
 clear r r2 hl
 dsimp only at HR HR2 ⊢
 generalize es.length = n0 at HR HR2
 go_enter Tryz.func43,Tryz.ntmps43
 go_wp2_with fail
 refine Calls.mono (HH.out _) ?_
 rintro e w2 ⟨rfl,b_⟩
 have vA : VarA w2 w.heap.size 77 #[.i p,.i q,.bool d,.i p2,.i q2,.bool d2,.i lk,.i vl,.slice a n0 cap]:=VarA.step ((VarA.new w _ _).alloc _) b_
 have vB : VarA w2 (w.heap.size + 1) 77 #[.i p,.i q,.bool d,.i p2,.i q2,.bool d2,.i lk,.i vl,.slice a2 n0 cap2]:=by
  have:=VarA.step (VarA.new (w.alloc _) _ _) b_
  simpa using this
 have HB : Hid _:=(Below.newH2 (w:=w) _ _).trans (b_.mono (by simp; omega))
 clear b_
 obtain ⟨a0_,a1_,a2_,a3_,a4_,a5_,a6_,a7_,a8_⟩:=vA.l9
 obtain ⟨b0_,b1_,b2_,b3_,b4_,b5_,b6_,b7_,b8_⟩:=vB.l9
 go_wp2_with fail
 refine Calls.mono (HH2.out _) ?_
 rintro e w3 ⟨rfl,b_⟩
 have vA_:=vA.step b_
 have vB_:=vB.step b_
 have HB_ : Hid _:=HB.out.trans (b_.mono HB.out.size)
 clear vA vB HB b_ a0_ a1_ a2_ a3_ a4_ a5_ a6_ a7_ a8_ b0_ b1_ b2_ b3_ b4_ b5_ b6_ b7_ b8_
 have vA:=vA_
 have vB:=vB_
 have HB:=HB_
 clear vA_ vB_ HB_
 obtain ⟨a0_,a1_,a2_,a3_,a4_,a5_,a6_,a7_,a8_⟩:=vA.l9
 obtain ⟨b0_,b1_,b2_,b3_,b4_,b5_,b6_,b7_,b8_⟩:=vB.l9
 go_wp2_with fail
 refine Calls.mono (eqEntryS_same _ _ es S S2 _ (HR.out _ HB.out) (HR2.out _ HB.out) HL.out) ?_
 rintro e w4 ⟨rfl,b_⟩
 have vA_:=vA.step b_
 have vB_:=vB.step b_
 have HB_ : Hid _:=HB.out.trans (b_.mono HB.out.size)
 clear vA vB HB b_ a0_ a1_ a2_ a3_ a4_ a5_ a6_ a7_ a8_ b0_ b1_ b2_ b3_ b4_ b5_ b6_ b7_ b8_
 have vA:=vA_
 have vB:=vB_
 have HB:=HB_
 clear vA_ vB_ HB_
 obtain ⟨a0_,a1_,a2_,a3_,a4_,a5_,a6_,a7_,a8_⟩:=vA.l9
 obtain ⟨b0_,b1_,b2_,b3_,b4_,b5_,b6_,b7_,b8_⟩:=vB.l9
 go_wp2
 go_ret
 exact ⟨rfl,HB.out⟩

set_option maxHeartbeats 2000000 in
theorem eqNodeS_same (v u : Value) (l : List Nd) (S S2 : Nat → Prop) (w : World) (r : RdV w S v (ndsDt l)) (r2 : RdV w S2 u (ndsDt l)) (hl : szNds l ≤ 2097152) :
  Calls Tryz.prog 20 #[v,u] w fun e w' => e = .returned (.bool true) ∧ Below w.heap.size w w':=by
 obtain ⟨a,cap,rfl,_⟩:=RdV.sliced r
 obtain ⟨a2,cap2,rfl,_⟩:=RdV.sliced r2
 have HR : Hid (∀ W,Below w.heap.size w W → RdV W S (.slice a l.length cap) (ndsDt l)):=r.old
 have HR2 : Hid (∀ W,Below w.heap.size w W → RdV W S2 (.slice a2 l.length cap2) (ndsDt l)):=r2.old
 have HD : Hid (ndsDt l = .rows 77 9 l.length (fun i j => ndCell (l[i]?.getD nd0) j)):=rfl
 have hnn : l.length ≤ 2097152:=by unfold szNds at hl; omega
 have HL : Hid _:=hl
 clear r r2 hl
 rw [HD.out] at HR HR2
 clear HD
 generalize l.length = n at hnn HR HR2 ⊢
 go_enter Tryz.func20,Tryz.ntmps20
 go_wp2
 go_loopw [5] (fun i wr => ∃ k : Nat,k ≤ n ∧ i = .i k ∧ Below w.heap.size w wr) (fun i _ => n - (intOf i).toNat)
 case atStart => exact ⟨0,Nat.zero_le _,rfl,Below.refl _ _⟩
 case round =>
  obtain ⟨k,hk,rfl,hbel⟩:=hrel
  by_cases hlt : k < n
  ·obtain ⟨b,off,rfl,hbl,_,hx⟩:=RdV.at (HR.out wr hbel) hlt
   obtain ⟨b2,off2,rfl,hbl2,_,hy⟩:=RdV.at (HR2.out wr hbel) hlt
   obtain ⟨e,he⟩ : ∃ e,l[k]?.getD nd0 = e:=⟨_,rfl⟩
   obtain ⟨x0,c0,r0⟩:=hx 0 (by omega)
   obtain ⟨y0,dd0,s0⟩:=hy 0 (by omega)
   obtain ⟨x1,c1,r1⟩:=hx 1 (by omega)
   obtain ⟨y1,dd1,s1⟩:=hy 1 (by omega)
   obtain ⟨x2,c2,r2⟩:=hx 2 (by omega)
   obtain ⟨y2,dd2,s2⟩:=hy 2 (by omega)
   obtain ⟨x3,c3,r3⟩:=hx 3 (by omega)
   obtain ⟨y3,dd3,s3⟩:=hy 3 (by omega)
   obtain ⟨x4,c4,r4⟩:=hx 4 (by omega)
   obtain ⟨y4,dd4,s4⟩:=hy 4 (by omega)
   obtain ⟨x5,c5,r5⟩:=hx 5 (by omega)
   obtain ⟨y5,dd5,s5⟩:=hy 5 (by omega)
   obtain ⟨x6,c6,r6⟩:=hx 6 (by omega)
   obtain ⟨y6,dd6,s6⟩:=hy 6 (by omega)
   obtain ⟨x7,c7,r7⟩:=hx 7 (by omega)
   obtain ⟨y7,dd7,s7⟩:=hy 7 (by omega)
   obtain ⟨x8,c8,r8⟩:=hx 8 (by omega)
   obtain ⟨y8,dd8,s8⟩:=hy 8 (by omega)
   rw [he] at r0 s0 r1 s1 r2 s2 r3 s3 r4 s4 r5 s5 r6 s6 r7 s7 r8 s8
   have HZ : Hid (szEns e.es ≤ 2097152):=by have h1:=szNds_at l k; rw [he] at h1; have h2:=HL.out; show _ ≤ _; omega
   clear hx hy he
   obtain ⟨⟨p,q,d⟩,⟨p2,q2,d2⟩,lk,vl,es⟩:=e
   obtain rfl : x0 = .i p:=r0
   obtain rfl : y0 = .i p:=s0
   obtain rfl : x1 = .i q:=r1
   obtain rfl : y1 = .i q:=s1
   obtain rfl : x2 = .bool d:=r2
   obtain rfl : y2 = .bool d:=s2
   obtain rfl : x3 = .i p2:=r3
   obtain rfl : y3 = .i p2:=s3
   obtain rfl : x4 = .i q2:=r4
   obtain rfl : y4 = .i q2:=s4
   obtain rfl : x5 = .bool d2:=r5
   obtain rfl : y5 = .bool d2:=s5
   obtain rfl : x6 = .i lk:=r6
   obtain rfl : y6 = .i lk:=s6
   obtain rfl : x7 = .i vl:=r7
   obtain rfl : y7 = .i vl:=s7
   simp only [Nat.add_zero] at c0 dd0
   have RS : Hid (RdV wr S x8 (ensDt es)):=r8
   have RS2 : Hid (RdV wr S2 y8 (ensDt es)):=s8
   clear r8 s8
   obtain ⟨xa,xc,rfl,_⟩:=RdV.sliced RS.out
   obtain ⟨ya,yc,rfl,_⟩:=RdV.sliced RS2.out
   have RC : Hid _:=eqNode_same _ _ ⟨(p,q,d),(p2,q2,d2),lk,vl,es⟩ S S2 wr.drew (RS.out.step (Below.drew (Below.refl _ _))) (RS2.out.step (Below.drew (Below.refl _ _))) HZ.out
   generalize es.length = xn at RC c8 dd8
   have hws:=hbel.size
   clear HZ RS RS2
   go_wp2
   go_region_held3 (fun w' => w'.cell? ⟨b,off + k * 9,none⟩ = some (.i p) ∧ w'.cell? ⟨b,off + k * 9 + 1,none⟩ = some (.i q) ∧ w'.cell? ⟨b,off + k * 9 + 2,none⟩ = some (.bool d) ∧ w'.cell? ⟨b,off + k * 9 + 3,none⟩ = some (.i p2) ∧ w'.cell? ⟨b,off + k * 9 + 4,none⟩ = some (.i q2) ∧ w'.cell? ⟨b,off + k * 9 + 5,none⟩ = some (.bool d2) ∧ w'.cell? ⟨b,off + k * 9 + 6,none⟩ = some (.i lk) ∧ w'.cell? ⟨b,off + k * 9 + 7,none⟩ = some (.i vl) ∧ w'.cell? ⟨b,off + k * 9 + 8,none⟩ = some (.slice xa xn xc) ∧ w'.cell? ⟨b2,off2 + k * 9,none⟩ = some (.i p) ∧ w'.cell? ⟨b2,off2 + k * 9 + 1,none⟩ = some (.i q) ∧ w'.cell? ⟨b2,off2 + k * 9 + 2,none⟩ = some (.bool d) ∧ w'.cell? ⟨b2,off2 + k * 9 + 3,none⟩ = some (.i p2) ∧ w'.cell? ⟨b2,off2 + k * 9 + 4,none⟩ = some (.i q2) ∧ w'.cell? ⟨b2,off2 + k * 9 + 5,none⟩ = some (.bool d2) ∧ w'.cell? ⟨b2,off2 + k * 9 + 6,none⟩ = some (.i lk) ∧ w'.cell? ⟨b2,off2 + k * 9 + 7,none⟩ = some (.i vl) ∧ w'.cell? ⟨b2,off2 + k * 9 + 8,none⟩ = some (.slice ya xn yc)) (first | go_keep | (refine ⟨?_,?_,?_,?_,?_,?_,?_,?_,?_,?_,?_,?_,?_,?_,?_,?_,?_,?_⟩ <;> assumption)) (first | (go_at_call 43; refine Calls.mono RC.out ?_; rintro e w' ⟨rfl,hbw⟩; have q0:=(hbw.cell (p:=⟨b,off + k * 9,none⟩) hbl).trans c0; have q1:=(hbw.cell (p:=⟨b,off + k * 9 + 1,none⟩) hbl).trans c1; have q2:=(hbw.cell (p:=⟨b,off + k * 9 + 2,none⟩) hbl).trans c2; have q3:=(hbw.cell (p:=⟨b,off + k * 9 + 3,none⟩) hbl).trans c3; have q4:=(hbw.cell (p:=⟨b,off + k * 9 + 4,none⟩) hbl).trans c4; have q5:=(hbw.cell (p:=⟨b,off + k * 9 + 5,none⟩) hbl).trans c5; have q6:=(hbw.cell (p:=⟨b,off + k * 9 + 6,none⟩) hbl).trans c6; have q7:=(hbw.cell (p:=⟨b,off + k * 9 + 7,none⟩) hbl).trans c7; have q8:=(hbw.cell (p:=⟨b,off + k * 9 + 8,none⟩) hbl).trans c8; have q9:=(hbw.cell (p:=⟨b2,off2 + k * 9,none⟩) hbl2).trans dd0; have q10:=(hbw.cell (p:=⟨b2,off2 + k * 9 + 1,none⟩) hbl2).trans dd1; have q11:=(hbw.cell (p:=⟨b2,off2 + k * 9 + 2,none⟩) hbl2).trans dd2; have q12:=(hbw.cell (p:=⟨b2,off2 + k * 9 + 3,none⟩) hbl2).trans dd3; have q13:=(hbw.cell (p:=⟨b2,off2 + k * 9 + 4,none⟩) hbl2).trans dd4; have q14:=(hbw.cell (p:=⟨b2,off2 + k * 9 + 5,none⟩) hbl2).trans dd5; have q15:=(hbw.cell (p:=⟨b2,off2 + k * 9 + 6,none⟩) hbl2).trans dd6; have q16:=(hbw.cell (p:=⟨b2,off2 + k * 9 + 7,none⟩) hbl2).trans dd7; have q17:=(hbw.cell (p:=⟨b2,off2 + k * 9 + 8,none⟩) hbl2).trans dd8))
   go_wp2
   go_roundw
   case rel => exact ⟨k + 1,by omega,by go_num,hbel.drew.trans (hbw.mono hws)⟩
   case measure => simp [intOf]; omega
  ·have hkn : k = n:=by omega
   subst hkn
   go_wp2
   go_ret
   exact ⟨rfl,hbel⟩

set_option maxHeartbeats 1000000 in
theorem eqTree_same (x y : Value) (l : List Nd) (S S2 : Nat → Prop) (w : World) (r : RdV w S x (ndsDt l)) (r2 : RdV w S2 y (ndsDt l)) (hl : szNds l ≤ 2097152) :
  Calls Tryz.prog 8 #[.agg #[x],.agg #[y]] w fun q w' => q = .returned (.bool true) ∧ Below w.heap.size w w':=by
 obtain ⟨a,cap,rfl,_⟩:=RdV.sliced r
 obtain ⟨a2,cap2,rfl,_⟩:=RdV.sliced r2
 have HR : Hid (∀ W,Below w.heap.size w W → _):=r.old
 have HR2 : Hid (∀ W,Below w.heap.size w W → _):=r2.old
 have HL : Hid (szNds l ≤ 2097152):=hl
 clear r r2 hl
 generalize l.length = n0 at HR HR2
 go_enter Tryz.func8,Tryz.ntmps8
 go_wp2_with fail
 refine Calls.mono (eqNodeS_same _ _ l S S2 _ (HR.out _ (Below.newH2 _ _)) (HR2.out _ (Below.newH2 _ _)) HL.out) ?_
 rintro e w2 ⟨rfl,b_⟩
 have vA : VarA w2 w.heap.size 26 #[.slice a n0 cap]:=VarA.step ((VarA.new w _ _).alloc _) b_
 have vB : VarA w2 (w.heap.size + 1) 26 #[.slice a2 n0 cap2]:=by
  have:=VarA.step (VarA.new (w.alloc _) _ _) b_
  simpa using this
 have HB : Hid _:=(Below.newH2 (w:=w) _ _).trans (b_.mono (by simp; omega))
 clear b_
 have a0_:=vA.l1
 have b0_:=vB.l1
 go_wp2
 go_ret
 exact ⟨rfl,HB.out⟩

set_option maxHeartbeats 2000000 in
theorem eqOp_same (x y x2 y2 : Value) (o : OpD) (S S2 : Nat → Prop) (w : World) (r : RdV w S x (.bytes o.nm)) (r2 : RdV w S2 x2 (.bytes o.nm)) (s : RdV w S y (.bytes o.asn)) (s2 : RdV w S2 y2 (.bytes o.asn)) (hl : o.nm.length ≤ 2097152) (hl2 : o.asn.length ≤ 2097152) :
  Calls Tryz.prog 44 #[opV o x y,opV o x2 y2] w fun q w' => q = .returned (.bool true) ∧ Below w.heap.size w w':=by
 obtain ⟨a,cap,rfl⟩:=r.sliceB
 obtain ⟨a2,cap2,rfl⟩:=r2.sliceB
 obtain ⟨b,cbp,rfl⟩:=s.sliceB
 obtain ⟨b2,cbp2,rfl⟩:=s2.sliceB
 obtain ⟨kd,⟨p,q,d⟩,nm,⟨p2,q2,d2⟩,asn,vl⟩:=o
 have HR : Hid (∀ W,Below w.heap.size w W → _):=r.old
 have HR2 : Hid (∀ W,Below w.heap.size w W → _):=r2.old
 have HS1 : Hid (∀ W,Below w.heap.size w W → _):=s.old
 have HS2_ : Hid (∀ W,Below w.heap.size w W → _):=s2.old
 have HH : Hid (∀ W,_):=fun W => eqHandle_same (p,q,d) W
 have HH2 : Hid (∀ W,_):=fun W => eqHandle_same (p2,q2,d2) W
 have HL : Hid (nm.length ≤ 2097152):=hl
 have HL2 : Hid (asn.length ≤ 2097152):=hl2
 clear r r2 s s2 hl hl2
 dsimp only at HR HR2 HS1 HS2_ ⊢
 generalize nm.length = n0 at HR HR2
 generalize asn.length = n1 at HS1 HS2_
 go_enter Tryz.func44,Tryz.ntmps44
 go_wp2_with fail
 refine Calls.mono (HH.out _) ?_
 rintro e w2 ⟨rfl,b_⟩
 have vA : VarA w2 w.heap.size 53 #[.i kd,.i p,.i q,.bool d,.slice a n0 cap,.i p2,.i q2,.bool d2,.slice b n1 cbp,.i vl]:=VarA.step ((VarA.new w _ _).alloc _) b_
 have vB : VarA w2 (w.heap.size + 1) 53 #[.i kd,.i p,.i q,.bool d,.slice a2 n0 cap2,.i p2,.i q2,.bool d2,.slice b2 n1 cbp2,.i vl]:=by
  have:=VarA.step (VarA.new (w.alloc _) _ _) b_
  simpa using this
 have HB : Hid _:=(Below.newH2 (w:=w) _ _).trans (b_.mono (by simp; omega))
 clear b_
 obtain ⟨a0_,a1_,a2_,a3_,a4_,a5_,a6_,a7_,a8_,a9_⟩:=vA.l10
 obtain ⟨b0_,b1_,b2_,b3_,b4_,b5_,b6_,b7_,b8_,b9_⟩:=vB.l10
 go_wp2_with fail
 refine Calls.mono (eqByteS_same _ _ nm S S2 _ (HR.out _ HB.out) (HR2.out _ HB.out) HL.out) ?_
 rintro e w3 ⟨rfl,b_⟩
 have vA_:=vA.step b_
 have vB_:=vB.step b_
 have HB_ : Hid _:=HB.out.trans (b_.mono HB.out.size)
 clear vA vB HB b_ a0_ a1_ a2_ a3_ a4_ a5_ a6_ a7_ a8_ a9_ b0_ b1_ b2_ b3_ b4_ b5_ b6_ b7_ b8_ b9_
 have vA:=vA_
 have vB:=vB_
 have HB:=HB_
 clear vA_ vB_ HB_
 obtain ⟨a0_,a1_,a2_,a3_,a4_,a5_,a6_,a7_,a8_,a9_⟩:=vA.l10
 obtain ⟨b0_,b1_,b2_,b3_,b4_,b5_,b6_,b7_,b8_,b9_⟩:=vB.l10
 go_wp2_with fail
 refine Calls.mono (HH2.out _) ?_
 rintro e w4 ⟨rfl,b_⟩
 have vA_:=vA.step b_
 have vB_:=vB.step b_
 have HB_ : Hid _:=HB.out.trans (b_.mono HB.out.size)
 clear vA vB HB b_ a0_ a1_ a2_ a3_ a4_ a5_ a6_ a7_ a8_ a9_ b0_ b1_ b2_ b3_ b4_ b5_ b6_ b7_ b8_ b9_
 have vA:=vA_
 have vB:=vB_
 have HB:=HB_
 clear vA_ vB_ HB_
 obtain ⟨a0_,a1_,a2_,a3_,a4_,a5_,a6_,a7_,a8_,a9_⟩:=vA.l10
 obtain ⟨b0_,b1_,b2_,b3_,b4_,b5_,b6_,b7_,b8_,b9_⟩:=vB.l10
 go_wp2_with fail
 refine Calls.mono (eqByteS_same _ _ asn S S2 _ (HS1.out _ HB.out) (HS2_.out _ HB.out) HL2.out) ?_
 rintro e w5 ⟨rfl,b_⟩
 have vA_:=vA.step b_
 have vB_:=vB.step b_
 have HB_ : Hid _:=HB.out.trans (b_.mono HB.out.size)
 clear vA vB HB b_ a0_ a1_ a2_ a3_ a4_ a5_ a6_ a7_ a8_ a9_ b0_ b1_ b2_ b3_ b4_ b5_ b6_ b7_ b8_ b9_
 have vA:=vA_
 have vB:=vB_
 have HB:=HB_
 clear vA_ vB_ HB_
 obtain ⟨a0_,a1_,a2_,a3_,a4_,a5_,a6_,a7_,a8_,a9_⟩:=vA.l10
 obtain ⟨b0_,b1_,b2_,b3_,b4_,b5_,b6_,b7_,b8_,b9_⟩:=vB.l10
 go_wp2
 go_ret
 exact ⟨rfl,HB.out⟩

end Go.Proofs.YtblahkhniabhiaaGreatDoor
