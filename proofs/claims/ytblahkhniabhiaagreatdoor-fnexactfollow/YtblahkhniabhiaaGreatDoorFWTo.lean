/- Transactions' numbers, parts and replies, copied by the verifier's helpers. Condition: no more than 2^21 of all. -/
import Derived.Test.YtblahkhniabhiaaGreatDoorFA01
namespace Go.Proofs.YtblahkhniabhiaaGreatDoor
open Go.RowKit
set_option linter.unusedVariables false
set_option maxRecDepth 100000

theorem and5 {A B C D E : Prop} (h : A ∧ B ∧ C) (d : D) (e : E) : A ∧ B ∧ D ∧ E ∧ C:=⟨h.1,h.2.1,d,e,h.2.2⟩
set_option maxHeartbeats 2000000 in
theorem toReply_any (x : Value) (o : RpD) (S : Nat → Prop) (w : World) (r : RdV w S x (ensDt o.list)) (hl : szEns o.list ≤ 2097152) :
  Calls Tryz.prog 36 #[rpV o x] w fun q w' => ∃ a n c,q = .returned (rpV o (.slice a n c)) ∧ OwV w' (fun b => w.heap.size ≤ b ∧ b < w'.heap.size) (.slice a n c) (ensDt o.list) ∧ Below w.heap.size w w':=by
 obtain ⟨a,cap,rfl,_⟩:=RdV.sliced r
 obtain ⟨kd,⟨p,q,d⟩,vl,es⟩:=o
 have HR : Hid (∀ W,Below w.heap.size w W → _):=r.old
 have HH : Hid (∀ W,_):=fun W => toHandle_any (p,q,d) W
 have HL : Hid (szEns es ≤ 2097152):=hl
 clear r hl
 dsimp only at HR ⊢
 generalize es.length = n0 at HR
 go_enter Tryz.func36,Tryz.ntmps36
 go_wp2_with fail
 refine Calls.mono (HH.out _) ?_
 rintro e w2 ⟨rfl,b_⟩
 have hs2:=b_.size
 simp at hs2
 have vA : VarA w2 w.heap.size 44 #[.i kd,.i p,.i q,.bool d,.i vl,.slice a n0 cap]:=VarA.step (((VarA.new w _ _).alloc _).alloc _) b_
 have vR : VarA w2 (w.heap.size + 1) 51 #[.i 0,.i 0,.i 0,.bool false,.i 0,.n0]:=by
  have:=VarA.step ((VarA.new (w.alloc _) _ _).alloc _) b_
  simpa using this
 have vO : VarA w2 (w.heap.size + 1 + 1) 51 #[.i kd,.i 0,.i 0,.bool false,.i 0,.n0]:=by
  have:=VarA.step (VarA.new ((w.alloc _).alloc _) _ _) b_
  simpa using this
 have HB : Hid (Below w.heap.size w w2):=((((Below.refl _ _).alloc (Nat.le_refl _) _).alloc (by simp) _).alloc (by simp; omega) _).trans (b_.mono (by simp; omega))
 have HT : Hid (Turned (fun b => w.heap.size ≤ b ∧ b < w.heap.size + 3) w2 w2):=Turned.refl _ _
 have hz : w.heap.size + 3 ≤ w2.heap.size:=by omega
 clear hs2 b_
 obtain ⟨a0_,a1_,a2_,a3_,a4_,a5_⟩:=vA.l6
 obtain ⟨o0_,o1_,o2_,o3_,o4_,o5_⟩:=vO.l6
 have fo_:=vO.fz
 go_wp2_with fail
 refine Calls.mono (toEntryS_any _ es S _ (HR.out _ (Turned.below HB.out (HT.out |>.set _ _ (by simp <;> omega) |>.set _ _ (by simp <;> omega) |>.set _ _ (by simp <;> omega) |>.set _ _ (by simp <;> omega)) HB.out.size (fun i hi => hi.1))) HL.out) ?_
 rintro e w3 ⟨ua,un,uc,rfl,o_,b_⟩
 clear a0_ a1_ a2_ a3_ a4_ a5_ o0_ o1_ o2_ o3_ o4_ o5_ fo_
 have vA_:=(vA |>.aside (p:=⟨w.heap.size + 1 + 1,1,none⟩) (by dsimp only; omega) _ |>.aside (p:=⟨w.heap.size + 1 + 1,2,none⟩) (by dsimp only; omega) _ |>.aside (p:=⟨w.heap.size + 1 + 1,3,none⟩) (by dsimp only; omega) _ |>.aside (p:=⟨w.heap.size + 1 + 1,4,none⟩) (by dsimp only; omega) _).step b_
 have vR_:=(vR |>.aside (p:=⟨w.heap.size + 1 + 1,1,none⟩) (by dsimp only; omega) _ |>.aside (p:=⟨w.heap.size + 1 + 1,2,none⟩) (by dsimp only; omega) _ |>.aside (p:=⟨w.heap.size + 1 + 1,3,none⟩) (by dsimp only; omega) _ |>.aside (p:=⟨w.heap.size + 1 + 1,4,none⟩) (by dsimp only; omega) _).step b_
 have vO_ : VarA w3 (w.heap.size + 1 + 1) 51 #[.i kd,.i p,.i q,.bool d,.i vl,.n0]:=(vO |>.set 1 _ |>.set 2 _ |>.set 3 _ |>.set 4 _).step b_
 have t_ : Turned (fun b => w.heap.size ≤ b ∧ b < w.heap.size + 3) w2 w3:=(HT.out |>.set _ _ (by simp <;> omega) |>.set _ _ (by simp <;> omega) |>.set _ _ (by simp <;> omega) |>.set _ _ (by simp <;> omega)).andThen b_
 have HB_ : Hid (Below w.heap.size w w3):=Turned.below HB.out t_ HB.out.size (fun i hi => hi.1)
 have zs_:=t_.size
 have HO0 : Hid (OwV w3 (fun b => w2.heap.size ≤ b ∧ b < w3.heap.size) (.slice ua un uc) (ensDt es)):=o_.mono (fun b h => by simpa using h)
 clear vA vR vO HT HB b_ t_ o_
 have HT : Hid (Turned (fun b => w.heap.size ≤ b ∧ b < w.heap.size + 3) w3 w3):=Turned.refl _ _
 have vA:=vA_
 have vR:=vR_
 have vO:=vO_
 have HB:=HB_
 clear vA_ vR_ vO_ HB_
 obtain ⟨a0_,a1_,a2_,a3_,a4_,a5_⟩:=vA.l6
 obtain ⟨o0_,o1_,o2_,o3_,o4_,o5_⟩:=vO.l6
 have fo_:=vO.fz
 obtain ⟨r0_,r1_,r2_,r3_,r4_,r5_⟩:=vR.l6
 have fr_:=vR.fz
 clear vA vR vO
 go_wp2
 refine bodyPost_ret (v:=.agg #[.i kd,.i p,.i q,.bool d,.i vl,.slice ua un uc]) (by simp [results,Tryz.results36,go_sem,r0_,r1_,r2_,r3_,r4_,r5_]) rfl ?_
 exact ⟨_,_,_,rfl,OwV.close HB.out (HO0.out.mono (fun b h => (⟨by omega,by omega⟩ : w.heap.size + 3 ≤ b ∧ _))) (by omega) (HT.out |>.set _ _ (by simp <;> omega) |>.set _ _ (by simp <;> omega) |>.set _ _ (by simp <;> omega) |>.set _ _ (by simp <;> omega) |>.set _ _ (by simp <;> omega) |>.set _ _ (by simp <;> omega) |>.set _ _ (by simp <;> omega))⟩

set_option maxHeartbeats 2000000 in
theorem toOp_b (x y : Value) (o : OpD) (S : Nat → Prop) (w : World) (r : RdV w S x (.bytes o.nm)) (r2 : RdV w S y (.bytes o.asn)) (hl : o.nm.length ≤ 2097152) (hl2 : o.asn.length ≤ 2097152) :
  Calls Tryz.prog 35 #[opV o x y] w fun q w' => ∃ a n c a2 n2 c2 M,q = .returned (opV o (.slice a n c) (.slice a2 n2 c2)) ∧ OwV w' (fun b => w.heap.size ≤ b ∧ b < M) (.slice a n c) (.bytes o.nm) ∧ OwV w' (fun b => M ≤ b ∧ b < w'.heap.size) (.slice a2 n2 c2) (.bytes o.asn) ∧ w.heap.size ≤ M ∧ M ≤ w'.heap.size ∧ Below w.heap.size w w':=by
 obtain ⟨a,cap,rfl⟩:=r.sliceB
 obtain ⟨a2,cap2,rfl⟩:=r2.sliceB
 obtain ⟨kd,⟨p,q,d⟩,nm,⟨p2,q2,d2⟩,asn,vl⟩:=o
 have HR : Hid (∀ W,Below w.heap.size w W → _):=r.old
 have HR2 : Hid (∀ W,Below w.heap.size w W → _):=r2.old
 have HH : Hid (∀ W,_):=fun W => toHandle_any (p,q,d) W
 have HH2 : Hid (∀ W,_):=fun W => toHandle_any (p2,q2,d2) W
 have HL : Hid (nm.length ≤ 2097152):=hl
 have HL2 : Hid (asn.length ≤ 2097152):=hl2
 clear r r2 hl hl2
 dsimp only at HR HR2 ⊢
 generalize nm.length = n0 at HR
 generalize asn.length = n1 at HR2
 go_enter Tryz.func35,Tryz.ntmps35
 go_wp2_with fail
 refine Calls.mono (HH.out _) ?_
 rintro e w2 ⟨rfl,b_⟩
 have hs2:=b_.size
 simp at hs2
 have vA : VarA w2 w.heap.size 41 #[.i kd,.i p,.i q,.bool d,.slice a n0 cap,.i p2,.i q2,.bool d2,.slice a2 n1 cap2,.i vl]:=VarA.step (((VarA.new w _ _).alloc _).alloc _) b_
 have vR : VarA w2 (w.heap.size + 1) 53 #[.i 0,.i 0,.i 0,.bool false,.n0,.i 0,.i 0,.bool false,.n0,.i 0]:=by
  have:=VarA.step ((VarA.new (w.alloc _) _ _).alloc _) b_
  simpa using this
 have vO : VarA w2 (w.heap.size + 1 + 1) 53 #[.i kd,.i 0,.i 0,.bool false,.n0,.i 0,.i 0,.bool false,.n0,.i 0]:=by
  have:=VarA.step (VarA.new ((w.alloc _).alloc _) _ _) b_
  simpa using this
 have HB : Hid (Below w.heap.size w w2):=((((Below.refl _ _).alloc (Nat.le_refl _) _).alloc (by simp) _).alloc (by simp; omega) _).trans (b_.mono (by simp; omega))
 have HT : Hid (Turned (fun b => w.heap.size ≤ b ∧ b < w.heap.size + 3) w2 w2):=Turned.refl _ _
 have hz : w.heap.size + 3 ≤ w2.heap.size:=by omega
 clear hs2 b_
 obtain ⟨a0_,a1_,a2_,a3_,a4_,a5_,a6_,a7_,a8_,a9_⟩:=vA.l10
 obtain ⟨o0_,o1_,o2_,o3_,o4_,o5_,o6_,o7_,o8_,o9_⟩:=vO.l10
 have fo_:=vO.fz
 go_wp2_with fail
 refine Calls.mono (toByteS_d _ nm S _ (HR.out _ (Turned.below HB.out (HT.out |>.set _ _ (by simp <;> omega) |>.set _ _ (by simp <;> omega) |>.set _ _ (by simp <;> omega)) HB.out.size (fun i hi => hi.1))) HL.out) ?_
 rintro e w3 ⟨ua,un,uc,rfl,o_,b_⟩
 clear a0_ a1_ a2_ a3_ a4_ a5_ a6_ a7_ a8_ a9_ o0_ o1_ o2_ o3_ o4_ o5_ o6_ o7_ o8_ o9_ fo_
 have vA_:=(vA |>.aside (p:=⟨w.heap.size + 1 + 1,1,none⟩) (by dsimp only; omega) _ |>.aside (p:=⟨w.heap.size + 1 + 1,2,none⟩) (by dsimp only; omega) _ |>.aside (p:=⟨w.heap.size + 1 + 1,3,none⟩) (by dsimp only; omega) _).step b_
 have vR_:=(vR |>.aside (p:=⟨w.heap.size + 1 + 1,1,none⟩) (by dsimp only; omega) _ |>.aside (p:=⟨w.heap.size + 1 + 1,2,none⟩) (by dsimp only; omega) _ |>.aside (p:=⟨w.heap.size + 1 + 1,3,none⟩) (by dsimp only; omega) _).step b_
 have vO_ : VarA w3 (w.heap.size + 1 + 1) 53 #[.i kd,.i p,.i q,.bool d,.n0,.i 0,.i 0,.bool false,.n0,.i 0]:=(vO |>.set 1 _ |>.set 2 _ |>.set 3 _).step b_
 have t_ : Turned (fun b => w.heap.size ≤ b ∧ b < w.heap.size + 3) w2 w3:=(HT.out |>.set _ _ (by simp <;> omega) |>.set _ _ (by simp <;> omega) |>.set _ _ (by simp <;> omega)).andThen b_
 have HB_ : Hid (Below w.heap.size w w3):=Turned.below HB.out t_ HB.out.size (fun i hi => hi.1)
 have zs_:=t_.size
 have HO0 : Hid (OwV w3 (fun b => w2.heap.size ≤ b ∧ b < w3.heap.size) (.slice ua un uc) (.bytes nm)):=o_.mono (fun b h => by simpa using h)
 clear vA vR vO HT HB b_ t_ o_
 have HT : Hid (Turned (fun b => w.heap.size ≤ b ∧ b < w.heap.size + 3) w3 w3):=Turned.refl _ _
 have vA:=vA_
 have vR:=vR_
 have vO:=vO_
 have HB:=HB_
 clear vA_ vR_ vO_ HB_
 obtain ⟨a0_,a1_,a2_,a3_,a4_,a5_,a6_,a7_,a8_,a9_⟩:=vA.l10
 obtain ⟨o0_,o1_,o2_,o3_,o4_,o5_,o6_,o7_,o8_,o9_⟩:=vO.l10
 have fo_:=vO.fz
 go_wp2_with fail
 refine Calls.mono (HH2.out _) ?_
 rintro e w4 ⟨rfl,b_⟩
 clear a0_ a1_ a2_ a3_ a4_ a5_ a6_ a7_ a8_ a9_ o0_ o1_ o2_ o3_ o4_ o5_ o6_ o7_ o8_ o9_ fo_
 have vA_:=(vA |>.aside (p:=⟨w.heap.size + 1 + 1,4,none⟩) (by dsimp only; omega) _).step b_
 have vR_:=(vR |>.aside (p:=⟨w.heap.size + 1 + 1,4,none⟩) (by dsimp only; omega) _).step b_
 have vO_ : VarA w4 (w.heap.size + 1 + 1) 53 #[.i kd,.i p,.i q,.bool d,.slice ua un uc,.i 0,.i 0,.bool false,.n0,.i 0]:=(vO |>.set 4 _).step b_
 have t_ : Turned (fun b => w.heap.size ≤ b ∧ b < w.heap.size + 3) w3 w4:=(HT.out |>.set _ _ (by simp <;> omega)).andThen b_
 have HB_ : Hid (Below w.heap.size w w4):=Turned.below HB.out t_ HB.out.size (fun i hi => hi.1)
 have zs_:=t_.size
 have HO0_ : Hid (OwV w4 (fun b => _ ∧ b < _) (.slice ua un uc) (.bytes nm)):=HO0.out.keep (t_.keeps (fun b hb hs => by omega))
 clear vA vR vO HT HB b_ t_ HO0
 have HT : Hid (Turned (fun b => w.heap.size ≤ b ∧ b < w.heap.size + 3) w4 w4):=Turned.refl _ _
 have vA:=vA_
 have vR:=vR_
 have vO:=vO_
 have HB:=HB_
 have HO0:=HO0_
 clear vA_ vR_ vO_ HB_ HO0_
 obtain ⟨a0_,a1_,a2_,a3_,a4_,a5_,a6_,a7_,a8_,a9_⟩:=vA.l10
 obtain ⟨o0_,o1_,o2_,o3_,o4_,o5_,o6_,o7_,o8_,o9_⟩:=vO.l10
 have fo_:=vO.fz
 go_wp2_with fail
 refine Calls.mono (toByteS_d _ asn S _ (HR2.out _ (Turned.below HB.out (HT.out |>.set _ _ (by simp <;> omega) |>.set _ _ (by simp <;> omega) |>.set _ _ (by simp <;> omega)) HB.out.size (fun i hi => hi.1))) HL2.out) ?_
 rintro e w5 ⟨ya,yn,yc,rfl,o_,b_⟩
 clear a0_ a1_ a2_ a3_ a4_ a5_ a6_ a7_ a8_ a9_ o0_ o1_ o2_ o3_ o4_ o5_ o6_ o7_ o8_ o9_ fo_
 have vA_:=(vA |>.aside (p:=⟨w.heap.size + 1 + 1,5,none⟩) (by dsimp only; omega) _ |>.aside (p:=⟨w.heap.size + 1 + 1,6,none⟩) (by dsimp only; omega) _ |>.aside (p:=⟨w.heap.size + 1 + 1,7,none⟩) (by dsimp only; omega) _).step b_
 have vR_:=(vR |>.aside (p:=⟨w.heap.size + 1 + 1,5,none⟩) (by dsimp only; omega) _ |>.aside (p:=⟨w.heap.size + 1 + 1,6,none⟩) (by dsimp only; omega) _ |>.aside (p:=⟨w.heap.size + 1 + 1,7,none⟩) (by dsimp only; omega) _).step b_
 have vO_ : VarA w5 (w.heap.size + 1 + 1) 53 #[.i kd,.i p,.i q,.bool d,.slice ua un uc,.i p2,.i q2,.bool d2,.n0,.i 0]:=(vO |>.set 5 _ |>.set 6 _ |>.set 7 _).step b_
 have t_ : Turned (fun b => w.heap.size ≤ b ∧ b < w.heap.size + 3) w4 w5:=(HT.out |>.set _ _ (by simp <;> omega) |>.set _ _ (by simp <;> omega) |>.set _ _ (by simp <;> omega)).andThen b_
 have HB_ : Hid (Below w.heap.size w w5):=Turned.below HB.out t_ HB.out.size (fun i hi => hi.1)
 have zs_:=t_.size
 have HO0_ : Hid (OwV w5 (fun b => _ ∧ b < _) (.slice ua un uc) (.bytes nm)):=HO0.out.keep (t_.keeps (fun b hb hs => by omega))
 have HO1 : Hid (OwV w5 (fun b => w4.heap.size ≤ b ∧ b < w5.heap.size) (.slice ya yn yc) (.bytes asn)):=o_.mono (fun b h => by simpa using h)
 clear vA vR vO HT HB b_ t_ o_ HO0
 have HT : Hid (Turned (fun b => w.heap.size ≤ b ∧ b < w.heap.size + 3) w5 w5):=Turned.refl _ _
 have vA:=vA_
 have vR:=vR_
 have vO:=vO_
 have HB:=HB_
 have HO0:=HO0_
 clear vA_ vR_ vO_ HB_ HO0_
 obtain ⟨a0_,a1_,a2_,a3_,a4_,a5_,a6_,a7_,a8_,a9_⟩:=vA.l10
 obtain ⟨o0_,o1_,o2_,o3_,o4_,o5_,o6_,o7_,o8_,o9_⟩:=vO.l10
 have fo_:=vO.fz
 obtain ⟨r0_,r1_,r2_,r3_,r4_,r5_,r6_,r7_,r8_,r9_⟩:=vR.l10
 have fr_:=vR.fz
 clear vA vR vO
 go_wp2
 refine bodyPost_ret (v:=.agg #[.i kd,.i p,.i q,.bool d,.slice ua un uc,.i p2,.i q2,.bool d2,.slice ya yn yc,.i vl]) (by simp [results,Tryz.results35,go_sem,r0_,r1_,r2_,r3_,r4_,r5_,r6_,r7_,r8_,r9_]) rfl ?_
 exact ⟨_,_,_,_,_,_,_,rfl,and5 (OwV.close2 HB.out (HO0.out.mono (fun b h => (⟨by omega,h.2⟩ : w.heap.size + 3 ≤ b ∧ _))) HO1.out (by omega) (by omega) (by omega) (HT.out |>.set _ _ (by simp <;> omega) |>.set _ _ (by simp <;> omega) |>.set _ _ (by simp <;> omega) |>.set _ _ (by simp <;> omega) |>.set _ _ (by simp <;> omega) |>.set _ _ (by simp <;> omega) |>.set _ _ (by simp <;> omega) |>.set _ _ (by simp <;> omega) |>.set _ _ (by simp <;> omega) |>.set _ _ (by simp <;> omega) |>.set _ _ (by simp <;> omega) |>.set _ _ (by simp <;> omega))) (by omega) (by simp <;> omega)⟩

end Go.Proofs.YtblahkhniabhiaaGreatDoor
