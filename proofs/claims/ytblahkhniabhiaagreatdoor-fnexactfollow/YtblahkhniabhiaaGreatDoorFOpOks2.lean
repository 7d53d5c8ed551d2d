/- What the program's look at an operation answers. Condition: texts of at most 2^21 bytes. -/
import Derived.Test.YtblahkhniabhiaaGreatDoorFOpOks
namespace Go.Proofs.YtblahkhniabhiaaGreatDoor
open Go.RowKit
set_option linter.unusedVariables false
set_option linter.unusedSimpArgs false

theorem isShard_any (k : Int) (w : World) : Calls Tryz.prog 116 #[.i k] w fun e w' => e = .returned (.bool (decide (0 ≤ k) && decide (k < 4))) ∧ w' = w:=by
 go_enter Tryz.func116,Tryz.ntmps116
 go_wp2
 all_goals (go_ret; exact ⟨by first | rfl | (simp_all <;> omega),rfl⟩)
theorem isNumber_any (k : Int) (w : World) : Calls Tryz.prog 113 #[.i k] w fun e w' => e = .returned (.bool (decide (0 ≤ k) && decide (k ≤ 2147483647))) ∧ w' = w:=by
 go_enter Tryz.func113,Tryz.ntmps113
 go_wp2
 all_goals (go_ret; exact ⟨by first | rfl | (simp_all <;> omega),rfl⟩)
set_option maxHeartbeats 2000000 in
theorem implNameOk_any (x y : Value) (o : OpD) (S : Nat → Prop) (w : World) (r : RdV w S x (.bytes o.nm)) (r2 : RdV w S y (.bytes o.asn)) (hl : o.nm.length ≤ 2097152) (hl2 : o.asn.length ≤ 2097152) :
  Calls Tryz.prog 95 #[opV o x y] w fun e w' => e = .returned (.bool (nmB o)) ∧ Below w.heap.size w w':=by
 obtain ⟨a,cap,rfl⟩:=r.sliceB
 obtain ⟨a2,cap2,rfl⟩:=r2.sliceB
 obtain ⟨kd,⟨p,q,d⟩,nm,⟨p2,q2,d2⟩,asn,vl⟩:=o
 dsimp only at r r2 hl hl2 ⊢
 obtain ⟨res,hres⟩ : ∃ res,nmB ⟨kd,(p,q,d),nm,(p2,q2,d2),asn,vl⟩ = res:=⟨_,rfl⟩
 rw [hres]
 simp only [nmB,nmP,toP,asP,hd0] at hres
 have HX : Hid (∀ W,Below w.heap.size w W → _):=fun W hW => implName_any _ nm S W (r.step hW) hl
 clear r r2
 generalize isNm nm = bn at HX hres
 generalize nm.length = n0 at *
 generalize asn.length = n1 at *
 have HRES : Hid _:=hres
 clear hres
 go_enter Tryz.func95,Tryz.ntmps95
 go_wp2_with (go_at_call 117; refine Calls.mono (HX.out _ (Below.newH _)) ?_; rintro e w2 ⟨rfl,rfl⟩)
 all_goals (go_ret; exact ⟨by rw [← HRES.out]; first | rfl | (simp_all [Hd.sh,Hd.ino,Hd.dir] <;> omega) | (simp_all [Hd.sh,Hd.ino,Hd.dir]; rw [Bool.eq_iff_iff]; simp) | (simp_all [Hd.sh,Hd.ino,Hd.dir]; rw [Bool.eq_iff_iff]; simp; omega),by first | exact Below.newH _ | exact Below.newH2 _ _⟩)
set_option maxHeartbeats 2000000 in
theorem implAsOk_any (x y : Value) (o : OpD) (S : Nat → Prop) (w : World) (r : RdV w S x (.bytes o.nm)) (r2 : RdV w S y (.bytes o.asn)) (hl : o.nm.length ≤ 2097152) (hl2 : o.asn.length ≤ 2097152) :
  Calls Tryz.prog 97 #[opV o x y] w fun e w' => e = .returned (.bool (asB o)) ∧ Below w.heap.size w w':=by
 obtain ⟨a,cap,rfl⟩:=r.sliceB
 obtain ⟨a2,cap2,rfl⟩:=r2.sliceB
 obtain ⟨kd,⟨p,q,d⟩,nm,⟨p2,q2,d2⟩,asn,vl⟩:=o
 dsimp only at r r2 hl hl2 ⊢
 obtain ⟨res,hres⟩ : ∃ res,asB ⟨kd,(p,q,d),nm,(p2,q2,d2),asn,vl⟩ = res:=⟨_,rfl⟩
 rw [hres]
 simp only [asB,nmP,toP,asP,hd0] at hres
 have HX : Hid (∀ W,Below w.heap.size w W → _):=fun W hW => implName_any _ asn S W (r2.step hW) hl2
 clear r r2
 generalize isNm asn = bn at HX hres
 generalize nm.length = n0 at *
 generalize asn.length = n1 at *
 have HRES : Hid _:=hres
 clear hres
 go_enter Tryz.func97,Tryz.ntmps97
 go_wp2_with (go_at_call 117; refine Calls.mono (HX.out _ (Below.newH _)) ?_; rintro e w2 ⟨rfl,rfl⟩)
 all_goals (go_ret; exact ⟨by rw [← HRES.out]; first | rfl | (simp_all [Hd.sh,Hd.ino,Hd.dir] <;> omega) | (simp_all [Hd.sh,Hd.ino,Hd.dir]; rw [Bool.eq_iff_iff]; simp) | (simp_all [Hd.sh,Hd.ino,Hd.dir]; rw [Bool.eq_iff_iff]; simp; omega),by first | exact Below.newH _ | exact Below.newH2 _ _⟩)
set_option maxHeartbeats 2000000 in
theorem implValOk_any (x y : Value) (o : OpD) (S : Nat → Prop) (w : World) (r : RdV w S x (.bytes o.nm)) (r2 : RdV w S y (.bytes o.asn)) (hl : o.nm.length ≤ 2097152) (hl2 : o.asn.length ≤ 2097152) :
  Calls Tryz.prog 98 #[opV o x y] w fun e w' => e = .returned (.bool (vlB o)) ∧ Below w.heap.size w w':=by
 obtain ⟨a,cap,rfl⟩:=r.sliceB
 obtain ⟨a2,cap2,rfl⟩:=r2.sliceB
 obtain ⟨kd,⟨p,q,d⟩,nm,⟨p2,q2,d2⟩,asn,vl⟩:=o
 dsimp only at r r2 hl hl2 ⊢
 obtain ⟨res,hres⟩ : ∃ res,vlB ⟨kd,(p,q,d),nm,(p2,q2,d2),asn,vl⟩ = res:=⟨_,rfl⟩
 rw [hres]
 simp only [vlB,nmP,toP,asP,hd0] at hres
 have HX : Hid (∀ W,_):=fun W => isNumber_any vl W
 clear r r2
 generalize nm.length = n0 at *
 generalize asn.length = n1 at *
 have HRES : Hid _:=hres
 clear hres
 go_enter Tryz.func98,Tryz.ntmps98
 go_wp2_with (go_at_call 113; refine Calls.mono (HX.out _) ?_; rintro e w2 ⟨rfl,rfl⟩)
 all_goals (go_ret; exact ⟨by rw [← HRES.out]; first | rfl | (simp_all [Hd.sh,Hd.ino,Hd.dir] <;> omega) | (simp_all [Hd.sh,Hd.ino,Hd.dir]; rw [Bool.eq_iff_iff]; simp) | (simp_all [Hd.sh,Hd.ino,Hd.dir]; rw [Bool.eq_iff_iff]; simp; omega),by first | exact Below.newH _ | exact Below.newH2 _ _⟩)
set_option maxHeartbeats 2000000 in
theorem implToOk_any (x y : Value) (o : OpD) (S : Nat → Prop) (w : World) (r : RdV w S x (.bytes o.nm)) (r2 : RdV w S y (.bytes o.asn)) (hl : o.nm.length ≤ 2097152) (hl2 : o.asn.length ≤ 2097152) :
  Calls Tryz.prog 96 #[opV o x y] w fun e w' => e = .returned (.bool (toB o)) ∧ Below w.heap.size w w':=by
 obtain ⟨a,cap,rfl⟩:=r.sliceB
 obtain ⟨a2,cap2,rfl⟩:=r2.sliceB
 obtain ⟨kd,⟨p,q,d⟩,nm,⟨p2,q2,d2⟩,asn,vl⟩:=o
 dsimp only at r r2 hl hl2 ⊢
 obtain ⟨res,hres⟩ : ∃ res,toB ⟨kd,(p,q,d),nm,(p2,q2,d2),asn,vl⟩ = res:=⟨_,rfl⟩
 rw [hres]
 simp only [toB,nmP,toP,asP,hd0] at hres
 have HX : Hid (∀ W,_):=fun W => implHandleOk_w (p2,q2,d2) W
 have HS : Hid (∀ W,_):=fun W => isShard_any p2 W
 clear r r2
 generalize HOk (p2,q2,d2) = bt at HX hres
 generalize nm.length = n0 at *
 generalize asn.length = n1 at *
 have HRES : Hid _:=hres
 clear hres
 go_enter Tryz.func96,Tryz.ntmps96
 go_wp2_with (first | (go_at_call 94; refine Calls.mono (HX.out _) ?_; rintro e w2 ⟨rfl,rfl⟩) | (go_at_call 116; refine Calls.mono (HS.out _) ?_; rintro e w2 ⟨rfl,rfl⟩))
 all_goals (go_ret; exact ⟨by rw [← HRES.out]; first | rfl | (simp_all [Hd.sh,Hd.ino,Hd.dir] <;> omega) | (simp_all [Hd.sh,Hd.ino,Hd.dir]; rw [Bool.eq_iff_iff]; simp) | (simp_all [Hd.sh,Hd.ino,Hd.dir]; rw [Bool.eq_iff_iff]; simp; omega),by first | exact Below.newH _ | exact Below.newH2 _ _⟩)
set_option maxHeartbeats 4000000 in
theorem implOpOk_any (x y : Value) (o : OpD) (S : Nat → Prop) (w : World) (r : RdV w S x (.bytes o.nm)) (r2 : RdV w S y (.bytes o.asn)) (hl : o.nm.length ≤ 2097152) (hl2 : o.asn.length ≤ 2097152) :
  Calls Tryz.prog 82 #[opV o x y] w fun e w' => e = .returned (.bool (OOk o)) ∧ Below w.heap.size w w':=by
 have HN : Hid (∀ W,Below w.heap.size w W → _):=fun W hW => implNameOk_any x y o S W (r.step hW) (r2.step hW) hl hl2
 have HT : Hid (∀ W,Below w.heap.size w W → _):=fun W hW => implToOk_any x y o S W (r.step hW) (r2.step hW) hl hl2
 have HA : Hid (∀ W,Below w.heap.size w W → _):=fun W hW => implAsOk_any x y o S W (r.step hW) (r2.step hW) hl hl2
 have HV : Hid (∀ W,Below w.heap.size w W → _):=fun W hW => implValOk_any x y o S W (r.step hW) (r2.step hW) hl hl2
 obtain ⟨a,cap,rfl⟩:=r.sliceB
 obtain ⟨a2,cap2,rfl⟩:=r2.sliceB
 obtain ⟨res,hres⟩ : ∃ res,OOk o = res:=⟨_,rfl⟩
 rw [hres]
 simp only [OOk] at hres
 generalize nmB o = bn at HN hres
 generalize toB o = bt at HT hres
 generalize asB o = ba at HA hres
 generalize vlB o = bv at HV hres
 obtain ⟨kd,⟨p,q,d⟩,nm,⟨p2,q2,d2⟩,asn,vl⟩:=o
 dsimp only at hres HN HT HA HV ⊢
 have HH : Hid (∀ W,_):=fun W => implHandleOk_any (p,q,d) W
 generalize HOk (p,q,d) = bd at HH hres
 generalize nm.length = n0 at *
 generalize asn.length = n1 at *
 have HRES : Hid _:=hres
 clear r r2 hl hl2 hres
 by_cases hk : 0 ≤ kd ∧ kd ≤ 7
 case neg =>
  go_enter Tryz.func82,Tryz.ntmps82
  go_wp2_with fail
  all_goals first | (go_ret; exact ⟨by rw [← HRES.out]; first | rfl | (simp; omega),Below.newH _⟩) | (exfalso; omega)
 obtain ⟨hk0,hk7⟩:=hk
 cases bd with
 | false =>
  go_enter Tryz.func82,Tryz.ntmps82
  go_wp2_with fail
  refine Calls.mono (HH.out _) ?_
  rintro e w2 ⟨rfl,b_⟩
  have vA : VarA w2 w.heap.size 53 #[.i kd,.i p,.i q,.bool d,.slice a n0 cap,.i p2,.i q2,.bool d2,.slice a2 n1 cap2,.i vl]:=VarA.step (VarA.new w _ _) b_
  have HB : Hid _:=(Below.newH (w:=w) _).trans (b_.mono (by simp))
  clear b_
  obtain ⟨a0_,a1_,a2_,a3_,a4_,a5_,a6_,a7_,a8_,a9_⟩:=vA.l10
  go_wp2
  go_ret
  exact ⟨by rw [← HRES.out]; simp [hk0,hk7],HB.out⟩
 | true =>
  cases bn with
  | false =>
   go_enter Tryz.func82,Tryz.ntmps82
   go_wp2_with fail
   refine Calls.mono (HH.out _) ?_
   rintro e w2 ⟨rfl,b_⟩
   have vA : VarA w2 w.heap.size 53 #[.i kd,.i p,.i q,.bool d,.slice a n0 cap,.i p2,.i q2,.bool d2,.slice a2 n1 cap2,.i vl]:=VarA.step (VarA.new w _ _) b_
   have HB : Hid _:=(Below.newH (w:=w) _).trans (b_.mono (by simp))
   clear b_
   obtain ⟨a0_,a1_,a2_,a3_,a4_,a5_,a6_,a7_,a8_,a9_⟩:=vA.l10
   go_wp2_with fail
   refine Calls.mono (HN.out _ HB.out) ?_
   rintro e w3 ⟨rfl,b_⟩
   have vA_:=vA.step b_
   have HB_ : Hid _:=HB.out.trans (b_.mono HB.out.size)
   clear vA HB b_ a0_ a1_ a2_ a3_ a4_ a5_ a6_ a7_ a8_ a9_
   have vA:=vA_
   have HB:=HB_
   clear vA_ HB_
   obtain ⟨a0_,a1_,a2_,a3_,a4_,a5_,a6_,a7_,a8_,a9_⟩:=vA.l10
   go_wp2
   go_ret
   exact ⟨by rw [← HRES.out]; simp [hk0,hk7],HB.out⟩
  | true =>
   cases bt with
   | false =>
    go_enter Tryz.func82,Tryz.ntmps82
    go_wp2_with fail
    refine Calls.mono (HH.out _) ?_
    rintro e w2 ⟨rfl,b_⟩
    have vA : VarA w2 w.heap.size 53 #[.i kd,.i p,.i q,.bool d,.slice a n0 cap,.i p2,.i q2,.bool d2,.slice a2 n1 cap2,.i vl]:=VarA.step (VarA.new w _ _) b_
    have HB : Hid _:=(Below.newH (w:=w) _).trans (b_.mono (by simp))
    clear b_
    obtain ⟨a0_,a1_,a2_,a3_,a4_,a5_,a6_,a7_,a8_,a9_⟩:=vA.l10
    go_wp2_with fail
    refine Calls.mono (HN.out _ HB.out) ?_
    rintro e w3 ⟨rfl,b_⟩
    have vA_:=vA.step b_
    have HB_ : Hid _:=HB.out.trans (b_.mono HB.out.size)
    clear vA HB b_ a0_ a1_ a2_ a3_ a4_ a5_ a6_ a7_ a8_ a9_
    have vA:=vA_
    have HB:=HB_
    clear vA_ HB_
    obtain ⟨a0_,a1_,a2_,a3_,a4_,a5_,a6_,a7_,a8_,a9_⟩:=vA.l10
    go_wp2_with fail
    refine Calls.mono (HT.out _ HB.out) ?_
    rintro e w4 ⟨rfl,b_⟩
    have vA_:=vA.step b_
    have HB_ : Hid _:=HB.out.trans (b_.mono HB.out.size)
    clear vA HB b_ a0_ a1_ a2_ a3_ a4_ a5_ a6_ a7_ a8_ a9_
    have vA:=vA_
    have HB:=HB_
    clear vA_ HB_
    obtain ⟨a0_,a1_,a2_,a3_,a4_,a5_,a6_,a7_,a8_,a9_⟩:=vA.l10
    go_wp2
    go_ret
    exact ⟨by rw [← HRES.out]; simp [hk0,hk7],HB.out⟩
   | true =>
    cases ba with
    | false =>
     go_enter Tryz.func82,Tryz.ntmps82
     go_wp2_with fail
     refine Calls.mono (HH.out _) ?_
     rintro e w2 ⟨rfl,b_⟩
     have vA : VarA w2 w.heap.size 53 #[.i kd,.i p,.i q,.bool d,.slice a n0 cap,.i p2,.i q2,.bool d2,.slice a2 n1 cap2,.i vl]:=VarA.step (VarA.new w _ _) b_
     have HB : Hid _:=(Below.newH (w:=w) _).trans (b_.mono (by simp))
     clear b_
     obtain ⟨a0_,a1_,a2_,a3_,a4_,a5_,a6_,a7_,a8_,a9_⟩:=vA.l10
     go_wp2_with fail
     refine Calls.mono (HN.out _ HB.out) ?_
     rintro e w3 ⟨rfl,b_⟩
     have vA_:=vA.step b_
     have HB_ : Hid _:=HB.out.trans (b_.mono HB.out.size)
     clear vA HB b_ a0_ a1_ a2_ a3_ a4_ a5_ a6_ a7_ a8_ a9_
     have vA:=vA_
     have HB:=HB_
     clear vA_ HB_
     obtain ⟨a0_,a1_,a2_,a3_,a4_,a5_,a6_,a7_,a8_,a9_⟩:=vA.l10
     go_wp2_with fail
     refine Calls.mono (HT.out _ HB.out) ?_
     rintro e w4 ⟨rfl,b_⟩
     have vA_:=vA.step b_
     have HB_ : Hid _:=HB.out.trans (b_.mono HB.out.size)
     clear vA HB b_ a0_ a1_ a2_ a3_ a4_ a5_ a6_ a7_ a8_ a9_
     have vA:=vA_
     have HB:=HB_
     clear vA_ HB_
     obtain ⟨a0_,a1_,a2_,a3_,a4_,a5_,a6_,a7_,a8_,a9_⟩:=vA.l10
     go_wp2_with fail
     refine Calls.mono (HA.out _ HB.out) ?_
     rintro e w5 ⟨rfl,b_⟩
     have vA_:=vA.step b_
     have HB_ : Hid _:=HB.out.trans (b_.mono HB.out.size)
     clear vA HB b_ a0_ a1_ a2_ a3_ a4_ a5_ a6_ a7_ a8_ a9_
     have vA:=vA_
     have HB:=HB_
     clear vA_ HB_
     obtain ⟨a0_,a1_,a2_,a3_,a4_,a5_,a6_,a7_,a8_,a9_⟩:=vA.l10
     go_wp2
     go_ret
     exact ⟨by rw [← HRES.out]; simp [hk0,hk7],HB.out⟩
    | true =>
     cases bv with
     | false =>
      go_enter Tryz.func82,Tryz.ntmps82
      go_wp2_with fail
      refine Calls.mono (HH.out _) ?_
      rintro e w2 ⟨rfl,b_⟩
      have vA : VarA w2 w.heap.size 53 #[.i kd,.i p,.i q,.bool d,.slice a n0 cap,.i p2,.i q2,.bool d2,.slice a2 n1 cap2,.i vl]:=VarA.step (VarA.new w _ _) b_
      have HB : Hid _:=(Below.newH (w:=w) _).trans (b_.mono (by simp))
      clear b_
      obtain ⟨a0_,a1_,a2_,a3_,a4_,a5_,a6_,a7_,a8_,a9_⟩:=vA.l10
      go_wp2_with fail
      refine Calls.mono (HN.out _ HB.out) ?_
      rintro e w3 ⟨rfl,b_⟩
      have vA_:=vA.step b_
      have HB_ : Hid _:=HB.out.trans (b_.mono HB.out.size)
      clear vA HB b_ a0_ a1_ a2_ a3_ a4_ a5_ a6_ a7_ a8_ a9_
      have vA:=vA_
      have HB:=HB_
      clear vA_ HB_
      obtain ⟨a0_,a1_,a2_,a3_,a4_,a5_,a6_,a7_,a8_,a9_⟩:=vA.l10
      go_wp2_with fail
      refine Calls.mono (HT.out _ HB.out) ?_
      rintro e w4 ⟨rfl,b_⟩
      have vA_:=vA.step b_
      have HB_ : Hid _:=HB.out.trans (b_.mono HB.out.size)
      clear vA HB b_ a0_ a1_ a2_ a3_ a4_ a5_ a6_ a7_ a8_ a9_
      have vA:=vA_
      have HB:=HB_
      clear vA_ HB_
      obtain ⟨a0_,a1_,a2_,a3_,a4_,a5_,a6_,a7_,a8_,a9_⟩:=vA.l10
      go_wp2_with fail
      refine Calls.mono (HA.out _ HB.out) ?_
      rintro e w5 ⟨rfl,b_⟩
      have vA_:=vA.step b_
      have HB_ : Hid _:=HB.out.trans (b_.mono HB.out.size)
      clear vA HB b_ a0_ a1_ a2_ a3_ a4_ a5_ a6_ a7_ a8_ a9_
      have vA:=vA_
      have HB:=HB_
      clear vA_ HB_
      obtain ⟨a0_,a1_,a2_,a3_,a4_,a5_,a6_,a7_,a8_,a9_⟩:=vA.l10
      go_wp2_with fail
      refine Calls.mono (HV.out _ HB.out) ?_
      rintro e w6 ⟨rfl,b_⟩
      have vA_:=vA.step b_
      have HB_ : Hid _:=HB.out.trans (b_.mono HB.out.size)
      clear vA HB b_ a0_ a1_ a2_ a3_ a4_ a5_ a6_ a7_ a8_ a9_
      have vA:=vA_
      have HB:=HB_
      clear vA_ HB_
      obtain ⟨a0_,a1_,a2_,a3_,a4_,a5_,a6_,a7_,a8_,a9_⟩:=vA.l10
      go_wp2
      go_ret
      exact ⟨by rw [← HRES.out]; simp [hk0,hk7],HB.out⟩
     | true =>
      go_enter Tryz.func82,Tryz.ntmps82
      go_wp2_with fail
      refine Calls.mono (HH.out _) ?_
      rintro e w2 ⟨rfl,b_⟩
      have vA : VarA w2 w.heap.size 53 #[.i kd,.i p,.i q,.bool d,.slice a n0 cap,.i p2,.i q2,.bool d2,.slice a2 n1 cap2,.i vl]:=VarA.step (VarA.new w _ _) b_
      have HB : Hid _:=(Below.newH (w:=w) _).trans (b_.mono (by simp))
      clear b_
      obtain ⟨a0_,a1_,a2_,a3_,a4_,a5_,a6_,a7_,a8_,a9_⟩:=vA.l10
      go_wp2_with fail
      refine Calls.mono (HN.out _ HB.out) ?_
      rintro e w3 ⟨rfl,b_⟩
      have vA_:=vA.step b_
      have HB_ : Hid _:=HB.out.trans (b_.mono HB.out.size)
      clear vA HB b_ a0_ a1_ a2_ a3_ a4_ a5_ a6_ a7_ a8_ a9_
      have vA:=vA_
      have HB:=HB_
      clear vA_ HB_
      obtain ⟨a0_,a1_,a2_,a3_,a4_,a5_,a6_,a7_,a8_,a9_⟩:=vA.l10
      go_wp2_with fail
      refine Calls.mono (HT.out _ HB.out) ?_
      rintro e w4 ⟨rfl,b_⟩
      have vA_:=vA.step b_
      have HB_ : Hid _:=HB.out.trans (b_.mono HB.out.size)
      clear vA HB b_ a0_ a1_ a2_ a3_ a4_ a5_ a6_ a7_ a8_ a9_
      have vA:=vA_
      have HB:=HB_
      clear vA_ HB_
      obtain ⟨a0_,a1_,a2_,a3_,a4_,a5_,a6_,a7_,a8_,a9_⟩:=vA.l10
      go_wp2_with fail
      refine Calls.mono (HA.out _ HB.out) ?_
      rintro e w5 ⟨rfl,b_⟩
      have vA_:=vA.step b_
      have HB_ : Hid _:=HB.out.trans (b_.mono HB.out.size)
      clear vA HB b_ a0_ a1_ a2_ a3_ a4_ a5_ a6_ a7_ a8_ a9_
      have vA:=vA_
      have HB:=HB_
      clear vA_ HB_
      obtain ⟨a0_,a1_,a2_,a3_,a4_,a5_,a6_,a7_,a8_,a9_⟩:=vA.l10
      go_wp2_with fail
      refine Calls.mono (HV.out _ HB.out) ?_
      rintro e w6 ⟨rfl,b_⟩
      have vA_:=vA.step b_
      have HB_ : Hid _:=HB.out.trans (b_.mono HB.out.size)
      clear vA HB b_ a0_ a1_ a2_ a3_ a4_ a5_ a6_ a7_ a8_ a9_
      have vA:=vA_
      have HB:=HB_
      clear vA_ HB_
      obtain ⟨a0_,a1_,a2_,a3_,a4_,a5_,a6_,a7_,a8_,a9_⟩:=vA.l10
      go_wp2
      go_ret
      exact ⟨by rw [← HRES.out]; simp [hk0,hk7],HB.out⟩
end Go.Proofs.YtblahkhniabhiaaGreatDoor
