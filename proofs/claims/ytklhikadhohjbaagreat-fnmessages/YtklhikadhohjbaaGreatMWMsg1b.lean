/- May a message be? By the specification, kind by kind. Condition: no more than 2^21 of all. -/
import Derived.Test.YtklhikadhohjbaaGreatMA04
namespace Go.Proofs.YtklhikadhohjbaaGreat
open Go.RowKit
set_option linter.unusedVariables false
set_option linter.unusedSimpArgs false
set_option maxRecDepth 100000

set_option maxHeartbeats 64000000 in
theorem specMsgA (x y z u : Value) (m : MsD) (S : Nat → Prop) (w : World) (r : RdM w S m x y z u) (hl : szMs m ≤ 2097152) (k : Int) (hk8 : k = 0 ∨ k = 1 ∨ k = 2 ∨ k = 3) (hk : m.kind = k) :
  Calls Tryz.prog 11 #[msV m x y z u] w fun e w' => e = .returned (.bool (MOk m)) ∧ Below w.heap.size w w' := by
 obtain ⟨r1, r2, r3, r4⟩ := r
 obtain ⟨a1, cap1, rfl⟩ := r1.sliceB
 obtain ⟨a2, cap2, rfl⟩ := r2.sliceB
 obtain ⟨a3, cap3, rfl, _⟩ := RdV.sliced r3
 obtain ⟨a4, cap4, rfl⟩ := r4.sliceB
 obtain ⟨kd, fr, to, rq, ⟨ok, ⟨op_, oq, od⟩, nm, ⟨tp, tq, td⟩, asn, ov⟩, ⟨rc, ⟨rp_, rq_, rd⟩, rv, es⟩, ⟨xs, xb, xn⟩, ⟨pk, ⟨pp, pq, pd⟩, pas, ⟨sp, sq, sd⟩⟩, cd, ⟨hp, hq, hd⟩⟩ := m
 unfold szMs at hl
 dsimp only at r1 r2 r3 r4 hl hk ⊢
 subst hk
 have HOP : Hid (∀ W, Below w.heap.size w W → _) := fun W hW => specOpOk_any _ _ ⟨ok, (op_, oq, od), nm, (tp, tq, td), asn, ov⟩ S W (r1.step hW) (r2.step hW) (by dsimp only; omega) (by dsimp only; omega)
 have HZO : Hid (∀ W, Below w.heap.size w W → _) := fun W hW => specZOp_any _ _ ⟨ok, (op_, oq, od), nm, (tp, tq, td), asn, ov⟩ S W (r1.step hW) (r2.step hW)
 have HRP : Hid (∀ W, Below w.heap.size w W → _) := fun W hW => specReplyOk_any _ ⟨rc, (rp_, rq_, rd), rv, es⟩ S W (r3.step hW) (by dsimp only; omega)
 have HZR : Hid (∀ W, Below w.heap.size w W → _) := fun W hW => specZRp_any _ ⟨rc, (rp_, rq_, rd), rv, es⟩ S W (r3.step hW)
 have HTX : Hid (∀ W, _) := fun W => specTxOk_any (xs, xb, xn) W
 have HPT : Hid (∀ W, Below w.heap.size w W → _) := fun W hW => specPartOk_any _ ⟨pk, (pp, pq, pd), pas, (sp, sq, sd)⟩ S W (r4.step hW) (by dsimp only; omega)
 have HZP : Hid (∀ W, Below w.heap.size w W → _) := fun W hW => specZPt_any _ ⟨pk, (pp, pq, pd), pas, (sp, sq, sd)⟩ S W (r4.step hW)
 have HHO : Hid (∀ W, _) := fun W => specHandleOk_any (hp, hq, hd) W
 have HNU : Hid (∀ (n : Int) (W : World), Calls Tryz.prog 56 #[.i n] W fun e w' => e = .returned (.bool (num n)) ∧ w' = W) := fun n W => specNum_w n W
 have HEN : Hid (∀ (n : Int) (W : World), Calls Tryz.prog 55 #[.i n] W fun e w' => e = .returned (.bool (isEndB n)) ∧ w' = W) := fun n W => specNode_w n W
 have HNT : Hid (zOp ⟨ok, (op_, oq, od), nm, (tp, tq, td), asn, ov⟩ = true → OOk ⟨ok, (op_, oq, od), nm, (tp, tq, td), asn, ov⟩ = false) := zOp_not
 obtain ⟨res, hres⟩ : ∃ res, MOk ⟨kd, fr, to, rq, ⟨ok, (op_, oq, od), nm, (tp, tq, td), asn, ov⟩, ⟨rc, (rp_, rq_, rd), rv, es⟩, (xs, xb, xn), ⟨pk, (pp, pq, pd), pas, (sp, sq, sd)⟩, cd, (hp, hq, hd)⟩ = res := ⟨_, rfl⟩
 rw [hres]
 rcases hk8 with rfl | rfl | rfl | rfl
 all_goals
  simp [MOk, MBody, isCd, zTx, tx0, noneOk, hd0] at hres
  clear r1 r2 r3 r4 hl
  try dsimp only at HOP HZO HRP HZR HPT HZP ⊢
  generalize OOk ⟨ok, (op_, oq, od), nm, (tp, tq, td), asn, ov⟩ = bo at HOP HNT hres
  generalize zOp ⟨ok, (op_, oq, od), nm, (tp, tq, td), asn, ov⟩ = zo at HZO HNT hres
  generalize ROk ⟨rc, (rp_, rq_, rd), rv, es⟩ = br at HRP hres
  generalize zRp ⟨rc, (rp_, rq_, rd), rv, es⟩ = zr at HZR hres
  generalize TOk (xs, xb, xn) = bt at HTX hres
  generalize POk ⟨pk, (pp, pq, pd), pas, (sp, sq, sd)⟩ = bp at HPT hres
  generalize zPt ⟨pk, (pp, pq, pd), pas, (sp, sq, sd)⟩ = zp at HZP hres
  generalize HOk (hp, hq, hd) = bh at HHO hres
  generalize nm.length = n1 at *
  generalize asn.length = n2 at *
  generalize es.length = n3 at *
  generalize pas.length = n4 at *
  have HRES : Hid _ := hres
  clear hres
  have hE := fun W => eqH_run hp hq 0 0 hd false W
  have hT := fun W => neT_run xs xb xn 0 0 0 W
  by_cases hA : isEndB fr = true ∧ isEndB to = true ∧ num rq = true ∧ 0 ≤ cd ∧ cd ≤ 11
  case neg =>
   have HF : Hid (res = false) := by
    rw [← HRES.out]; show _ = _
    rw [Bool.eq_false_iff]; intro h
    have hn0 : num 0 = true := by decide
    apply hA
    clear hA HNU HEN HNT HTX HHO HOP HZO HRP HZR HPT HZP hE hT HRES
    simp only [Bool.and_eq_true, Bool.or_eq_true, decide_eq_true_eq] at h
    refine ⟨?_, ?_, ?_, ?_, ?_⟩ <;> first | omega | (simp_all; done) | (simp_all; omega)
   rw [HF.out]
   clear HRES HF HNT hE hT
   go_enter Tryz.func11, Tryz.ntmps11
   go_wp2_with fail
   refine Calls.mono (HEN.out _ _) ?_
   rintro e w2 ⟨rfl, hw2⟩
   have vA := vaOf hw2
   have HB : Hid (Below w.heap.size w w2) := by rw [hw2]; exact Below.newH _
   clear hw2
   obtain ⟨a0_, a1_, a2_, a3_, a4_, a5_, a6_, a7_, a8_, a9_, a10_, a11_, a12_, a13_, a14_, a15_, a16_, a17_, a18_, a19_, a20_, a21_, a22_, a23_, a24_, a25_, a26_, a27_, a28_, a29_, a30_, a31_, a32_, a33_, a34_⟩ := vA.l35
   go_wp2_with (first | (go_at_call 55; refine Calls.mono (HEN.out _ _) ?_; rintro e w' ⟨rfl, rfl⟩) | (go_at_call 56; refine Calls.mono (HNU.out _ _) ?_; rintro e w' ⟨rfl, rfl⟩))
   all_goals first | (go_ret; exact ⟨rfl, HB.out⟩) | (exfalso; apply hA; simp_all; done) | (exfalso; apply hA; simp_all; omega)
  obtain ⟨hA1, hA2, hA3, hA4, hA5⟩ := hA
  try simp only [hA1, hA2, hA3, Bool.true_and] at HRES
  cases bo with
  | false =>
   go_enter Tryz.func11, Tryz.ntmps11
   go_wp2_with fail
   refine Calls.mono (HEN.out _ _) ?_
   rintro e w2 ⟨rfl, hw2⟩
   have vA := vaOf hw2
   have HB : Hid (Below w.heap.size w w2) := by rw [hw2]; exact Below.newH _
   clear hw2
   obtain ⟨a0_, a1_, a2_, a3_, a4_, a5_, a6_, a7_, a8_, a9_, a10_, a11_, a12_, a13_, a14_, a15_, a16_, a17_, a18_, a19_, a20_, a21_, a22_, a23_, a24_, a25_, a26_, a27_, a28_, a29_, a30_, a31_, a32_, a33_, a34_⟩ := vA.l35
   go_wp2_with (first | (go_at_call 55; refine Calls.mono (HEN.out _ _) ?_; rintro e w' ⟨rfl, rfl⟩) | (go_at_call 56; refine Calls.mono (HNU.out _ _) ?_; rintro e w' ⟨rfl, rfl⟩))
   have hlt_ := vA.lt
   haveI := VarA.ne vA
   have k0_ := Cls.cell hlt_ a0_
   have k4_ := Cls.cell hlt_ a4_
   have k5_ := Cls.cell hlt_ a5_
   have k6_ := Cls.cell hlt_ a6_
   have k7_ := Cls.cell hlt_ a7_
   have k8_ := Cls.cell hlt_ a8_
   have k9_ := Cls.cell hlt_ a9_
   have k10_ := Cls.cell hlt_ a10_
   have k11_ := Cls.cell hlt_ a11_
   have k12_ := Cls.cell hlt_ a12_
   have k13_ := Cls.cell hlt_ a13_
   refine wp_region_cls (by kernel_rfl) (by kernel_rfl) ?_
   repeat (go_big_quiet_step (first | (go_at_call 26; exact Calls.cls (HOP.out _ (HB.out.trans ((Cls.h _).mono HB.out.size)))) | (go_at_call 57; exact Calls.cls (HZO.out _ (HB.out.trans ((Cls.h _).mono HB.out.size))))))
   refine wpQuiet_nil ?_
   rintro w' ⟨⟨w', b_⟩, rfl⟩
   clear hlt_ this k0_ k4_ k5_ k6_ k7_ k8_ k9_ k10_ k11_ k12_ k13_
   have vA_ := vA.step b_
   have HB_ : Hid _ := HB.out.trans (b_.mono HB.out.size)
   clear vA HB b_ a0_ a1_ a2_ a3_ a4_ a5_ a6_ a7_ a8_ a9_ a10_ a11_ a12_ a13_ a14_ a15_ a16_ a17_ a18_ a19_ a20_ a21_ a22_ a23_ a24_ a25_ a26_ a27_ a28_ a29_ a30_ a31_ a32_ a33_ a34_
   have vA := vA_
   have HB := HB_
   clear vA_ HB_
   obtain ⟨a0_, a1_, a2_, a3_, a4_, a5_, a6_, a7_, a8_, a9_, a10_, a11_, a12_, a13_, a14_, a15_, a16_, a17_, a18_, a19_, a20_, a21_, a22_, a23_, a24_, a25_, a26_, a27_, a28_, a29_, a30_, a31_, a32_, a33_, a34_⟩ := vA.l35
   go_wp2_with (first | ((first | (go_at_call 26; refine Calls.mono (HOP.out _ HB.out) ?_) | (go_at_call 57; refine Calls.mono (HZO.out _ HB.out) ?_) | (go_at_call 58; refine Calls.mono (HRP.out _ HB.out) ?_) | (go_at_call 59; refine Calls.mono (HZR.out _ HB.out) ?_) | (go_at_call 61; refine Calls.mono (HPT.out _ HB.out) ?_) | (go_at_call 62; refine Calls.mono (HZP.out _ HB.out) ?_)); rintro e w' ⟨rfl, b_⟩; have vA_ := vA.step b_; have HB_ : Hid _ := HB.out.trans (b_.mono HB.out.size); clear vA HB b_ a0_ a1_ a2_ a3_ a4_ a5_ a6_ a7_ a8_ a9_ a10_ a11_ a12_ a13_ a14_ a15_ a16_ a17_ a18_ a19_ a20_ a21_ a22_ a23_ a24_ a25_ a26_ a27_ a28_ a29_ a30_ a31_ a32_ a33_ a34_; have vA := vA_; have HB := HB_; clear vA_ HB_; obtain ⟨a0_, a1_, a2_, a3_, a4_, a5_, a6_, a7_, a8_, a9_, a10_, a11_, a12_, a13_, a14_, a15_, a16_, a17_, a18_, a19_, a20_, a21_, a22_, a23_, a24_, a25_, a26_, a27_, a28_, a29_, a30_, a31_, a32_, a33_, a34_⟩ := vA.l35) | (go_at_call 60; refine Calls.mono (HTX.out _) ?_; rintro e w' ⟨rfl, b_⟩; have vA_ := vA.step b_; have HB_ : Hid _ := HB.out.trans (b_.mono HB.out.size); clear vA HB b_ a0_ a1_ a2_ a3_ a4_ a5_ a6_ a7_ a8_ a9_ a10_ a11_ a12_ a13_ a14_ a15_ a16_ a17_ a18_ a19_ a20_ a21_ a22_ a23_ a24_ a25_ a26_ a27_ a28_ a29_ a30_ a31_ a32_ a33_ a34_; have vA := vA_; have HB := HB_; clear vA_ HB_; obtain ⟨a0_, a1_, a2_, a3_, a4_, a5_, a6_, a7_, a8_, a9_, a10_, a11_, a12_, a13_, a14_, a15_, a16_, a17_, a18_, a19_, a20_, a21_, a22_, a23_, a24_, a25_, a26_, a27_, a28_, a29_, a30_, a31_, a32_, a33_, a34_⟩ := vA.l35) | (go_at_call 63; refine Calls.mono (HHO.out _) ?_; rintro e w' ⟨rfl, b_⟩; have vA_ := vA.step b_; have HB_ : Hid _ := HB.out.trans (b_.mono HB.out.size); clear vA HB b_ a0_ a1_ a2_ a3_ a4_ a5_ a6_ a7_ a8_ a9_ a10_ a11_ a12_ a13_ a14_ a15_ a16_ a17_ a18_ a19_ a20_ a21_ a22_ a23_ a24_ a25_ a26_ a27_ a28_ a29_ a30_ a31_ a32_ a33_ a34_; have vA := vA_; have HB := HB_; clear vA_ HB_; obtain ⟨a0_, a1_, a2_, a3_, a4_, a5_, a6_, a7_, a8_, a9_, a10_, a11_, a12_, a13_, a14_, a15_, a16_, a17_, a18_, a19_, a20_, a21_, a22_, a23_, a24_, a25_, a26_, a27_, a28_, a29_, a30_, a31_, a32_, a33_, a34_⟩ := vA.l35))
   all_goals (clear HOP HZO HRP HZR HTX HPT HZP HHO HNU HEN; go_ret; refine ⟨?_, HB.out⟩; rw [← HRES.out]; clear HRES; first | rfl | (simp_all; done) | (simp_all; omega) | (simp_all; rw [Bool.eq_iff_iff]; simp; done))
  | true =>
   have hzo : zo = false := by cases zo with
    | false => rfl
    | true => exact absurd (HNT.out rfl) (by simp)
   subst hzo
   go_enter Tryz.func11, Tryz.ntmps11
   go_wp2_with fail
   refine Calls.mono (HEN.out _ _) ?_
   rintro e w2 ⟨rfl, hw2⟩
   have vA := vaOf hw2
   have HB : Hid (Below w.heap.size w w2) := by rw [hw2]; exact Below.newH _
   clear hw2
   obtain ⟨a0_, a1_, a2_, a3_, a4_, a5_, a6_, a7_, a8_, a9_, a10_, a11_, a12_, a13_, a14_, a15_, a16_, a17_, a18_, a19_, a20_, a21_, a22_, a23_, a24_, a25_, a26_, a27_, a28_, a29_, a30_, a31_, a32_, a33_, a34_⟩ := vA.l35
   go_wp2_with (first | (go_at_call 55; refine Calls.mono (HEN.out _ _) ?_; rintro e w' ⟨rfl, rfl⟩) | (go_at_call 56; refine Calls.mono (HNU.out _ _) ?_; rintro e w' ⟨rfl, rfl⟩))
   have hlt_ := vA.lt
   haveI := VarA.ne vA
   have k0_ := Cls.cell hlt_ a0_
   have k4_ := Cls.cell hlt_ a4_
   have k5_ := Cls.cell hlt_ a5_
   have k6_ := Cls.cell hlt_ a6_
   have k7_ := Cls.cell hlt_ a7_
   have k8_ := Cls.cell hlt_ a8_
   have k9_ := Cls.cell hlt_ a9_
   have k10_ := Cls.cell hlt_ a10_
   have k11_ := Cls.cell hlt_ a11_
   have k12_ := Cls.cell hlt_ a12_
   have k13_ := Cls.cell hlt_ a13_
   refine wp_region_cls (by kernel_rfl) (by kernel_rfl) ?_
   repeat (go_big_quiet_step (first | (go_at_call 26; exact Calls.cls (HOP.out _ (HB.out.trans ((Cls.h _).mono HB.out.size)))) | (go_at_call 57; exact Calls.cls (HZO.out _ (HB.out.trans ((Cls.h _).mono HB.out.size))))))
   refine wpQuiet_nil ?_
   rintro w' ⟨⟨w', b_⟩, rfl⟩
   clear hlt_ this k0_ k4_ k5_ k6_ k7_ k8_ k9_ k10_ k11_ k12_ k13_
   have vA_ := vA.step b_
   have HB_ : Hid _ := HB.out.trans (b_.mono HB.out.size)
   clear vA HB b_ a0_ a1_ a2_ a3_ a4_ a5_ a6_ a7_ a8_ a9_ a10_ a11_ a12_ a13_ a14_ a15_ a16_ a17_ a18_ a19_ a20_ a21_ a22_ a23_ a24_ a25_ a26_ a27_ a28_ a29_ a30_ a31_ a32_ a33_ a34_
   have vA := vA_
   have HB := HB_
   clear vA_ HB_
   obtain ⟨a0_, a1_, a2_, a3_, a4_, a5_, a6_, a7_, a8_, a9_, a10_, a11_, a12_, a13_, a14_, a15_, a16_, a17_, a18_, a19_, a20_, a21_, a22_, a23_, a24_, a25_, a26_, a27_, a28_, a29_, a30_, a31_, a32_, a33_, a34_⟩ := vA.l35
   go_wp2_with (first | ((first | (go_at_call 26; refine Calls.mono (HOP.out _ HB.out) ?_) | (go_at_call 57; refine Calls.mono (HZO.out _ HB.out) ?_) | (go_at_call 58; refine Calls.mono (HRP.out _ HB.out) ?_) | (go_at_call 59; refine Calls.mono (HZR.out _ HB.out) ?_) | (go_at_call 61; refine Calls.mono (HPT.out _ HB.out) ?_) | (go_at_call 62; refine Calls.mono (HZP.out _ HB.out) ?_)); rintro e w' ⟨rfl, b_⟩; have vA_ := vA.step b_; have HB_ : Hid _ := HB.out.trans (b_.mono HB.out.size); clear vA HB b_ a0_ a1_ a2_ a3_ a4_ a5_ a6_ a7_ a8_ a9_ a10_ a11_ a12_ a13_ a14_ a15_ a16_ a17_ a18_ a19_ a20_ a21_ a22_ a23_ a24_ a25_ a26_ a27_ a28_ a29_ a30_ a31_ a32_ a33_ a34_; have vA := vA_; have HB := HB_; clear vA_ HB_; obtain ⟨a0_, a1_, a2_, a3_, a4_, a5_, a6_, a7_, a8_, a9_, a10_, a11_, a12_, a13_, a14_, a15_, a16_, a17_, a18_, a19_, a20_, a21_, a22_, a23_, a24_, a25_, a26_, a27_, a28_, a29_, a30_, a31_, a32_, a33_, a34_⟩ := vA.l35) | (go_at_call 60; refine Calls.mono (HTX.out _) ?_; rintro e w' ⟨rfl, b_⟩; have vA_ := vA.step b_; have HB_ : Hid _ := HB.out.trans (b_.mono HB.out.size); clear vA HB b_ a0_ a1_ a2_ a3_ a4_ a5_ a6_ a7_ a8_ a9_ a10_ a11_ a12_ a13_ a14_ a15_ a16_ a17_ a18_ a19_ a20_ a21_ a22_ a23_ a24_ a25_ a26_ a27_ a28_ a29_ a30_ a31_ a32_ a33_ a34_; have vA := vA_; have HB := HB_; clear vA_ HB_; obtain ⟨a0_, a1_, a2_, a3_, a4_, a5_, a6_, a7_, a8_, a9_, a10_, a11_, a12_, a13_, a14_, a15_, a16_, a17_, a18_, a19_, a20_, a21_, a22_, a23_, a24_, a25_, a26_, a27_, a28_, a29_, a30_, a31_, a32_, a33_, a34_⟩ := vA.l35) | (go_at_call 63; refine Calls.mono (HHO.out _) ?_; rintro e w' ⟨rfl, b_⟩; have vA_ := vA.step b_; have HB_ : Hid _ := HB.out.trans (b_.mono HB.out.size); clear vA HB b_ a0_ a1_ a2_ a3_ a4_ a5_ a6_ a7_ a8_ a9_ a10_ a11_ a12_ a13_ a14_ a15_ a16_ a17_ a18_ a19_ a20_ a21_ a22_ a23_ a24_ a25_ a26_ a27_ a28_ a29_ a30_ a31_ a32_ a33_ a34_; have vA := vA_; have HB := HB_; clear vA_ HB_; obtain ⟨a0_, a1_, a2_, a3_, a4_, a5_, a6_, a7_, a8_, a9_, a10_, a11_, a12_, a13_, a14_, a15_, a16_, a17_, a18_, a19_, a20_, a21_, a22_, a23_, a24_, a25_, a26_, a27_, a28_, a29_, a30_, a31_, a32_, a33_, a34_⟩ := vA.l35))
   all_goals (clear HOP HZO HRP HZR HTX HPT HZP HHO HNU HEN; go_ret; refine ⟨?_, HB.out⟩; rw [← HRES.out]; clear HRES; first | rfl | (simp_all; done) | (simp_all; omega) | (simp_all; rw [Bool.eq_iff_iff]; simp; done))
end Go.Proofs.YtklhikadhohjbaaGreat
