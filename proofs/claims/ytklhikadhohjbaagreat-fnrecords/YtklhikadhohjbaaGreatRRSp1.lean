/- May a record be? By the specification, kind by kind. Condition: no more than 2^21 of all. -/
import Derived.Test.YtklhikadhohjbaaGreatRA05
namespace Go.Proofs.YtklhikadhohjbaaGreat
open Go.RowKit
set_option linter.unusedVariables false
set_option linter.unusedSimpArgs false
set_option maxRecDepth 100000

set_option maxHeartbeats 8000000 in
theorem specRec0 (x y z u : Value) (m : MsD) (S : Nat → Prop) (w : World) (r : RdM w S m x y z u) (hl : szMs m ≤ 2097152) (hk : m.kind = 0) :
    Calls Tryz.prog 19 #[rcV m x y z u] w fun e w' => e = .returned (.bool (COk m)) ∧ Below w.heap.size w w' := by
  obtain ⟨r1, r2, r3, r4⟩ := r
  obtain ⟨a1, cap1, rfl⟩ := r1.sliceB
  obtain ⟨a2, cap2, rfl⟩ := r2.sliceB
  obtain ⟨a3, cap3, rfl, _⟩ := RdV.sliced r3
  obtain ⟨a4, cap4, rfl⟩ := r4.sliceB
  obtain ⟨kd, fr, to, rq, ⟨ok, ⟨op_, oq, od⟩, nm, ⟨tp, tq, td⟩, asn, ov⟩, ⟨rc, ⟨rp_, rq_, rd⟩, rv, es⟩, ⟨xs, xb, xn⟩, ⟨pk, ⟨pp, pq, pd⟩, pas, ⟨sp, sq, sd⟩⟩, cd, ⟨hp, hq, hd⟩⟩ := m
  unfold szMs at hl
  dsimp only at r1 r2 r3 r4 hl hk ⊢
  subst hk
  have HOP : Hid (∀ W, Below w.heap.size w W → _) := fun W hW => specZOp_any _ _ ⟨ok, (op_, oq, od), nm, (tp, tq, td), asn, ov⟩ S W (r1.step hW) (r2.step hW)
  have HRP : Hid (∀ W, Below w.heap.size w W → _) := fun W hW => specZRp_any _ ⟨rc, (rp_, rq_, rd), rv, es⟩ S W (r3.step hW)
  have HTX : Hid (∀ W, _) := fun W => specTxOk_any (xs, xb, xn) W
  have HPT : Hid (∀ W, Below w.heap.size w W → _) := fun W hW => specZPt_any _ ⟨pk, (pp, pq, pd), pas, (sp, sq, sd)⟩ S W (r4.step hW)
  have HHO : Hid (∀ W, _) := fun W => specHandleOk_any (hp, hq, hd) W
  have HNU : Hid (∀ (n : Int) (W : World), Calls Tryz.prog 56 #[.int .i64 n] W fun e w' => e = .returned (.bool (num n)) ∧ w' = W) := fun n W => specNum_w n W
  obtain ⟨res, hres⟩ : ∃ res, (decide (fr = 0) && (decide (rq = 0) && (zOp ⟨ok, (op_, oq, od), nm, (tp, tq, td), asn, ov⟩ && (decide (hp = 0 ∧ hq = 0 ∧ hd = false) && (zRp ⟨rc, (rp_, rq_, rd), rv, es⟩ && (decide (xs = 0 ∧ xb = 0 ∧ xn = 0) && (zPt ⟨pk, (pp, pq, pd), pas, (sp, sq, sd)⟩ && decide (cd = 0)))))))) = res := ⟨_, rfl⟩
  have hco : COk ⟨0, fr, to, rq, ⟨ok, (op_, oq, od), nm, (tp, tq, td), asn, ov⟩, ⟨rc, (rp_, rq_, rd), rv, es⟩, (xs, xb, xn), ⟨pk, (pp, pq, pd), pas, (sp, sq, sd)⟩, cd, (hp, hq, hd)⟩ = (decide (fr = 0) && (decide (rq = 0) && (zOp ⟨ok, (op_, oq, od), nm, (tp, tq, td), asn, ov⟩ && (decide (hp = 0 ∧ hq = 0 ∧ hd = false) && (zRp ⟨rc, (rp_, rq_, rd), rv, es⟩ && (decide (xs = 0 ∧ xb = 0 ∧ xn = 0) && (zPt ⟨pk, (pp, pq, pd), pas, (sp, sq, sd)⟩ && decide (cd = 0)))))))) := by
    simp [COk, CBody, callB, clB, isCd, zTx, tx0, noneOk, hd0]
  rw [hco, hres]
  clear hco
  clear r1 r2 r3 r4 hl
  try dsimp only at HOP HRP HPT ⊢
  have hE := fun W => neH_run hp hq 0 0 hd false W
  have hT := fun W => eqT_run xs xb xn 0 0 0 W
  generalize zOp ⟨ok, (op_, oq, od), nm, (tp, tq, td), asn, ov⟩ = bo at HOP hres
  generalize zRp ⟨rc, (rp_, rq_, rd), rv, es⟩ = br at HRP hres
  generalize TOk (xs, xb, xn) = bt at HTX hres
  generalize zPt ⟨pk, (pp, pq, pd), pas, (sp, sq, sd)⟩ = bp at HPT hres
  generalize HOk (hp, hq, hd) = bh at HHO hres
  generalize decide (hp = 0 ∧ hq = 0 ∧ hd = false) = bf at hE hres
  generalize decide (xs = 0 ∧ xb = 0 ∧ xn = 0) = bz at hT hres
  generalize nm.length = n1 at *
  generalize asn.length = n2 at *
  generalize es.length = n3 at *
  generalize pas.length = n4 at *
  have HRES : Hid _ := hres
  clear hres
  by_cases hA : fr = 0 ∧ rq = 0 ∧ 0 ≤ cd ∧ cd ≤ 11
  case neg =>
    have HF : Hid (res = false) := by
      rw [← HRES.out]; show _ = _
      rw [Bool.eq_false_iff]; intro h
      apply hA
      clear hA HNU HTX HHO HOP HRP HPT hE hT HRES
      simp only [Bool.and_eq_true, Bool.or_eq_true, decide_eq_true_eq] at h
      refine ⟨?_, ?_, ?_, ?_⟩ <;> first | omega | (simp_all; done) | (simp_all; omega)
    rw [HF.out]
    clear HRES HF hE hT HTX HHO HOP HRP HPT
    go_enter Tryz.func19, Tryz.ntmps19
    go_wp2_with fail
    all_goals first | (go_ret; exact ⟨rfl, Below.newH _⟩) | (exfalso; apply hA; simp_all; done) | (exfalso; apply hA; simp_all; omega)
  obtain ⟨hA1, hA2, hA3, hA4⟩ := hA
  subst hA1; subst hA2
  go_enter Tryz.func19, Tryz.ntmps19
  go_wp2_with fail
  refine Calls.mono (HOP.out _ (Below.newH _)) ?_
  rintro e w' ⟨rfl, b_⟩
  have vA : VarA w' w.heap.size 47 #[.int .i64 0, .int .i64 0, .int .i64 0, .int .i64 ok, .int .i64 op_, .int .i64 oq, .bool od, .slice a1 n1 cap1, .int .i64 tp, .int .i64 tq, .bool td, .slice a2 n2 cap2, .int .i64 ov, .int .i64 hp, .int .i64 hq, .bool hd, .int .i64 rc, .int .i64 rp_, .int .i64 rq_, .bool rd, .int .i64 rv, .slice a3 n3 cap3, .int .i64 xs, .int .i64 xb, .int .i64 xn, .int .i64 pk, .int .i64 pp, .int .i64 pq, .bool pd, .slice a4 n4 cap4, .int .i64 sp, .int .i64 sq, .bool sd, .int .i64 cd] := VarA.step (VarA.new w _ _) b_; have HB : Hid (Below w.heap.size w w') := (Below.newH (w := w) _).trans (b_.mono (by simp)); clear b_; obtain ⟨a0_, a1_, a2_, a3_, a4_, a5_, a6_, a7_, a8_, a9_, a10_, a11_, a12_, a13_, a14_, a15_, a16_, a17_, a18_, a19_, a20_, a21_, a22_, a23_, a24_, a25_, a26_, a27_, a28_, a29_, a30_, a31_, a32_, a33_⟩ := vA.l34
  go_wp2_with (go_at_call 59; refine Calls.mono (HRP.out _ HB.out) ?_; rintro e w' ⟨rfl, b_⟩; have vA_ := vA.step b_; have HB_ : Hid _ := HB.out.trans (b_.mono HB.out.size); clear vA HB b_ a0_ a1_ a2_ a3_ a4_ a5_ a6_ a7_ a8_ a9_ a10_ a11_ a12_ a13_ a14_ a15_ a16_ a17_ a18_ a19_ a20_ a21_ a22_ a23_ a24_ a25_ a26_ a27_ a28_ a29_ a30_ a31_ a32_ a33_; have vA := vA_; have HB := HB_; clear vA_ HB_; obtain ⟨a0_, a1_, a2_, a3_, a4_, a5_, a6_, a7_, a8_, a9_, a10_, a11_, a12_, a13_, a14_, a15_, a16_, a17_, a18_, a19_, a20_, a21_, a22_, a23_, a24_, a25_, a26_, a27_, a28_, a29_, a30_, a31_, a32_, a33_⟩ := vA.l34)
  all_goals first
    | (clear HOP HRP HTX HPT HHO HNU hE hT; go_ret; refine ⟨?_, HB.out⟩; rw [← HRES.out]; clear HRES; first | rfl | (simp_all; done) | (simp_all; omega) | (simp_all; rw [Bool.eq_iff_iff]; simp; done) | (simp_all; rw [Bool.eq_iff_iff]; simp; omega))
    | (have hlt_ := vA.lt
       haveI := VarA.ne vA
       have k0_ := Cls.cell hlt_ a0_
       have k22_ := Cls.cell hlt_ a22_
       have k23_ := Cls.cell hlt_ a23_
       have k24_ := Cls.cell hlt_ a24_
       cases bz
       all_goals
         refine wp_region_cls (by kernel_rfl) (by kernel_rfl) ?_
         repeat (go_big_quiet_step (fail))
         refine wpQuiet_nil ?_
         rintro w' ⟨⟨w', b_⟩, rfl⟩
         clear hlt_ this k0_ k22_ k23_ k24_
         have vA_ := vA.step b_; have HB_ : Hid _ := HB.out.trans (b_.mono HB.out.size); clear vA HB b_ a0_ a1_ a2_ a3_ a4_ a5_ a6_ a7_ a8_ a9_ a10_ a11_ a12_ a13_ a14_ a15_ a16_ a17_ a18_ a19_ a20_ a21_ a22_ a23_ a24_ a25_ a26_ a27_ a28_ a29_ a30_ a31_ a32_ a33_; have vA := vA_; have HB := HB_; clear vA_ HB_; obtain ⟨a0_, a1_, a2_, a3_, a4_, a5_, a6_, a7_, a8_, a9_, a10_, a11_, a12_, a13_, a14_, a15_, a16_, a17_, a18_, a19_, a20_, a21_, a22_, a23_, a24_, a25_, a26_, a27_, a28_, a29_, a30_, a31_, a32_, a33_⟩ := vA.l34
         go_wp2_with (first | (go_at_call 62; refine Calls.mono (HPT.out _ HB.out) ?_; rintro e w' ⟨rfl, b_⟩; have vA_ := vA.step b_; have HB_ : Hid _ := HB.out.trans (b_.mono HB.out.size); clear vA HB b_ a0_ a1_ a2_ a3_ a4_ a5_ a6_ a7_ a8_ a9_ a10_ a11_ a12_ a13_ a14_ a15_ a16_ a17_ a18_ a19_ a20_ a21_ a22_ a23_ a24_ a25_ a26_ a27_ a28_ a29_ a30_ a31_ a32_ a33_; have vA := vA_; have HB := HB_; clear vA_ HB_; obtain ⟨a0_, a1_, a2_, a3_, a4_, a5_, a6_, a7_, a8_, a9_, a10_, a11_, a12_, a13_, a14_, a15_, a16_, a17_, a18_, a19_, a20_, a21_, a22_, a23_, a24_, a25_, a26_, a27_, a28_, a29_, a30_, a31_, a32_, a33_⟩ := vA.l34) | (go_at_call 63; refine Calls.mono (HHO.out _) ?_; rintro e w' ⟨rfl, b_⟩; have vA_ := vA.step b_; have HB_ : Hid _ := HB.out.trans (b_.mono HB.out.size); clear vA HB b_ a0_ a1_ a2_ a3_ a4_ a5_ a6_ a7_ a8_ a9_ a10_ a11_ a12_ a13_ a14_ a15_ a16_ a17_ a18_ a19_ a20_ a21_ a22_ a23_ a24_ a25_ a26_ a27_ a28_ a29_ a30_ a31_ a32_ a33_; have vA := vA_; have HB := HB_; clear vA_ HB_; obtain ⟨a0_, a1_, a2_, a3_, a4_, a5_, a6_, a7_, a8_, a9_, a10_, a11_, a12_, a13_, a14_, a15_, a16_, a17_, a18_, a19_, a20_, a21_, a22_, a23_, a24_, a25_, a26_, a27_, a28_, a29_, a30_, a31_, a32_, a33_⟩ := vA.l34))
         all_goals (clear HOP HRP HTX HPT HHO HNU hE hT; go_ret; refine ⟨?_, HB.out⟩; rw [← HRES.out]; clear HRES; first | rfl | (simp_all; done) | (simp_all; omega) | (simp_all; rw [Bool.eq_iff_iff]; simp; done) | (simp_all; rw [Bool.eq_iff_iff]; simp; omega)))
set_option maxHeartbeats 8000000 in
theorem specRec4 (x y z u : Value) (m : MsD) (S : Nat → Prop) (w : World) (r : RdM w S m x y z u) (hl : szMs m ≤ 2097152) (hk : m.kind = 4) :
    Calls Tryz.prog 19 #[rcV m x y z u] w fun e w' => e = .returned (.bool (COk m)) ∧ Below w.heap.size w w' := by
  obtain ⟨r1, r2, r3, r4⟩ := r
  obtain ⟨a1, cap1, rfl⟩ := r1.sliceB
  obtain ⟨a2, cap2, rfl⟩ := r2.sliceB
  obtain ⟨a3, cap3, rfl, _⟩ := RdV.sliced r3
  obtain ⟨a4, cap4, rfl⟩ := r4.sliceB
  obtain ⟨kd, fr, to, rq, ⟨ok, ⟨op_, oq, od⟩, nm, ⟨tp, tq, td⟩, asn, ov⟩, ⟨rc, ⟨rp_, rq_, rd⟩, rv, es⟩, ⟨xs, xb, xn⟩, ⟨pk, ⟨pp, pq, pd⟩, pas, ⟨sp, sq, sd⟩⟩, cd, ⟨hp, hq, hd⟩⟩ := m
  unfold szMs at hl
  dsimp only at r1 r2 r3 r4 hl hk ⊢
  subst hk
  have HOP : Hid (∀ W, Below w.heap.size w W → _) := fun W hW => specZOp_any _ _ ⟨ok, (op_, oq, od), nm, (tp, tq, td), asn, ov⟩ S W (r1.step hW) (r2.step hW)
  have HRP : Hid (∀ W, Below w.heap.size w W → _) := fun W hW => specZRp_any _ ⟨rc, (rp_, rq_, rd), rv, es⟩ S W (r3.step hW)
  have HTX : Hid (∀ W, _) := fun W => specTxOk_any (xs, xb, xn) W
  have HPT : Hid (∀ W, Below w.heap.size w W → _) := fun W hW => specZPt_any _ ⟨pk, (pp, pq, pd), pas, (sp, sq, sd)⟩ S W (r4.step hW)
  have HHO : Hid (∀ W, _) := fun W => specHandleOk_any (hp, hq, hd) W
  have HNU : Hid (∀ (n : Int) (W : World), Calls Tryz.prog 56 #[.int .i64 n] W fun e w' => e = .returned (.bool (num n)) ∧ w' = W) := fun n W => specNum_w n W
  obtain ⟨res, hres⟩ : ∃ res, ((TOk (xs, xb, xn) && (decide (cd = 0) || decide (cd = 1))) && (decide (fr = 0) && (decide (rq = 0) && (zOp ⟨ok, (op_, oq, od), nm, (tp, tq, td), asn, ov⟩ && (decide (hp = 0 ∧ hq = 0 ∧ hd = false) && (zRp ⟨rc, (rp_, rq_, rd), rv, es⟩ && zPt ⟨pk, (pp, pq, pd), pas, (sp, sq, sd)⟩)))))) = res := ⟨_, rfl⟩
  have hco : COk ⟨4, fr, to, rq, ⟨ok, (op_, oq, od), nm, (tp, tq, td), asn, ov⟩, ⟨rc, (rp_, rq_, rd), rv, es⟩, (xs, xb, xn), ⟨pk, (pp, pq, pd), pas, (sp, sq, sd)⟩, cd, (hp, hq, hd)⟩ = ((TOk (xs, xb, xn) && (decide (cd = 0) || decide (cd = 1))) && (decide (fr = 0) && (decide (rq = 0) && (zOp ⟨ok, (op_, oq, od), nm, (tp, tq, td), asn, ov⟩ && (decide (hp = 0 ∧ hq = 0 ∧ hd = false) && (zRp ⟨rc, (rp_, rq_, rd), rv, es⟩ && zPt ⟨pk, (pp, pq, pd), pas, (sp, sq, sd)⟩)))))) := by
    simp [COk, CBody, callB, clB, isCd, zTx, tx0, noneOk, hd0]
  rw [hco, hres]
  clear hco
  clear r1 r2 r3 r4 hl
  try dsimp only at HOP HRP HPT ⊢
  have hE := fun W => neH_run hp hq 0 0 hd false W
  have hT := fun W => eqT_run xs xb xn 0 0 0 W
  generalize zOp ⟨ok, (op_, oq, od), nm, (tp, tq, td), asn, ov⟩ = bo at HOP hres
  generalize zRp ⟨rc, (rp_, rq_, rd), rv, es⟩ = br at HRP hres
  generalize TOk (xs, xb, xn) = bt at HTX hres
  generalize zPt ⟨pk, (pp, pq, pd), pas, (sp, sq, sd)⟩ = bp at HPT hres
  generalize HOk (hp, hq, hd) = bh at HHO hres
  generalize decide (hp = 0 ∧ hq = 0 ∧ hd = false) = bf at hE hres
  generalize decide (xs = 0 ∧ xb = 0 ∧ xn = 0) = bz at hT hres
  generalize nm.length = n1 at *
  generalize asn.length = n2 at *
  generalize es.length = n3 at *
  generalize pas.length = n4 at *
  have HRES : Hid _ := hres
  clear hres
  by_cases hA : fr = 0 ∧ rq = 0 ∧ 0 ≤ cd ∧ cd ≤ 11
  case neg =>
    have HF : Hid (res = false) := by
      rw [← HRES.out]; show _ = _
      rw [Bool.eq_false_iff]; intro h
      apply hA
      clear hA HNU HTX HHO HOP HRP HPT hE hT HRES
      simp only [Bool.and_eq_true, Bool.or_eq_true, decide_eq_true_eq] at h
      refine ⟨?_, ?_, ?_, ?_⟩ <;> first | omega | (simp_all; done) | (simp_all; omega)
    rw [HF.out]
    clear HRES HF hE hT HTX HHO HOP HRP HPT
    go_enter Tryz.func19, Tryz.ntmps19
    go_wp2_with fail
    all_goals first | (go_ret; exact ⟨rfl, Below.newH _⟩) | (exfalso; apply hA; simp_all; done) | (exfalso; apply hA; simp_all; omega)
  obtain ⟨hA1, hA2, hA3, hA4⟩ := hA
  subst hA1; subst hA2
  go_enter Tryz.func19, Tryz.ntmps19
  go_wp2_with fail
  refine Calls.mono (HOP.out _ (Below.newH _)) ?_
  rintro e w' ⟨rfl, b_⟩
  have vA : VarA w' w.heap.size 47 #[.int .i64 4, .int .i64 0, .int .i64 0, .int .i64 ok, .int .i64 op_, .int .i64 oq, .bool od, .slice a1 n1 cap1, .int .i64 tp, .int .i64 tq, .bool td, .slice a2 n2 cap2, .int .i64 ov, .int .i64 hp, .int .i64 hq, .bool hd, .int .i64 rc, .int .i64 rp_, .int .i64 rq_, .bool rd, .int .i64 rv, .slice a3 n3 cap3, .int .i64 xs, .int .i64 xb, .int .i64 xn, .int .i64 pk, .int .i64 pp, .int .i64 pq, .bool pd, .slice a4 n4 cap4, .int .i64 sp, .int .i64 sq, .bool sd, .int .i64 cd] := VarA.step (VarA.new w _ _) b_; have HB : Hid (Below w.heap.size w w') := (Below.newH (w := w) _).trans (b_.mono (by simp)); clear b_; obtain ⟨a0_, a1_, a2_, a3_, a4_, a5_, a6_, a7_, a8_, a9_, a10_, a11_, a12_, a13_, a14_, a15_, a16_, a17_, a18_, a19_, a20_, a21_, a22_, a23_, a24_, a25_, a26_, a27_, a28_, a29_, a30_, a31_, a32_, a33_⟩ := vA.l34
  go_wp2_with (go_at_call 59; refine Calls.mono (HRP.out _ HB.out) ?_; rintro e w' ⟨rfl, b_⟩; have vA_ := vA.step b_; have HB_ : Hid _ := HB.out.trans (b_.mono HB.out.size); clear vA HB b_ a0_ a1_ a2_ a3_ a4_ a5_ a6_ a7_ a8_ a9_ a10_ a11_ a12_ a13_ a14_ a15_ a16_ a17_ a18_ a19_ a20_ a21_ a22_ a23_ a24_ a25_ a26_ a27_ a28_ a29_ a30_ a31_ a32_ a33_; have vA := vA_; have HB := HB_; clear vA_ HB_; obtain ⟨a0_, a1_, a2_, a3_, a4_, a5_, a6_, a7_, a8_, a9_, a10_, a11_, a12_, a13_, a14_, a15_, a16_, a17_, a18_, a19_, a20_, a21_, a22_, a23_, a24_, a25_, a26_, a27_, a28_, a29_, a30_, a31_, a32_, a33_⟩ := vA.l34)
  all_goals first
    | (clear HOP HRP HTX HPT HHO HNU hE hT; go_ret; refine ⟨?_, HB.out⟩; rw [← HRES.out]; clear HRES; first | rfl | (simp_all; done) | (simp_all; omega) | (simp_all; rw [Bool.eq_iff_iff]; simp; done) | (simp_all; rw [Bool.eq_iff_iff]; simp; omega))
    | (have hlt_ := vA.lt
       haveI := VarA.ne vA
       have k0_ := Cls.cell hlt_ a0_
       have k22_ := Cls.cell hlt_ a22_
       have k23_ := Cls.cell hlt_ a23_
       have k24_ := Cls.cell hlt_ a24_
       cases bz
       all_goals
         refine wp_region_cls (by kernel_rfl) (by kernel_rfl) ?_
         repeat (go_big_quiet_step (fail))
         refine wpQuiet_nil ?_
         rintro w' ⟨⟨w', b_⟩, rfl⟩
         clear hlt_ this k0_ k22_ k23_ k24_
         have vA_ := vA.step b_; have HB_ : Hid _ := HB.out.trans (b_.mono HB.out.size); clear vA HB b_ a0_ a1_ a2_ a3_ a4_ a5_ a6_ a7_ a8_ a9_ a10_ a11_ a12_ a13_ a14_ a15_ a16_ a17_ a18_ a19_ a20_ a21_ a22_ a23_ a24_ a25_ a26_ a27_ a28_ a29_ a30_ a31_ a32_ a33_; have vA := vA_; have HB := HB_; clear vA_ HB_; obtain ⟨a0_, a1_, a2_, a3_, a4_, a5_, a6_, a7_, a8_, a9_, a10_, a11_, a12_, a13_, a14_, a15_, a16_, a17_, a18_, a19_, a20_, a21_, a22_, a23_, a24_, a25_, a26_, a27_, a28_, a29_, a30_, a31_, a32_, a33_⟩ := vA.l34
         go_wp2_with (first | (go_at_call 60; refine Calls.mono (HTX.out _) ?_; rintro e w' ⟨rfl, b_⟩; have vA_ := vA.step b_; have HB_ : Hid _ := HB.out.trans (b_.mono HB.out.size); clear vA HB b_ a0_ a1_ a2_ a3_ a4_ a5_ a6_ a7_ a8_ a9_ a10_ a11_ a12_ a13_ a14_ a15_ a16_ a17_ a18_ a19_ a20_ a21_ a22_ a23_ a24_ a25_ a26_ a27_ a28_ a29_ a30_ a31_ a32_ a33_; have vA := vA_; have HB := HB_; clear vA_ HB_; obtain ⟨a0_, a1_, a2_, a3_, a4_, a5_, a6_, a7_, a8_, a9_, a10_, a11_, a12_, a13_, a14_, a15_, a16_, a17_, a18_, a19_, a20_, a21_, a22_, a23_, a24_, a25_, a26_, a27_, a28_, a29_, a30_, a31_, a32_, a33_⟩ := vA.l34) | (go_at_call 62; refine Calls.mono (HPT.out _ HB.out) ?_; rintro e w' ⟨rfl, b_⟩; have vA_ := vA.step b_; have HB_ : Hid _ := HB.out.trans (b_.mono HB.out.size); clear vA HB b_ a0_ a1_ a2_ a3_ a4_ a5_ a6_ a7_ a8_ a9_ a10_ a11_ a12_ a13_ a14_ a15_ a16_ a17_ a18_ a19_ a20_ a21_ a22_ a23_ a24_ a25_ a26_ a27_ a28_ a29_ a30_ a31_ a32_ a33_; have vA := vA_; have HB := HB_; clear vA_ HB_; obtain ⟨a0_, a1_, a2_, a3_, a4_, a5_, a6_, a7_, a8_, a9_, a10_, a11_, a12_, a13_, a14_, a15_, a16_, a17_, a18_, a19_, a20_, a21_, a22_, a23_, a24_, a25_, a26_, a27_, a28_, a29_, a30_, a31_, a32_, a33_⟩ := vA.l34) | (go_at_call 63; refine Calls.mono (HHO.out _) ?_; rintro e w' ⟨rfl, b_⟩; have vA_ := vA.step b_; have HB_ : Hid _ := HB.out.trans (b_.mono HB.out.size); clear vA HB b_ a0_ a1_ a2_ a3_ a4_ a5_ a6_ a7_ a8_ a9_ a10_ a11_ a12_ a13_ a14_ a15_ a16_ a17_ a18_ a19_ a20_ a21_ a22_ a23_ a24_ a25_ a26_ a27_ a28_ a29_ a30_ a31_ a32_ a33_; have vA := vA_; have HB := HB_; clear vA_ HB_; obtain ⟨a0_, a1_, a2_, a3_, a4_, a5_, a6_, a7_, a8_, a9_, a10_, a11_, a12_, a13_, a14_, a15_, a16_, a17_, a18_, a19_, a20_, a21_, a22_, a23_, a24_, a25_, a26_, a27_, a28_, a29_, a30_, a31_, a32_, a33_⟩ := vA.l34))
         all_goals (clear HOP HRP HTX HPT HHO HNU hE hT; go_ret; refine ⟨?_, HB.out⟩; rw [← HRES.out]; clear HRES; first | rfl | (simp_all; done) | (simp_all; omega) | (simp_all; rw [Bool.eq_iff_iff]; simp; done) | (simp_all; rw [Bool.eq_iff_iff]; simp; omega)))
end Go.Proofs.YtklhikadhohjbaaGreat
