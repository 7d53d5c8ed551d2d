/- What the program asks of a record by its kind. Condition: no more than 2^21 of all. -/
import Derived.Test.YtmjfnmlfamikgaaRDat
import Derived.Test.YtmjfnmlfamikgaaWMsg3
import Derived.Test.YtmjfnmlfamikgaaVarL
import Derived.Test.YtmjfnmlfamikgaaOpOks2
namespace Go.Proofs.Ytmjfnmlfamikgaa
open Go.RowKit
set_option linter.unusedVariables false
set_option linter.unusedSimpArgs false
set_option maxRecDepth 100000

theorem implClient_w (n : Int) (w : World) : Calls Try.prog 102 #[.int .i64 n] w fun e w' => e = .returned (.bool (clB n)) ∧ w' = w := by
  go_enter Try.func102, Try.ntmps102
  go_wp2
  all_goals (go_ret; exact ⟨by first | rfl | (simp_all [clB]; done) | (simp_all [clB]; omega), rfl⟩)
theorem implFlag_r (n : Int) (w : World) : Calls Try.prog 74 #[.int .i64 n] w fun e w' => e = .returned (.bool (decide (n = 0) || decide (n = 1))) ∧ w' = w := by
  go_enter Try.func74, Try.ntmps74
  go_wp2
  all_goals (go_ret; exact ⟨by first | rfl | (simp_all; done) | (simp_all; omega) | (simp_all; rw [Bool.eq_iff_iff]; simp; done), rfl⟩)
set_option maxHeartbeats 8000000 in
theorem callOk_any (x y z u : Value) (m : MsD) (S : Nat → Prop) (w : World) (r : RdM w S m x y z u) (hl : szMs m ≤ 2097152) :
    Calls Try.prog 69 #[rcV m x y z u] w fun e w' => e = .returned (.bool (callB m)) ∧ Below w.heap.size w w' := by
  obtain ⟨r1, r2, r3, r4⟩ := r
  obtain ⟨a1, cap1, rfl⟩ := r1.sliceB
  obtain ⟨a2, cap2, rfl⟩ := r2.sliceB
  obtain ⟨a3, cap3, rfl, _⟩ := RdV.sliced r3
  obtain ⟨a4, cap4, rfl⟩ := r4.sliceB
  obtain ⟨kd, fr, to, rq, ⟨ok, ⟨op_, oq, od⟩, nm, ⟨tp, tq, td⟩, asn, ov⟩, ⟨rc, ⟨rp_, rq_, rd⟩, rv, es⟩, ⟨xs, xb, xn⟩, ⟨pk, ⟨pp, pq, pd⟩, pas, ⟨sp, sq, sd⟩⟩, cd, ⟨hp, hq, hd⟩⟩ := m
  unfold szMs at hl
  dsimp only at r1 r2 r3 r4 hl ⊢
  have HOP : Hid (∀ W, Below w.heap.size w W → _) := fun W hW => implOpOk_any _ _ ⟨ok, (op_, oq, od), nm, (tp, tq, td), asn, ov⟩ S W (r1.step hW) (r2.step hW) (by dsimp only; omega) (by dsimp only; omega)
  have HRP : Hid (∀ W, Below w.heap.size w W → _) := fun W hW => implReplyOk_any _ ⟨rc, (rp_, rq_, rd), rv, es⟩ S W (r3.step hW) (by dsimp only; omega)
  have HCL : Hid (∀ (n : Int) (W : World), Calls Try.prog 102 #[.int .i64 n] W fun e w' => e = .returned (.bool (clB n)) ∧ w' = W) := fun n W => implClient_w n W
  have HNU : Hid (∀ (n : Int) (W : World), Calls Try.prog 103 #[.int .i64 n] W fun e w' => e = .returned (.bool (num n)) ∧ w' = W) := fun n W => isNumber_any n W
  obtain ⟨res, hres⟩ : ∃ res, callB ⟨kd, fr, to, rq, ⟨ok, (op_, oq, od), nm, (tp, tq, td), asn, ov⟩, ⟨rc, (rp_, rq_, rd), rv, es⟩, (xs, xb, xn), ⟨pk, (pp, pq, pd), pas, (sp, sq, sd)⟩, cd, (hp, hq, hd)⟩ = res := ⟨_, rfl⟩
  rw [hres]
  simp only [callB] at hres
  clear r1 r2 r3 r4 hl
  try dsimp only at HOP HRP ⊢
  generalize OOk ⟨ok, (op_, oq, od), nm, (tp, tq, td), asn, ov⟩ = bo at HOP hres
  generalize ROk ⟨rc, (rp_, rq_, rd), rv, es⟩ = br at HRP hres
  generalize nm.length = n1 at *
  generalize asn.length = n2 at *
  generalize es.length = n3 at *
  generalize pas.length = n4 at *
  have HRES : Hid _ := hres
  clear hres
  go_enter Try.func69, Try.ntmps69
  go_wp2_with (first | (go_at_call 102; refine Calls.mono (HCL.out _ _) ?_; rintro e w' ⟨rfl, rfl⟩) | (go_at_call 103; refine Calls.mono (HNU.out _ _) ?_; rintro e w' ⟨rfl, rfl⟩))
  all_goals first
    | (clear HOP HRP HCL HNU; go_ret; refine ⟨?_, Below.newH _⟩; rw [← HRES.out]; clear HRES; first | rfl | (simp_all; done) | (simp_all; omega) | (simp_all; rw [Bool.eq_iff_iff]; simp; done))
    | (refine Calls.mono (HOP.out _ (Below.newH _)) ?_
       rintro e w' ⟨rfl, b_⟩
       have vA : VarA w' w.heap.size 48 #[.int .i64 kd, .int .i64 fr, .int .i64 rq, .int .i64 ok, .int .i64 op_, .int .i64 oq, .bool od, .slice a1 n1 cap1, .int .i64 tp, .int .i64 tq, .bool td, .slice a2 n2 cap2, .int .i64 ov, .int .i64 hp, .int .i64 hq, .bool hd, .int .i64 rc, .int .i64 rp_, .int .i64 rq_, .bool rd, .int .i64 rv, .slice a3 n3 cap3, .int .i64 xs, .int .i64 xb, .int .i64 xn, .int .i64 pk, .int .i64 pp, .int .i64 pq, .bool pd, .slice a4 n4 cap4, .int .i64 sp, .int .i64 sq, .bool sd, .int .i64 cd] := VarA.step (VarA.new w _ _) b_; have HB : Hid (Below w.heap.size w w') := (Below.newH (w := w) _).trans (b_.mono (by simp)); clear b_; obtain ⟨a0_, a1_, a2_, a3_, a4_, a5_, a6_, a7_, a8_, a9_, a10_, a11_, a12_, a13_, a14_, a15_, a16_, a17_, a18_, a19_, a20_, a21_, a22_, a23_, a24_, a25_, a26_, a27_, a28_, a29_, a30_, a31_, a32_, a33_⟩ := vA.l34
       go_wp2_with (go_at_call 105; refine Calls.mono (HRP.out _ HB.out) ?_; rintro e w' ⟨rfl, b_⟩; have vA_ := vA.step b_; have HB_ : Hid _ := HB.out.trans (b_.mono HB.out.size); clear vA HB b_ a0_ a1_ a2_ a3_ a4_ a5_ a6_ a7_ a8_ a9_ a10_ a11_ a12_ a13_ a14_ a15_ a16_ a17_ a18_ a19_ a20_ a21_ a22_ a23_ a24_ a25_ a26_ a27_ a28_ a29_ a30_ a31_ a32_ a33_; have vA := vA_; have HB := HB_; clear vA_ HB_; obtain ⟨a0_, a1_, a2_, a3_, a4_, a5_, a6_, a7_, a8_, a9_, a10_, a11_, a12_, a13_, a14_, a15_, a16_, a17_, a18_, a19_, a20_, a21_, a22_, a23_, a24_, a25_, a26_, a27_, a28_, a29_, a30_, a31_, a32_, a33_⟩ := vA.l34)
       all_goals (clear HOP HRP HCL HNU; go_ret; refine ⟨?_, HB.out⟩; rw [← HRES.out]; clear HRES; first | rfl | (simp_all; done) | (simp_all; omega) | (simp_all; rw [Bool.eq_iff_iff]; simp; done)))
set_option maxHeartbeats 4000000 in
theorem hasOk0 (m : MsD) (a1 a2 a3 a4 : Option Addr) (n1 n2 n3 n4 c1 c2 c3 c4 : Nat) (S : Nat → Prop) (w : World) (r : RdM w S m (.slice a1 n1 c1) (.slice a2 n2 c2) (.slice a3 n3 c3) (.slice a4 n4 c4)) (hl : szMs m ≤ 2097152) (hk : m.kind = 0) :
    Calls Try.prog 38 #[rcV m (.slice a1 n1 c1) (.slice a2 n2 c2) (.slice a3 n3 c3) (.slice a4 n4 c4)] w fun e w' => e = .returned (.bool true) ∧ Below w.heap.size w w' := by
  obtain ⟨r1, r2, r3, r4⟩ := r
  unfold szMs at hl
  have HT : Hid (∀ (a b c : Int) (W : World), Calls Try.prog 71 #[.agg #[.int .i64 a, .int .i64 b, .int .i64 c]] W fun e w' => e = .returned (.bool (TOk (a, b, c))) ∧ w' = W.alloc (.cells #[.int .i64 a, .int .i64 b, .int .i64 c] 44)) := fun a b c W => implTxOk_w (a, b, c) W
  have HC : Hid (∀ (n : Int) (W : World), Calls Try.prog 73 #[.int .i64 n] W fun e w' => e = .returned (.bool (isCd n)) ∧ w' = W) := fun n W => implCode_w n W
  have HFL : Hid (∀ (n : Int) (W : World), Calls Try.prog 74 #[.int .i64 n] W fun e w' => e = .returned (.bool (decide (n = 0) || decide (n = 1))) ∧ w' = W) := fun n W => implFlag_r n W
  have HN : Hid (∀ (p q : Int) (d : Bool) (W : World), Calls Try.prog 70 #[.agg #[.int .i64 p, .int .i64 q, .bool d]] W fun e w' => e = .returned (.bool (noneOk (p, q, d))) ∧ Below W.heap.size W w') := fun p q d W => implNone_any (p, q, d) W
  clear r1 r2 r3 r4 hl
  obtain ⟨kd, fr, to, rq, ⟨ok, ⟨op_, oq, od⟩, nm, ⟨tp, tq, td⟩, asn, ov⟩, ⟨rc, ⟨rp_, rq_, rd⟩, rv, es⟩, ⟨xs, xb, xn⟩, ⟨pk, ⟨pp, pq, pd⟩, pas, ⟨sp, sq, sd⟩⟩, cd, ⟨hp, hq, hd⟩⟩ := m
  dsimp only at hk ⊢
  subst hk
  go_enter Try.func38, Try.ntmps38
  go_wp2
  go_ret
  exact ⟨rfl, by repeat (first | exact Below.refl _ _ | refine Below.al ?_ _ | refine Below.drew ?_ | refine below_drewN2 ?_ _)⟩
set_option maxHeartbeats 4000000 in
theorem hasOk1 (m : MsD) (a1 a2 a3 a4 : Option Addr) (n1 n2 n3 n4 c1 c2 c3 c4 : Nat) (S : Nat → Prop) (w : World) (r : RdM w S m (.slice a1 n1 c1) (.slice a2 n2 c2) (.slice a3 n3 c3) (.slice a4 n4 c4)) (hl : szMs m ≤ 2097152) (hk : m.kind = 1) :
    Calls Try.prog 38 #[rcV m (.slice a1 n1 c1) (.slice a2 n2 c2) (.slice a3 n3 c3) (.slice a4 n4 c4)] w fun e w' => e = .returned (.bool (callB m && noneOk m.h)) ∧ Below w.heap.size w w' := by
  have HCA : Hid (∀ W, Below w.heap.size w W → _) := fun W hW => callOk_any _ _ _ _ m S W (r.step hW) hl
  generalize callB m = bc at HCA ⊢
  obtain ⟨r1, r2, r3, r4⟩ := r
  unfold szMs at hl
  have HT : Hid (∀ (a b c : Int) (W : World), Calls Try.prog 71 #[.agg #[.int .i64 a, .int .i64 b, .int .i64 c]] W fun e w' => e = .returned (.bool (TOk (a, b, c))) ∧ w' = W.alloc (.cells #[.int .i64 a, .int .i64 b, .int .i64 c] 44)) := fun a b c W => implTxOk_w (a, b, c) W
  have HC : Hid (∀ (n : Int) (W : World), Calls Try.prog 73 #[.int .i64 n] W fun e w' => e = .returned (.bool (isCd n)) ∧ w' = W) := fun n W => implCode_w n W
  have HFL : Hid (∀ (n : Int) (W : World), Calls Try.prog 74 #[.int .i64 n] W fun e w' => e = .returned (.bool (decide (n = 0) || decide (n = 1))) ∧ w' = W) := fun n W => implFlag_r n W
  have HN : Hid (∀ (p q : Int) (d : Bool) (W : World), Calls Try.prog 70 #[.agg #[.int .i64 p, .int .i64 q, .bool d]] W fun e w' => e = .returned (.bool (noneOk (p, q, d))) ∧ Below W.heap.size W w') := fun p q d W => implNone_any (p, q, d) W
  clear r1 r2 r3 r4 hl
  obtain ⟨kd, fr, to, rq, ⟨ok, ⟨op_, oq, od⟩, nm, ⟨tp, tq, td⟩, asn, ov⟩, ⟨rc, ⟨rp_, rq_, rd⟩, rv, es⟩, ⟨xs, xb, xn⟩, ⟨pk, ⟨pp, pq, pd⟩, pas, ⟨sp, sq, sd⟩⟩, cd, ⟨hp, hq, hd⟩⟩ := m
  dsimp only at hk HCA ⊢
  subst hk
  go_enter Try.func38, Try.ntmps38
  repeat (first | ((with_reducible refine guardLoad (ty := 48) ?_); refine wpList_loadA (VarA.new w _ _) rfl Try.underlying48 rfl (by kernel_rfl) ?_) | go_values | go_skip | go_guarded | go_step)
  refine Calls.mono (HCA.out _ (Below.newH _)) ?_
  rintro e w2 ⟨rfl, b_⟩
  have vA : VarA w2 w.heap.size 48 #[.int .i64 1, .int .i64 fr, .int .i64 rq, .int .i64 ok, .int .i64 op_, .int .i64 oq, .bool od, .slice a1 n1 c1, .int .i64 tp, .int .i64 tq, .bool td, .slice a2 n2 c2, .int .i64 ov, .int .i64 hp, .int .i64 hq, .bool hd, .int .i64 rc, .int .i64 rp_, .int .i64 rq_, .bool rd, .int .i64 rv, .slice a3 n3 c3, .int .i64 xs, .int .i64 xb, .int .i64 xn, .int .i64 pk, .int .i64 pp, .int .i64 pq, .bool pd, .slice a4 n4 c4, .int .i64 sp, .int .i64 sq, .bool sd, .int .i64 cd] := VarA.step (VarA.new w _ _) b_; have HB : Hid (Below w.heap.size w w2) := Below.trans (by repeat (first | exact Below.refl _ _ | refine Below.al ?_ _ | refine Below.drew ?_ | refine below_drewN2 ?_ _)) (b_.mono (by simp <;> omega)); clear b_; obtain ⟨a0_, a1_, a2_, a3_, a4_, a5_, a6_, a7_, a8_, a9_, a10_, a11_, a12_, a13_, a14_, a15_, a16_, a17_, a18_, a19_, a20_, a21_, a22_, a23_, a24_, a25_, a26_, a27_, a28_, a29_, a30_, a31_, a32_, a33_⟩ := vA.l34
  cases bc
  all_goals (go_wp2_with fail; all_goals first | (go_ret; refine ⟨?_, HB.out⟩; first | rfl | (simp_all; done) | (simp_all; omega)) | (refine Calls.mono (HN.out _ _ _ _) ?_; rintro e w3 ⟨rfl, b_⟩; go_wp2; all_goals (go_ret; refine ⟨?_, HB.out.trans (b_.mono HB.out.size)⟩; first | rfl | (simp_all; done) | (simp_all; omega))))
set_option maxHeartbeats 4000000 in
theorem hasOk2 (m : MsD) (a1 a2 a3 a4 : Option Addr) (n1 n2 n3 n4 c1 c2 c3 c4 : Nat) (S : Nat → Prop) (w : World) (r : RdM w S m (.slice a1 n1 c1) (.slice a2 n2 c2) (.slice a3 n3 c3) (.slice a4 n4 c4)) (hl : szMs m ≤ 2097152) (hk : m.kind = 2) :
    Calls Try.prog 38 #[rcV m (.slice a1 n1 c1) (.slice a2 n2 c2) (.slice a3 n3 c3) (.slice a4 n4 c4)] w fun e w' => e = .returned (.bool (TOk m.tx && (POk m.pt && (isCd m.code && noneOk m.h)))) ∧ Below w.heap.size w w' := by
  obtain ⟨r1, r2, r3, r4⟩ := r
  unfold szMs at hl
  have HPT : Hid (∀ W, Below w.heap.size w W → _) := fun W hW => implPartOk_any _ m.pt S W (r4.step hW) (by omega)
  generalize POk m.pt = bp at HPT ⊢
  have HT : Hid (∀ (a b c : Int) (W : World), Calls Try.prog 71 #[.agg #[.int .i64 a, .int .i64 b, .int .i64 c]] W fun e w' => e = .returned (.bool (TOk (a, b, c))) ∧ w' = W.alloc (.cells #[.int .i64 a, .int .i64 b, .int .i64 c] 44)) := fun a b c W => implTxOk_w (a, b, c) W
  have HC : Hid (∀ (n : Int) (W : World), Calls Try.prog 73 #[.int .i64 n] W fun e w' => e = .returned (.bool (isCd n)) ∧ w' = W) := fun n W => implCode_w n W
  have HFL : Hid (∀ (n : Int) (W : World), Calls Try.prog 74 #[.int .i64 n] W fun e w' => e = .returned (.bool (decide (n = 0) || decide (n = 1))) ∧ w' = W) := fun n W => implFlag_r n W
  have HN : Hid (∀ (p q : Int) (d : Bool) (W : World), Calls Try.prog 70 #[.agg #[.int .i64 p, .int .i64 q, .bool d]] W fun e w' => e = .returned (.bool (noneOk (p, q, d))) ∧ Below W.heap.size W w') := fun p q d W => implNone_any (p, q, d) W
  clear r1 r2 r3 r4 hl
  obtain ⟨kd, fr, to, rq, ⟨ok, ⟨op_, oq, od⟩, nm, ⟨tp, tq, td⟩, asn, ov⟩, ⟨rc, ⟨rp_, rq_, rd⟩, rv, es⟩, ⟨xs, xb, xn⟩, ⟨pk, ⟨pp, pq, pd⟩, pas, ⟨sp, sq, sd⟩⟩, cd, ⟨hp, hq, hd⟩⟩ := m
  dsimp only at hk HPT ⊢
  subst hk
  go_enter Try.func38, Try.ntmps38
  go_wp2_with (go_at_call 71; refine Calls.mono (HT.out _ _ _ _) ?_; rintro e w' ⟨rfl, rfl⟩)
  all_goals first | (go_ret; refine ⟨?_, by repeat (first | exact Below.refl _ _ | refine Below.al ?_ _ | refine Below.drew ?_ | refine below_drewN2 ?_ _)⟩; first | rfl | (simp_all; done) | (simp_all; omega)) | (refine Calls.mono (HPT.out _ (by repeat (first | exact Below.refl _ _ | refine Below.al ?_ _ | refine Below.drew ?_ | refine below_drewN2 ?_ _))) ?_; rintro e w2 ⟨rfl, b_⟩; have vA : VarA w2 w.heap.size 48 #[.int .i64 2, .int .i64 fr, .int .i64 rq, .int .i64 ok, .int .i64 op_, .int .i64 oq, .bool od, .slice a1 n1 c1, .int .i64 tp, .int .i64 tq, .bool td, .slice a2 n2 c2, .int .i64 ov, .int .i64 hp, .int .i64 hq, .bool hd, .int .i64 rc, .int .i64 rp_, .int .i64 rq_, .bool rd, .int .i64 rv, .slice a3 n3 c3, .int .i64 xs, .int .i64 xb, .int .i64 xn, .int .i64 pk, .int .i64 pp, .int .i64 pq, .bool pd, .slice a4 n4 c4, .int .i64 sp, .int .i64 sq, .bool sd, .int .i64 cd] := VarA.step ((VarA.new w _ _).alloc _) b_; have HB : Hid (Below w.heap.size w w2) := Below.trans (by repeat (first | exact Below.refl _ _ | refine Below.al ?_ _ | refine Below.drew ?_ | refine below_drewN2 ?_ _)) (b_.mono (by simp <;> omega)); clear b_; obtain ⟨a0_, a1_, a2_, a3_, a4_, a5_, a6_, a7_, a8_, a9_, a10_, a11_, a12_, a13_, a14_, a15_, a16_, a17_, a18_, a19_, a20_, a21_, a22_, a23_, a24_, a25_, a26_, a27_, a28_, a29_, a30_, a31_, a32_, a33_⟩ := vA.l34; go_wp2_with (go_at_call 73; refine Calls.mono (HC.out _ _) ?_; rintro e w' ⟨rfl, rfl⟩); all_goals first | (go_ret; refine ⟨?_, HB.out⟩; first | rfl | (simp_all; done) | (simp_all; omega)) | (refine Calls.mono (HN.out _ _ _ _) ?_; rintro e w3 ⟨rfl, b_⟩; go_wp2; all_goals (go_ret; refine ⟨?_, HB.out.trans (b_.mono HB.out.size)⟩; first | rfl | (simp_all; done) | (simp_all; omega))))
set_option maxHeartbeats 4000000 in
theorem hasOk3 (m : MsD) (a1 a2 a3 a4 : Option Addr) (n1 n2 n3 n4 c1 c2 c3 c4 : Nat) (S : Nat → Prop) (w : World) (r : RdM w S m (.slice a1 n1 c1) (.slice a2 n2 c2) (.slice a3 n3 c3) (.slice a4 n4 c4)) (hl : szMs m ≤ 2097152) (hk : m.kind = 3) :
    Calls Try.prog 38 #[rcV m (.slice a1 n1 c1) (.slice a2 n2 c2) (.slice a3 n3 c3) (.slice a4 n4 c4)] w fun e w' => e = .returned (.bool (callB m && (TOk m.tx && (decide (m.code = 0) || decide (m.code = 1))))) ∧ Below w.heap.size w w' := by
  have HCA : Hid (∀ W, Below w.heap.size w W → _) := fun W hW => callOk_any _ _ _ _ m S W (r.step hW) hl
  generalize callB m = bc at HCA ⊢
  obtain ⟨r1, r2, r3, r4⟩ := r
  unfold szMs at hl
  have HT : Hid (∀ (a b c : Int) (W : World), Calls Try.prog 71 #[.agg #[.int .i64 a, .int .i64 b, .int .i64 c]] W fun e w' => e = .returned (.bool (TOk (a, b, c))) ∧ w' = W.alloc (.cells #[.int .i64 a, .int .i64 b, .int .i64 c] 44)) := fun a b c W => implTxOk_w (a, b, c) W
  have HC : Hid (∀ (n : Int) (W : World), Calls Try.prog 73 #[.int .i64 n] W fun e w' => e = .returned (.bool (isCd n)) ∧ w' = W) := fun n W => implCode_w n W
  have HFL : Hid (∀ (n : Int) (W : World), Calls Try.prog 74 #[.int .i64 n] W fun e w' => e = .returned (.bool (decide (n = 0) || decide (n = 1))) ∧ w' = W) := fun n W => implFlag_r n W
  have HN : Hid (∀ (p q : Int) (d : Bool) (W : World), Calls Try.prog 70 #[.agg #[.int .i64 p, .int .i64 q, .bool d]] W fun e w' => e = .returned (.bool (noneOk (p, q, d))) ∧ Below W.heap.size W w') := fun p q d W => implNone_any (p, q, d) W
  clear r1 r2 r3 r4 hl
  obtain ⟨kd, fr, to, rq, ⟨ok, ⟨op_, oq, od⟩, nm, ⟨tp, tq, td⟩, asn, ov⟩, ⟨rc, ⟨rp_, rq_, rd⟩, rv, es⟩, ⟨xs, xb, xn⟩, ⟨pk, ⟨pp, pq, pd⟩, pas, ⟨sp, sq, sd⟩⟩, cd, ⟨hp, hq, hd⟩⟩ := m
  dsimp only at hk HCA ⊢
  subst hk
  go_enter Try.func38, Try.ntmps38
  repeat (first | ((with_reducible refine guardLoad (ty := 48) ?_); refine wpList_loadA (VarA.new w _ _) rfl Try.underlying48 rfl (by kernel_rfl) ?_) | go_values | go_skip | go_guarded | go_step)
  refine Calls.mono (HCA.out _ (Below.newH _)) ?_
  rintro e w2 ⟨rfl, b_⟩
  have vA : VarA w2 w.heap.size 48 #[.int .i64 3, .int .i64 fr, .int .i64 rq, .int .i64 ok, .int .i64 op_, .int .i64 oq, .bool od, .slice a1 n1 c1, .int .i64 tp, .int .i64 tq, .bool td, .slice a2 n2 c2, .int .i64 ov, .int .i64 hp, .int .i64 hq, .bool hd, .int .i64 rc, .int .i64 rp_, .int .i64 rq_, .bool rd, .int .i64 rv, .slice a3 n3 c3, .int .i64 xs, .int .i64 xb, .int .i64 xn, .int .i64 pk, .int .i64 pp, .int .i64 pq, .bool pd, .slice a4 n4 c4, .int .i64 sp, .int .i64 sq, .bool sd, .int .i64 cd] := VarA.step (VarA.new w _ _) b_; have HB : Hid (Below w.heap.size w w2) := Below.trans (by repeat (first | exact Below.refl _ _ | refine Below.al ?_ _ | refine Below.drew ?_ | refine below_drewN2 ?_ _)) (b_.mono (by simp <;> omega)); clear b_; obtain ⟨a0_, a1_, a2_, a3_, a4_, a5_, a6_, a7_, a8_, a9_, a10_, a11_, a12_, a13_, a14_, a15_, a16_, a17_, a18_, a19_, a20_, a21_, a22_, a23_, a24_, a25_, a26_, a27_, a28_, a29_, a30_, a31_, a32_, a33_⟩ := vA.l34
  cases bc
  all_goals (go_wp2_with (first | (go_at_call 71; refine Calls.mono (HT.out _ _ _ _) ?_; rintro e w' ⟨rfl, hw'⟩; have b_ : Below w2.heap.size w2 w' := (by rw [hw']; exact Below.newH _); clear hw'; have vA_ := vA.step b_; have HB_ : Hid _ := HB.out.trans (b_.mono HB.out.size); clear vA HB b_ a0_ a1_ a2_ a3_ a4_ a5_ a6_ a7_ a8_ a9_ a10_ a11_ a12_ a13_ a14_ a15_ a16_ a17_ a18_ a19_ a20_ a21_ a22_ a23_ a24_ a25_ a26_ a27_ a28_ a29_ a30_ a31_ a32_ a33_; have vA := vA_; have HB := HB_; clear vA_ HB_; obtain ⟨a0_, a1_, a2_, a3_, a4_, a5_, a6_, a7_, a8_, a9_, a10_, a11_, a12_, a13_, a14_, a15_, a16_, a17_, a18_, a19_, a20_, a21_, a22_, a23_, a24_, a25_, a26_, a27_, a28_, a29_, a30_, a31_, a32_, a33_⟩ := vA.l34) | (go_at_call 74; refine Calls.mono (HFL.out _ _) ?_; rintro e w' ⟨rfl, rfl⟩)); all_goals (go_ret; refine ⟨?_, HB.out⟩; first | rfl | (simp_all; done) | (simp_all; omega)))
set_option maxHeartbeats 4000000 in
theorem hasOk4 (m : MsD) (a1 a2 a3 a4 : Option Addr) (n1 n2 n3 n4 c1 c2 c3 c4 : Nat) (S : Nat → Prop) (w : World) (r : RdM w S m (.slice a1 n1 c1) (.slice a2 n2 c2) (.slice a3 n3 c3) (.slice a4 n4 c4)) (hl : szMs m ≤ 2097152) (hk : m.kind = 4) :
    Calls Try.prog 38 #[rcV m (.slice a1 n1 c1) (.slice a2 n2 c2) (.slice a3 n3 c3) (.slice a4 n4 c4)] w fun e w' => e = .returned (.bool (TOk m.tx && (decide (m.code = 0) || decide (m.code = 1)))) ∧ Below w.heap.size w w' := by
  obtain ⟨r1, r2, r3, r4⟩ := r
  unfold szMs at hl
  have HT : Hid (∀ (a b c : Int) (W : World), Calls Try.prog 71 #[.agg #[.int .i64 a, .int .i64 b, .int .i64 c]] W fun e w' => e = .returned (.bool (TOk (a, b, c))) ∧ w' = W.alloc (.cells #[.int .i64 a, .int .i64 b, .int .i64 c] 44)) := fun a b c W => implTxOk_w (a, b, c) W
  have HC : Hid (∀ (n : Int) (W : World), Calls Try.prog 73 #[.int .i64 n] W fun e w' => e = .returned (.bool (isCd n)) ∧ w' = W) := fun n W => implCode_w n W
  have HFL : Hid (∀ (n : Int) (W : World), Calls Try.prog 74 #[.int .i64 n] W fun e w' => e = .returned (.bool (decide (n = 0) || decide (n = 1))) ∧ w' = W) := fun n W => implFlag_r n W
  have HN : Hid (∀ (p q : Int) (d : Bool) (W : World), Calls Try.prog 70 #[.agg #[.int .i64 p, .int .i64 q, .bool d]] W fun e w' => e = .returned (.bool (noneOk (p, q, d))) ∧ Below W.heap.size W w') := fun p q d W => implNone_any (p, q, d) W
  clear r1 r2 r3 r4 hl
  obtain ⟨kd, fr, to, rq, ⟨ok, ⟨op_, oq, od⟩, nm, ⟨tp, tq, td⟩, asn, ov⟩, ⟨rc, ⟨rp_, rq_, rd⟩, rv, es⟩, ⟨xs, xb, xn⟩, ⟨pk, ⟨pp, pq, pd⟩, pas, ⟨sp, sq, sd⟩⟩, cd, ⟨hp, hq, hd⟩⟩ := m
  dsimp only at hk ⊢
  subst hk
  go_enter Try.func38, Try.ntmps38
  go_wp2_with (first | (go_at_call 71; refine Calls.mono (HT.out _ _ _ _) ?_; rintro e w' ⟨rfl, rfl⟩) | (go_at_call 74; refine Calls.mono (HFL.out _ _) ?_; rintro e w' ⟨rfl, rfl⟩))
  all_goals (go_ret; refine ⟨?_, by repeat (first | exact Below.refl _ _ | refine Below.al ?_ _ | refine Below.drew ?_ | refine below_drewN2 ?_ _)⟩; first | rfl | (simp_all; done) | (simp_all; omega))
end Go.Proofs.Ytmjfnmlfamikgaa
