/- Joined: WMsg5 WMsg6a. -/
import Derived.Test.YtaaongjnpnanmaaJ15
import Derived.Test.YtaaongjnpnanmaaJ08

section
/- What the program asks of a message by its kind. Condition: no more than 2^21 of all. -/
namespace Go.Proofs.Ytaaongjnpnanmaa
open Go.RowKit
set_option linter.unusedVariables false
set_option linter.unusedSimpArgs false
set_option maxRecDepth 100000

theorem implEnd_w (n : Int) (w : World) : Calls Try.prog 78 #[.int .i64 n] w fun e w' => e = .returned (.bool (isEndB n)) ∧ w' = w := by
  go_enter Try.func78, Try.ntmps78
  go_wp2
  all_goals (go_ret; exact ⟨by first | rfl | (simp_all [isEndB]; done) | (simp_all [isEndB]; omega), rfl⟩)
theorem implFlag_w (n : Int) (w : World) : Calls Try.prog 153 #[.int .i64 n] w fun e w' => e = .returned (.bool (decide (n = 0) || decide (n = 1))) ∧ w' = w := by
  go_enter Try.func153, Try.ntmps153
  go_wp2
  all_goals (go_ret; exact ⟨by first | rfl | (simp_all; done) | (simp_all; omega) | (simp_all; rw [Bool.eq_iff_iff]; simp; done), rfl⟩)
theorem VarA.l15 {w : World} {b : Nat} {T : TypeId} {x0 x1 x2 x3 x4 x5 x6 x7 x8 x9 x10 x11 x12 x13 x14 : Value} (h : VarA w b T #[x0, x1, x2, x3, x4, x5, x6, x7, x8, x9, x10, x11, x12, x13, x14]) : w.cell? ⟨b, 0, none⟩ = some x0 ∧ w.cell? ⟨b, 1, none⟩ = some x1 ∧ w.cell? ⟨b, 2, none⟩ = some x2 ∧ w.cell? ⟨b, 3, none⟩ = some x3 ∧ w.cell? ⟨b, 4, none⟩ = some x4 ∧ w.cell? ⟨b, 5, none⟩ = some x5 ∧ w.cell? ⟨b, 6, none⟩ = some x6 ∧ w.cell? ⟨b, 7, none⟩ = some x7 ∧ w.cell? ⟨b, 8, none⟩ = some x8 ∧ w.cell? ⟨b, 9, none⟩ = some x9 ∧ w.cell? ⟨b, 10, none⟩ = some x10 ∧ w.cell? ⟨b, 11, none⟩ = some x11 ∧ w.cell? ⟨b, 12, none⟩ = some x12 ∧ w.cell? ⟨b, 13, none⟩ = some x13 ∧ w.cell? ⟨b, 14, none⟩ = some x14 := ⟨h.c 0 rfl, h.c 1 rfl, h.c 2 rfl, h.c 3 rfl, h.c 4 rfl, h.c 5 rfl, h.c 6 rfl, h.c 7 rfl, h.c 8 rfl, h.c 9 rfl, h.c 10 rfl, h.c 11 rfl, h.c 12 rfl, h.c 13 rfl, h.c 14 rfl⟩
set_option maxHeartbeats 4000000 in
theorem okM0 (m : MsD) (a1 a2 a3 a4 : Option Addr) (n1 n2 n3 n4 c1 c2 c3 c4 : Nat) (S : Nat → Prop) (w : World) (r : RdM w S m (.slice a1 n1 c1) (.slice a2 n2 c2) (.slice a3 n3 c3) (.slice a4 n4 c4)) (hl : szMs m ≤ 2097152) :
    Calls Try.prog 143 #[.agg #[.int .i64 m.req, .int .i64 m.op.kind, .int .i64 m.op.dir.sh, .int .i64 m.op.dir.ino, .bool m.op.dir.dir, .slice a1 n1 c1, .int .i64 m.op.to.sh, .int .i64 m.op.to.ino, .bool m.op.to.dir, .slice a2 n2 c2, .int .i64 m.op.val]] w fun e w' => e = .returned (.bool (num m.req && OOk m.op)) ∧ Below w.heap.size w w' := by
  obtain ⟨r1, r2, r3, r4⟩ := r
  unfold szMs at hl
  have HU : Hid (∀ (n : Int) (W : World), Calls Try.prog 55 #[.int .i64 n] W fun e w' => e = .returned (.bool (num n)) ∧ w' = W) := fun n W => isNumber_any n W
  have HT : Hid (∀ (a b c : Int) (W : World), Calls Try.prog 16 #[.agg #[.int .i64 a, .int .i64 b, .int .i64 c]] W fun e w' => e = .returned (.bool (TOk (a, b, c))) ∧ w' = W.alloc (.cells #[.int .i64 a, .int .i64 b, .int .i64 c] 36)) := fun a b c W => implTxOk_w (a, b, c) W
  have HC : Hid (∀ (n : Int) (W : World), Calls Try.prog 67 #[.int .i64 n] W fun e w' => e = .returned (.bool (isCd n)) ∧ w' = W) := fun n W => implCode_w n W
  have HFL : Hid (∀ (n : Int) (W : World), Calls Try.prog 153 #[.int .i64 n] W fun e w' => e = .returned (.bool (decide (n = 0) || decide (n = 1))) ∧ w' = W) := fun n W => implFlag_w n W
  have HD : Hid (∀ (p q : Int) (d : Bool) (W : World), Calls Try.prog 62 #[.agg #[.int .i64 p, .int .i64 q, .bool d]] W fun e w' => e = .returned (.bool (HOk (p, q, d) && d)) ∧ w' = (W.alloc (.cells #[.int .i64 p, .int .i64 q, .bool d] 46)).alloc (.cells #[.int .i64 p, .int .i64 q, .bool d] 46)) := fun p q d W => implDir_w (p, q, d) W
  have HN : Hid (∀ (p q : Int) (d : Bool) (W : World), Calls Try.prog 68 #[.agg #[.int .i64 p, .int .i64 q, .bool d]] W fun e w' => e = .returned (.bool (noneOk (p, q, d))) ∧ Below W.heap.size W w') := fun p q d W => implNone_any (p, q, d) W
  have HO : Hid (∀ W, Below w.heap.size w W → _) := fun W hW => implOpOk_any _ _ m.op S W (r1.step hW) (r2.step hW) (by omega) (by omega)
  clear r1 r2 r3 r4 hl
  obtain ⟨kd, fr, to, rq, ⟨ok, ⟨op_, oq, od⟩, nm, ⟨tp, tq, td⟩, asn, ov⟩, ⟨rc, ⟨rp_, rq_, rd⟩, rv, es⟩, ⟨xs, xb, xn⟩, ⟨pk, ⟨pp, pq, pd⟩, pas, ⟨sp, sq, sd⟩⟩, cd, ⟨hp, hq, hd⟩⟩ := m
  dsimp only at HO ⊢
  go_enter Try.func143, Try.ntmps143
  go_wp2_with (first | (go_at_call 55; refine Calls.mono (HU.out _ _) ?_; rintro e w' ⟨rfl, rfl⟩))
  all_goals first | (go_ret; refine ⟨?_, by repeat (first | exact Below.refl _ _ | refine Below.al ?_ _ | refine Below.drew ?_ | refine below_drewN2 ?_ _)⟩; first | rfl | (simp_all; done) | (simp_all; omega)) | (refine Calls.mono (HO.out _ (by repeat (first | exact Below.refl _ _ | refine Below.al ?_ _ | refine Below.drew ?_ | refine below_drewN2 ?_ _))) ?_; rintro e w2 ⟨rfl, b_⟩; go_wp2; all_goals (go_ret; refine ⟨?_, Below.trans (by repeat (first | exact Below.refl _ _ | refine Below.al ?_ _ | refine Below.drew ?_ | refine below_drewN2 ?_ _)) (b_.mono (by simp <;> omega))⟩; first | rfl | (simp_all; done) | (simp_all; omega)))
set_option maxHeartbeats 4000000 in
theorem okM1 (m : MsD) (a1 a2 a3 a4 : Option Addr) (n1 n2 n3 n4 c1 c2 c3 c4 : Nat) (S : Nat → Prop) (w : World) (r : RdM w S m (.slice a1 n1 c1) (.slice a2 n2 c2) (.slice a3 n3 c3) (.slice a4 n4 c4)) (hl : szMs m ≤ 2097152) :
    Calls Try.prog 148 #[.agg #[.int .i64 m.req, .int .i64 m.rp.code, .int .i64 m.rp.h.sh, .int .i64 m.rp.h.ino, .bool m.rp.h.dir, .int .i64 m.rp.val, .slice a3 n3 c3]] w fun e w' => e = .returned (.bool (num m.req && ROk m.rp)) ∧ Below w.heap.size w w' := by
  obtain ⟨r1, r2, r3, r4⟩ := r
  unfold szMs at hl
  have HU : Hid (∀ (n : Int) (W : World), Calls Try.prog 55 #[.int .i64 n] W fun e w' => e = .returned (.bool (num n)) ∧ w' = W) := fun n W => isNumber_any n W
  have HT : Hid (∀ (a b c : Int) (W : World), Calls Try.prog 16 #[.agg #[.int .i64 a, .int .i64 b, .int .i64 c]] W fun e w' => e = .returned (.bool (TOk (a, b, c))) ∧ w' = W.alloc (.cells #[.int .i64 a, .int .i64 b, .int .i64 c] 36)) := fun a b c W => implTxOk_w (a, b, c) W
  have HC : Hid (∀ (n : Int) (W : World), Calls Try.prog 67 #[.int .i64 n] W fun e w' => e = .returned (.bool (isCd n)) ∧ w' = W) := fun n W => implCode_w n W
  have HFL : Hid (∀ (n : Int) (W : World), Calls Try.prog 153 #[.int .i64 n] W fun e w' => e = .returned (.bool (decide (n = 0) || decide (n = 1))) ∧ w' = W) := fun n W => implFlag_w n W
  have HD : Hid (∀ (p q : Int) (d : Bool) (W : World), Calls Try.prog 62 #[.agg #[.int .i64 p, .int .i64 q, .bool d]] W fun e w' => e = .returned (.bool (HOk (p, q, d) && d)) ∧ w' = (W.alloc (.cells #[.int .i64 p, .int .i64 q, .bool d] 46)).alloc (.cells #[.int .i64 p, .int .i64 q, .bool d] 46)) := fun p q d W => implDir_w (p, q, d) W
  have HN : Hid (∀ (p q : Int) (d : Bool) (W : World), Calls Try.prog 68 #[.agg #[.int .i64 p, .int .i64 q, .bool d]] W fun e w' => e = .returned (.bool (noneOk (p, q, d))) ∧ Below W.heap.size W w') := fun p q d W => implNone_any (p, q, d) W
  have HO : Hid (∀ W, Below w.heap.size w W → _) := fun W hW => implReplyOk_any _ m.rp S W (r3.step hW) (by omega)
  clear r1 r2 r3 r4 hl
  obtain ⟨kd, fr, to, rq, ⟨ok, ⟨op_, oq, od⟩, nm, ⟨tp, tq, td⟩, asn, ov⟩, ⟨rc, ⟨rp_, rq_, rd⟩, rv, es⟩, ⟨xs, xb, xn⟩, ⟨pk, ⟨pp, pq, pd⟩, pas, ⟨sp, sq, sd⟩⟩, cd, ⟨hp, hq, hd⟩⟩ := m
  dsimp only at HO ⊢
  go_enter Try.func148, Try.ntmps148
  go_wp2_with (first | (go_at_call 55; refine Calls.mono (HU.out _ _) ?_; rintro e w' ⟨rfl, rfl⟩))
  all_goals first | (go_ret; refine ⟨?_, by repeat (first | exact Below.refl _ _ | refine Below.al ?_ _ | refine Below.drew ?_ | refine below_drewN2 ?_ _)⟩; first | rfl | (simp_all; done) | (simp_all; omega)) | (refine Calls.mono (HO.out _ (by repeat (first | exact Below.refl _ _ | refine Below.al ?_ _ | refine Below.drew ?_ | refine below_drewN2 ?_ _))) ?_; rintro e w2 ⟨rfl, b_⟩; go_wp2; all_goals (go_ret; refine ⟨?_, Below.trans (by repeat (first | exact Below.refl _ _ | refine Below.al ?_ _ | refine Below.drew ?_ | refine below_drewN2 ?_ _)) (b_.mono (by simp <;> omega))⟩; first | rfl | (simp_all; done) | (simp_all; omega)))
set_option maxHeartbeats 4000000 in
theorem okM2 (m : MsD) (a1 a2 a3 a4 : Option Addr) (n1 n2 n3 n4 c1 c2 c3 c4 : Nat) (S : Nat → Prop) (w : World) (r : RdM w S m (.slice a1 n1 c1) (.slice a2 n2 c2) (.slice a3 n3 c3) (.slice a4 n4 c4)) (hl : szMs m ≤ 2097152) :
    Calls Try.prog 149 #[.agg #[.int .i64 m.tx.1, .int .i64 m.tx.2.1, .int .i64 m.tx.2.2, .int .i64 m.pt.kind, .int .i64 m.pt.h.sh, .int .i64 m.pt.h.ino, .bool m.pt.h.dir, .slice a4 n4 c4, .int .i64 m.pt.to.sh, .int .i64 m.pt.to.ino, .bool m.pt.to.dir]] w fun e w' => e = .returned (.bool (TOk m.tx && POk m.pt)) ∧ Below w.heap.size w w' := by
  obtain ⟨r1, r2, r3, r4⟩ := r
  unfold szMs at hl
  have HU : Hid (∀ (n : Int) (W : World), Calls Try.prog 55 #[.int .i64 n] W fun e w' => e = .returned (.bool (num n)) ∧ w' = W) := fun n W => isNumber_any n W
  have HT : Hid (∀ (a b c : Int) (W : World), Calls Try.prog 16 #[.agg #[.int .i64 a, .int .i64 b, .int .i64 c]] W fun e w' => e = .returned (.bool (TOk (a, b, c))) ∧ w' = W.alloc (.cells #[.int .i64 a, .int .i64 b, .int .i64 c] 36)) := fun a b c W => implTxOk_w (a, b, c) W
  have HC : Hid (∀ (n : Int) (W : World), Calls Try.prog 67 #[.int .i64 n] W fun e w' => e = .returned (.bool (isCd n)) ∧ w' = W) := fun n W => implCode_w n W
  have HFL : Hid (∀ (n : Int) (W : World), Calls Try.prog 153 #[.int .i64 n] W fun e w' => e = .returned (.bool (decide (n = 0) || decide (n = 1))) ∧ w' = W) := fun n W => implFlag_w n W
  have HD : Hid (∀ (p q : Int) (d : Bool) (W : World), Calls Try.prog 62 #[.agg #[.int .i64 p, .int .i64 q, .bool d]] W fun e w' => e = .returned (.bool (HOk (p, q, d) && d)) ∧ w' = (W.alloc (.cells #[.int .i64 p, .int .i64 q, .bool d] 46)).alloc (.cells #[.int .i64 p, .int .i64 q, .bool d] 46)) := fun p q d W => implDir_w (p, q, d) W
  have HN : Hid (∀ (p q : Int) (d : Bool) (W : World), Calls Try.prog 68 #[.agg #[.int .i64 p, .int .i64 q, .bool d]] W fun e w' => e = .returned (.bool (noneOk (p, q, d))) ∧ Below W.heap.size W w') := fun p q d W => implNone_any (p, q, d) W
  have HO : Hid (∀ W, Below w.heap.size w W → _) := fun W hW => implPartOk_any _ m.pt S W (r4.step hW) (by omega)
  clear r1 r2 r3 r4 hl
  obtain ⟨kd, fr, to, rq, ⟨ok, ⟨op_, oq, od⟩, nm, ⟨tp, tq, td⟩, asn, ov⟩, ⟨rc, ⟨rp_, rq_, rd⟩, rv, es⟩, ⟨xs, xb, xn⟩, ⟨pk, ⟨pp, pq, pd⟩, pas, ⟨sp, sq, sd⟩⟩, cd, ⟨hp, hq, hd⟩⟩ := m
  dsimp only at HO ⊢
  go_enter Try.func149, Try.ntmps149
  go_wp2_with (first | (go_at_call 16; refine Calls.mono (HT.out _ _ _ _) ?_; rintro e w' ⟨rfl, rfl⟩))
  all_goals first | (go_ret; refine ⟨?_, by repeat (first | exact Below.refl _ _ | refine Below.al ?_ _ | refine Below.drew ?_ | refine below_drewN2 ?_ _)⟩; first | rfl | (simp_all; done) | (simp_all; omega)) | (refine Calls.mono (HO.out _ (by repeat (first | exact Below.refl _ _ | refine Below.al ?_ _ | refine Below.drew ?_ | refine below_drewN2 ?_ _))) ?_; rintro e w2 ⟨rfl, b_⟩; go_wp2; all_goals (go_ret; refine ⟨?_, Below.trans (by repeat (first | exact Below.refl _ _ | refine Below.al ?_ _ | refine Below.drew ?_ | refine below_drewN2 ?_ _)) (b_.mono (by simp <;> omega))⟩; first | rfl | (simp_all; done) | (simp_all; omega)))
set_option maxHeartbeats 4000000 in
theorem okM3 (m : MsD) (a1 a2 a3 a4 : Option Addr) (n1 n2 n3 n4 c1 c2 c3 c4 : Nat) (S : Nat → Prop) (w : World) (r : RdM w S m (.slice a1 n1 c1) (.slice a2 n2 c2) (.slice a3 n3 c3) (.slice a4 n4 c4)) (hl : szMs m ≤ 2097152) :
    Calls Try.prog 150 #[.agg #[.int .i64 m.tx.1, .int .i64 m.tx.2.1, .int .i64 m.tx.2.2, .int .i64 m.pt.kind, .int .i64 m.pt.h.sh, .int .i64 m.pt.h.ino, .bool m.pt.h.dir, .slice a4 n4 c4, .int .i64 m.pt.to.sh, .int .i64 m.pt.to.ino, .bool m.pt.to.dir, .int .i64 m.code, .int .i64 m.h.sh, .int .i64 m.h.ino, .bool m.h.dir]] w fun e w' => e = .returned (.bool (TOk m.tx && (POk m.pt && (isCd m.code && noneOk m.h)))) ∧ Below w.heap.size w w' := by
  obtain ⟨r1, r2, r3, r4⟩ := r
  unfold szMs at hl
  have HU : Hid (∀ (n : Int) (W : World), Calls Try.prog 55 #[.int .i64 n] W fun e w' => e = .returned (.bool (num n)) ∧ w' = W) := fun n W => isNumber_any n W
  have HT : Hid (∀ (a b c : Int) (W : World), Calls Try.prog 16 #[.agg #[.int .i64 a, .int .i64 b, .int .i64 c]] W fun e w' => e = .returned (.bool (TOk (a, b, c))) ∧ w' = W.alloc (.cells #[.int .i64 a, .int .i64 b, .int .i64 c] 36)) := fun a b c W => implTxOk_w (a, b, c) W
  have HC : Hid (∀ (n : Int) (W : World), Calls Try.prog 67 #[.int .i64 n] W fun e w' => e = .returned (.bool (isCd n)) ∧ w' = W) := fun n W => implCode_w n W
  have HFL : Hid (∀ (n : Int) (W : World), Calls Try.prog 153 #[.int .i64 n] W fun e w' => e = .returned (.bool (decide (n = 0) || decide (n = 1))) ∧ w' = W) := fun n W => implFlag_w n W
  have HD : Hid (∀ (p q : Int) (d : Bool) (W : World), Calls Try.prog 62 #[.agg #[.int .i64 p, .int .i64 q, .bool d]] W fun e w' => e = .returned (.bool (HOk (p, q, d) && d)) ∧ w' = (W.alloc (.cells #[.int .i64 p, .int .i64 q, .bool d] 46)).alloc (.cells #[.int .i64 p, .int .i64 q, .bool d] 46)) := fun p q d W => implDir_w (p, q, d) W
  have HN : Hid (∀ (p q : Int) (d : Bool) (W : World), Calls Try.prog 68 #[.agg #[.int .i64 p, .int .i64 q, .bool d]] W fun e w' => e = .returned (.bool (noneOk (p, q, d))) ∧ Below W.heap.size W w') := fun p q d W => implNone_any (p, q, d) W
  have HO : Hid (∀ W, Below w.heap.size w W → _) := fun W hW => implPartOk_any _ m.pt S W (r4.step hW) (by omega)
  clear r1 r2 r3 r4 hl
  obtain ⟨kd, fr, to, rq, ⟨ok, ⟨op_, oq, od⟩, nm, ⟨tp, tq, td⟩, asn, ov⟩, ⟨rc, ⟨rp_, rq_, rd⟩, rv, es⟩, ⟨xs, xb, xn⟩, ⟨pk, ⟨pp, pq, pd⟩, pas, ⟨sp, sq, sd⟩⟩, cd, ⟨hp, hq, hd⟩⟩ := m
  dsimp only at HO ⊢
  go_enter Try.func150, Try.ntmps150
  go_wp2_with (first | (go_at_call 16; refine Calls.mono (HT.out _ _ _ _) ?_; rintro e w' ⟨rfl, rfl⟩))
  all_goals first | (go_ret; refine ⟨?_, by repeat (first | exact Below.refl _ _ | refine Below.al ?_ _ | refine Below.drew ?_ | refine below_drewN2 ?_ _)⟩; first | rfl | (simp_all; done) | (simp_all; omega)) | (refine Calls.mono (HO.out _ (by repeat (first | exact Below.refl _ _ | refine Below.al ?_ _ | refine Below.drew ?_ | refine below_drewN2 ?_ _))) ?_; rintro e w2 ⟨rfl, b_⟩; have vA : VarA w2 w.heap.size 147 #[.int .i64 xs, .int .i64 xb, .int .i64 xn, .int .i64 pk, .int .i64 pp, .int .i64 pq, .bool pd, .slice a4 n4 c4, .int .i64 sp, .int .i64 sq, .bool sd, .int .i64 cd, .int .i64 hp, .int .i64 hq, .bool hd] := VarA.step ((VarA.new w _ _).alloc _) b_; have HB : Hid (Below w.heap.size w w2) := Below.trans (by repeat (first | exact Below.refl _ _ | refine Below.al ?_ _ | refine Below.drew ?_ | refine below_drewN2 ?_ _)) (b_.mono (by simp <;> omega)); clear b_; obtain ⟨a0_, a1_, a2_, a3_, a4_, a5_, a6_, a7_, a8_, a9_, a10_, a11_, a12_, a13_, a14_⟩ := vA.l15; go_wp2_with (first | (go_at_call 67; refine Calls.mono (HC.out _ _) ?_; rintro e w' ⟨rfl, rfl⟩)); all_goals first | (go_ret; refine ⟨?_, HB.out⟩; first | rfl | (simp_all; done) | (simp_all; omega)) | (refine Calls.mono (HN.out _ _ _ _) ?_; rintro e w3 ⟨rfl, b_⟩; go_wp2; all_goals (go_ret; refine ⟨?_, HB.out.trans (b_.mono HB.out.size)⟩; first | rfl | (simp_all; done) | (simp_all; omega))))
set_option maxHeartbeats 4000000 in
theorem okM4 (m : MsD) (a1 a2 a3 a4 : Option Addr) (n1 n2 n3 n4 c1 c2 c3 c4 : Nat) (S : Nat → Prop) (w : World) (r : RdM w S m (.slice a1 n1 c1) (.slice a2 n2 c2) (.slice a3 n3 c3) (.slice a4 n4 c4)) (hl : szMs m ≤ 2097152) :
    Calls Try.prog 151 #[.agg #[.int .i64 m.tx.1, .int .i64 m.tx.2.1, .int .i64 m.tx.2.2]] w fun e w' => e = .returned (.bool (TOk m.tx)) ∧ Below w.heap.size w w' := by
  obtain ⟨r1, r2, r3, r4⟩ := r
  unfold szMs at hl
  have HU : Hid (∀ (n : Int) (W : World), Calls Try.prog 55 #[.int .i64 n] W fun e w' => e = .returned (.bool (num n)) ∧ w' = W) := fun n W => isNumber_any n W
  have HT : Hid (∀ (a b c : Int) (W : World), Calls Try.prog 16 #[.agg #[.int .i64 a, .int .i64 b, .int .i64 c]] W fun e w' => e = .returned (.bool (TOk (a, b, c))) ∧ w' = W.alloc (.cells #[.int .i64 a, .int .i64 b, .int .i64 c] 36)) := fun a b c W => implTxOk_w (a, b, c) W
  have HC : Hid (∀ (n : Int) (W : World), Calls Try.prog 67 #[.int .i64 n] W fun e w' => e = .returned (.bool (isCd n)) ∧ w' = W) := fun n W => implCode_w n W
  have HFL : Hid (∀ (n : Int) (W : World), Calls Try.prog 153 #[.int .i64 n] W fun e w' => e = .returned (.bool (decide (n = 0) || decide (n = 1))) ∧ w' = W) := fun n W => implFlag_w n W
  have HD : Hid (∀ (p q : Int) (d : Bool) (W : World), Calls Try.prog 62 #[.agg #[.int .i64 p, .int .i64 q, .bool d]] W fun e w' => e = .returned (.bool (HOk (p, q, d) && d)) ∧ w' = (W.alloc (.cells #[.int .i64 p, .int .i64 q, .bool d] 46)).alloc (.cells #[.int .i64 p, .int .i64 q, .bool d] 46)) := fun p q d W => implDir_w (p, q, d) W
  have HN : Hid (∀ (p q : Int) (d : Bool) (W : World), Calls Try.prog 68 #[.agg #[.int .i64 p, .int .i64 q, .bool d]] W fun e w' => e = .returned (.bool (noneOk (p, q, d))) ∧ Below W.heap.size W w') := fun p q d W => implNone_any (p, q, d) W
  clear r1 r2 r3 r4 hl
  obtain ⟨kd, fr, to, rq, ⟨ok, ⟨op_, oq, od⟩, nm, ⟨tp, tq, td⟩, asn, ov⟩, ⟨rc, ⟨rp_, rq_, rd⟩, rv, es⟩, ⟨xs, xb, xn⟩, ⟨pk, ⟨pp, pq, pd⟩, pas, ⟨sp, sq, sd⟩⟩, cd, ⟨hp, hq, hd⟩⟩ := m
  dsimp only
  go_enter Try.func151, Try.ntmps151
  go_wp2_with (first | (go_at_call 16; refine Calls.mono (HT.out _ _ _ _) ?_; rintro e w' ⟨rfl, rfl⟩))
  all_goals (go_ret; refine ⟨?_, by repeat (first | exact Below.refl _ _ | refine Below.al ?_ _ | refine Below.drew ?_ | refine below_drewN2 ?_ _)⟩; first | rfl | (simp_all; done) | (simp_all; omega))
set_option maxHeartbeats 4000000 in
theorem okM5 (m : MsD) (a1 a2 a3 a4 : Option Addr) (n1 n2 n3 n4 c1 c2 c3 c4 : Nat) (S : Nat → Prop) (w : World) (r : RdM w S m (.slice a1 n1 c1) (.slice a2 n2 c2) (.slice a3 n3 c3) (.slice a4 n4 c4)) (hl : szMs m ≤ 2097152) :
    Calls Try.prog 152 #[.agg #[.int .i64 m.tx.1, .int .i64 m.tx.2.1, .int .i64 m.tx.2.2, .int .i64 m.code]] w fun e w' => e = .returned (.bool (TOk m.tx && (decide (m.code = 0) || decide (m.code = 1)))) ∧ Below w.heap.size w w' := by
  obtain ⟨r1, r2, r3, r4⟩ := r
  unfold szMs at hl
  have HU : Hid (∀ (n : Int) (W : World), Calls Try.prog 55 #[.int .i64 n] W fun e w' => e = .returned (.bool (num n)) ∧ w' = W) := fun n W => isNumber_any n W
  have HT : Hid (∀ (a b c : Int) (W : World), Calls Try.prog 16 #[.agg #[.int .i64 a, .int .i64 b, .int .i64 c]] W fun e w' => e = .returned (.bool (TOk (a, b, c))) ∧ w' = W.alloc (.cells #[.int .i64 a, .int .i64 b, .int .i64 c] 36)) := fun a b c W => implTxOk_w (a, b, c) W
  have HC : Hid (∀ (n : Int) (W : World), Calls Try.prog 67 #[.int .i64 n] W fun e w' => e = .returned (.bool (isCd n)) ∧ w' = W) := fun n W => implCode_w n W
  have HFL : Hid (∀ (n : Int) (W : World), Calls Try.prog 153 #[.int .i64 n] W fun e w' => e = .returned (.bool (decide (n = 0) || decide (n = 1))) ∧ w' = W) := fun n W => implFlag_w n W
  have HD : Hid (∀ (p q : Int) (d : Bool) (W : World), Calls Try.prog 62 #[.agg #[.int .i64 p, .int .i64 q, .bool d]] W fun e w' => e = .returned (.bool (HOk (p, q, d) && d)) ∧ w' = (W.alloc (.cells #[.int .i64 p, .int .i64 q, .bool d] 46)).alloc (.cells #[.int .i64 p, .int .i64 q, .bool d] 46)) := fun p q d W => implDir_w (p, q, d) W
  have HN : Hid (∀ (p q : Int) (d : Bool) (W : World), Calls Try.prog 68 #[.agg #[.int .i64 p, .int .i64 q, .bool d]] W fun e w' => e = .returned (.bool (noneOk (p, q, d))) ∧ Below W.heap.size W w') := fun p q d W => implNone_any (p, q, d) W
  clear r1 r2 r3 r4 hl
  obtain ⟨kd, fr, to, rq, ⟨ok, ⟨op_, oq, od⟩, nm, ⟨tp, tq, td⟩, asn, ov⟩, ⟨rc, ⟨rp_, rq_, rd⟩, rv, es⟩, ⟨xs, xb, xn⟩, ⟨pk, ⟨pp, pq, pd⟩, pas, ⟨sp, sq, sd⟩⟩, cd, ⟨hp, hq, hd⟩⟩ := m
  dsimp only
  go_enter Try.func152, Try.ntmps152
  go_wp2_with (first | (go_at_call 16; refine Calls.mono (HT.out _ _ _ _) ?_; rintro e w' ⟨rfl, rfl⟩) | (go_at_call 153; refine Calls.mono (HFL.out _ _) ?_; rintro e w' ⟨rfl, rfl⟩))
  all_goals (go_ret; refine ⟨?_, by repeat (first | exact Below.refl _ _ | refine Below.al ?_ _ | refine Below.drew ?_ | refine below_drewN2 ?_ _)⟩; first | rfl | (simp_all; done) | (simp_all; omega))
set_option maxHeartbeats 4000000 in
theorem okM6 (m : MsD) (a1 a2 a3 a4 : Option Addr) (n1 n2 n3 n4 c1 c2 c3 c4 : Nat) (S : Nat → Prop) (w : World) (r : RdM w S m (.slice a1 n1 c1) (.slice a2 n2 c2) (.slice a3 n3 c3) (.slice a4 n4 c4)) (hl : szMs m ≤ 2097152) :
    Calls Try.prog 154 #[.agg #[.int .i64 m.tx.1, .int .i64 m.tx.2.1, .int .i64 m.tx.2.2, .int .i64 m.req, .int .i64 m.h.sh, .int .i64 m.h.ino, .bool m.h.dir]] w fun e w' => e = .returned (.bool (TOk m.tx && (num m.req && (HOk m.h && m.h.dir)))) ∧ Below w.heap.size w w' := by
  obtain ⟨r1, r2, r3, r4⟩ := r
  unfold szMs at hl
  have HU : Hid (∀ (n : Int) (W : World), Calls Try.prog 55 #[.int .i64 n] W fun e w' => e = .returned (.bool (num n)) ∧ w' = W) := fun n W => isNumber_any n W
  have HT : Hid (∀ (a b c : Int) (W : World), Calls Try.prog 16 #[.agg #[.int .i64 a, .int .i64 b, .int .i64 c]] W fun e w' => e = .returned (.bool (TOk (a, b, c))) ∧ w' = W.alloc (.cells #[.int .i64 a, .int .i64 b, .int .i64 c] 36)) := fun a b c W => implTxOk_w (a, b, c) W
  have HC : Hid (∀ (n : Int) (W : World), Calls Try.prog 67 #[.int .i64 n] W fun e w' => e = .returned (.bool (isCd n)) ∧ w' = W) := fun n W => implCode_w n W
  have HFL : Hid (∀ (n : Int) (W : World), Calls Try.prog 153 #[.int .i64 n] W fun e w' => e = .returned (.bool (decide (n = 0) || decide (n = 1))) ∧ w' = W) := fun n W => implFlag_w n W
  have HD : Hid (∀ (p q : Int) (d : Bool) (W : World), Calls Try.prog 62 #[.agg #[.int .i64 p, .int .i64 q, .bool d]] W fun e w' => e = .returned (.bool (HOk (p, q, d) && d)) ∧ w' = (W.alloc (.cells #[.int .i64 p, .int .i64 q, .bool d] 46)).alloc (.cells #[.int .i64 p, .int .i64 q, .bool d] 46)) := fun p q d W => implDir_w (p, q, d) W
  have HN : Hid (∀ (p q : Int) (d : Bool) (W : World), Calls Try.prog 68 #[.agg #[.int .i64 p, .int .i64 q, .bool d]] W fun e w' => e = .returned (.bool (noneOk (p, q, d))) ∧ Below W.heap.size W w') := fun p q d W => implNone_any (p, q, d) W
  clear r1 r2 r3 r4 hl
  obtain ⟨kd, fr, to, rq, ⟨ok, ⟨op_, oq, od⟩, nm, ⟨tp, tq, td⟩, asn, ov⟩, ⟨rc, ⟨rp_, rq_, rd⟩, rv, es⟩, ⟨xs, xb, xn⟩, ⟨pk, ⟨pp, pq, pd⟩, pas, ⟨sp, sq, sd⟩⟩, cd, ⟨hp, hq, hd⟩⟩ := m
  dsimp only
  go_enter Try.func154, Try.ntmps154
  go_wp2_with (first | (go_at_call 16; refine Calls.mono (HT.out _ _ _ _) ?_; rintro e w' ⟨rfl, rfl⟩) | (go_at_call 55; refine Calls.mono (HU.out _ _) ?_; rintro e w' ⟨rfl, rfl⟩) | (go_at_call 62; refine Calls.mono (HD.out _ _ _ _) ?_; rintro e w' ⟨rfl, rfl⟩))
  all_goals (go_ret; refine ⟨?_, by repeat (first | exact Below.refl _ _ | refine Below.al ?_ _ | refine Below.drew ?_ | refine below_drewN2 ?_ _)⟩; first | rfl | (simp_all; done) | (simp_all; omega))
set_option maxHeartbeats 4000000 in
theorem okM7 (m : MsD) (a1 a2 a3 a4 : Option Addr) (n1 n2 n3 n4 c1 c2 c3 c4 : Nat) (S : Nat → Prop) (w : World) (r : RdM w S m (.slice a1 n1 c1) (.slice a2 n2 c2) (.slice a3 n3 c3) (.slice a4 n4 c4)) (hl : szMs m ≤ 2097152) :
    Calls Try.prog 155 #[.agg #[.int .i64 m.tx.1, .int .i64 m.tx.2.1, .int .i64 m.tx.2.2, .int .i64 m.req, .int .i64 m.code, .int .i64 m.h.sh, .int .i64 m.h.ino, .bool m.h.dir]] w fun e w' => e = .returned (.bool (TOk m.tx && (num m.req && (isCd m.code && noneOk m.h)))) ∧ Below w.heap.size w w' := by
  obtain ⟨r1, r2, r3, r4⟩ := r
  unfold szMs at hl
  have HU : Hid (∀ (n : Int) (W : World), Calls Try.prog 55 #[.int .i64 n] W fun e w' => e = .returned (.bool (num n)) ∧ w' = W) := fun n W => isNumber_any n W
  have HT : Hid (∀ (a b c : Int) (W : World), Calls Try.prog 16 #[.agg #[.int .i64 a, .int .i64 b, .int .i64 c]] W fun e w' => e = .returned (.bool (TOk (a, b, c))) ∧ w' = W.alloc (.cells #[.int .i64 a, .int .i64 b, .int .i64 c] 36)) := fun a b c W => implTxOk_w (a, b, c) W
  have HC : Hid (∀ (n : Int) (W : World), Calls Try.prog 67 #[.int .i64 n] W fun e w' => e = .returned (.bool (isCd n)) ∧ w' = W) := fun n W => implCode_w n W
  have HFL : Hid (∀ (n : Int) (W : World), Calls Try.prog 153 #[.int .i64 n] W fun e w' => e = .returned (.bool (decide (n = 0) || decide (n = 1))) ∧ w' = W) := fun n W => implFlag_w n W
  have HD : Hid (∀ (p q : Int) (d : Bool) (W : World), Calls Try.prog 62 #[.agg #[.int .i64 p, .int .i64 q, .bool d]] W fun e w' => e = .returned (.bool (HOk (p, q, d) && d)) ∧ w' = (W.alloc (.cells #[.int .i64 p, .int .i64 q, .bool d] 46)).alloc (.cells #[.int .i64 p, .int .i64 q, .bool d] 46)) := fun p q d W => implDir_w (p, q, d) W
  have HN : Hid (∀ (p q : Int) (d : Bool) (W : World), Calls Try.prog 68 #[.agg #[.int .i64 p, .int .i64 q, .bool d]] W fun e w' => e = .returned (.bool (noneOk (p, q, d))) ∧ Below W.heap.size W w') := fun p q d W => implNone_any (p, q, d) W
  clear r1 r2 r3 r4 hl
  obtain ⟨kd, fr, to, rq, ⟨ok, ⟨op_, oq, od⟩, nm, ⟨tp, tq, td⟩, asn, ov⟩, ⟨rc, ⟨rp_, rq_, rd⟩, rv, es⟩, ⟨xs, xb, xn⟩, ⟨pk, ⟨pp, pq, pd⟩, pas, ⟨sp, sq, sd⟩⟩, cd, ⟨hp, hq, hd⟩⟩ := m
  dsimp only
  go_enter Try.func155, Try.ntmps155
  go_wp2_with (first | (go_at_call 16; refine Calls.mono (HT.out _ _ _ _) ?_; rintro e w' ⟨rfl, rfl⟩) | (go_at_call 55; refine Calls.mono (HU.out _ _) ?_; rintro e w' ⟨rfl, rfl⟩) | (go_at_call 67; refine Calls.mono (HC.out _ _) ?_; rintro e w' ⟨rfl, rfl⟩))
  all_goals first | (go_ret; refine ⟨?_, by repeat (first | exact Below.refl _ _ | refine Below.al ?_ _ | refine Below.drew ?_ | refine below_drewN2 ?_ _)⟩; first | rfl | (simp_all; done) | (simp_all; omega)) | (refine Calls.mono (HN.out _ _ _ _) ?_; rintro e w2 ⟨rfl, b_⟩; go_wp2; all_goals (go_ret; refine ⟨?_, Below.trans (by repeat (first | exact Below.refl _ _ | refine Below.al ?_ _ | refine Below.drew ?_ | refine below_drewN2 ?_ _)) (b_.mono (by simp <;> omega))⟩; first | rfl | (simp_all; done) | (simp_all; omega)))
end Go.Proofs.Ytaaongjnpnanmaa
end

section
/- May a message be? By the program, kind by kind. Condition: no more than 2^21 of all. -/
namespace Go.Proofs.Ytaaongjnpnanmaa
open Go.RowKit
set_option linter.unusedVariables false
set_option linter.unusedSimpArgs false
set_option maxRecDepth 100000

set_option maxHeartbeats 8000000 in
theorem implMsg0 (m : MsD) (a1 a2 a3 a4 : Option Addr) (n1 n2 n3 n4 c1 c2 c3 c4 : Nat) (S : Nat → Prop) (w : World) (r : RdM w S m (.slice a1 n1 c1) (.slice a2 n2 c2) (.slice a3 n3 c3) (.slice a4 n4 c4)) (hl : szMs m ≤ 2097152) (hk : m.kind = 0) :
    Calls Try.prog 30 #[msV m (.slice a1 n1 c1) (.slice a2 n2 c2) (.slice a3 n3 c3) (.slice a4 n4 c4)] w fun e w' => e = .returned (.bool (MOk m)) ∧ Below w.heap.size w w' := by
  obtain ⟨r1, r2, r3, r4⟩ := r
  have hl' := hl
  unfold szMs at hl'
  have HCO : Hid (∀ W, _) := fun W => content0 m a1 a2 a3 a4 n1 n2 n3 n4 c1 c2 c3 c4 W hk
  have HOK : Hid (∀ W, Below w.heap.size w W → _) := fun W hW => okM0 m a1 a2 a3 a4 n1 n2 n3 n4 c1 c2 c3 c4 S W ⟨r1.step hW, r2.step hW, r3.step hW, r4.step hW⟩ hl
  have HHE : Hid (∀ W, _) := fun W => headOf_any m a1 a2 a3 a4 n1 n2 n3 n4 c1 c2 c3 c4 W
  have HWI : Hid (∀ W, _) := fun W => with0 m a1 a2 a3 a4 n1 n2 n3 n4 c1 c2 c3 c4 W
  have HSA : Hid (∀ W, Below w.heap.size w W → _) := fun W hW => sameMsg_any 0 m.fr m.to m.req m.req m.code 0 m.op m.op m.rp rp0 m.tx tx0 m.pt pt0 m.h hd0 a1 a2 a3 a4 n1 n2 n3 n4 c1 c2 c3 c4 a1 a2 none none n1 n2 0 0 c1 c2 0 0 (true) (zRp m.rp) (zPt m.pt) W
    (fun V hV => sameOp_self _ _ m.op S V (r1.step (hW.trans (hV.mono hW.size))) (r2.step (hW.trans (hV.mono hW.size))))
    (fun V hV => sameReply_zero _ m.rp S V (r3.step (hW.trans (hV.mono hW.size))))
    (fun V hV => samePart_zero _ m.pt S V (r4.step (hW.trans (hV.mono hW.size))))
  have HE1 : Hid (∀ W, _) := fun W => implEnd_w m.fr W
  have HE2 : Hid (∀ W, _) := fun W => implEnd_w m.to W
  have hres : MOk m = (isEndB m.fr && (isEndB m.to && ((num m.req && OOk m.op) && (decide (m.req = m.req) && (true && (zRp m.rp && (decide (m.tx = tx0) && (zPt m.pt && (decide (m.code = 0) && decide (m.h = hd0)))))))))) := by
    simp [MOk, MBody, hk, zTx, tx0, hd0, Bool.and_assoc]
  rw [hres]
  generalize (num m.req && OOk m.op) = bc at HOK ⊢
  generalize isEndB m.fr = e1 at HE1 ⊢
  generalize isEndB m.to = e2 at HE2 ⊢
  generalize (decide (m.req = m.req) && (true && (zRp m.rp && (decide (m.tx = tx0) && (zPt m.pt && (decide (m.code = 0) && decide (m.h = hd0))))))) = bs at HSA ⊢
  clear r1 r2 r3 r4 hl hl' hres
  obtain ⟨kd, fr, to, rq, ⟨ok, ⟨op_, oq, od⟩, nm, ⟨tp, tq, td⟩, asn, ov⟩, ⟨rc, ⟨rp_, rq_, rd⟩, rv, es⟩, ⟨xs, xb, xn⟩, ⟨pk, ⟨pp, pq, pd⟩, pas, ⟨sp, sq, sd⟩⟩, cd, ⟨hp, hq, hd⟩⟩ := m
  dsimp only at hk HCO HOK HHE HWI HSA HE1 HE2 ⊢
  subst hk
  go_enter Try.func30, Try.ntmps30
  repeat (first | (with_reducible refine guardLoad (ty := 72) ?_; refine wpList_loadA (VarA.new w _ _) rfl Try.underlying72 rfl (by kernel_rfl) ?_) | go_values | go_skip | go_guarded | go_step)
  refine Calls.mono (HCO.out _) ?_
  rintro e w2 ⟨rfl, b_⟩
  have vA : VarA w2 w.heap.size 72 #[.int .i64 0, .int .i64 fr, .int .i64 to, .int .i64 rq, .int .i64 ok, .int .i64 op_, .int .i64 oq, .bool od, .slice a1 n1 c1, .int .i64 tp, .int .i64 tq, .bool td, .slice a2 n2 c2, .int .i64 ov, .int .i64 rc, .int .i64 rp_, .int .i64 rq_, .bool rd, .int .i64 rv, .slice a3 n3 c3, .int .i64 xs, .int .i64 xb, .int .i64 xn, .int .i64 pk, .int .i64 pp, .int .i64 pq, .bool pd, .slice a4 n4 c4, .int .i64 sp, .int .i64 sq, .bool sd, .int .i64 cd, .int .i64 hp, .int .i64 hq, .bool hd] := VarA.step (VarA.new w _ _) b_
  have HB : Hid (Below w.heap.size w w2) := (Below.newH (w := w) _).trans (b_.mono (by simp))
  clear b_ HCO
  have hlt_ := vA.lt
  haveI := VarA.ne vA
  have k1_ := Cls.cell hlt_ (vA.c 1 rfl)
  have k2_ := Cls.cell hlt_ (vA.c 2 rfl)
  have hME : ∀ (v : Value) (W : World), (Go.method 292 141 v "loop.example/g00341/impl.ok").run Try.prog W = .ok (143, v) W := fun v W => by kernel_rfl
  have hVM : ∀ W, (∃ i : Cls w2, W = i.W) → VarA W w.heap.size 72 #[.int .i64 0, .int .i64 fr, .int .i64 to, .int .i64 rq, .int .i64 ok, .int .i64 op_, .int .i64 oq, .bool od, .slice a1 n1 c1, .int .i64 tp, .int .i64 tq, .bool td, .slice a2 n2 c2, .int .i64 ov, .int .i64 rc, .int .i64 rp_, .int .i64 rq_, .bool rd, .int .i64 rv, .slice a3 n3 c3, .int .i64 xs, .int .i64 xb, .int .i64 xn, .int .i64 pk, .int .i64 pp, .int .i64 pq, .bool pd, .slice a4 n4 c4, .int .i64 sp, .int .i64 sq, .bool sd, .int .i64 cd, .int .i64 hp, .int .i64 hq, .bool hd] := fun W ⟨i, hi⟩ => by rw [hi]; exact VarA.step vA i.h
  rcases (show e1 = false ∨ (e1 = true ∧ e2 = false) ∨ (e1 = true ∧ e2 = true ∧ bc = false) ∨ (e1 = true ∧ e2 = true ∧ bc = true) by cases e1 <;> cases e2 <;> cases bc <;> simp) with rfl | ⟨rfl, rfl⟩ | ⟨rfl, rfl, rfl⟩ | ⟨rfl, rfl, rfl⟩
  all_goals
    go_wp2_with fail
    refine wp_region_cls (by kernel_rfl) (by kernel_rfl) ?_
    repeat (go_big_quiet_step (first
      | (go_at_call 78; first | (with_reducible exact Calls.cls_same (HE1.out _)) | (with_reducible exact Calls.cls_same (HE2.out _)))
      | (go_at_call 143; exact Calls.cls (HOK.out _ (HB.out.trans ((Cls.h _).mono HB.out.size))))
      | (go_at_call 80; exact Calls.cls (HHE.out _))
      | (go_at_call 81; exact Calls.cls (HWI.out _))
      | (go_at_call 79; exact Calls.cls (HSA.out _ (HB.out.trans ((Cls.h _).mono HB.out.size))))))
    try
      refine wpQuiet_loadA hVM rfl rfl Try.underlying72 rfl (by kernel_rfl) ?_
      simp only [Act.put, List.setIfInBounds_toArray, List.set_cons_succ, List.set_cons_zero]
      refine wpQuiet_loadA hVM rfl rfl Try.underlying72 rfl (by kernel_rfl) ?_
      simp only [Act.put, List.setIfInBounds_toArray, List.set_cons_succ, List.set_cons_zero]
      repeat (go_big_quiet_step (first
        | (go_at_call 78; first | (with_reducible exact Calls.cls_same (HE1.out _)) | (with_reducible exact Calls.cls_same (HE2.out _)))
        | (go_at_call 143; exact Calls.cls (HOK.out _ (HB.out.trans ((Cls.h _).mono HB.out.size))))
        | (go_at_call 80; exact Calls.cls (HHE.out _))
        | (go_at_call 81; exact Calls.cls (HWI.out _))
        | (go_at_call 79; exact Calls.cls (HSA.out _ (HB.out.trans ((Cls.h _).mono HB.out.size))))))
    refine wpQuiet_nil ?_
    rintro w' ⟨⟨w', b_⟩, rfl⟩
    have HB_ : Hid _ := HB.out.trans (b_.mono HB.out.size)
    clear HOK HHE HWI HSA HE1 HE2 hME hVM k1_ k2_ this vA b_
    go_wp2
    go_ret
    exact ⟨by first | rfl | simp, HB_.out⟩
set_option maxHeartbeats 8000000 in
theorem implMsg1 (m : MsD) (a1 a2 a3 a4 : Option Addr) (n1 n2 n3 n4 c1 c2 c3 c4 : Nat) (S : Nat → Prop) (w : World) (r : RdM w S m (.slice a1 n1 c1) (.slice a2 n2 c2) (.slice a3 n3 c3) (.slice a4 n4 c4)) (hl : szMs m ≤ 2097152) (hk : m.kind = 1) :
    Calls Try.prog 30 #[msV m (.slice a1 n1 c1) (.slice a2 n2 c2) (.slice a3 n3 c3) (.slice a4 n4 c4)] w fun e w' => e = .returned (.bool (MOk m)) ∧ Below w.heap.size w w' := by
  obtain ⟨r1, r2, r3, r4⟩ := r
  have hl' := hl
  unfold szMs at hl'
  have HCO : Hid (∀ W, _) := fun W => content1 m a1 a2 a3 a4 n1 n2 n3 n4 c1 c2 c3 c4 W hk
  have HOK : Hid (∀ W, Below w.heap.size w W → _) := fun W hW => okM1 m a1 a2 a3 a4 n1 n2 n3 n4 c1 c2 c3 c4 S W ⟨r1.step hW, r2.step hW, r3.step hW, r4.step hW⟩ hl
  have HHE : Hid (∀ W, _) := fun W => headOf_any m a1 a2 a3 a4 n1 n2 n3 n4 c1 c2 c3 c4 W
  have HWI : Hid (∀ W, _) := fun W => with1 m a1 a2 a3 a4 n1 n2 n3 n4 c1 c2 c3 c4 W
  have HSA : Hid (∀ W, Below w.heap.size w W → _) := fun W hW => sameMsg_any 1 m.fr m.to m.req m.req m.code 0 m.op op0 m.rp m.rp m.tx tx0 m.pt pt0 m.h hd0 a1 a2 a3 a4 n1 n2 n3 n4 c1 c2 c3 c4 none none a3 none 0 0 n3 0 0 0 c3 0 (zOp m.op) (true) (zPt m.pt) W
    (fun V hV => sameOp_zero _ _ m.op S V (r1.step (hW.trans (hV.mono hW.size))) (r2.step (hW.trans (hV.mono hW.size))))
    (fun V hV => sameReply_self _ m.rp S V (r3.step (hW.trans (hV.mono hW.size))) (by omega))
    (fun V hV => samePart_zero _ m.pt S V (r4.step (hW.trans (hV.mono hW.size))))
  have HE1 : Hid (∀ W, _) := fun W => implEnd_w m.fr W
  have HE2 : Hid (∀ W, _) := fun W => implEnd_w m.to W
  have hres : MOk m = (isEndB m.fr && (isEndB m.to && ((num m.req && ROk m.rp) && (decide (m.req = m.req) && (zOp m.op && (true && (decide (m.tx = tx0) && (zPt m.pt && (decide (m.code = 0) && decide (m.h = hd0)))))))))) := by
    simp [MOk, MBody, hk, zTx, tx0, hd0, Bool.and_assoc]
  rw [hres]
  generalize (num m.req && ROk m.rp) = bc at HOK ⊢
  generalize isEndB m.fr = e1 at HE1 ⊢
  generalize isEndB m.to = e2 at HE2 ⊢
  generalize (decide (m.req = m.req) && (zOp m.op && (true && (decide (m.tx = tx0) && (zPt m.pt && (decide (m.code = 0) && decide (m.h = hd0))))))) = bs at HSA ⊢
  clear r1 r2 r3 r4 hl hl' hres
  obtain ⟨kd, fr, to, rq, ⟨ok, ⟨op_, oq, od⟩, nm, ⟨tp, tq, td⟩, asn, ov⟩, ⟨rc, ⟨rp_, rq_, rd⟩, rv, es⟩, ⟨xs, xb, xn⟩, ⟨pk, ⟨pp, pq, pd⟩, pas, ⟨sp, sq, sd⟩⟩, cd, ⟨hp, hq, hd⟩⟩ := m
  dsimp only at hk HCO HOK HHE HWI HSA HE1 HE2 ⊢
  subst hk
  go_enter Try.func30, Try.ntmps30
  repeat (first | (with_reducible refine guardLoad (ty := 72) ?_; refine wpList_loadA (VarA.new w _ _) rfl Try.underlying72 rfl (by kernel_rfl) ?_) | go_values | go_skip | go_guarded | go_step)
  refine Calls.mono (HCO.out _) ?_
  rintro e w2 ⟨rfl, b_⟩
  have vA : VarA w2 w.heap.size 72 #[.int .i64 1, .int .i64 fr, .int .i64 to, .int .i64 rq, .int .i64 ok, .int .i64 op_, .int .i64 oq, .bool od, .slice a1 n1 c1, .int .i64 tp, .int .i64 tq, .bool td, .slice a2 n2 c2, .int .i64 ov, .int .i64 rc, .int .i64 rp_, .int .i64 rq_, .bool rd, .int .i64 rv, .slice a3 n3 c3, .int .i64 xs, .int .i64 xb, .int .i64 xn, .int .i64 pk, .int .i64 pp, .int .i64 pq, .bool pd, .slice a4 n4 c4, .int .i64 sp, .int .i64 sq, .bool sd, .int .i64 cd, .int .i64 hp, .int .i64 hq, .bool hd] := VarA.step (VarA.new w _ _) b_
  have HB : Hid (Below w.heap.size w w2) := (Below.newH (w := w) _).trans (b_.mono (by simp))
  clear b_ HCO
  have hlt_ := vA.lt
  haveI := VarA.ne vA
  have k1_ := Cls.cell hlt_ (vA.c 1 rfl)
  have k2_ := Cls.cell hlt_ (vA.c 2 rfl)
  have hME : ∀ (v : Value) (W : World), (Go.method 292 143 v "loop.example/g00341/impl.ok").run Try.prog W = .ok (148, v) W := fun v W => by kernel_rfl
  have hVM : ∀ W, (∃ i : Cls w2, W = i.W) → VarA W w.heap.size 72 #[.int .i64 1, .int .i64 fr, .int .i64 to, .int .i64 rq, .int .i64 ok, .int .i64 op_, .int .i64 oq, .bool od, .slice a1 n1 c1, .int .i64 tp, .int .i64 tq, .bool td, .slice a2 n2 c2, .int .i64 ov, .int .i64 rc, .int .i64 rp_, .int .i64 rq_, .bool rd, .int .i64 rv, .slice a3 n3 c3, .int .i64 xs, .int .i64 xb, .int .i64 xn, .int .i64 pk, .int .i64 pp, .int .i64 pq, .bool pd, .slice a4 n4 c4, .int .i64 sp, .int .i64 sq, .bool sd, .int .i64 cd, .int .i64 hp, .int .i64 hq, .bool hd] := fun W ⟨i, hi⟩ => by rw [hi]; exact VarA.step vA i.h
  rcases (show e1 = false ∨ (e1 = true ∧ e2 = false) ∨ (e1 = true ∧ e2 = true ∧ bc = false) ∨ (e1 = true ∧ e2 = true ∧ bc = true) by cases e1 <;> cases e2 <;> cases bc <;> simp) with rfl | ⟨rfl, rfl⟩ | ⟨rfl, rfl, rfl⟩ | ⟨rfl, rfl, rfl⟩
  all_goals
    go_wp2_with fail
    refine wp_region_cls (by kernel_rfl) (by kernel_rfl) ?_
    repeat (go_big_quiet_step (first
      | (go_at_call 78; first | (with_reducible exact Calls.cls_same (HE1.out _)) | (with_reducible exact Calls.cls_same (HE2.out _)))
      | (go_at_call 148; exact Calls.cls (HOK.out _ (HB.out.trans ((Cls.h _).mono HB.out.size))))
      | (go_at_call 80; exact Calls.cls (HHE.out _))
      | (go_at_call 81; exact Calls.cls (HWI.out _))
      | (go_at_call 79; exact Calls.cls (HSA.out _ (HB.out.trans ((Cls.h _).mono HB.out.size))))))
    try
      refine wpQuiet_loadA hVM rfl rfl Try.underlying72 rfl (by kernel_rfl) ?_
      simp only [Act.put, List.setIfInBounds_toArray, List.set_cons_succ, List.set_cons_zero]
      refine wpQuiet_loadA hVM rfl rfl Try.underlying72 rfl (by kernel_rfl) ?_
      simp only [Act.put, List.setIfInBounds_toArray, List.set_cons_succ, List.set_cons_zero]
      repeat (go_big_quiet_step (first
        | (go_at_call 78; first | (with_reducible exact Calls.cls_same (HE1.out _)) | (with_reducible exact Calls.cls_same (HE2.out _)))
        | (go_at_call 148; exact Calls.cls (HOK.out _ (HB.out.trans ((Cls.h _).mono HB.out.size))))
        | (go_at_call 80; exact Calls.cls (HHE.out _))
        | (go_at_call 81; exact Calls.cls (HWI.out _))
        | (go_at_call 79; exact Calls.cls (HSA.out _ (HB.out.trans ((Cls.h _).mono HB.out.size))))))
    refine wpQuiet_nil ?_
    rintro w' ⟨⟨w', b_⟩, rfl⟩
    have HB_ : Hid _ := HB.out.trans (b_.mono HB.out.size)
    clear HOK HHE HWI HSA HE1 HE2 hME hVM k1_ k2_ this vA b_
    go_wp2
    go_ret
    exact ⟨by first | rfl | simp, HB_.out⟩
set_option maxHeartbeats 8000000 in
theorem implMsg2 (m : MsD) (a1 a2 a3 a4 : Option Addr) (n1 n2 n3 n4 c1 c2 c3 c4 : Nat) (S : Nat → Prop) (w : World) (r : RdM w S m (.slice a1 n1 c1) (.slice a2 n2 c2) (.slice a3 n3 c3) (.slice a4 n4 c4)) (hl : szMs m ≤ 2097152) (hk : m.kind = 2) :
    Calls Try.prog 30 #[msV m (.slice a1 n1 c1) (.slice a2 n2 c2) (.slice a3 n3 c3) (.slice a4 n4 c4)] w fun e w' => e = .returned (.bool (MOk m)) ∧ Below w.heap.size w w' := by
  obtain ⟨r1, r2, r3, r4⟩ := r
  have hl' := hl
  unfold szMs at hl'
  have HCO : Hid (∀ W, _) := fun W => content2 m a1 a2 a3 a4 n1 n2 n3 n4 c1 c2 c3 c4 W hk
  have HOK : Hid (∀ W, Below w.heap.size w W → _) := fun W hW => okM2 m a1 a2 a3 a4 n1 n2 n3 n4 c1 c2 c3 c4 S W ⟨r1.step hW, r2.step hW, r3.step hW, r4.step hW⟩ hl
  have HHE : Hid (∀ W, _) := fun W => headOf_any m a1 a2 a3 a4 n1 n2 n3 n4 c1 c2 c3 c4 W
  have HWI : Hid (∀ W, _) := fun W => with2 m a1 a2 a3 a4 n1 n2 n3 n4 c1 c2 c3 c4 W
  have HSA : Hid (∀ W, Below w.heap.size w W → _) := fun W hW => sameMsg_any 2 m.fr m.to m.req 0 m.code 0 m.op op0 m.rp rp0 m.tx m.tx m.pt m.pt m.h hd0 a1 a2 a3 a4 n1 n2 n3 n4 c1 c2 c3 c4 none none none a4 0 0 0 n4 0 0 0 c4 (zOp m.op) (zRp m.rp) (true) W
    (fun V hV => sameOp_zero _ _ m.op S V (r1.step (hW.trans (hV.mono hW.size))) (r2.step (hW.trans (hV.mono hW.size))))
    (fun V hV => sameReply_zero _ m.rp S V (r3.step (hW.trans (hV.mono hW.size))))
    (fun V hV => samePart_self _ m.pt S V (r4.step (hW.trans (hV.mono hW.size))))
  have HE1 : Hid (∀ W, _) := fun W => implEnd_w m.fr W
  have HE2 : Hid (∀ W, _) := fun W => implEnd_w m.to W
  have hres : MOk m = (isEndB m.fr && (isEndB m.to && ((TOk m.tx && POk m.pt) && (decide (m.req = 0) && (zOp m.op && (zRp m.rp && (decide (m.tx = m.tx) && (true && (decide (m.code = 0) && decide (m.h = hd0)))))))))) := by
    simp [MOk, MBody, hk, zTx, tx0, hd0, Bool.and_assoc]
  rw [hres]
  generalize (TOk m.tx && POk m.pt) = bc at HOK ⊢
  generalize isEndB m.fr = e1 at HE1 ⊢
  generalize isEndB m.to = e2 at HE2 ⊢
  generalize (decide (m.req = 0) && (zOp m.op && (zRp m.rp && (decide (m.tx = m.tx) && (true && (decide (m.code = 0) && decide (m.h = hd0))))))) = bs at HSA ⊢
  clear r1 r2 r3 r4 hl hl' hres
  obtain ⟨kd, fr, to, rq, ⟨ok, ⟨op_, oq, od⟩, nm, ⟨tp, tq, td⟩, asn, ov⟩, ⟨rc, ⟨rp_, rq_, rd⟩, rv, es⟩, ⟨xs, xb, xn⟩, ⟨pk, ⟨pp, pq, pd⟩, pas, ⟨sp, sq, sd⟩⟩, cd, ⟨hp, hq, hd⟩⟩ := m
  dsimp only at hk HCO HOK HHE HWI HSA HE1 HE2 ⊢
  subst hk
  go_enter Try.func30, Try.ntmps30
  repeat (first | (with_reducible refine guardLoad (ty := 72) ?_; refine wpList_loadA (VarA.new w _ _) rfl Try.underlying72 rfl (by kernel_rfl) ?_) | go_values | go_skip | go_guarded | go_step)
  refine Calls.mono (HCO.out _) ?_
  rintro e w2 ⟨rfl, b_⟩
  have vA : VarA w2 w.heap.size 72 #[.int .i64 2, .int .i64 fr, .int .i64 to, .int .i64 rq, .int .i64 ok, .int .i64 op_, .int .i64 oq, .bool od, .slice a1 n1 c1, .int .i64 tp, .int .i64 tq, .bool td, .slice a2 n2 c2, .int .i64 ov, .int .i64 rc, .int .i64 rp_, .int .i64 rq_, .bool rd, .int .i64 rv, .slice a3 n3 c3, .int .i64 xs, .int .i64 xb, .int .i64 xn, .int .i64 pk, .int .i64 pp, .int .i64 pq, .bool pd, .slice a4 n4 c4, .int .i64 sp, .int .i64 sq, .bool sd, .int .i64 cd, .int .i64 hp, .int .i64 hq, .bool hd] := VarA.step (VarA.new w _ _) b_
  have HB : Hid (Below w.heap.size w w2) := (Below.newH (w := w) _).trans (b_.mono (by simp))
  clear b_ HCO
  have hlt_ := vA.lt
  haveI := VarA.ne vA
  have k1_ := Cls.cell hlt_ (vA.c 1 rfl)
  have k2_ := Cls.cell hlt_ (vA.c 2 rfl)
  have hME : ∀ (v : Value) (W : World), (Go.method 292 145 v "loop.example/g00341/impl.ok").run Try.prog W = .ok (149, v) W := fun v W => by kernel_rfl
  have hVM : ∀ W, (∃ i : Cls w2, W = i.W) → VarA W w.heap.size 72 #[.int .i64 2, .int .i64 fr, .int .i64 to, .int .i64 rq, .int .i64 ok, .int .i64 op_, .int .i64 oq, .bool od, .slice a1 n1 c1, .int .i64 tp, .int .i64 tq, .bool td, .slice a2 n2 c2, .int .i64 ov, .int .i64 rc, .int .i64 rp_, .int .i64 rq_, .bool rd, .int .i64 rv, .slice a3 n3 c3, .int .i64 xs, .int .i64 xb, .int .i64 xn, .int .i64 pk, .int .i64 pp, .int .i64 pq, .bool pd, .slice a4 n4 c4, .int .i64 sp, .int .i64 sq, .bool sd, .int .i64 cd, .int .i64 hp, .int .i64 hq, .bool hd] := fun W ⟨i, hi⟩ => by rw [hi]; exact VarA.step vA i.h
  rcases (show e1 = false ∨ (e1 = true ∧ e2 = false) ∨ (e1 = true ∧ e2 = true ∧ bc = false) ∨ (e1 = true ∧ e2 = true ∧ bc = true) by cases e1 <;> cases e2 <;> cases bc <;> simp) with rfl | ⟨rfl, rfl⟩ | ⟨rfl, rfl, rfl⟩ | ⟨rfl, rfl, rfl⟩
  all_goals
    go_wp2_with fail
    refine wp_region_cls (by kernel_rfl) (by kernel_rfl) ?_
    repeat (go_big_quiet_step (first
      | (go_at_call 78; first | (with_reducible exact Calls.cls_same (HE1.out _)) | (with_reducible exact Calls.cls_same (HE2.out _)))
      | (go_at_call 149; exact Calls.cls (HOK.out _ (HB.out.trans ((Cls.h _).mono HB.out.size))))
      | (go_at_call 80; exact Calls.cls (HHE.out _))
      | (go_at_call 81; exact Calls.cls (HWI.out _))
      | (go_at_call 79; exact Calls.cls (HSA.out _ (HB.out.trans ((Cls.h _).mono HB.out.size))))))
    try
      refine wpQuiet_loadA hVM rfl rfl Try.underlying72 rfl (by kernel_rfl) ?_
      simp only [Act.put, List.setIfInBounds_toArray, List.set_cons_succ, List.set_cons_zero]
      refine wpQuiet_loadA hVM rfl rfl Try.underlying72 rfl (by kernel_rfl) ?_
      simp only [Act.put, List.setIfInBounds_toArray, List.set_cons_succ, List.set_cons_zero]
      repeat (go_big_quiet_step (first
        | (go_at_call 78; first | (with_reducible exact Calls.cls_same (HE1.out _)) | (with_reducible exact Calls.cls_same (HE2.out _)))
        | (go_at_call 149; exact Calls.cls (HOK.out _ (HB.out.trans ((Cls.h _).mono HB.out.size))))
        | (go_at_call 80; exact Calls.cls (HHE.out _))
        | (go_at_call 81; exact Calls.cls (HWI.out _))
        | (go_at_call 79; exact Calls.cls (HSA.out _ (HB.out.trans ((Cls.h _).mono HB.out.size))))))
    refine wpQuiet_nil ?_
    rintro w' ⟨⟨w', b_⟩, rfl⟩
    have HB_ : Hid _ := HB.out.trans (b_.mono HB.out.size)
    clear HOK HHE HWI HSA HE1 HE2 hME hVM k1_ k2_ this vA b_
    go_wp2
    go_ret
    exact ⟨by first | rfl | simp, HB_.out⟩
set_option maxHeartbeats 8000000 in
theorem implMsg3 (m : MsD) (a1 a2 a3 a4 : Option Addr) (n1 n2 n3 n4 c1 c2 c3 c4 : Nat) (S : Nat → Prop) (w : World) (r : RdM w S m (.slice a1 n1 c1) (.slice a2 n2 c2) (.slice a3 n3 c3) (.slice a4 n4 c4)) (hl : szMs m ≤ 2097152) (hk : m.kind = 3) :
    Calls Try.prog 30 #[msV m (.slice a1 n1 c1) (.slice a2 n2 c2) (.slice a3 n3 c3) (.slice a4 n4 c4)] w fun e w' => e = .returned (.bool (MOk m)) ∧ Below w.heap.size w w' := by
  obtain ⟨r1, r2, r3, r4⟩ := r
  have hl' := hl
  unfold szMs at hl'
  have HCO : Hid (∀ W, _) := fun W => content3 m a1 a2 a3 a4 n1 n2 n3 n4 c1 c2 c3 c4 W hk
  have HOK : Hid (∀ W, Below w.heap.size w W → _) := fun W hW => okM3 m a1 a2 a3 a4 n1 n2 n3 n4 c1 c2 c3 c4 S W ⟨r1.step hW, r2.step hW, r3.step hW, r4.step hW⟩ hl
  have HHE : Hid (∀ W, _) := fun W => headOf_any m a1 a2 a3 a4 n1 n2 n3 n4 c1 c2 c3 c4 W
  have HWI : Hid (∀ W, _) := fun W => with3 m a1 a2 a3 a4 n1 n2 n3 n4 c1 c2 c3 c4 W
  have HSA : Hid (∀ W, Below w.heap.size w W → _) := fun W hW => sameMsg_any 3 m.fr m.to m.req 0 m.code m.code m.op op0 m.rp rp0 m.tx m.tx m.pt m.pt m.h m.h a1 a2 a3 a4 n1 n2 n3 n4 c1 c2 c3 c4 none none none a4 0 0 0 n4 0 0 0 c4 (zOp m.op) (zRp m.rp) (true) W
    (fun V hV => sameOp_zero _ _ m.op S V (r1.step (hW.trans (hV.mono hW.size))) (r2.step (hW.trans (hV.mono hW.size))))
    (fun V hV => sameReply_zero _ m.rp S V (r3.step (hW.trans (hV.mono hW.size))))
    (fun V hV => samePart_self _ m.pt S V (r4.step (hW.trans (hV.mono hW.size))))
  have HE1 : Hid (∀ W, _) := fun W => implEnd_w m.fr W
  have HE2 : Hid (∀ W, _) := fun W => implEnd_w m.to W
  have hres : MOk m = (isEndB m.fr && (isEndB m.to && ((TOk m.tx && (POk m.pt && (isCd m.code && noneOk m.h))) && (decide (m.req = 0) && (zOp m.op && (zRp m.rp && (decide (m.tx = m.tx) && (true && (decide (m.code = m.code) && decide (m.h = m.h)))))))))) := by
    simp [MOk, MBody, hk, zTx, tx0, hd0, Bool.and_assoc]
  rw [hres]
  generalize (TOk m.tx && (POk m.pt && (isCd m.code && noneOk m.h))) = bc at HOK ⊢
  generalize isEndB m.fr = e1 at HE1 ⊢
  generalize isEndB m.to = e2 at HE2 ⊢
  generalize (decide (m.req = 0) && (zOp m.op && (zRp m.rp && (decide (m.tx = m.tx) && (true && (decide (m.code = m.code) && decide (m.h = m.h))))))) = bs at HSA ⊢
  clear r1 r2 r3 r4 hl hl' hres
  obtain ⟨kd, fr, to, rq, ⟨ok, ⟨op_, oq, od⟩, nm, ⟨tp, tq, td⟩, asn, ov⟩, ⟨rc, ⟨rp_, rq_, rd⟩, rv, es⟩, ⟨xs, xb, xn⟩, ⟨pk, ⟨pp, pq, pd⟩, pas, ⟨sp, sq, sd⟩⟩, cd, ⟨hp, hq, hd⟩⟩ := m
  dsimp only at hk HCO HOK HHE HWI HSA HE1 HE2 ⊢
  subst hk
  go_enter Try.func30, Try.ntmps30
  repeat (first | (with_reducible refine guardLoad (ty := 72) ?_; refine wpList_loadA (VarA.new w _ _) rfl Try.underlying72 rfl (by kernel_rfl) ?_) | go_values | go_skip | go_guarded | go_step)
  refine Calls.mono (HCO.out _) ?_
  rintro e w2 ⟨rfl, b_⟩
  have vA : VarA w2 w.heap.size 72 #[.int .i64 3, .int .i64 fr, .int .i64 to, .int .i64 rq, .int .i64 ok, .int .i64 op_, .int .i64 oq, .bool od, .slice a1 n1 c1, .int .i64 tp, .int .i64 tq, .bool td, .slice a2 n2 c2, .int .i64 ov, .int .i64 rc, .int .i64 rp_, .int .i64 rq_, .bool rd, .int .i64 rv, .slice a3 n3 c3, .int .i64 xs, .int .i64 xb, .int .i64 xn, .int .i64 pk, .int .i64 pp, .int .i64 pq, .bool pd, .slice a4 n4 c4, .int .i64 sp, .int .i64 sq, .bool sd, .int .i64 cd, .int .i64 hp, .int .i64 hq, .bool hd] := VarA.step (VarA.new w _ _) b_
  have HB : Hid (Below w.heap.size w w2) := (Below.newH (w := w) _).trans (b_.mono (by simp))
  clear b_ HCO
  have hlt_ := vA.lt
  haveI := VarA.ne vA
  have k1_ := Cls.cell hlt_ (vA.c 1 rfl)
  have k2_ := Cls.cell hlt_ (vA.c 2 rfl)
  have hME : ∀ (v : Value) (W : World), (Go.method 292 147 v "loop.example/g00341/impl.ok").run Try.prog W = .ok (150, v) W := fun v W => by kernel_rfl
  have hVM : ∀ W, (∃ i : Cls w2, W = i.W) → VarA W w.heap.size 72 #[.int .i64 3, .int .i64 fr, .int .i64 to, .int .i64 rq, .int .i64 ok, .int .i64 op_, .int .i64 oq, .bool od, .slice a1 n1 c1, .int .i64 tp, .int .i64 tq, .bool td, .slice a2 n2 c2, .int .i64 ov, .int .i64 rc, .int .i64 rp_, .int .i64 rq_, .bool rd, .int .i64 rv, .slice a3 n3 c3, .int .i64 xs, .int .i64 xb, .int .i64 xn, .int .i64 pk, .int .i64 pp, .int .i64 pq, .bool pd, .slice a4 n4 c4, .int .i64 sp, .int .i64 sq, .bool sd, .int .i64 cd, .int .i64 hp, .int .i64 hq, .bool hd] := fun W ⟨i, hi⟩ => by rw [hi]; exact VarA.step vA i.h
  rcases (show e1 = false ∨ (e1 = true ∧ e2 = false) ∨ (e1 = true ∧ e2 = true ∧ bc = false) ∨ (e1 = true ∧ e2 = true ∧ bc = true) by cases e1 <;> cases e2 <;> cases bc <;> simp) with rfl | ⟨rfl, rfl⟩ | ⟨rfl, rfl, rfl⟩ | ⟨rfl, rfl, rfl⟩
  all_goals
    go_wp2_with fail
    refine wp_region_cls (by kernel_rfl) (by kernel_rfl) ?_
    repeat (go_big_quiet_step (first
      | (go_at_call 78; first | (with_reducible exact Calls.cls_same (HE1.out _)) | (with_reducible exact Calls.cls_same (HE2.out _)))
      | (go_at_call 150; exact Calls.cls (HOK.out _ (HB.out.trans ((Cls.h _).mono HB.out.size))))
      | (go_at_call 80; exact Calls.cls (HHE.out _))
      | (go_at_call 81; exact Calls.cls (HWI.out _))
      | (go_at_call 79; exact Calls.cls (HSA.out _ (HB.out.trans ((Cls.h _).mono HB.out.size))))))
    try
      refine wpQuiet_loadA hVM rfl rfl Try.underlying72 rfl (by kernel_rfl) ?_
      simp only [Act.put, List.setIfInBounds_toArray, List.set_cons_succ, List.set_cons_zero]
      refine wpQuiet_loadA hVM rfl rfl Try.underlying72 rfl (by kernel_rfl) ?_
      simp only [Act.put, List.setIfInBounds_toArray, List.set_cons_succ, List.set_cons_zero]
      repeat (go_big_quiet_step (first
        | (go_at_call 78; first | (with_reducible exact Calls.cls_same (HE1.out _)) | (with_reducible exact Calls.cls_same (HE2.out _)))
        | (go_at_call 150; exact Calls.cls (HOK.out _ (HB.out.trans ((Cls.h _).mono HB.out.size))))
        | (go_at_call 80; exact Calls.cls (HHE.out _))
        | (go_at_call 81; exact Calls.cls (HWI.out _))
        | (go_at_call 79; exact Calls.cls (HSA.out _ (HB.out.trans ((Cls.h _).mono HB.out.size))))))
    refine wpQuiet_nil ?_
    rintro w' ⟨⟨w', b_⟩, rfl⟩
    have HB_ : Hid _ := HB.out.trans (b_.mono HB.out.size)
    clear HOK HHE HWI HSA HE1 HE2 hME hVM k1_ k2_ this vA b_
    go_wp2
    go_ret
    exact ⟨by first | rfl | simp, HB_.out⟩
end Go.Proofs.Ytaaongjnpnanmaa
end
