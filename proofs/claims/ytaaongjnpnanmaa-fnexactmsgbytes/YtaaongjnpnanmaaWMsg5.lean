/- What the program asks of a message by its kind. Condition: no more than 2^21 of all. -/
import Derived.Test.YtaaongjnpnanmaaWMsg4
import Derived.Test.YtaaongjnpnanmaaOpOks2
namespace Go.Proofs.Ytaaongjnpnanmaa
open Go.RowKit
set_option linter.unusedVariables false
set_option linter.unusedSimpArgs false
set_option maxRecDepth 100000

theorem implEnd_w (n : Int) (w : World) : Calls Try.prog 78 #[.int .i64 n] w fun e w' => e = .returned (.bool (isEndB n)) ∧ w' = w := by
  go_enter Try.func78, Try.ntmps78
  go_wp2
  all_goals (go_ret; exact ⟨by first | rfl | (simp_all [isEndB]; done) | (simp_all [isEndB]; omega), rfl⟩)
theorem implFlag_w (n : Int) (w : World) : Calls Try.prog 153 #[.int .i64 n] w fun e w' => e = .returned (.bool (decide (n = 0) || decide (n = 1))) ∧ w' = w := by
  go_enter Try.func153, Try.ntmps153
  go_wp2
  all_goals (go_ret; exact ⟨by first | rfl | (simp_all; done) | (simp_all; omega) | (simp_all; rw [Bool.eq_iff_iff]; simp; done), rfl⟩)
theorem VarA.l15 {w : World} {b : Nat} {T : TypeId} {x0 x1 x2 x3 x4 x5 x6 x7 x8 x9 x10 x11 x12 x13 x14 : Value} (h : VarA w b T #[x0, x1, x2, x3, x4, x5, x6, x7, x8, x9, x10, x11, x12, x13, x14]) : w.cell? ⟨b, 0, none⟩ = some x0 ∧ w.cell? ⟨b, 1, none⟩ = some x1 ∧ w.cell? ⟨b, 2, none⟩ = some x2 ∧ w.cell? ⟨b, 3, none⟩ = some x3 ∧ w.cell? ⟨b, 4, none⟩ = some x4 ∧ w.cell? ⟨b, 5, none⟩ = some x5 ∧ w.cell? ⟨b, 6, none⟩ = some x6 ∧ w.cell? ⟨b, 7, none⟩ = some x7 ∧ w.cell? ⟨b, 8, none⟩ = some x8 ∧ w.cell? ⟨b, 9, none⟩ = some x9 ∧ w.cell? ⟨b, 10, none⟩ = some x10 ∧ w.cell? ⟨b, 11, none⟩ = some x11 ∧ w.cell? ⟨b, 12, none⟩ = some x12 ∧ w.cell? ⟨b, 13, none⟩ = some x13 ∧ w.cell? ⟨b, 14, none⟩ = some x14 := ⟨h.c 0 rfl, h.c 1 rfl, h.c 2 rfl, h.c 3 rfl, h.c 4 rfl, h.c 5 rfl, h.c 6 rfl, h.c 7 rfl, h.c 8 rfl, h.c 9 rfl, h.c 10 rfl, h.c 11 rfl, h.c 12 rfl, h.c 13 rfl, h.c 14 rfl⟩
set_option maxHeartbeats 4000000 in
theorem okM0 (m : MsD) (a1 a2 a3 a4 : Option Addr) (n1 n2 n3 n4 c1 c2 c3 c4 : Nat) (S : Nat → Prop) (w : World) (r : RdM w S m (.slice a1 n1 c1) (.slice a2 n2 c2) (.slice a3 n3 c3) (.slice a4 n4 c4)) (hl : szMs m ≤ 2097152) :
    Calls Try.prog 143 #[.agg #[.int .i64 m.req, .int .i64 m.op.kind, .int .i64 m.op.dir.sh, .int .i64 m.op.dir.ino, .bool m.op.dir.dir, .slice a1 n1 c1, .int .i64 m.op.to.sh, .int .i64 m.op.to.ino, .bool m.op.to.dir, .slice a2 n2 c2, .int .i64 m.op.val]] w fun e w' => e = .returned (.bool (num m.req && OOk m.op)) ∧ Below w.heap.size w w' := by
  obtain ⟨r1, r2, r3, r4⟩ := r
  unfold szMs at hl
  have HU : Hid (∀ (n : Int) (W : World), Calls Try.prog 55 #[.int .i64 n] W fun e w' => e = .returned (.bool (num n)) ∧ w' = W) := fun n W => isNumber_any n W
  have HT : Hid (∀ (a b c : Int) (W : World), Calls Try.prog 16 #[.agg #[.int .i64 a, .int .i64 b, .int .i64 c]] W fun e w' => e = .returned (.bool (TOk (a, b, c))) ∧ w' = W.alloc (.cells #[.int .i64 a, .int .i64 b, .int .i64 c] 36)) := fun a b c W => implTxOk_w (a, b, c) W
  have HC : Hid (∀ (n : Int) (W : World), Calls Try.prog 67 #[.int .i64 n] W fun e w' => e = .returned (.bool (isCd n)) ∧ w' = W) := fun n W => implCode_w n W
  have HFL : Hid (∀ (n : Int) (W : World), Calls Try.prog 153 #[.int .i64 n] W fun e w' => e = .returned (.bool (decide (n = 0) || decide (n = 1))) ∧ w' = W) := fun n W => implFlag_w n W
  have HD : Hid (∀ (p q : Int) (d : Bool) (W : World), Calls Try.prog 62 #[.agg #[.int .i64 p, .int .i64 q, .bool d]] W fun e w' => e = .returned (.bool (HOk (p, q, d) && d)) ∧ w' = (W.alloc (.cells #[.int .i64 p, .int .i64 q, .bool d] 46)).alloc (.cells #[.int .i64 p, .int .i64 q, .bool d] 46)) := fun p q d W => implDir_w (p, q, d) W
  have HN : Hid (∀ (p q : Int) (d : Bool) (W : World), Calls Try.prog 68 #[.agg #[.int .i64 p, .int .i64 q, .bool d]] W fun e w' => e = .returned (.bool (noneOk (p, q, d))) ∧ Below W.heap.size W w') := fun p q d W => implNone_any (p, q, d) W
  have HO : Hid (∀ W, Below w.heap.size w W → _) := fun W hW => implOpOk_any _ _ m.op S W (r1.step hW) (r2.step hW) (by omega) (by omega)
  clear r1 r2 r3 r4 hl
  obtain ⟨kd, fr, to, rq, ⟨ok, ⟨op_, oq, od⟩, nm, ⟨tp, tq, td⟩, asn, ov⟩, ⟨rc, ⟨rp_, rq_, rd⟩, rv, es⟩, ⟨xs, xb, xn⟩, ⟨pk, ⟨pp, pq, pd⟩, pas, ⟨sp, sq, sd⟩⟩, cd, ⟨hp, hq, hd⟩⟩ := m
  dsimp only at HO ⊢
  go_enter Try.func143, Try.ntmps143
  go_wp2_with (first | (go_at_call 55; refine Calls.mono (HU.out _ _) ?_; rintro e w' ⟨rfl, rfl⟩))
  all_goals first | (go_ret; refine ⟨?_, by repeat (first | exact Below.refl _ _ | refine Below.al ?_ _ | refine Below.drew ?_ | refine below_drewN2 ?_ _)⟩; first | rfl | (simp_all; done) | (simp_all; omega)) | (refine Calls.mono (HO.out _ (by repeat (first | exact Below.refl _ _ | refine Below.al ?_ _ | refine Below.drew ?_ | refine below_drewN2 ?_ _))) ?_; rintro e w2 ⟨rfl, b_⟩; go_wp2; all_goals (go_ret; refine ⟨?_, Below.trans (by repeat (first | exact Below.refl _ _ | refine Below.al ?_ _ | refine Below.drew ?_ | refine below_drewN2 ?_ _)) (b_.mono (by simp <;> omega))⟩; first | rfl | (simp_all; done) | (simp_all; omega)))
set_option maxHeartbeats 4000000 in
theorem okM1 (m : MsD) (a1 a2 a3 a4 : Option Addr) (n1 n2 n3 n4 c1 c2 c3 c4 : Nat) (S : Nat → Prop) (w : World) (r : RdM w S m (.slice a1 n1 c1) (.slice a2 n2 c2) (.slice a3 n3 c3) (.slice a4 n4 c4)) (hl : szMs m ≤ 2097152) :
    Calls Try.prog 148 #[.agg #[.int .i64 m.req, .int .i64 m.rp.code, .int .i64 m.rp.h.sh, .int .i64 m.rp.h.ino, .bool m.rp.h.dir, .int .i64 m.rp.val, .slice a3 n3 c3]] w fun e w' => e = .returned (.bool (num m.req && ROk m.rp)) ∧ Below w.heap.size w w' := by
  obtain ⟨r1, r2, r3, r4⟩ := r
  unfold szMs at hl
  have HU : Hid (∀ (n : Int) (W : World), Calls Try.prog 55 #[.int .i64 n] W fun e w' => e = .returned (.bool (num n)) ∧ w' = W) := fun n W => isNumber_any n W
  have HT : Hid (∀ (a b c : Int) (W : World), Calls Try.prog 16 #[.agg #[.int .i64 a, .int .i64 b, .int .i64 c]] W fun e w' => e = .returned (.bool (TOk (a, b, c))) ∧ w' = W.alloc (.cells #[.int .i64 a, .int .i64 b, .int .i64 c] 36)) := fun a b c W => implTxOk_w (a, b, c) W
  have HC : Hid (∀ (n : Int) (W : World), Calls Try.prog 67 #[.int .i64 n] W fun e w' => e = .returned (.bool (isCd n)) ∧ w' = W) := fun n W => implCode_w n W
  have HFL : Hid (∀ (n : Int) (W : World), Calls Try.prog 153 #[.int .i64 n] W fun e w' => e = .returned (.bool (decide (n = 0) || decide (n = 1))) ∧ w' = W) := fun n W => implFlag_w n W
  have HD : Hid (∀ (p q : Int) (d : Bool) (W : World), Calls Try.prog 62 #[.agg #[.int .i64 p, .int .i64 q, .bool d]] W fun e w' => e = .returned (.bool (HOk (p, q, d) && d)) ∧ w' = (W.alloc (.cells #[.int .i64 p, .int .i64 q, .bool d] 46)).alloc (.cells #[.int .i64 p, .int .i64 q, .bool d] 46)) := fun p q d W => implDir_w (p, q, d) W
  have HN : Hid (∀ (p q : Int) (d : Bool) (W : World), Calls Try.prog 68 #[.agg #[.int .i64 p, .int .i64 q, .bool d]] W fun e w' => e = .returned (.bool (noneOk (p, q, d))) ∧ Below W.heap.size W w') := fun p q d W => implNone_any (p, q, d) W
  have HO : Hid (∀ W, Below w.heap.size w W → _) := fun W hW => implReplyOk_any _ m.rp S W (r3.step hW) (by omega)
  clear r1 r2 r3 r4 hl
  obtain ⟨kd, fr, to, rq, ⟨ok, ⟨op_, oq, od⟩, nm, ⟨tp, tq, td⟩, asn, ov⟩, ⟨rc, ⟨rp_, rq_, rd⟩, rv, es⟩, ⟨xs, xb, xn⟩, ⟨pk, ⟨pp, pq, pd⟩, pas, ⟨sp, sq, sd⟩⟩, cd, ⟨hp, hq, hd⟩⟩ := m
  dsimp only at HO ⊢
  go_enter Try.func148, Try.ntmps148
  go_wp2_with (first | (go_at_call 55; refine Calls.mono (HU.out _ _) ?_; rintro e w' ⟨rfl, rfl⟩))
  all_goals first | (go_ret; refine ⟨?_, by repeat (first | exact Below.refl _ _ | refine Below.al ?_ _ | refine Below.drew ?_ | refine below_drewN2 ?_ _)⟩; first | rfl | (simp_all; done) | (simp_all; omega)) | (refine Calls.mono (HO.out _ (by repeat (first | exact Below.refl _ _ | refine Below.al ?_ _ | refine Below.drew ?_ | refine below_drewN2 ?_ _))) ?_; rintro e w2 ⟨rfl, b_⟩; go_wp2; all_goals (go_ret; refine ⟨?_, Below.trans (by repeat (first | exact Below.refl _ _ | refine Below.al ?_ _ | refine Below.drew ?_ | refine below_drewN2 ?_ _)) (b_.mono (by simp <;> omega))⟩; first | rfl | (simp_all; done) | (simp_all; omega)))
set_option maxHeartbeats 4000000 in
theorem okM2 (m : MsD) (a1 a2 a3 a4 : Option Addr) (n1 n2 n3 n4 c1 c2 c3 c4 : Nat) (S : Nat → Prop) (w : World) (r : RdM w S m (.slice a1 n1 c1) (.slice a2 n2 c2) (.slice a3 n3 c3) (.slice a4 n4 c4)) (hl : szMs m ≤ 2097152) :
    Calls Try.prog 149 #[.agg #[.int .i64 m.tx.1, .int .i64 m.tx.2.1, .int .i64 m.tx.2.2, .int .i64 m.pt.kind, .int .i64 m.pt.h.sh, .int .i64 m.pt.h.ino, .bool m.pt.h.dir, .slice a4 n4 c4, .int .i64 m.pt.to.sh, .int .i64 m.pt.to.ino, .bool m.pt.to.dir]] w fun e w' => e = .returned (.bool (TOk m.tx && POk m.pt)) ∧ Below w.heap.size w w' := by
  obtain ⟨r1, r2, r3, r4⟩ := r
  unfold szMs at hl
  have HU : Hid (∀ (n : Int) (W : World), Calls Try.prog 55 #[.int .i64 n] W fun e w' => e = .returned (.bool (num n)) ∧ w' = W) := fun n W => isNumber_any n W
  have HT : Hid (∀ (a b c : Int) (W : World), Calls Try.prog 16 #[.agg #[.int .i64 a, .int .i64 b, .int .i64 c]] W fun e w' => e = .returned (.bool (TOk (a, b, c))) ∧ w' = W.alloc (.cells #[.int .i64 a, .int .i64 b, .int .i64 c] 36)) := fun a b c W => implTxOk_w (a, b, c) W
  have HC : Hid (∀ (n : Int) (W : World), Calls Try.prog 67 #[.int .i64 n] W fun e w' => e = .returned (.bool (isCd n)) ∧ w' = W) := fun n W => implCode_w n W
  have HFL : Hid (∀ (n : Int) (W : World), Calls Try.prog 153 #[.int .i64 n] W fun e w' => e = .returned (.bool (decide (n = 0) || decide (n = 1))) ∧ w' = W) := fun n W => implFlag_w n W
  have HD : Hid (∀ (p q : Int) (d : Bool) (W : World), Calls Try.prog 62 #[.agg #[.int .i64 p, .int .i64 q, .bool d]] W fun e w' => e = .returned (.bool (HOk (p, q, d) && d)) ∧ w' = (W.alloc (.cells #[.int .i64 p, .int .i64 q, .bool d] 46)).alloc (.cells #[.int .i64 p, .int .i64 q, .bool d] 46)) := fun p q d W => implDir_w (p, q, d) W
  have HN : Hid (∀ (p q : Int) (d : Bool) (W : World), Calls Try.prog 68 #[.agg #[.int .i64 p, .int .i64 q, .bool d]] W fun e w' => e = .returned (.bool (noneOk (p, q, d))) ∧ Below W.heap.size W w') := fun p q d W => implNone_any (p, q, d) W
  have HO : Hid (∀ W, Below w.heap.size w W → _) := fun W hW => implPartOk_any _ m.pt S W (r4.step hW) (by omega)
  clear r1 r2 r3 r4 hl
  obtain ⟨kd, fr, to, rq, ⟨ok, ⟨op_, oq, od⟩, nm, ⟨tp, tq, td⟩, asn, ov⟩, ⟨rc, ⟨rp_, rq_, rd⟩, rv, es⟩, ⟨xs, xb, xn⟩, ⟨pk, ⟨pp, pq, pd⟩, pas, ⟨sp, sq, sd⟩⟩, cd, ⟨hp, hq, hd⟩⟩ := m
  dsimp only at HO ⊢
  go_enter Try.func149, Try.ntmps149
  go_wp2_with (first | (go_at_call 16; refine Calls.mono (HT.out _ _ _ _) ?_; rintro e w' ⟨rfl, rfl⟩))
  all_goals first | (go_ret; refine ⟨?_, by repeat (first | exact Below.refl _ _ | refine Below.al ?_ _ | refine Below.drew ?_ | refine below_drewN2 ?_ _)⟩; first | rfl | (simp_all; done) | (simp_all; omega)) | (refine Calls.mono (HO.out _ (by repeat (first | exact Below.refl _ _ | refine Below.al ?_ _ | refine Below.drew ?_ | refine below_drewN2 ?_ _))) ?_; rintro e w2 ⟨rfl, b_⟩; go_wp2; all_goals (go_ret; refine ⟨?_, Below.trans (by repeat (first | exact Below.refl _ _ | refine Below.al ?_ _ | refine Below.drew ?_ | refine below_drewN2 ?_ _)) (b_.mono (by simp <;> omega))⟩; first | rfl | (simp_all; done) | (simp_all; omega)))
set_option maxHeartbeats 4000000 in
theorem okM3 (m : MsD) (a1 a2 a3 a4 : Option Addr) (n1 n2 n3 n4 c1 c2 c3 c4 : Nat) (S : Nat → Prop) (w : World) (r : RdM w S m (.slice a1 n1 c1) (.slice a2 n2 c2) (.slice a3 n3 c3) (.slice a4 n4 c4)) (hl : szMs m ≤ 2097152) :
    Calls Try.prog 150 #[.agg #[.int .i64 m.tx.1, .int .i64 m.tx.2.1, .int .i64 m.tx.2.2, .int .i64 m.pt.kind, .int .i64 m.pt.h.sh, .int .i64 m.pt.h.ino, .bool m.pt.h.dir, .slice a4 n4 c4, .int .i64 m.pt.to.sh, .int .i64 m.pt.to.ino, .bool m.pt.to.dir, .int .i64 m.code, .int .i64 m.h.sh, .int .i64 m.h.ino, .bool m.h.dir]] w fun e w' => e = .returned (.bool (TOk m.tx && (POk m.pt && (isCd m.code && noneOk m.h)))) ∧ Below w.heap.size w w' := by
  obtain ⟨r1, r2, r3, r4⟩ := r
  unfold szMs at hl
  have HU : Hid (∀ (n : Int) (W : World), Calls Try.prog 55 #[.int .i64 n] W fun e w' => e = .returned (.bool (num n)) ∧ w' = W) := fun n W => isNumber_any n W
  have HT : Hid (∀ (a b c : Int) (W : World), Calls Try.prog 16 #[.agg #[.int .i64 a, .int .i64 b, .int .i64 c]] W fun e w' => e = .returned (.bool (TOk (a, b, c))) ∧ w' = W.alloc (.cells #[.int .i64 a, .int .i64 b, .int .i64 c] 36)) := fun a b c W => implTxOk_w (a, b, c) W
  have HC : Hid (∀ (n : Int) (W : World), Calls Try.prog 67 #[.int .i64 n] W fun e w' => e = .returned (.bool (isCd n)) ∧ w' = W) := fun n W => implCode_w n W
  have HFL : Hid (∀ (n : Int) (W : World), Calls Try.prog 153 #[.int .i64 n] W fun e w' => e = .returned (.bool (decide (n = 0) || decide (n = 1))) ∧ w' = W) := fun n W => implFlag_w n W
  have HD : Hid (∀ (p q : Int) (d : Bool) (W : World), Calls Try.prog 62 #[.agg #[.int .i64 p, .int .i64 q, .bool d]] W fun e w' => e = .returned (.bool (HOk (p, q, d) && d)) ∧ w' = (W.alloc (.cells #[.int .i64 p, .int .i64 q, .bool d] 46)).alloc (.cells #[.int .i64 p, .int .i64 q, .bool d] 46)) := fun p q d W => implDir_w (p, q, d) W
  have HN : Hid (∀ (p q : Int) (d : Bool) (W : World), Calls Try.prog 68 #[.agg #[.int .i64 p, .int .i64 q, .bool d]] W fun e w' => e = .returned (.bool (noneOk (p, q, d))) ∧ Below W.heap.size W w') := fun p q d W => implNone_any (p, q, d) W
  have HO : Hid (∀ W, Below w.heap.size w W → _) := fun W hW => implPartOk_any _ m.pt S W (r4.step hW) (by omega)
  clear r1 r2 r3 r4 hl
  obtain ⟨kd, fr, to, rq, ⟨ok, ⟨op_, oq, od⟩, nm, ⟨tp, tq, td⟩, asn, ov⟩, ⟨rc, ⟨rp_, rq_, rd⟩, rv, es⟩, ⟨xs, xb, xn⟩, ⟨pk, ⟨pp, pq, pd⟩, pas, ⟨sp, sq, sd⟩⟩, cd, ⟨hp, hq, hd⟩⟩ := m
  dsimp only at HO ⊢
  go_enter Try.func150, Try.ntmps150
  go_wp2_with (first | (go_at_call 16; refine Calls.mono (HT.out _ _ _ _) ?_; rintro e w' ⟨rfl, rfl⟩))
  all_goals first | (go_ret; refine ⟨?_, by repeat (first | exact Below.refl _ _ | refine Below.al ?_ _ | refine Below.drew ?_ | refine below_drewN2 ?_ _)⟩; first | rfl | (simp_all; done) | (simp_all; omega)) | (refine Calls.mono (HO.out _ (by repeat (first | exact Below.refl _ _ | refine Below.al ?_ _ | refine Below.drew ?_ | refine below_drewN2 ?_ _))) ?_; rintro e w2 ⟨rfl, b_⟩; have vA : VarA w2 w.heap.size 147 #[.int .i64 xs, .int .i64 xb, .int .i64 xn, .int .i64 pk, .int .i64 pp, .int .i64 pq, .bool pd, .slice a4 n4 c4, .int .i64 sp, .int .i64 sq, .bool sd, .int .i64 cd, .int .i64 hp, .int .i64 hq, .bool hd] := VarA.step ((VarA.new w _ _).alloc _) b_; have HB : Hid (Below w.heap.size w w2) := Below.trans (by repeat (first | exact Below.refl _ _ | refine Below.al ?_ _ | refine Below.drew ?_ | refine below_drewN2 ?_ _)) (b_.mono (by simp <;> omega)); clear b_; obtain ⟨a0_, a1_, a2_, a3_, a4_, a5_, a6_, a7_, a8_, a9_, a10_, a11_, a12_, a13_, a14_⟩ := vA.l15; go_wp2_with (first | (go_at_call 67; refine Calls.mono (HC.out _ _) ?_; rintro e w' ⟨rfl, rfl⟩)); all_goals first | (go_ret; refine ⟨?_, HB.out⟩; first | rfl | (simp_all; done) | (simp_all; omega)) | (refine Calls.mono (HN.out _ _ _ _) ?_; rintro e w3 ⟨rfl, b_⟩; go_wp2; all_goals (go_ret; refine ⟨?_, HB.out.trans (b_.mono HB.out.size)⟩; first | rfl | (simp_all; done) | (simp_all; omega))))
set_option maxHeartbeats 4000000 in
theorem okM4 (m : MsD) (a1 a2 a3 a4 : Option Addr) (n1 n2 n3 n4 c1 c2 c3 c4 : Nat) (S : Nat → Prop) (w : World) (r : RdM w S m (.slice a1 n1 c1) (.slice a2 n2 c2) (.slice a3 n3 c3) (.slice a4 n4 c4)) (hl : szMs m ≤ 2097152) :
    Calls Try.prog 151 #[.agg #[.int .i64 m.tx.1, .int .i64 m.tx.2.1, .int .i64 m.tx.2.2]] w fun e w' => e = .returned (.bool (TOk m.tx)) ∧ Below w.heap.size w w' := by
  obtain ⟨r1, r2, r3, r4⟩ := r
  unfold szMs at hl
  have HU : Hid (∀ (n : Int) (W : World), Calls Try.prog 55 #[.int .i64 n] W fun e w' => e = .returned (.bool (num n)) ∧ w' = W) := fun n W => isNumber_any n W
  have HT : Hid (∀ (a b c : Int) (W : World), Calls Try.prog 16 #[.agg #[.int .i64 a, .int .i64 b, .int .i64 c]] W fun e w' => e = .returned (.bool (TOk (a, b, c))) ∧ w' = W.alloc (.cells #[.int .i64 a, .int .i64 b, .int .i64 c] 36)) := fun a b c W => implTxOk_w (a, b, c) W
  have HC : Hid (∀ (n : Int) (W : World), Calls Try.prog 67 #[.int .i64 n] W fun e w' => e = .returned (.bool (isCd n)) ∧ w' = W) := fun n W => implCode_w n W
  have HFL : Hid (∀ (n : Int) (W : World), Calls Try.prog 153 #[.int .i64 n] W fun e w' => e = .returned (.bool (decide (n = 0) || decide (n = 1))) ∧ w' = W) := fun n W => implFlag_w n W
  have HD : Hid (∀ (p q : Int) (d : Bool) (W : World), Calls Try.prog 62 #[.agg #[.int .i64 p, .int .i64 q, .bool d]] W fun e w' => e = .returned (.bool (HOk (p, q, d) && d)) ∧ w' = (W.alloc (.cells #[.int .i64 p, .int .i64 q, .bool d] 46)).alloc (.cells #[.int .i64 p, .int .i64 q, .bool d] 46)) := fun p q d W => implDir_w (p, q, d) W
  have HN : Hid (∀ (p q : Int) (d : Bool) (W : World), Calls Try.prog 68 #[.agg #[.int .i64 p, .int .i64 q, .bool d]] W fun e w' => e = .returned (.bool (noneOk (p, q, d))) ∧ Below W.heap.size W w') := fun p q d W => implNone_any (p, q, d) W
  clear r1 r2 r3 r4 hl
  obtain ⟨kd, fr, to, rq, ⟨ok, ⟨op_, oq, od⟩, nm, ⟨tp, tq, td⟩, asn, ov⟩, ⟨rc, ⟨rp_, rq_, rd⟩, rv, es⟩, ⟨xs, xb, xn⟩, ⟨pk, ⟨pp, pq, pd⟩, pas, ⟨sp, sq, sd⟩⟩, cd, ⟨hp, hq, hd⟩⟩ := m
  dsimp only
  go_enter Try.func151, Try.ntmps151
  go_wp2_with (first | (go_at_call 16; refine Calls.mono (HT.out _ _ _ _) ?_; rintro e w' ⟨rfl, rfl⟩))
  all_goals (go_ret; refine ⟨?_, by repeat (first | exact Below.refl _ _ | refine Below.al ?_ _ | refine Below.drew ?_ | refine below_drewN2 ?_ _)⟩; first | rfl | (simp_all; done) | (simp_all; omega))
set_option maxHeartbeats 4000000 in
theorem okM5 (m : MsD) (a1 a2 a3 a4 : Option Addr) (n1 n2 n3 n4 c1 c2 c3 c4 : Nat) (S : Nat → Prop) (w : World) (r : RdM w S m (.slice a1 n1 c1) (.slice a2 n2 c2) (.slice a3 n3 c3) (.slice a4 n4 c4)) (hl : szMs m ≤ 2097152) :
    Calls Try.prog 152 #[.agg #[.int .i64 m.tx.1, .int .i64 m.tx.2.1, .int .i64 m.tx.2.2, .int .i64 m.code]] w fun e w' => e = .returned (.bool (TOk m.tx && (decide (m.code = 0) || decide (m.code = 1)))) ∧ Below w.heap.size w w' := by
  obtain ⟨r1, r2, r3, r4⟩ := r
  unfold szMs at hl
  have HU : Hid (∀ (n : Int) (W : World), Calls Try.prog 55 #[.int .i64 n] W fun e w' => e = .returned (.bool (num n)) ∧ w' = W) := fun n W => isNumber_any n W
  have HT : Hid (∀ (a b c : Int) (W : World), Calls Try.prog 16 #[.agg #[.int .i64 a, .int .i64 b, .int .i64 c]] W fun e w' => e = .returned (.bool (TOk (a, b, c))) ∧ w' = W.alloc (.cells #[.int .i64 a, .int .i64 b, .int .i64 c] 36)) := fun a b c W => implTxOk_w (a, b, c) W
  have HC : Hid (∀ (n : Int) (W : World), Calls Try.prog 67 #[.int .i64 n] W fun e w' => e = .returned (.bool (isCd n)) ∧ w' = W) := fun n W => implCode_w n W
  have HFL : Hid (∀ (n : Int) (W : World), Calls Try.prog 153 #[.int .i64 n] W fun e w' => e = .returned (.bool (decide (n = 0) || decide (n = 1))) ∧ w' = W) := fun n W => implFlag_w n W
  have HD : Hid (∀ (p q : Int) (d : Bool) (W : World), Calls Try.prog 62 #[.agg #[.int .i64 p, .int .i64 q, .bool d]] W fun e w' => e = .returned (.bool (HOk (p, q, d) && d)) ∧ w' = (W.alloc (.cells #[.int .i64 p, .int .i64 q, .bool d] 46)).alloc (.cells #[.int .i64 p, .int .i64 q, .bool d] 46)) := fun p q d W => implDir_w (p, q, d) W
  have HN : Hid (∀ (p q : Int) (d : Bool) (W : World), Calls Try.prog 68 #[.agg #[.int .i64 p, .int .i64 q, .bool d]] W fun e w' => e = .returned (.bool (noneOk (p, q, d))) ∧ Below W.heap.size W w') := fun p q d W => implNone_any (p, q, d) W
  clear r1 r2 r3 r4 hl
  obtain ⟨kd, fr, to, rq, ⟨ok, ⟨op_, oq, od⟩, nm, ⟨tp, tq, td⟩, asn, ov⟩, ⟨rc, ⟨rp_, rq_, rd⟩, rv, es⟩, ⟨xs, xb, xn⟩, ⟨pk, ⟨pp, pq, pd⟩, pas, ⟨sp, sq, sd⟩⟩, cd, ⟨hp, hq, hd⟩⟩ := m
  dsimp only
  go_enter Try.func152, Try.ntmps152
  go_wp2_with (first | (go_at_call 16; refine Calls.mono (HT.out _ _ _ _) ?_; rintro e w' ⟨rfl, rfl⟩) | (go_at_call 153; refine Calls.mono (HFL.out _ _) ?_; rintro e w' ⟨rfl, rfl⟩))
  all_goals (go_ret; refine ⟨?_, by repeat (first | exact Below.refl _ _ | refine Below.al ?_ _ | refine Below.drew ?_ | refine below_drewN2 ?_ _)⟩; first | rfl | (simp_all; done) | (simp_all; omega))
set_option maxHeartbeats 4000000 in
theorem okM6 (m : MsD) (a1 a2 a3 a4 : Option Addr) (n1 n2 n3 n4 c1 c2 c3 c4 : Nat) (S : Nat → Prop) (w : World) (r : RdM w S m (.slice a1 n1 c1) (.slice a2 n2 c2) (.slice a3 n3 c3) (.slice a4 n4 c4)) (hl : szMs m ≤ 2097152) :
    Calls Try.prog 154 #[.agg #[.int .i64 m.tx.1, .int .i64 m.tx.2.1, .int .i64 m.tx.2.2, .int .i64 m.req, .int .i64 m.h.sh, .int .i64 m.h.ino, .bool m.h.dir]] w fun e w' => e = .returned (.bool (TOk m.tx && (num m.req && (HOk m.h && m.h.dir)))) ∧ Below w.heap.size w w' := by
  obtain ⟨r1, r2, r3, r4⟩ := r
  unfold szMs at hl
  have HU : Hid (∀ (n : Int) (W : World), Calls Try.prog 55 #[.int .i64 n] W fun e w' => e = .returned (.bool (num n)) ∧ w' = W) := fun n W => isNumber_any n W
  have HT : Hid (∀ (a b c : Int) (W : World), Calls Try.prog 16 #[.agg #[.int .i64 a, .int .i64 b, .int .i64 c]] W fun e w' => e = .returned (.bool (TOk (a, b, c))) ∧ w' = W.alloc (.cells #[.int .i64 a, .int .i64 b, .int .i64 c] 36)) := fun a b c W => implTxOk_w (a, b, c) W
  have HC : Hid (∀ (n : Int) (W : World), Calls Try.prog 67 #[.int .i64 n] W fun e w' => e = .returned (.bool (isCd n)) ∧ w' = W) := fun n W => implCode_w n W
  have HFL : Hid (∀ (n : Int) (W : World), Calls Try.prog 153 #[.int .i64 n] W fun e w' => e = .returned (.bool (decide (n = 0) || decide (n = 1))) ∧ w' = W) := fun n W => implFlag_w n W
  have HD : Hid (∀ (p q : Int) (d : Bool) (W : World), Calls Try.prog 62 #[.agg #[.int .i64 p, .int .i64 q, .bool d]] W fun e w' => e = .returned (.bool (HOk (p, q, d) && d)) ∧ w' = (W.alloc (.cells #[.int .i64 p, .int .i64 q, .bool d] 46)).alloc (.cells #[.int .i64 p, .int .i64 q, .bool d] 46)) := fun p q d W => implDir_w (p, q, d) W
  have HN : Hid (∀ (p q : Int) (d : Bool) (W : World), Calls Try.prog 68 #[.agg #[.int .i64 p, .int .i64 q, .bool d]] W fun e w' => e = .returned (.bool (noneOk (p, q, d))) ∧ Below W.heap.size W w') := fun p q d W => implNone_any (p, q, d) W
  clear r1 r2 r3 r4 hl
  obtain ⟨kd, fr, to, rq, ⟨ok, ⟨op_, oq, od⟩, nm, ⟨tp, tq, td⟩, asn, ov⟩, ⟨rc, ⟨rp_, rq_, rd⟩, rv, es⟩, ⟨xs, xb, xn⟩, ⟨pk, ⟨pp, pq, pd⟩, pas, ⟨sp, sq, sd⟩⟩, cd, ⟨hp, hq, hd⟩⟩ := m
  dsimp only
  go_enter Try.func154, Try.ntmps154
  go_wp2_with (first | (go_at_call 16; refine Calls.mono (HT.out _ _ _ _) ?_; rintro e w' ⟨rfl, rfl⟩) | (go_at_call 55; refine Calls.mono (HU.out _ _) ?_; rintro e w' ⟨rfl, rfl⟩) | (go_at_call 62; refine Calls.mono (HD.out _ _ _ _) ?_; rintro e w' ⟨rfl, rfl⟩))
  all_goals (go_ret; refine ⟨?_, by repeat (first | exact Below.refl _ _ | refine Below.al ?_ _ | refine Below.drew ?_ | refine below_drewN2 ?_ _)⟩; first | rfl | (simp_all; done) | (simp_all; omega))
set_option maxHeartbeats 4000000 in
theorem okM7 (m : MsD) (a1 a2 a3 a4 : Option Addr) (n1 n2 n3 n4 c1 c2 c3 c4 : Nat) (S : Nat → Prop) (w : World) (r : RdM w S m (.slice a1 n1 c1) (.slice a2 n2 c2) (.slice a3 n3 c3) (.slice a4 n4 c4)) (hl : szMs m ≤ 2097152) :
    Calls Try.prog 155 #[.agg #[.int .i64 m.tx.1, .int .i64 m.tx.2.1, .int .i64 m.tx.2.2, .int .i64 m.req, .int .i64 m.code, .int .i64 m.h.sh, .int .i64 m.h.ino, .bool m.h.dir]] w fun e w' => e = .returned (.bool (TOk m.tx && (num m.req && (isCd m.code && noneOk m.h)))) ∧ Below w.heap.size w w' := by
  obtain ⟨r1, r2, r3, r4⟩ := r
  unfold szMs at hl
  have HU : Hid (∀ (n : Int) (W : World), Calls Try.prog 55 #[.int .i64 n] W fun e w' => e = .returned (.bool (num n)) ∧ w' = W) := fun n W => isNumber_any n W
  have HT : Hid (∀ (a b c : Int) (W : World), Calls Try.prog 16 #[.agg #[.int .i64 a, .int .i64 b, .int .i64 c]] W fun e w' => e = .returned (.bool (TOk (a, b, c))) ∧ w' = W.alloc (.cells #[.int .i64 a, .int .i64 b, .int .i64 c] 36)) := fun a b c W => implTxOk_w (a, b, c) W
  have HC : Hid (∀ (n : Int) (W : World), Calls Try.prog 67 #[.int .i64 n] W fun e w' => e = .returned (.bool (isCd n)) ∧ w' = W) := fun n W => implCode_w n W
  have HFL : Hid (∀ (n : Int) (W : World), Calls Try.prog 153 #[.int .i64 n] W fun e w' => e = .returned (.bool (decide (n = 0) || decide (n = 1))) ∧ w' = W) := fun n W => implFlag_w n W
  have HD : Hid (∀ (p q : Int) (d : Bool) (W : World), Calls Try.prog 62 #[.agg #[.int .i64 p, .int .i64 q, .bool d]] W fun e w' => e = .returned (.bool (HOk (p, q, d) && d)) ∧ w' = (W.alloc (.cells #[.int .i64 p, .int .i64 q, .bool d] 46)).alloc (.cells #[.int .i64 p, .int .i64 q, .bool d] 46)) := fun p q d W => implDir_w (p, q, d) W
  have HN : Hid (∀ (p q : Int) (d : Bool) (W : World), Calls Try.prog 68 #[.agg #[.int .i64 p, .int .i64 q, .bool d]] W fun e w' => e = .returned (.bool (noneOk (p, q, d))) ∧ Below W.heap.size W w') := fun p q d W => implNone_any (p, q, d) W
  clear r1 r2 r3 r4 hl
  obtain ⟨kd, fr, to, rq, ⟨ok, ⟨op_, oq, od⟩, nm, ⟨tp, tq, td⟩, asn, ov⟩, ⟨rc, ⟨rp_, rq_, rd⟩, rv, es⟩, ⟨xs, xb, xn⟩, ⟨pk, ⟨pp, pq, pd⟩, pas, ⟨sp, sq, sd⟩⟩, cd, ⟨hp, hq, hd⟩⟩ := m
  dsimp only
  go_enter Try.func155, Try.ntmps155
  go_wp2_with (first | (go_at_call 16; refine Calls.mono (HT.out _ _ _ _) ?_; rintro e w' ⟨rfl, rfl⟩) | (go_at_call 55; refine Calls.mono (HU.out _ _) ?_; rintro e w' ⟨rfl, rfl⟩) | (go_at_call 67; refine Calls.mono (HC.out _ _) ?_; rintro e w' ⟨rfl, rfl⟩))
  all_goals first | (go_ret; refine ⟨?_, by repeat (first | exact Below.refl _ _ | refine Below.al ?_ _ | refine Below.drew ?_ | refine below_drewN2 ?_ _)⟩; first | rfl | (simp_all; done) | (simp_all; omega)) | (refine Calls.mono (HN.out _ _ _ _) ?_; rintro e w2 ⟨rfl, b_⟩; go_wp2; all_goals (go_ret; refine ⟨?_, Below.trans (by repeat (first | exact Below.refl _ _ | refine Below.al ?_ _ | refine Below.drew ?_ | refine below_drewN2 ?_ _)) (b_.mono (by simp <;> omega))⟩; first | rfl | (simp_all; done) | (simp_all; omega)))
end Go.Proofs.Ytaaongjnpnanmaa
