/- Joined: WMsg6b WMsg6 WVal2 WBy5. -/
import Derived.Test.YtaaongjnpnanmaaJ17
import Derived.Test.YtaaongjnpnanmaaJ16
import Derived.Test.YtaaongjnpnanmaaJ13

section
/- May a message be? By the program, kind by kind. Condition: no more than 2^21 of all. -/
namespace Go.Proofs.Ytaaongjnpnanmaa
open Go.RowKit
set_option linter.unusedVariables false
set_option linter.unusedSimpArgs false
set_option maxRecDepth 100000

set_option maxHeartbeats 8000000 in
theorem implMsg4 (m : MsD) (a1 a2 a3 a4 : Option Addr) (n1 n2 n3 n4 c1 c2 c3 c4 : Nat) (S : Nat → Prop) (w : World) (r : RdM w S m (.slice a1 n1 c1) (.slice a2 n2 c2) (.slice a3 n3 c3) (.slice a4 n4 c4)) (hl : szMs m ≤ 2097152) (hk : m.kind = 4) :
    Calls Try.prog 30 #[msV m (.slice a1 n1 c1) (.slice a2 n2 c2) (.slice a3 n3 c3) (.slice a4 n4 c4)] w fun e w' => e = .returned (.bool (MOk m)) ∧ Below w.heap.size w w' := by
  obtain ⟨r1, r2, r3, r4⟩ := r
  have hl' := hl
  unfold szMs at hl'
  have HCO : Hid (∀ W, _) := fun W => content4 m a1 a2 a3 a4 n1 n2 n3 n4 c1 c2 c3 c4 W hk
  have HOK : Hid (∀ W, Below w.heap.size w W → _) := fun W hW => okM4 m a1 a2 a3 a4 n1 n2 n3 n4 c1 c2 c3 c4 S W ⟨r1.step hW, r2.step hW, r3.step hW, r4.step hW⟩ hl
  have HHE : Hid (∀ W, _) := fun W => headOf_any m a1 a2 a3 a4 n1 n2 n3 n4 c1 c2 c3 c4 W
  have HWI : Hid (∀ W, _) := fun W => with4 m a1 a2 a3 a4 n1 n2 n3 n4 c1 c2 c3 c4 W
  have HSA : Hid (∀ W, Below w.heap.size w W → _) := fun W hW => sameMsg_any 4 m.fr m.to m.req 0 m.code 0 m.op op0 m.rp rp0 m.tx m.tx m.pt pt0 m.h hd0 a1 a2 a3 a4 n1 n2 n3 n4 c1 c2 c3 c4 none none none none 0 0 0 0 0 0 0 0 (zOp m.op) (zRp m.rp) (zPt m.pt) W
    (fun V hV => sameOp_zero _ _ m.op S V (r1.step (hW.trans (hV.mono hW.size))) (r2.step (hW.trans (hV.mono hW.size))))
    (fun V hV => sameReply_zero _ m.rp S V (r3.step (hW.trans (hV.mono hW.size))))
    (fun V hV => samePart_zero _ m.pt S V (r4.step (hW.trans (hV.mono hW.size))))
  have HE1 : Hid (∀ W, _) := fun W => implEnd_w m.fr W
  have HE2 : Hid (∀ W, _) := fun W => implEnd_w m.to W
  have hres : MOk m = (isEndB m.fr && (isEndB m.to && ((TOk m.tx) && (decide (m.req = 0) && (zOp m.op && (zRp m.rp && (decide (m.tx = m.tx) && (zPt m.pt && (decide (m.code = 0) && decide (m.h = hd0)))))))))) := by
    simp [MOk, MBody, hk, zTx, tx0, hd0, Bool.and_assoc]
  rw [hres]
  generalize (TOk m.tx) = bc at HOK ⊢
  generalize isEndB m.fr = e1 at HE1 ⊢
  generalize isEndB m.to = e2 at HE2 ⊢
  generalize (decide (m.req = 0) && (zOp m.op && (zRp m.rp && (decide (m.tx = m.tx) && (zPt m.pt && (decide (m.code = 0) && decide (m.h = hd0))))))) = bs at HSA ⊢
  clear r1 r2 r3 r4 hl hl' hres
  obtain ⟨kd, fr, to, rq, ⟨ok, ⟨op_, oq, od⟩, nm, ⟨tp, tq, td⟩, asn, ov⟩, ⟨rc, ⟨rp_, rq_, rd⟩, rv, es⟩, ⟨xs, xb, xn⟩, ⟨pk, ⟨pp, pq, pd⟩, pas, ⟨sp, sq, sd⟩⟩, cd, ⟨hp, hq, hd⟩⟩ := m
  dsimp only at hk HCO HOK HHE HWI HSA HE1 HE2 ⊢
  subst hk
  go_enter Try.func30, Try.ntmps30
  repeat (first | (with_reducible refine guardLoad (ty := 72) ?_; refine wpList_loadA (VarA.new w _ _) rfl Try.underlying72 rfl (by kernel_rfl) ?_) | go_values | go_skip | go_guarded | go_step)
  refine Calls.mono (HCO.out _) ?_
  rintro e w2 ⟨rfl, b_⟩
  have vA : VarA w2 w.heap.size 72 #[.int .i64 4, .int .i64 fr, .int .i64 to, .int .i64 rq, .int .i64 ok, .int .i64 op_, .int .i64 oq, .bool od, .slice a1 n1 c1, .int .i64 tp, .int .i64 tq, .bool td, .slice a2 n2 c2, .int .i64 ov, .int .i64 rc, .int .i64 rp_, .int .i64 rq_, .bool rd, .int .i64 rv, .slice a3 n3 c3, .int .i64 xs, .int .i64 xb, .int .i64 xn, .int .i64 pk, .int .i64 pp, .int .i64 pq, .bool pd, .slice a4 n4 c4, .int .i64 sp, .int .i64 sq, .bool sd, .int .i64 cd, .int .i64 hp, .int .i64 hq, .bool hd] := VarA.step (VarA.new w _ _) b_
  have HB : Hid (Below w.heap.size w w2) := (Below.newH (w := w) _).trans (b_.mono (by simp))
  clear b_ HCO
  have hlt_ := vA.lt
  haveI := VarA.ne vA
  have k1_ := Cls.cell hlt_ (vA.c 1 rfl)
  have k2_ := Cls.cell hlt_ (vA.c 2 rfl)
  have hME : ∀ (v : Value) (W : World), (Go.method 292 149 v "loop.example/g00341/impl.ok").run Try.prog W = .ok (151, v) W := fun v W => by kernel_rfl
  have hVM : ∀ W, (∃ i : Cls w2, W = i.W) → VarA W w.heap.size 72 #[.int .i64 4, .int .i64 fr, .int .i64 to, .int .i64 rq, .int .i64 ok, .int .i64 op_, .int .i64 oq, .bool od, .slice a1 n1 c1, .int .i64 tp, .int .i64 tq, .bool td, .slice a2 n2 c2, .int .i64 ov, .int .i64 rc, .int .i64 rp_, .int .i64 rq_, .bool rd, .int .i64 rv, .slice a3 n3 c3, .int .i64 xs, .int .i64 xb, .int .i64 xn, .int .i64 pk, .int .i64 pp, .int .i64 pq, .bool pd, .slice a4 n4 c4, .int .i64 sp, .int .i64 sq, .bool sd, .int .i64 cd, .int .i64 hp, .int .i64 hq, .bool hd] := fun W ⟨i, hi⟩ => by rw [hi]; exact VarA.step vA i.h
  rcases (show e1 = false ∨ (e1 = true ∧ e2 = false) ∨ (e1 = true ∧ e2 = true ∧ bc = false) ∨ (e1 = true ∧ e2 = true ∧ bc = true) by cases e1 <;> cases e2 <;> cases bc <;> simp) with rfl | ⟨rfl, rfl⟩ | ⟨rfl, rfl, rfl⟩ | ⟨rfl, rfl, rfl⟩
  all_goals
    go_wp2_with fail
    refine wp_region_cls (by kernel_rfl) (by kernel_rfl) ?_
    repeat (go_big_quiet_step (first
      | (go_at_call 78; first | (with_reducible exact Calls.cls_same (HE1.out _)) | (with_reducible exact Calls.cls_same (HE2.out _)))
      | (go_at_call 151; exact Calls.cls (HOK.out _ (HB.out.trans ((Cls.h _).mono HB.out.size))))
      | (go_at_call 80; exact Calls.cls (HHE.out _))
      | (go_at_call 81; exact Calls.cls (HWI.out _))
      | (go_at_call 79; exact Calls.cls (HSA.out _ (HB.out.trans ((Cls.h _).mono HB.out.size))))))
    try
      refine wpQuiet_loadA hVM rfl rfl Try.underlying72 rfl (by kernel_rfl) ?_
      simp only [Act.put, List.setIfInBounds_toArray, List.set_cons_succ, List.set_cons_zero]
      refine wpQuiet_loadA hVM rfl rfl Try.underlying72 rfl (by kernel_rfl) ?_
      simp only [Act.put, List.setIfInBounds_toArray, List.set_cons_succ, List.set_cons_zero]
      repeat (go_big_quiet_step (first
        | (go_at_call 78; first | (with_reducible exact Calls.cls_same (HE1.out _)) | (with_reducible exact Calls.cls_same (HE2.out _)))
        | (go_at_call 151; exact Calls.cls (HOK.out _ (HB.out.trans ((Cls.h _).mono HB.out.size))))
        | (go_at_call 80; exact Calls.cls (HHE.out _))
        | (go_at_call 81; exact Calls.cls (HWI.out _))
        | (go_at_call 79; exact Calls.cls (HSA.out _ (HB.out.trans ((Cls.h _).mono HB.out.size))))))
    refine wpQuiet_nil ?_
    rintro w' ⟨⟨w', b_⟩, rfl⟩
    have HB_ : Hid _ := HB.out.trans (b_.mono HB.out.size)
    clear HOK HHE HWI HSA HE1 HE2 hME hVM k1_ k2_ this vA b_
    go_wp2
    go_ret
    exact ⟨by first | rfl | simp, HB_.out⟩
set_option maxHeartbeats 8000000 in
theorem implMsg5 (m : MsD) (a1 a2 a3 a4 : Option Addr) (n1 n2 n3 n4 c1 c2 c3 c4 : Nat) (S : Nat → Prop) (w : World) (r : RdM w S m (.slice a1 n1 c1) (.slice a2 n2 c2) (.slice a3 n3 c3) (.slice a4 n4 c4)) (hl : szMs m ≤ 2097152) (hk : m.kind = 5) :
    Calls Try.prog 30 #[msV m (.slice a1 n1 c1) (.slice a2 n2 c2) (.slice a3 n3 c3) (.slice a4 n4 c4)] w fun e w' => e = .returned (.bool (MOk m)) ∧ Below w.heap.size w w' := by
  obtain ⟨r1, r2, r3, r4⟩ := r
  have hl' := hl
  unfold szMs at hl'
  have HCO : Hid (∀ W, _) := fun W => content5 m a1 a2 a3 a4 n1 n2 n3 n4 c1 c2 c3 c4 W hk
  have HOK : Hid (∀ W, Below w.heap.size w W → _) := fun W hW => okM5 m a1 a2 a3 a4 n1 n2 n3 n4 c1 c2 c3 c4 S W ⟨r1.step hW, r2.step hW, r3.step hW, r4.step hW⟩ hl
  have HHE : Hid (∀ W, _) := fun W => headOf_any m a1 a2 a3 a4 n1 n2 n3 n4 c1 c2 c3 c4 W
  have HWI : Hid (∀ W, _) := fun W => with5 m a1 a2 a3 a4 n1 n2 n3 n4 c1 c2 c3 c4 W
  have HSA : Hid (∀ W, Below w.heap.size w W → _) := fun W hW => sameMsg_any 5 m.fr m.to m.req 0 m.code m.code m.op op0 m.rp rp0 m.tx m.tx m.pt pt0 m.h hd0 a1 a2 a3 a4 n1 n2 n3 n4 c1 c2 c3 c4 none none none none 0 0 0 0 0 0 0 0 (zOp m.op) (zRp m.rp) (zPt m.pt) W
    (fun V hV => sameOp_zero _ _ m.op S V (r1.step (hW.trans (hV.mono hW.size))) (r2.step (hW.trans (hV.mono hW.size))))
    (fun V hV => sameReply_zero _ m.rp S V (r3.step (hW.trans (hV.mono hW.size))))
    (fun V hV => samePart_zero _ m.pt S V (r4.step (hW.trans (hV.mono hW.size))))
  have HE1 : Hid (∀ W, _) := fun W => implEnd_w m.fr W
  have HE2 : Hid (∀ W, _) := fun W => implEnd_w m.to W
  have hres : MOk m = (isEndB m.fr && (isEndB m.to && ((TOk m.tx && (decide (m.code = 0) || decide (m.code = 1))) && (decide (m.req = 0) && (zOp m.op && (zRp m.rp && (decide (m.tx = m.tx) && (zPt m.pt && (decide (m.code = m.code) && decide (m.h = hd0)))))))))) := by
    simp [MOk, MBody, hk, zTx, tx0, hd0, Bool.and_assoc]
  rw [hres]
  generalize (TOk m.tx && (decide (m.code = 0) || decide (m.code = 1))) = bc at HOK ⊢
  generalize isEndB m.fr = e1 at HE1 ⊢
  generalize isEndB m.to = e2 at HE2 ⊢
  generalize (decide (m.req = 0) && (zOp m.op && (zRp m.rp && (decide (m.tx = m.tx) && (zPt m.pt && (decide (m.code = m.code) && decide (m.h = hd0))))))) = bs at HSA ⊢
  clear r1 r2 r3 r4 hl hl' hres
  obtain ⟨kd, fr, to, rq, ⟨ok, ⟨op_, oq, od⟩, nm, ⟨tp, tq, td⟩, asn, ov⟩, ⟨rc, ⟨rp_, rq_, rd⟩, rv, es⟩, ⟨xs, xb, xn⟩, ⟨pk, ⟨pp, pq, pd⟩, pas, ⟨sp, sq, sd⟩⟩, cd, ⟨hp, hq, hd⟩⟩ := m
  dsimp only at hk HCO HOK HHE HWI HSA HE1 HE2 ⊢
  subst hk
  go_enter Try.func30, Try.ntmps30
  repeat (first | (with_reducible refine guardLoad (ty := 72) ?_; refine wpList_loadA (VarA.new w _ _) rfl Try.underlying72 rfl (by kernel_rfl) ?_) | go_values | go_skip | go_guarded | go_step)
  refine Calls.mono (HCO.out _) ?_
  rintro e w2 ⟨rfl, b_⟩
  have vA : VarA w2 w.heap.size 72 #[.int .i64 5, .int .i64 fr, .int .i64 to, .int .i64 rq, .int .i64 ok, .int .i64 op_, .int .i64 oq, .bool od, .slice a1 n1 c1, .int .i64 tp, .int .i64 tq, .bool td, .slice a2 n2 c2, .int .i64 ov, .int .i64 rc, .int .i64 rp_, .int .i64 rq_, .bool rd, .int .i64 rv, .slice a3 n3 c3, .int .i64 xs, .int .i64 xb, .int .i64 xn, .int .i64 pk, .int .i64 pp, .int .i64 pq, .bool pd, .slice a4 n4 c4, .int .i64 sp, .int .i64 sq, .bool sd, .int .i64 cd, .int .i64 hp, .int .i64 hq, .bool hd] := VarA.step (VarA.new w _ _) b_
  have HB : Hid (Below w.heap.size w w2) := (Below.newH (w := w) _).trans (b_.mono (by simp))
  clear b_ HCO
  have hlt_ := vA.lt
  haveI := VarA.ne vA
  have k1_ := Cls.cell hlt_ (vA.c 1 rfl)
  have k2_ := Cls.cell hlt_ (vA.c 2 rfl)
  have hME : ∀ (v : Value) (W : World), (Go.method 292 151 v "loop.example/g00341/impl.ok").run Try.prog W = .ok (152, v) W := fun v W => by kernel_rfl
  have hVM : ∀ W, (∃ i : Cls w2, W = i.W) → VarA W w.heap.size 72 #[.int .i64 5, .int .i64 fr, .int .i64 to, .int .i64 rq, .int .i64 ok, .int .i64 op_, .int .i64 oq, .bool od, .slice a1 n1 c1, .int .i64 tp, .int .i64 tq, .bool td, .slice a2 n2 c2, .int .i64 ov, .int .i64 rc, .int .i64 rp_, .int .i64 rq_, .bool rd, .int .i64 rv, .slice a3 n3 c3, .int .i64 xs, .int .i64 xb, .int .i64 xn, .int .i64 pk, .int .i64 pp, .int .i64 pq, .bool pd, .slice a4 n4 c4, .int .i64 sp, .int .i64 sq, .bool sd, .int .i64 cd, .int .i64 hp, .int .i64 hq, .bool hd] := fun W ⟨i, hi⟩ => by rw [hi]; exact VarA.step vA i.h
  rcases (show e1 = false ∨ (e1 = true ∧ e2 = false) ∨ (e1 = true ∧ e2 = true ∧ bc = false) ∨ (e1 = true ∧ e2 = true ∧ bc = true) by cases e1 <;> cases e2 <;> cases bc <;> simp) with rfl | ⟨rfl, rfl⟩ | ⟨rfl, rfl, rfl⟩ | ⟨rfl, rfl, rfl⟩
  all_goals
    go_wp2_with fail
    refine wp_region_cls (by kernel_rfl) (by kernel_rfl) ?_
    repeat (go_big_quiet_step (first
      | (go_at_call 78; first | (with_reducible exact Calls.cls_same (HE1.out _)) | (with_reducible exact Calls.cls_same (HE2.out _)))
      | (go_at_call 152; exact Calls.cls (HOK.out _ (HB.out.trans ((Cls.h _).mono HB.out.size))))
      | (go_at_call 80; exact Calls.cls (HHE.out _))
      | (go_at_call 81; exact Calls.cls (HWI.out _))
      | (go_at_call 79; exact Calls.cls (HSA.out _ (HB.out.trans ((Cls.h _).mono HB.out.size))))))
    try
      refine wpQuiet_loadA hVM rfl rfl Try.underlying72 rfl (by kernel_rfl) ?_
      simp only [Act.put, List.setIfInBounds_toArray, List.set_cons_succ, List.set_cons_zero]
      refine wpQuiet_loadA hVM rfl rfl Try.underlying72 rfl (by kernel_rfl) ?_
      simp only [Act.put, List.setIfInBounds_toArray, List.set_cons_succ, List.set_cons_zero]
      repeat (go_big_quiet_step (first
        | (go_at_call 78; first | (with_reducible exact Calls.cls_same (HE1.out _)) | (with_reducible exact Calls.cls_same (HE2.out _)))
        | (go_at_call 152; exact Calls.cls (HOK.out _ (HB.out.trans ((Cls.h _).mono HB.out.size))))
        | (go_at_call 80; exact Calls.cls (HHE.out _))
        | (go_at_call 81; exact Calls.cls (HWI.out _))
        | (go_at_call 79; exact Calls.cls (HSA.out _ (HB.out.trans ((Cls.h _).mono HB.out.size))))))
    refine wpQuiet_nil ?_
    rintro w' ⟨⟨w', b_⟩, rfl⟩
    have HB_ : Hid _ := HB.out.trans (b_.mono HB.out.size)
    clear HOK HHE HWI HSA HE1 HE2 hME hVM k1_ k2_ this vA b_
    go_wp2
    go_ret
    exact ⟨by first | rfl | simp, HB_.out⟩
set_option maxHeartbeats 8000000 in
theorem implMsg6 (m : MsD) (a1 a2 a3 a4 : Option Addr) (n1 n2 n3 n4 c1 c2 c3 c4 : Nat) (S : Nat → Prop) (w : World) (r : RdM w S m (.slice a1 n1 c1) (.slice a2 n2 c2) (.slice a3 n3 c3) (.slice a4 n4 c4)) (hl : szMs m ≤ 2097152) (hk : m.kind = 6) :
    Calls Try.prog 30 #[msV m (.slice a1 n1 c1) (.slice a2 n2 c2) (.slice a3 n3 c3) (.slice a4 n4 c4)] w fun e w' => e = .returned (.bool (MOk m)) ∧ Below w.heap.size w w' := by
  obtain ⟨r1, r2, r3, r4⟩ := r
  have hl' := hl
  unfold szMs at hl'
  have HCO : Hid (∀ W, _) := fun W => content6 m a1 a2 a3 a4 n1 n2 n3 n4 c1 c2 c3 c4 W hk
  have HOK : Hid (∀ W, Below w.heap.size w W → _) := fun W hW => okM6 m a1 a2 a3 a4 n1 n2 n3 n4 c1 c2 c3 c4 S W ⟨r1.step hW, r2.step hW, r3.step hW, r4.step hW⟩ hl
  have HHE : Hid (∀ W, _) := fun W => headOf_any m a1 a2 a3 a4 n1 n2 n3 n4 c1 c2 c3 c4 W
  have HWI : Hid (∀ W, _) := fun W => with6 m a1 a2 a3 a4 n1 n2 n3 n4 c1 c2 c3 c4 W
  have HSA : Hid (∀ W, Below w.heap.size w W → _) := fun W hW => sameMsg_any 6 m.fr m.to m.req m.req m.code 0 m.op op0 m.rp rp0 m.tx m.tx m.pt pt0 m.h m.h a1 a2 a3 a4 n1 n2 n3 n4 c1 c2 c3 c4 none none none none 0 0 0 0 0 0 0 0 (zOp m.op) (zRp m.rp) (zPt m.pt) W
    (fun V hV => sameOp_zero _ _ m.op S V (r1.step (hW.trans (hV.mono hW.size))) (r2.step (hW.trans (hV.mono hW.size))))
    (fun V hV => sameReply_zero _ m.rp S V (r3.step (hW.trans (hV.mono hW.size))))
    (fun V hV => samePart_zero _ m.pt S V (r4.step (hW.trans (hV.mono hW.size))))
  have HE1 : Hid (∀ W, _) := fun W => implEnd_w m.fr W
  have HE2 : Hid (∀ W, _) := fun W => implEnd_w m.to W
  have hres : MOk m = (isEndB m.fr && (isEndB m.to && ((TOk m.tx && (num m.req && (HOk m.h && m.h.dir))) && (decide (m.req = m.req) && (zOp m.op && (zRp m.rp && (decide (m.tx = m.tx) && (zPt m.pt && (decide (m.code = 0) && decide (m.h = m.h)))))))))) := by
    simp [MOk, MBody, hk, zTx, tx0, hd0, Bool.and_assoc]
  rw [hres]
  generalize (TOk m.tx && (num m.req && (HOk m.h && m.h.dir))) = bc at HOK ⊢
  generalize isEndB m.fr = e1 at HE1 ⊢
  generalize isEndB m.to = e2 at HE2 ⊢
  generalize (decide (m.req = m.req) && (zOp m.op && (zRp m.rp && (decide (m.tx = m.tx) && (zPt m.pt && (decide (m.code = 0) && decide (m.h = m.h))))))) = bs at HSA ⊢
  clear r1 r2 r3 r4 hl hl' hres
  obtain ⟨kd, fr, to, rq, ⟨ok, ⟨op_, oq, od⟩, nm, ⟨tp, tq, td⟩, asn, ov⟩, ⟨rc, ⟨rp_, rq_, rd⟩, rv, es⟩, ⟨xs, xb, xn⟩, ⟨pk, ⟨pp, pq, pd⟩, pas, ⟨sp, sq, sd⟩⟩, cd, ⟨hp, hq, hd⟩⟩ := m
  dsimp only at hk HCO HOK HHE HWI HSA HE1 HE2 ⊢
  subst hk
  go_enter Try.func30, Try.ntmps30
  repeat (first | (with_reducible refine guardLoad (ty := 72) ?_; refine wpList_loadA (VarA.new w _ _) rfl Try.underlying72 rfl (by kernel_rfl) ?_) | go_values | go_skip | go_guarded | go_step)
  refine Calls.mono (HCO.out _) ?_
  rintro e w2 ⟨rfl, b_⟩
  have vA : VarA w2 w.heap.size 72 #[.int .i64 6, .int .i64 fr, .int .i64 to, .int .i64 rq, .int .i64 ok, .int .i64 op_, .int .i64 oq, .bool od, .slice a1 n1 c1, .int .i64 tp, .int .i64 tq, .bool td, .slice a2 n2 c2, .int .i64 ov, .int .i64 rc, .int .i64 rp_, .int .i64 rq_, .bool rd, .int .i64 rv, .slice a3 n3 c3, .int .i64 xs, .int .i64 xb, .int .i64 xn, .int .i64 pk, .int .i64 pp, .int .i64 pq, .bool pd, .slice a4 n4 c4, .int .i64 sp, .int .i64 sq, .bool sd, .int .i64 cd, .int .i64 hp, .int .i64 hq, .bool hd] := VarA.step (VarA.new w _ _) b_
  have HB : Hid (Below w.heap.size w w2) := (Below.newH (w := w) _).trans (b_.mono (by simp))
  clear b_ HCO
  have hlt_ := vA.lt
  haveI := VarA.ne vA
  have k1_ := Cls.cell hlt_ (vA.c 1 rfl)
  have k2_ := Cls.cell hlt_ (vA.c 2 rfl)
  have hME : ∀ (v : Value) (W : World), (Go.method 292 153 v "loop.example/g00341/impl.ok").run Try.prog W = .ok (154, v) W := fun v W => by kernel_rfl
  have hVM : ∀ W, (∃ i : Cls w2, W = i.W) → VarA W w.heap.size 72 #[.int .i64 6, .int .i64 fr, .int .i64 to, .int .i64 rq, .int .i64 ok, .int .i64 op_, .int .i64 oq, .bool od, .slice a1 n1 c1, .int .i64 tp, .int .i64 tq, .bool td, .slice a2 n2 c2, .int .i64 ov, .int .i64 rc, .int .i64 rp_, .int .i64 rq_, .bool rd, .int .i64 rv, .slice a3 n3 c3, .int .i64 xs, .int .i64 xb, .int .i64 xn, .int .i64 pk, .int .i64 pp, .int .i64 pq, .bool pd, .slice a4 n4 c4, .int .i64 sp, .int .i64 sq, .bool sd, .int .i64 cd, .int .i64 hp, .int .i64 hq, .bool hd] := fun W ⟨i, hi⟩ => by rw [hi]; exact VarA.step vA i.h
  rcases (show e1 = false ∨ (e1 = true ∧ e2 = false) ∨ (e1 = true ∧ e2 = true ∧ bc = false) ∨ (e1 = true ∧ e2 = true ∧ bc = true) by cases e1 <;> cases e2 <;> cases bc <;> simp) with rfl | ⟨rfl, rfl⟩ | ⟨rfl, rfl, rfl⟩ | ⟨rfl, rfl, rfl⟩
  all_goals
    go_wp2_with fail
    refine wp_region_cls (by kernel_rfl) (by kernel_rfl) ?_
    repeat (go_big_quiet_step (first
      | (go_at_call 78; first | (with_reducible exact Calls.cls_same (HE1.out _)) | (with_reducible exact Calls.cls_same (HE2.out _)))
      | (go_at_call 154; exact Calls.cls (HOK.out _ (HB.out.trans ((Cls.h _).mono HB.out.size))))
      | (go_at_call 80; exact Calls.cls (HHE.out _))
      | (go_at_call 81; exact Calls.cls (HWI.out _))
      | (go_at_call 79; exact Calls.cls (HSA.out _ (HB.out.trans ((Cls.h _).mono HB.out.size))))))
    try
      refine wpQuiet_loadA hVM rfl rfl Try.underlying72 rfl (by kernel_rfl) ?_
      simp only [Act.put, List.setIfInBounds_toArray, List.set_cons_succ, List.set_cons_zero]
      refine wpQuiet_loadA hVM rfl rfl Try.underlying72 rfl (by kernel_rfl) ?_
      simp only [Act.put, List.setIfInBounds_toArray, List.set_cons_succ, List.set_cons_zero]
      repeat (go_big_quiet_step (first
        | (go_at_call 78; first | (with_reducible exact Calls.cls_same (HE1.out _)) | (with_reducible exact Calls.cls_same (HE2.out _)))
        | (go_at_call 154; exact Calls.cls (HOK.out _ (HB.out.trans ((Cls.h _).mono HB.out.size))))
        | (go_at_call 80; exact Calls.cls (HHE.out _))
        | (go_at_call 81; exact Calls.cls (HWI.out _))
        | (go_at_call 79; exact Calls.cls (HSA.out _ (HB.out.trans ((Cls.h _).mono HB.out.size))))))
    refine wpQuiet_nil ?_
    rintro w' ⟨⟨w', b_⟩, rfl⟩
    have HB_ : Hid _ := HB.out.trans (b_.mono HB.out.size)
    clear HOK HHE HWI HSA HE1 HE2 hME hVM k1_ k2_ this vA b_
    go_wp2
    go_ret
    exact ⟨by first | rfl | simp, HB_.out⟩
set_option maxHeartbeats 8000000 in
theorem implMsg7 (m : MsD) (a1 a2 a3 a4 : Option Addr) (n1 n2 n3 n4 c1 c2 c3 c4 : Nat) (S : Nat → Prop) (w : World) (r : RdM w S m (.slice a1 n1 c1) (.slice a2 n2 c2) (.slice a3 n3 c3) (.slice a4 n4 c4)) (hl : szMs m ≤ 2097152) (hk : m.kind = 7) :
    Calls Try.prog 30 #[msV m (.slice a1 n1 c1) (.slice a2 n2 c2) (.slice a3 n3 c3) (.slice a4 n4 c4)] w fun e w' => e = .returned (.bool (MOk m)) ∧ Below w.heap.size w w' := by
  obtain ⟨r1, r2, r3, r4⟩ := r
  have hl' := hl
  unfold szMs at hl'
  have HCO : Hid (∀ W, _) := fun W => content7 m a1 a2 a3 a4 n1 n2 n3 n4 c1 c2 c3 c4 W hk
  have HOK : Hid (∀ W, Below w.heap.size w W → _) := fun W hW => okM7 m a1 a2 a3 a4 n1 n2 n3 n4 c1 c2 c3 c4 S W ⟨r1.step hW, r2.step hW, r3.step hW, r4.step hW⟩ hl
  have HHE : Hid (∀ W, _) := fun W => headOf_any m a1 a2 a3 a4 n1 n2 n3 n4 c1 c2 c3 c4 W
  have HWI : Hid (∀ W, _) := fun W => with7 m a1 a2 a3 a4 n1 n2 n3 n4 c1 c2 c3 c4 W
  have HSA : Hid (∀ W, Below w.heap.size w W → _) := fun W hW => sameMsg_any 7 m.fr m.to m.req m.req m.code m.code m.op op0 m.rp rp0 m.tx m.tx m.pt pt0 m.h m.h a1 a2 a3 a4 n1 n2 n3 n4 c1 c2 c3 c4 none none none none 0 0 0 0 0 0 0 0 (zOp m.op) (zRp m.rp) (zPt m.pt) W
    (fun V hV => sameOp_zero _ _ m.op S V (r1.step (hW.trans (hV.mono hW.size))) (r2.step (hW.trans (hV.mono hW.size))))
    (fun V hV => sameReply_zero _ m.rp S V (r3.step (hW.trans (hV.mono hW.size))))
    (fun V hV => samePart_zero _ m.pt S V (r4.step (hW.trans (hV.mono hW.size))))
  have HE1 : Hid (∀ W, _) := fun W => implEnd_w m.fr W
  have HE2 : Hid (∀ W, _) := fun W => implEnd_w m.to W
  have hres : MOk m = (isEndB m.fr && (isEndB m.to && ((TOk m.tx && (num m.req && (isCd m.code && noneOk m.h))) && (decide (m.req = m.req) && (zOp m.op && (zRp m.rp && (decide (m.tx = m.tx) && (zPt m.pt && (decide (m.code = m.code) && decide (m.h = m.h)))))))))) := by
    simp [MOk, MBody, hk, zTx, tx0, hd0, Bool.and_assoc]
  rw [hres]
  generalize (TOk m.tx && (num m.req && (isCd m.code && noneOk m.h))) = bc at HOK ⊢
  generalize isEndB m.fr = e1 at HE1 ⊢
  generalize isEndB m.to = e2 at HE2 ⊢
  generalize (decide (m.req = m.req) && (zOp m.op && (zRp m.rp && (decide (m.tx = m.tx) && (zPt m.pt && (decide (m.code = m.code) && decide (m.h = m.h))))))) = bs at HSA ⊢
  clear r1 r2 r3 r4 hl hl' hres
  obtain ⟨kd, fr, to, rq, ⟨ok, ⟨op_, oq, od⟩, nm, ⟨tp, tq, td⟩, asn, ov⟩, ⟨rc, ⟨rp_, rq_, rd⟩, rv, es⟩, ⟨xs, xb, xn⟩, ⟨pk, ⟨pp, pq, pd⟩, pas, ⟨sp, sq, sd⟩⟩, cd, ⟨hp, hq, hd⟩⟩ := m
  dsimp only at hk HCO HOK HHE HWI HSA HE1 HE2 ⊢
  subst hk
  go_enter Try.func30, Try.ntmps30
  repeat (first | (with_reducible refine guardLoad (ty := 72) ?_; refine wpList_loadA (VarA.new w _ _) rfl Try.underlying72 rfl (by kernel_rfl) ?_) | go_values | go_skip | go_guarded | go_step)
  refine Calls.mono (HCO.out _) ?_
  rintro e w2 ⟨rfl, b_⟩
  have vA : VarA w2 w.heap.size 72 #[.int .i64 7, .int .i64 fr, .int .i64 to, .int .i64 rq, .int .i64 ok, .int .i64 op_, .int .i64 oq, .bool od, .slice a1 n1 c1, .int .i64 tp, .int .i64 tq, .bool td, .slice a2 n2 c2, .int .i64 ov, .int .i64 rc, .int .i64 rp_, .int .i64 rq_, .bool rd, .int .i64 rv, .slice a3 n3 c3, .int .i64 xs, .int .i64 xb, .int .i64 xn, .int .i64 pk, .int .i64 pp, .int .i64 pq, .bool pd, .slice a4 n4 c4, .int .i64 sp, .int .i64 sq, .bool sd, .int .i64 cd, .int .i64 hp, .int .i64 hq, .bool hd] := VarA.step (VarA.new w _ _) b_
  have HB : Hid (Below w.heap.size w w2) := (Below.newH (w := w) _).trans (b_.mono (by simp))
  clear b_ HCO
  have hlt_ := vA.lt
  haveI := VarA.ne vA
  have k1_ := Cls.cell hlt_ (vA.c 1 rfl)
  have k2_ := Cls.cell hlt_ (vA.c 2 rfl)
  have hME : ∀ (v : Value) (W : World), (Go.method 292 155 v "loop.example/g00341/impl.ok").run Try.prog W = .ok (155, v) W := fun v W => by kernel_rfl
  have hVM : ∀ W, (∃ i : Cls w2, W = i.W) → VarA W w.heap.size 72 #[.int .i64 7, .int .i64 fr, .int .i64 to, .int .i64 rq, .int .i64 ok, .int .i64 op_, .int .i64 oq, .bool od, .slice a1 n1 c1, .int .i64 tp, .int .i64 tq, .bool td, .slice a2 n2 c2, .int .i64 ov, .int .i64 rc, .int .i64 rp_, .int .i64 rq_, .bool rd, .int .i64 rv, .slice a3 n3 c3, .int .i64 xs, .int .i64 xb, .int .i64 xn, .int .i64 pk, .int .i64 pp, .int .i64 pq, .bool pd, .slice a4 n4 c4, .int .i64 sp, .int .i64 sq, .bool sd, .int .i64 cd, .int .i64 hp, .int .i64 hq, .bool hd] := fun W ⟨i, hi⟩ => by rw [hi]; exact VarA.step vA i.h
  rcases (show e1 = false ∨ (e1 = true ∧ e2 = false) ∨ (e1 = true ∧ e2 = true ∧ bc = false) ∨ (e1 = true ∧ e2 = true ∧ bc = true) by cases e1 <;> cases e2 <;> cases bc <;> simp) with rfl | ⟨rfl, rfl⟩ | ⟨rfl, rfl, rfl⟩ | ⟨rfl, rfl, rfl⟩
  all_goals
    go_wp2_with fail
    refine wp_region_cls (by kernel_rfl) (by kernel_rfl) ?_
    repeat (go_big_quiet_step (first
      | (go_at_call 78; first | (with_reducible exact Calls.cls_same (HE1.out _)) | (with_reducible exact Calls.cls_same (HE2.out _)))
      | (go_at_call 155; exact Calls.cls (HOK.out _ (HB.out.trans ((Cls.h _).mono HB.out.size))))
      | (go_at_call 80; exact Calls.cls (HHE.out _))
      | (go_at_call 81; exact Calls.cls (HWI.out _))
      | (go_at_call 79; exact Calls.cls (HSA.out _ (HB.out.trans ((Cls.h _).mono HB.out.size))))))
    try
      refine wpQuiet_loadA hVM rfl rfl Try.underlying72 rfl (by kernel_rfl) ?_
      simp only [Act.put, List.setIfInBounds_toArray, List.set_cons_succ, List.set_cons_zero]
      refine wpQuiet_loadA hVM rfl rfl Try.underlying72 rfl (by kernel_rfl) ?_
      simp only [Act.put, List.setIfInBounds_toArray, List.set_cons_succ, List.set_cons_zero]
      repeat (go_big_quiet_step (first
        | (go_at_call 78; first | (with_reducible exact Calls.cls_same (HE1.out _)) | (with_reducible exact Calls.cls_same (HE2.out _)))
        | (go_at_call 155; exact Calls.cls (HOK.out _ (HB.out.trans ((Cls.h _).mono HB.out.size))))
        | (go_at_call 80; exact Calls.cls (HHE.out _))
        | (go_at_call 81; exact Calls.cls (HWI.out _))
        | (go_at_call 79; exact Calls.cls (HSA.out _ (HB.out.trans ((Cls.h _).mono HB.out.size))))))
    refine wpQuiet_nil ?_
    rintro w' ⟨⟨w', b_⟩, rfl⟩
    have HB_ : Hid _ := HB.out.trans (b_.mono HB.out.size)
    clear HOK HHE HWI HSA HE1 HE2 hME hVM k1_ k2_ this vA b_
    go_wp2
    go_ret
    exact ⟨by first | rfl | simp, HB_.out⟩
end Go.Proofs.Ytaaongjnpnanmaa
end

section
/- May a message be? By the program. Condition: no more than 2^21 of all. -/
namespace Go.Proofs.Ytaaongjnpnanmaa
open Go.RowKit
set_option linter.unusedVariables false
set_option linter.unusedSimpArgs false
set_option maxRecDepth 100000

set_option maxHeartbeats 4000000 in
theorem contentBad (m : MsD) (a1 a2 a3 a4 : Option Addr) (n1 n2 n3 n4 c1 c2 c3 c4 : Nat) (w : World) (hk : m.kind < 0 ∨ 7 < m.kind) :
    Calls Try.prog 77 #[msV m (.slice a1 n1 c1) (.slice a2 n2 c2) (.slice a3 n3 c3) (.slice a4 n4 c4)] w fun e w' => e = .returned .nilIface ∧ Below w.heap.size w w' := by
  obtain ⟨kd, fr, to, rq, ⟨ok, ⟨op_, oq, od⟩, nm, ⟨tp, tq, td⟩, asn, ov⟩, ⟨rc, ⟨rp_, rq_, rd⟩, rv, es⟩, ⟨xs, xb, xn⟩, ⟨pk, ⟨pp, pq, pd⟩, pas, ⟨sp, sq, sd⟩⟩, cd, ⟨hp, hq, hd⟩⟩ := m
  dsimp only at hk ⊢
  go_enter Try.func77, Try.ntmps77
  go_wp2
  all_goals first | (go_ret; exact ⟨rfl, by repeat (first | exact Below.refl _ _ | refine Below.al ?_ _ | refine below_drewN2 ?_ _)⟩) | (exfalso; omega)
set_option maxHeartbeats 4000000 in
theorem implMsgBad (m : MsD) (a1 a2 a3 a4 : Option Addr) (n1 n2 n3 n4 c1 c2 c3 c4 : Nat) (w : World) (hk : m.kind < 0 ∨ 7 < m.kind) :
    Calls Try.prog 30 #[msV m (.slice a1 n1 c1) (.slice a2 n2 c2) (.slice a3 n3 c3) (.slice a4 n4 c4)] w fun e w' => e = .returned (.bool (MOk m)) ∧ Below w.heap.size w w' := by
  have HF : Hid (MOk m = false) := by show _ = _; unfold MOk; rcases hk with h | h <;> simp <;> omega
  rw [HF.out]
  have HCO : Hid (∀ W, _) := fun W => contentBad m a1 a2 a3 a4 n1 n2 n3 n4 c1 c2 c3 c4 W hk
  clear HF
  obtain ⟨kd, fr, to, rq, ⟨ok, ⟨op_, oq, od⟩, nm, ⟨tp, tq, td⟩, asn, ov⟩, ⟨rc, ⟨rp_, rq_, rd⟩, rv, es⟩, ⟨xs, xb, xn⟩, ⟨pk, ⟨pp, pq, pd⟩, pas, ⟨sp, sq, sd⟩⟩, cd, ⟨hp, hq, hd⟩⟩ := m
  dsimp only at hk HCO ⊢
  go_enter Try.func30, Try.ntmps30
  repeat (first | (with_reducible refine guardLoad (ty := 72) ?_; refine wpList_loadA (VarA.new w _ _) rfl Try.underlying72 rfl (by kernel_rfl) ?_) | go_values | go_skip | go_guarded | go_step)
  refine Calls.mono (HCO.out _) ?_
  rintro e w2 ⟨rfl, b_⟩
  have vA : VarA w2 w.heap.size 72 #[.int .i64 kd, .int .i64 fr, .int .i64 to, .int .i64 rq, .int .i64 ok, .int .i64 op_, .int .i64 oq, .bool od, .slice a1 n1 c1, .int .i64 tp, .int .i64 tq, .bool td, .slice a2 n2 c2, .int .i64 ov, .int .i64 rc, .int .i64 rp_, .int .i64 rq_, .bool rd, .int .i64 rv, .slice a3 n3 c3, .int .i64 xs, .int .i64 xb, .int .i64 xn, .int .i64 pk, .int .i64 pp, .int .i64 pq, .bool pd, .slice a4 n4 c4, .int .i64 sp, .int .i64 sq, .bool sd, .int .i64 cd, .int .i64 hp, .int .i64 hq, .bool hd] := VarA.step (VarA.new w _ _) b_
  have HB : Hid (Below w.heap.size w w2) := (Below.newH (w := w) _).trans (b_.mono (by simp))
  clear b_ HCO
  haveI := VarA.ne vA
  go_wp2_with fail
  refine wp_region_cls (by kernel_rfl) (by kernel_rfl) ?_
  repeat (go_big_quiet_step (fail))
  refine wpQuiet_nil ?_
  rintro w' ⟨⟨w', b_⟩, rfl⟩
  have HB_ : Hid _ := HB.out.trans (b_.mono HB.out.size)
  clear this vA b_
  go_wp2
  go_ret
  exact ⟨rfl, HB_.out⟩
theorem implMsgOk_any (x y z u : Value) (m : MsD) (S : Nat → Prop) (w : World) (r : RdM w S m x y z u) (hl : szMs m ≤ 2097152) :
    Calls Try.prog 30 #[msV m x y z u] w fun e w' => e = .returned (.bool (MOk m)) ∧ Below w.heap.size w w' := by
  obtain ⟨a1, c1, rfl⟩ := r.1.sliceB
  obtain ⟨a2, c2, rfl⟩ := r.2.1.sliceB
  obtain ⟨a3, c3, rfl, _⟩ := RdV.sliced r.2.2.1
  obtain ⟨a4, c4, rfl⟩ := r.2.2.2.sliceB
  by_cases hk : m.kind < 0 ∨ 7 < m.kind
  · exact implMsgBad m _ _ _ _ _ _ _ _ _ _ _ _ w hk
  · have h : m.kind = 0 ∨ m.kind = 1 ∨ m.kind = 2 ∨ m.kind = 3 ∨ m.kind = 4 ∨ m.kind = 5 ∨ m.kind = 6 ∨ m.kind = 7 := by omega
    rcases h with h | h | h | h | h | h | h | h
    · exact implMsg0 m _ _ _ _ _ _ _ _ _ _ _ _ S w r hl h
    · exact implMsg1 m _ _ _ _ _ _ _ _ _ _ _ _ S w r hl h
    · exact implMsg2 m _ _ _ _ _ _ _ _ _ _ _ _ S w r hl h
    · exact implMsg3 m _ _ _ _ _ _ _ _ _ _ _ _ S w r hl h
    · exact implMsg4 m _ _ _ _ _ _ _ _ _ _ _ _ S w r hl h
    · exact implMsg5 m _ _ _ _ _ _ _ _ _ _ _ _ S w r hl h
    · exact implMsg6 m _ _ _ _ _ _ _ _ _ _ _ _ S w r hl h
    · exact implMsg7 m _ _ _ _ _ _ _ _ _ _ _ _ S w r hl h
end Go.Proofs.Ytaaongjnpnanmaa
end

section
/- What the program writes of a message. Condition: no more than 2^20 of all. -/
namespace Go.Proofs.Ytaaongjnpnanmaa
open Go.RowKit
set_option linter.unusedVariables false
set_option linter.unusedSimpArgs false
set_option maxRecDepth 100000

theorem PutV.x {n : Nat} (w : World) (hn : 1 ≤ n) (t : TxD) : PutV n w (.iface 36 (txV t)) (txB t) := .inr (.inr (.inr (.inr (.inl ⟨hn, t, rfl, rfl⟩))))
theorem PutV.o {n : Nat} {w : World} (hn : 2 ≤ n) (o : OpD) {S : Nat → Prop} {x y : Value} (r : RdV w S x (.bytes o.nm)) (r2 : RdV w S y (.bytes o.asn)) (h : o.nm.length ≤ 1048576) (h2 : o.asn.length ≤ 1048576) : PutV n w (.iface 70 (opV o x y)) (opB o) := .inr (.inr (.inr (.inr (.inr (.inl ⟨hn, o, x, y, rfl, r.mono (fun _ _ => trivial), r2.mono (fun _ _ => trivial), h, h2, rfl⟩)))))
theorem PutV.p {n : Nat} {w : World} (hn : 2 ≤ n) (o : PtD) {S : Nat → Prop} {x : Value} (r : RdV w S x (.bytes o.asn)) (h : o.asn.length ≤ 1048576) : PutV n w (.iface 48 (ptV o x)) (ptB o) := .inr (.inr (.inr (.inr (.inr (.inr (.inl ⟨hn, o, x, rfl, r.mono (fun _ _ => trivial), h, rfl⟩))))))
theorem PutV.r {n : Nat} {w : World} (hn : 3 ≤ n) (o : RpD) {S : Nat → Prop} {x : Value} (r : RdV w S x (ensDt o.list)) (h : szEns o.list ≤ 1048576) (h2 : o.list.length ≤ 12) : PutV n w (.iface 59 (rpV o x)) (rpB o) := .inr (.inr (.inr (.inr (.inr (.inr (.inr (.inr ⟨hn, o, x, rfl, r.mono (fun _ _ => trivial), h, h2, rfl⟩)))))))
theorem rpB_len (r : RpD) (h : r.list.length ≤ 12) : (rpB r).length ≤ 900 := by
  have h1 := putB_len r.code; have h2 := hdB_len r.h; have h3 := putB_len r.val; have h4 := putB_len (r.list.length : Int); have h5 := ensB_len r.list
  unfold rpB; simp only [List.length_append]; omega
/-- What the program takes of a message: c; what it writes of it: vs. -/
theorem vals_any (m : MsD) (a1 a2 a3 a4 : Option Addr) (n1 n2 n3 n4 c1 c2 c3 c4 : Nat) (S : Nat → Prop) (w : World) (r : RdM w S m (.slice a1 n1 c1) (.slice a2 n2 c2) (.slice a3 n3 c3) (.slice a4 n4 c4)) (hl : szMs m ≤ 1048576) (ho : MOk m = true) :
    ∃ (c : Value) (vs : List (Value × List Int)), (∀ W, Calls Try.prog 77 #[msV m (.slice a1 n1 c1) (.slice a2 n2 c2) (.slice a3 n3 c3) (.slice a4 n4 c4)] W fun e w' => e = .returned c ∧ Below W.heap.size W w') ∧
      (∀ W, Calls Try.prog 86 #[c] W fun e w' => ∃ g, e = .returned (.slice (some ⟨g, 0, none⟩) vs.length vs.length) ∧ w'.heap[g]? = some (.cells (vs.map (·.1)).toArray 20 (0, 0)) ∧ Below W.heap.size W w') ∧
      1 ≤ vs.length ∧ vs.length ≤ 100 ∧ vs.flatMap (·.2) = msRest m ∧ (∀ W, Below w.heap.size w W → PVs 3 W vs) ∧ (msRest m).length ≤ 1000 := by
  have h12 := MOk_12 ho
  obtain ⟨r1, r2, r3, r4⟩ := r
  unfold szMs at hl
  have hk := MOk_kind ho
  rcases (show m.kind = 0 ∨ m.kind = 1 ∨ m.kind = 2 ∨ m.kind = 3 ∨ m.kind = 4 ∨ m.kind = 5 ∨ m.kind = 6 ∨ m.kind = 7 by omega) with h | h | h | h | h | h | h | h
  · refine ⟨.iface 141 (.agg #[.int .i64 m.req, .int .i64 m.op.kind, .int .i64 m.op.dir.sh, .int .i64 m.op.dir.ino, .bool m.op.dir.dir, .slice a1 n1 c1, .int .i64 m.op.to.sh, .int .i64 m.op.to.ino, .bool m.op.to.dir, .slice a2 n2 c2, .int .i64 m.op.val]), [(.iface 3 (.int .i64 m.req), putB m.req), (.iface 70 (.agg #[.int .i64 m.op.kind, .int .i64 m.op.dir.sh, .int .i64 m.op.dir.ino, .bool m.op.dir.dir, .slice a1 n1 c1, .int .i64 m.op.to.sh, .int .i64 m.op.to.ino, .bool m.op.to.dir, .slice a2 n2 c2, .int .i64 m.op.val]), opB m.op)], fun W => content0 m a1 a2 a3 a4 n1 n2 n3 n4 c1 c2 c3 c4 W h, fun W => values0 m a1 a2 a3 a4 n1 n2 n3 n4 c1 c2 c3 c4 W, by simp, by simp, by simp [msRest, h], fun W hW => (PVs.cons (PutV.i _ _ _) (PVs.cons (PutV.o (by omega) _ (r1.step hW) (r2.step hW) (by omega) (by omega)) PVs.nil)), ?_⟩
    have g0 := putB_len m.req; have g1 := opB_len m.op
    simp [msRest, h]; omega
  · refine ⟨.iface 143 (.agg #[.int .i64 m.req, .int .i64 m.rp.code, .int .i64 m.rp.h.sh, .int .i64 m.rp.h.ino, .bool m.rp.h.dir, .int .i64 m.rp.val, .slice a3 n3 c3]), [(.iface 3 (.int .i64 m.req), putB m.req), (.iface 59 (.agg #[.int .i64 m.rp.code, .int .i64 m.rp.h.sh, .int .i64 m.rp.h.ino, .bool m.rp.h.dir, .int .i64 m.rp.val, .slice a3 n3 c3]), rpB m.rp)], fun W => content1 m a1 a2 a3 a4 n1 n2 n3 n4 c1 c2 c3 c4 W h, fun W => values1 m a1 a2 a3 a4 n1 n2 n3 n4 c1 c2 c3 c4 W, by simp, by simp, by simp [msRest, h], fun W hW => (PVs.cons (PutV.i _ _ _) (PVs.cons (PutV.r (by omega) _ (r3.step hW) (by omega) h12) PVs.nil)), ?_⟩
    have g0 := putB_len m.req; have g1 := rpB_len m.rp h12
    simp [msRest, h]; omega
  · refine ⟨.iface 145 (.agg #[.int .i64 m.tx.1, .int .i64 m.tx.2.1, .int .i64 m.tx.2.2, .int .i64 m.pt.kind, .int .i64 m.pt.h.sh, .int .i64 m.pt.h.ino, .bool m.pt.h.dir, .slice a4 n4 c4, .int .i64 m.pt.to.sh, .int .i64 m.pt.to.ino, .bool m.pt.to.dir]), [(.iface 36 (.agg #[.int .i64 m.tx.1, .int .i64 m.tx.2.1, .int .i64 m.tx.2.2]), txB m.tx), (.iface 48 (.agg #[.int .i64 m.pt.kind, .int .i64 m.pt.h.sh, .int .i64 m.pt.h.ino, .bool m.pt.h.dir, .slice a4 n4 c4, .int .i64 m.pt.to.sh, .int .i64 m.pt.to.ino, .bool m.pt.to.dir]), ptB m.pt)], fun W => content2 m a1 a2 a3 a4 n1 n2 n3 n4 c1 c2 c3 c4 W h, fun W => values2 m a1 a2 a3 a4 n1 n2 n3 n4 c1 c2 c3 c4 W, by simp, by simp, by simp [msRest, h], fun W hW => (PVs.cons (PutV.x _ (by omega) _) (PVs.cons (PutV.p (by omega) _ (r4.step hW) (by omega)) PVs.nil)), ?_⟩
    have g0 := txB_len m.tx; have g1 := ptB_len m.pt
    simp [msRest, h]; omega
  · refine ⟨.iface 147 (.agg #[.int .i64 m.tx.1, .int .i64 m.tx.2.1, .int .i64 m.tx.2.2, .int .i64 m.pt.kind, .int .i64 m.pt.h.sh, .int .i64 m.pt.h.ino, .bool m.pt.h.dir, .slice a4 n4 c4, .int .i64 m.pt.to.sh, .int .i64 m.pt.to.ino, .bool m.pt.to.dir, .int .i64 m.code, .int .i64 m.h.sh, .int .i64 m.h.ino, .bool m.h.dir]), [(.iface 36 (.agg #[.int .i64 m.tx.1, .int .i64 m.tx.2.1, .int .i64 m.tx.2.2]), txB m.tx), (.iface 48 (.agg #[.int .i64 m.pt.kind, .int .i64 m.pt.h.sh, .int .i64 m.pt.h.ino, .bool m.pt.h.dir, .slice a4 n4 c4, .int .i64 m.pt.to.sh, .int .i64 m.pt.to.ino, .bool m.pt.to.dir]), ptB m.pt), (.iface 3 (.int .i64 m.code), putB m.code), (.iface 46 (.agg #[.int .i64 m.h.sh, .int .i64 m.h.ino, .bool m.h.dir]), hdB m.h)], fun W => content3 m a1 a2 a3 a4 n1 n2 n3 n4 c1 c2 c3 c4 W h, fun W => values3 m a1 a2 a3 a4 n1 n2 n3 n4 c1 c2 c3 c4 W, by simp, by simp, by simp [msRest, h], fun W hW => (PVs.cons (PutV.x _ (by omega) _) (PVs.cons (PutV.p (by omega) _ (r4.step hW) (by omega)) (PVs.cons (PutV.i _ _ _) (PVs.cons (PutV.h _ (by omega) _) PVs.nil)))), ?_⟩
    have g0 := txB_len m.tx; have g1 := ptB_len m.pt; have g2 := putB_len m.code; have g3 := hdB_len m.h
    simp [msRest, h]; omega
  · refine ⟨.iface 149 (.agg #[.int .i64 m.tx.1, .int .i64 m.tx.2.1, .int .i64 m.tx.2.2]), [(.iface 36 (.agg #[.int .i64 m.tx.1, .int .i64 m.tx.2.1, .int .i64 m.tx.2.2]), txB m.tx)], fun W => content4 m a1 a2 a3 a4 n1 n2 n3 n4 c1 c2 c3 c4 W h, fun W => values4 m a1 a2 a3 a4 n1 n2 n3 n4 c1 c2 c3 c4 W, by simp, by simp, by simp [msRest, h], fun W hW => (PVs.cons (PutV.x _ (by omega) _) PVs.nil), ?_⟩
    have g0 := txB_len m.tx
    simp [msRest, h]; omega
  · refine ⟨.iface 151 (.agg #[.int .i64 m.tx.1, .int .i64 m.tx.2.1, .int .i64 m.tx.2.2, .int .i64 m.code]), [(.iface 36 (.agg #[.int .i64 m.tx.1, .int .i64 m.tx.2.1, .int .i64 m.tx.2.2]), txB m.tx), (.iface 3 (.int .i64 m.code), putB m.code)], fun W => content5 m a1 a2 a3 a4 n1 n2 n3 n4 c1 c2 c3 c4 W h, fun W => values5 m a1 a2 a3 a4 n1 n2 n3 n4 c1 c2 c3 c4 W, by simp, by simp, by simp [msRest, h], fun W hW => (PVs.cons (PutV.x _ (by omega) _) (PVs.cons (PutV.i _ _ _) PVs.nil)), ?_⟩
    have g0 := txB_len m.tx; have g1 := putB_len m.code
    simp [msRest, h]; omega
  · refine ⟨.iface 153 (.agg #[.int .i64 m.tx.1, .int .i64 m.tx.2.1, .int .i64 m.tx.2.2, .int .i64 m.req, .int .i64 m.h.sh, .int .i64 m.h.ino, .bool m.h.dir]), [(.iface 36 (.agg #[.int .i64 m.tx.1, .int .i64 m.tx.2.1, .int .i64 m.tx.2.2]), txB m.tx), (.iface 3 (.int .i64 m.req), putB m.req), (.iface 46 (.agg #[.int .i64 m.h.sh, .int .i64 m.h.ino, .bool m.h.dir]), hdB m.h)], fun W => content6 m a1 a2 a3 a4 n1 n2 n3 n4 c1 c2 c3 c4 W h, fun W => values6 m a1 a2 a3 a4 n1 n2 n3 n4 c1 c2 c3 c4 W, by simp, by simp, by simp [msRest, h], fun W hW => (PVs.cons (PutV.x _ (by omega) _) (PVs.cons (PutV.i _ _ _) (PVs.cons (PutV.h _ (by omega) _) PVs.nil))), ?_⟩
    have g0 := txB_len m.tx; have g1 := putB_len m.req; have g2 := hdB_len m.h
    simp [msRest, h]; omega
  · refine ⟨.iface 155 (.agg #[.int .i64 m.tx.1, .int .i64 m.tx.2.1, .int .i64 m.tx.2.2, .int .i64 m.req, .int .i64 m.code, .int .i64 m.h.sh, .int .i64 m.h.ino, .bool m.h.dir]), [(.iface 36 (.agg #[.int .i64 m.tx.1, .int .i64 m.tx.2.1, .int .i64 m.tx.2.2]), txB m.tx), (.iface 3 (.int .i64 m.req), putB m.req), (.iface 3 (.int .i64 m.code), putB m.code), (.iface 46 (.agg #[.int .i64 m.h.sh, .int .i64 m.h.ino, .bool m.h.dir]), hdB m.h)], fun W => content7 m a1 a2 a3 a4 n1 n2 n3 n4 c1 c2 c3 c4 W h, fun W => values7 m a1 a2 a3 a4 n1 n2 n3 n4 c1 c2 c3 c4 W, by simp, by simp, by simp [msRest, h], fun W hW => (PVs.cons (PutV.x _ (by omega) _) (PVs.cons (PutV.i _ _ _) (PVs.cons (PutV.i _ _ _) (PVs.cons (PutV.h _ (by omega) _) PVs.nil)))), ?_⟩
    have g0 := txB_len m.tx; have g1 := putB_len m.req; have g2 := putB_len m.code; have g3 := hdB_len m.h
    simp [msRest, h]; omega
end Go.Proofs.Ytaaongjnpnanmaa
end

section
/- The program's MsgBytes. Condition: no more than 2^20 of all. -/
namespace Go.Proofs.Ytaaongjnpnanmaa
open Go.RowKit
set_option linter.unusedVariables false
set_option linter.unusedSimpArgs false
set_option maxRecDepth 100000

set_option maxHeartbeats 8000000 in
theorem implMsgBytes_any (m : MsD) (x y z u : Value) (S : Nat → Prop) (w : World) (r : RdM w S m x y z u) (hl : szMs m ≤ 1048576) :
    Calls Try.prog 33 #[msV m x y z u] w fun e w' => ∃ v, e = .returned (.tuple #[v, .bool (MOk m)]) ∧ isBytes (outB m) ∧ Owns w' w.heap.size v (outB m) ∧ Below w.heap.size w w' := by
  have HM : Hid (∀ W, Below w.heap.size w W → _) := fun W hW => implMsgOk_any x y z u m S W (r.step hW) (by omega)
  obtain ⟨a1, c1, rfl⟩ := r.1.sliceB
  obtain ⟨a2, c2, rfl⟩ := r.2.1.sliceB
  obtain ⟨a3, c3, rfl, _⟩ := RdV.sliced r.2.2.1
  obtain ⟨a4, c4, rfl⟩ := r.2.2.2.sliceB
  by_cases ho : MOk m = true
  · obtain ⟨c, vs, HC_, HV_, h1, h100, hz, HP_, hln⟩ := vals_any m a1 a2 a3 a4 _ _ _ _ c1 c2 c3 c4 S w r hl ho
    have HC : Hid (∀ W, _) := HC_
    have HV : Hid (∀ W, _) := HV_
    have HP : Hid (∀ W, _) := HP_
    have HF : Hid (outB m = putB m.kind ++ (putB m.fr ++ (putB m.to ++ msRest m))) := by show _ = _; unfold outB; rw [if_pos ho]; rfl
    have HZ : Hid _ := hz
    rw [HF.out, ho]
    rw [ho] at HM
    have hm1 := putB_len m.kind
    have hm2 := putB_len m.fr
    have hm3 := putB_len m.to
    generalize msRest m = zs at HZ hln ⊢
    clear r hl ho HF HC_ HV_ HP_ hz
    obtain ⟨kd, fr, to, rq, ⟨ok, ⟨op_, oq, od⟩, nm, ⟨tp, tq, td⟩, asn, ov⟩, ⟨rc, ⟨rp_, rq_, rd⟩, rv, es⟩, ⟨xs, xb, xn⟩, ⟨pk, ⟨pp, pq, pd⟩, pas, ⟨sp, sq, sd⟩⟩, cd, ⟨hp, hq, hd⟩⟩ := m
    dsimp only at HM HC hm1 hm2 hm3 ⊢
    generalize nm.length = n1 at *
    generalize asn.length = n2 at *
    generalize es.length = n3 at *
    generalize pas.length = n4 at *
    have HPC3 : Hid (∀ v xs vs zs g S W, _) := put3.at
    have HPC0 : Hid (∀ v xs vs zs g S W, _) := put0.at
    go_enter Try.func33, Try.ntmps33
    go_wp2_with ((with_reducible refine guardLoad (ty := 72) ?_); refine wpList_loadA (VarA.new w _ _) rfl Try.underlying72 rfl (by kernel_rfl) ?_)
    refine Calls.mono (HM.out _ (Below.newH _)) ?_
    rintro e w2 ⟨rfl, b_⟩
    have vA : VarA w2 w.heap.size 72 #[.int .i64 kd, .int .i64 fr, .int .i64 to, .int .i64 rq, .int .i64 ok, .int .i64 op_, .int .i64 oq, .bool od, .slice a1 n1 c1, .int .i64 tp, .int .i64 tq, .bool td, .slice a2 n2 c2, .int .i64 ov, .int .i64 rc, .int .i64 rp_, .int .i64 rq_, .bool rd, .int .i64 rv, .slice a3 n3 c3, .int .i64 xs, .int .i64 xb, .int .i64 xn, .int .i64 pk, .int .i64 pp, .int .i64 pq, .bool pd, .slice a4 n4 c4, .int .i64 sp, .int .i64 sq, .bool sd, .int .i64 cd, .int .i64 hp, .int .i64 hq, .bool hd] := VarA.step (VarA.new w _ _) b_
    have HB : Hid (Below w.heap.size w w2) := (Below.newH (w := w) _).trans (b_.mono (by simp))
    clear b_ HM
    have a0_ := vA.c 0 rfl
    have a1_ := vA.c 1 rfl
    have a2_ := vA.c 2 rfl
    go_wp2_with fail
    refine Calls.mono (HPC0.out (.slice none 0 0) [] [(.iface 3 (.int .i64 kd), putB kd), (.iface 3 (.int .i64 fr), putB fr), (.iface 3 (.int .i64 to), putB to)] (putB kd ++ (putB fr ++ putB to)) w2.heap.size (fun _ => True) _ ?ra ?rb ?rc ?rd ?re ?rf ?rg) ?_
    case ra => exact Owns.rdT (B := 0) ⟨rfl, .inl ⟨rfl, rfl⟩⟩ isBytes_nil
    case rb => simp
    case rc => exact heap_alloc_new _ _
    case rd => exact PVs.cons (PutV.i _ _ _) (PVs.cons (PutV.i _ _ _) (PVs.cons (PutV.i _ _ _) PVs.nil))
    case re => simp
    case rf => simp
    case rg => simp only [List.length_append, List.length_nil]; omega
    rintro e w3 ⟨v3, rfl, z3, o3, b_⟩
    have b3 : Below w2.heap.size w2 w3 := (Below.newH (w := w2) _).trans (b_.mono (by simp))
    have vA3 := vA.step b3
    have HB3 : Hid (Below w.heap.size w w3) := HB.out.trans (b3.mono HB.out.size)
    have HO3 : Hid (Owns w3 w.heap.size v3 ([] ++ (putB kd ++ (putB fr ++ putB to)))) := o3.base (b' := w.heap.size) (by have := HB.out.size; simp; omega)
    have HZ3 : Hid (isBytes ([] ++ (putB kd ++ (putB fr ++ putB to)))) := z3
    clear vA HB b_ b3 o3 z3 HPC0 a0_ a1_ a2_
    go_wp2_with ((with_reducible refine guardLoad (ty := 72) ?_); refine wpList_loadA vA3 rfl Try.underlying72 rfl (by kernel_rfl) ?_)
    refine Calls.mono (HC.out _) ?_
    rintro e w4 ⟨rfl, b4⟩
    have HB4 : Hid (Below w.heap.size w w4) := HB3.out.trans (b4.mono HB3.out.size)
    have HO4 : Hid (Owns w4 w.heap.size v3 ([] ++ (putB kd ++ (putB fr ++ putB to)))) := HO3.out.step b4
    clear vA3 HB3 b4 HO3 HC
    go_wp2_with fail
    refine Calls.mono (HV.out _) ?_
    rintro e w5 ⟨g, rfl, hg, b5⟩
    have HB5 : Hid (Below w.heap.size w w5) := HB4.out.trans (b5.mono HB4.out.size)
    have HO5 : Hid (Owns w5 w.heap.size v3 ([] ++ (putB kd ++ (putB fr ++ putB to)))) := HO4.out.step b5
    have HG : Hid _ := hg
    clear HB4 b5 HO4 HV hg
    go_wp2_with fail
    refine Calls.mono (HPC3.out v3 ([] ++ (putB kd ++ (putB fr ++ putB to))) vs zs g (fun _ => True) _ (HO5.out.rdT HZ3.out) HZ.out HG.out (HP.out _ HB5.out) h1 h100 (by simp only [List.length_append, List.length_nil]; omega)) ?_
    rintro e w6 ⟨v6, rfl, z6, o6, b6⟩
    have HB6 : Hid (Below w.heap.size w w6) := HB5.out.trans (b6.mono HB5.out.size)
    have hsz := HB5.out.size
    have he : [] ++ (putB kd ++ (putB fr ++ putB to)) ++ zs = putB kd ++ (putB fr ++ (putB to ++ zs)) := by simp
    rw [he] at z6 o6
    have HO6 : Hid _ := o6.base (b' := w.heap.size) hsz
    have HZ6 : Hid _ := z6
    clear HB5 b6 HO5 o6 z6 HPC3 HG HP HZ he
    go_wp2
    go_ret2
    exact ⟨_, rfl, HZ6.out, HO6.out, HB6.out⟩
  · have hof : MOk m = false := by simpa using ho
    have HF : Hid (outB m = []) := by show _ = _; unfold outB; rw [if_neg ho]
    rw [HF.out, hof]
    rw [hof] at HM
    clear r hl ho hof HF
    obtain ⟨kd, fr, to, rq, ⟨ok, ⟨op_, oq, od⟩, nm, ⟨tp, tq, td⟩, asn, ov⟩, ⟨rc, ⟨rp_, rq_, rd⟩, rv, es⟩, ⟨xs, xb, xn⟩, ⟨pk, ⟨pp, pq, pd⟩, pas, ⟨sp, sq, sd⟩⟩, cd, ⟨hp, hq, hd⟩⟩ := m
    dsimp only at HM ⊢
    go_enter Try.func33, Try.ntmps33
    go_wp2_with ((with_reducible refine guardLoad (ty := 72) ?_); refine wpList_loadA (VarA.new w _ _) rfl Try.underlying72 rfl (by kernel_rfl) ?_)
    refine Calls.mono (HM.out _ (Below.newH _)) ?_
    rintro e w2 ⟨rfl, b_⟩
    have HB : Hid (Below w.heap.size w w2) := (Below.newH (w := w) _).trans (b_.mono (by simp))
    clear b_ HM
    go_wp2
    go_ret2
    exact ⟨_, rfl, isBytes_nil, ⟨rfl, .inl ⟨rfl, rfl⟩⟩, HB.out⟩
end Go.Proofs.Ytaaongjnpnanmaa
end
