/- Joined: WMsg6a WMsg6b WMsg6. -/
import Derived.Test.YtbnjhjgjmckedaaGreatJ21

section
/- May a message be? By the program, kind by kind. Condition: no more than 2^21 of all. -/
namespace Go.Proofs.YtbnjhjgjmckedaaGreat
open Go.RowKit
set_option linter.unusedVariables false
set_option linter.unusedSimpArgs false
set_option maxRecDepth 100000

set_option maxHeartbeats 8000000 in
theorem implMsg0 (m : MsD) (a1 a2 a3 a4 : Option Addr) (n1 n2 n3 n4 c1 c2 c3 c4 : Nat) (S : Nat → Prop) (w : World) (r : RdM w S m (.slice a1 n1 c1) (.slice a2 n2 c2) (.slice a3 n3 c3) (.slice a4 n4 c4)) (hl : szMs m ≤ 2097152) (hk : m.kind = 0) :
    Calls Tryz.prog 8 #[msV m (.slice a1 n1 c1) (.slice a2 n2 c2) (.slice a3 n3 c3) (.slice a4 n4 c4)] w fun e w' => e = .returned (.bool (MOk m)) ∧ Below w.heap.size w w' := by
  obtain ⟨r1, r2, r3, r4⟩ := r
  have hl' := hl
  unfold szMs at hl'
  have HCO : Hid (∀ W, _) := fun W => content0 m a1 a2 a3 a4 n1 n2 n3 n4 c1 c2 c3 c4 W hk
  have HOK : Hid (∀ W, Below w.heap.size w W → _) := fun W hW => okM0 m a1 a2 a3 a4 n1 n2 n3 n4 c1 c2 c3 c4 S W ⟨r1.step hW, r2.step hW, r3.step hW, r4.step hW⟩ hl
  have HHE : Hid (∀ W, _) := fun W => headOf_any m a1 a2 a3 a4 n1 n2 n3 n4 c1 c2 c3 c4 W
  have HWI : Hid (∀ W, _) := fun W => with0 m a1 a2 a3 a4 n1 n2 n3 n4 c1 c2 c3 c4 W
  have HSA : Hid (∀ W, Below w.heap.size w W → _) := fun W hW => sameMsg_any 0 m.fr m.to m.req m.req m.code 0 m.op m.op m.rp rp0 m.tx tx0 m.pt pt0 m.h hd0 a1 a2 a3 a4 n1 n2 n3 n4 c1 c2 c3 c4 a1 a2 none none n1 n2 0 0 c1 c2 0 0 (true) (zRp m.rp) (zPt m.pt) W
    (fun V hV => sameOp_self _ _ m.op S V (r1.step (hW.trans (hV.mono hW.size))) (r2.step (hW.trans (hV.mono hW.size))))
    (fun V hV => sameReply_zero _ m.rp S V (r3.step (hW.trans (hV.mono hW.size))))
    (fun V hV => samePart_zero _ m.pt S V (r4.step (hW.trans (hV.mono hW.size))))
  have HE1 : Hid (∀ W, _) := fun W => implEnd_w m.fr W
  have HE2 : Hid (∀ W, _) := fun W => implEnd_w m.to W
  have hres : MOk m = (isEndB m.fr && (isEndB m.to && ((num m.req && OOk m.op) && (decide (m.req = m.req) && (true && (zRp m.rp && (decide (m.tx = tx0) && (zPt m.pt && (decide (m.code = 0) && decide (m.h = hd0)))))))))) := by
    simp [MOk, MBody, hk, zTx, tx0, hd0, Bool.and_assoc]
  rw [hres]
  generalize (num m.req && OOk m.op) = bc at HOK ⊢
  generalize isEndB m.fr = e1 at HE1 ⊢
  generalize isEndB m.to = e2 at HE2 ⊢
  generalize (decide (m.req = m.req) && (true && (zRp m.rp && (decide (m.tx = tx0) && (zPt m.pt && (decide (m.code = 0) && decide (m.h = hd0))))))) = bs at HSA ⊢
  clear r1 r2 r3 r4 hl hl' hres
  obtain ⟨kd, fr, to, rq, ⟨ok, ⟨op_, oq, od⟩, nm, ⟨tp, tq, td⟩, asn, ov⟩, ⟨rc, ⟨rp_, rq_, rd⟩, rv, es⟩, ⟨xs, xb, xn⟩, ⟨pk, ⟨pp, pq, pd⟩, pas, ⟨sp, sq, sd⟩⟩, cd, ⟨hp, hq, hd⟩⟩ := m
  dsimp only at hk HCO HOK HHE HWI HSA HE1 HE2 ⊢
  subst hk
  go_enter Tryz.func8, Tryz.ntmps8
  repeat (first | (with_reducible refine guardLoad (ty := 35) ?_; refine wpList_loadA (VarA.new w _ _) rfl Tryz.underlying35 rfl (by kernel_rfl) ?_) | go_values | go_skip | go_guarded | go_step)
  refine Calls.mono (HCO.out _) ?_
  rintro e w2 ⟨rfl, b_⟩
  have vA : VarA w2 w.heap.size 35 #[.int .i64 0, .int .i64 fr, .int .i64 to, .int .i64 rq, .int .i64 ok, .int .i64 op_, .int .i64 oq, .bool od, .slice a1 n1 c1, .int .i64 tp, .int .i64 tq, .bool td, .slice a2 n2 c2, .int .i64 ov, .int .i64 rc, .int .i64 rp_, .int .i64 rq_, .bool rd, .int .i64 rv, .slice a3 n3 c3, .int .i64 xs, .int .i64 xb, .int .i64 xn, .int .i64 pk, .int .i64 pp, .int .i64 pq, .bool pd, .slice a4 n4 c4, .int .i64 sp, .int .i64 sq, .bool sd, .int .i64 cd, .int .i64 hp, .int .i64 hq, .bool hd] := VarA.step (VarA.new w _ _) b_
  have HB : Hid (Below w.heap.size w w2) := (Below.newH (w := w) _).trans (b_.mono (by simp))
  clear b_ HCO
  have hlt_ := vA.lt
  haveI := VarA.ne vA
  have k1_ := Cls.cell hlt_ (vA.c 1 rfl)
  have k2_ := Cls.cell hlt_ (vA.c 2 rfl)
  have hME : ∀ (v : Value) (W : World), (Go.method 297 114 v "loop.example/g00341/impl.ok").run Tryz.prog W = .ok (153, v) W := fun v W => by kernel_rfl
  have hVM : ∀ W, (∃ i : Cls w2, W = i.W) → VarA W w.heap.size 35 #[.int .i64 0, .int .i64 fr, .int .i64 to, .int .i64 rq, .int .i64 ok, .int .i64 op_, .int .i64 oq, .bool od, .slice a1 n1 c1, .int .i64 tp, .int .i64 tq, .bool td, .slice a2 n2 c2, .int .i64 ov, .int .i64 rc, .int .i64 rp_, .int .i64 rq_, .bool rd, .int .i64 rv, .slice a3 n3 c3, .int .i64 xs, .int .i64 xb, .int .i64 xn, .int .i64 pk, .int .i64 pp, .int .i64 pq, .bool pd, .slice a4 n4 c4, .int .i64 sp, .int .i64 sq, .bool sd, .int .i64 cd, .int .i64 hp, .int .i64 hq, .bool hd] := fun W ⟨i, hi⟩ => by rw [hi]; exact VarA.step vA i.h
  rcases (show e1 = false ∨ (e1 = true ∧ e2 = false) ∨ (e1 = true ∧ e2 = true ∧ bc = false) ∨ (e1 = true ∧ e2 = true ∧ bc = true) by cases e1 <;> cases e2 <;> cases bc <;> simp) with rfl | ⟨rfl, rfl⟩ | ⟨rfl, rfl, rfl⟩ | ⟨rfl, rfl, rfl⟩
  all_goals
    go_wp2_with fail
    refine wp_region_cls (by kernel_rfl) (by kernel_rfl) ?_
    repeat (go_big_quiet_step (first
      | (go_at_call 35; first | (with_reducible exact Calls.cls_same (HE1.out _)) | (with_reducible exact Calls.cls_same (HE2.out _)))
      | (go_at_call 153; exact Calls.cls (HOK.out _ (HB.out.trans ((Cls.h _).mono HB.out.size))))
      | (go_at_call 37; exact Calls.cls (HHE.out _))
      | (go_at_call 38; exact Calls.cls (HWI.out _))
      | (go_at_call 36; exact Calls.cls (HSA.out _ (HB.out.trans ((Cls.h _).mono HB.out.size))))))
    try
      refine wpQuiet_loadA hVM rfl rfl Tryz.underlying35 rfl (by kernel_rfl) ?_
      simp only [Act.put, List.setIfInBounds_toArray, List.set_cons_succ, List.set_cons_zero]
      refine wpQuiet_loadA hVM rfl rfl Tryz.underlying35 rfl (by kernel_rfl) ?_
      simp only [Act.put, List.setIfInBounds_toArray, List.set_cons_succ, List.set_cons_zero]
      repeat (go_big_quiet_step (first
        | (go_at_call 35; first | (with_reducible exact Calls.cls_same (HE1.out _)) | (with_reducible exact Calls.cls_same (HE2.out _)))
        | (go_at_call 153; exact Calls.cls (HOK.out _ (HB.out.trans ((Cls.h _).mono HB.out.size))))
        | (go_at_call 37; exact Calls.cls (HHE.out _))
        | (go_at_call 38; exact Calls.cls (HWI.out _))
        | (go_at_call 36; exact Calls.cls (HSA.out _ (HB.out.trans ((Cls.h _).mono HB.out.size))))))
    refine wpQuiet_nil ?_
    rintro w' ⟨⟨w', b_⟩, rfl⟩
    have HB_ : Hid _ := HB.out.trans (b_.mono HB.out.size)
    clear HOK HHE HWI HSA HE1 HE2 hME hVM k1_ k2_ this vA b_
    go_wp2
    go_ret
    exact ⟨by first | rfl | simp, HB_.out⟩
set_option maxHeartbeats 8000000 in
theorem implMsg1 (m : MsD) (a1 a2 a3 a4 : Option Addr) (n1 n2 n3 n4 c1 c2 c3 c4 : Nat) (S : Nat → Prop) (w : World) (r : RdM w S m (.slice a1 n1 c1) (.slice a2 n2 c2) (.slice a3 n3 c3) (.slice a4 n4 c4)) (hl : szMs m ≤ 2097152) (hk : m.kind = 1) :
    Calls Tryz.prog 8 #[msV m (.slice a1 n1 c1) (.slice a2 n2 c2) (.slice a3 n3 c3) (.slice a4 n4 c4)] w fun e w' => e = .returned (.bool (MOk m)) ∧ Below w.heap.size w w' := by
  obtain ⟨r1, r2, r3, r4⟩ := r
  have hl' := hl
  unfold szMs at hl'
  have HCO : Hid (∀ W, _) := fun W => content1 m a1 a2 a3 a4 n1 n2 n3 n4 c1 c2 c3 c4 W hk
  have HOK : Hid (∀ W, Below w.heap.size w W → _) := fun W hW => okM1 m a1 a2 a3 a4 n1 n2 n3 n4 c1 c2 c3 c4 S W ⟨r1.step hW, r2.step hW, r3.step hW, r4.step hW⟩ hl
  have HHE : Hid (∀ W, _) := fun W => headOf_any m a1 a2 a3 a4 n1 n2 n3 n4 c1 c2 c3 c4 W
  have HWI : Hid (∀ W, _) := fun W => with1 m a1 a2 a3 a4 n1 n2 n3 n4 c1 c2 c3 c4 W
  have HSA : Hid (∀ W, Below w.heap.size w W → _) := fun W hW => sameMsg_any 1 m.fr m.to m.req m.req m.code 0 m.op op0 m.rp m.rp m.tx tx0 m.pt pt0 m.h hd0 a1 a2 a3 a4 n1 n2 n3 n4 c1 c2 c3 c4 none none a3 none 0 0 n3 0 0 0 c3 0 (zOp m.op) (true) (zPt m.pt) W
    (fun V hV => sameOp_zero _ _ m.op S V (r1.step (hW.trans (hV.mono hW.size))) (r2.step (hW.trans (hV.mono hW.size))))
    (fun V hV => sameReply_self _ m.rp S V (r3.step (hW.trans (hV.mono hW.size))) (by omega))
    (fun V hV => samePart_zero _ m.pt S V (r4.step (hW.trans (hV.mono hW.size))))
  have HE1 : Hid (∀ W, _) := fun W => implEnd_w m.fr W
  have HE2 : Hid (∀ W, _) := fun W => implEnd_w m.to W
  have hres : MOk m = (isEndB m.fr && (isEndB m.to && ((num m.req && ROk m.rp) && (decide (m.req = m.req) && (zOp m.op && (true && (decide (m.tx = tx0) && (zPt m.pt && (decide (m.code = 0) && decide (m.h = hd0)))))))))) := by
    simp [MOk, MBody, hk, zTx, tx0, hd0, Bool.and_assoc]
  rw [hres]
  generalize (num m.req && ROk m.rp) = bc at HOK ⊢
  generalize isEndB m.fr = e1 at HE1 ⊢
  generalize isEndB m.to = e2 at HE2 ⊢
  generalize (decide (m.req = m.req) && (zOp m.op && (true && (decide (m.tx = tx0) && (zPt m.pt && (decide (m.code = 0) && decide (m.h = hd0))))))) = bs at HSA ⊢
  clear r1 r2 r3 r4 hl hl' hres
  obtain ⟨kd, fr, to, rq, ⟨ok, ⟨op_, oq, od⟩, nm, ⟨tp, tq, td⟩, asn, ov⟩, ⟨rc, ⟨rp_, rq_, rd⟩, rv, es⟩, ⟨xs, xb, xn⟩, ⟨pk, ⟨pp, pq, pd⟩, pas, ⟨sp, sq, sd⟩⟩, cd, ⟨hp, hq, hd⟩⟩ := m
  dsimp only at hk HCO HOK HHE HWI HSA HE1 HE2 ⊢
  subst hk
  go_enter Tryz.func8, Tryz.ntmps8
  repeat (first | (with_reducible refine guardLoad (ty := 35) ?_; refine wpList_loadA (VarA.new w _ _) rfl Tryz.underlying35 rfl (by kernel_rfl) ?_) | go_values | go_skip | go_guarded | go_step)
  refine Calls.mono (HCO.out _) ?_
  rintro e w2 ⟨rfl, b_⟩
  have vA : VarA w2 w.heap.size 35 #[.int .i64 1, .int .i64 fr, .int .i64 to, .int .i64 rq, .int .i64 ok, .int .i64 op_, .int .i64 oq, .bool od, .slice a1 n1 c1, .int .i64 tp, .int .i64 tq, .bool td, .slice a2 n2 c2, .int .i64 ov, .int .i64 rc, .int .i64 rp_, .int .i64 rq_, .bool rd, .int .i64 rv, .slice a3 n3 c3, .int .i64 xs, .int .i64 xb, .int .i64 xn, .int .i64 pk, .int .i64 pp, .int .i64 pq, .bool pd, .slice a4 n4 c4, .int .i64 sp, .int .i64 sq, .bool sd, .int .i64 cd, .int .i64 hp, .int .i64 hq, .bool hd] := VarA.step (VarA.new w _ _) b_
  have HB : Hid (Below w.heap.size w w2) := (Below.newH (w := w) _).trans (b_.mono (by simp))
  clear b_ HCO
  have hlt_ := vA.lt
  haveI := VarA.ne vA
  have k1_ := Cls.cell hlt_ (vA.c 1 rfl)
  have k2_ := Cls.cell hlt_ (vA.c 2 rfl)
  have hME : ∀ (v : Value) (W : World), (Go.method 297 116 v "loop.example/g00341/impl.ok").run Tryz.prog W = .ok (162, v) W := fun v W => by kernel_rfl
  have hVM : ∀ W, (∃ i : Cls w2, W = i.W) → VarA W w.heap.size 35 #[.int .i64 1, .int .i64 fr, .int .i64 to, .int .i64 rq, .int .i64 ok, .int .i64 op_, .int .i64 oq, .bool od, .slice a1 n1 c1, .int .i64 tp, .int .i64 tq, .bool td, .slice a2 n2 c2, .int .i64 ov, .int .i64 rc, .int .i64 rp_, .int .i64 rq_, .bool rd, .int .i64 rv, .slice a3 n3 c3, .int .i64 xs, .int .i64 xb, .int .i64 xn, .int .i64 pk, .int .i64 pp, .int .i64 pq, .bool pd, .slice a4 n4 c4, .int .i64 sp, .int .i64 sq, .bool sd, .int .i64 cd, .int .i64 hp, .int .i64 hq, .bool hd] := fun W ⟨i, hi⟩ => by rw [hi]; exact VarA.step vA i.h
  rcases (show e1 = false ∨ (e1 = true ∧ e2 = false) ∨ (e1 = true ∧ e2 = true ∧ bc = false) ∨ (e1 = true ∧ e2 = true ∧ bc = true) by cases e1 <;> cases e2 <;> cases bc <;> simp) with rfl | ⟨rfl, rfl⟩ | ⟨rfl, rfl, rfl⟩ | ⟨rfl, rfl, rfl⟩
  all_goals
    go_wp2_with fail
    refine wp_region_cls (by kernel_rfl) (by kernel_rfl) ?_
    repeat (go_big_quiet_step (first
      | (go_at_call 35; first | (with_reducible exact Calls.cls_same (HE1.out _)) | (with_reducible exact Calls.cls_same (HE2.out _)))
      | (go_at_call 162; exact Calls.cls (HOK.out _ (HB.out.trans ((Cls.h _).mono HB.out.size))))
      | (go_at_call 37; exact Calls.cls (HHE.out _))
      | (go_at_call 38; exact Calls.cls (HWI.out _))
      | (go_at_call 36; exact Calls.cls (HSA.out _ (HB.out.trans ((Cls.h _).mono HB.out.size))))))
    try
      refine wpQuiet_loadA hVM rfl rfl Tryz.underlying35 rfl (by kernel_rfl) ?_
      simp only [Act.put, List.setIfInBounds_toArray, List.set_cons_succ, List.set_cons_zero]
      refine wpQuiet_loadA hVM rfl rfl Tryz.underlying35 rfl (by kernel_rfl) ?_
      simp only [Act.put, List.setIfInBounds_toArray, List.set_cons_succ, List.set_cons_zero]
      repeat (go_big_quiet_step (first
        | (go_at_call 35; first | (with_reducible exact Calls.cls_same (HE1.out _)) | (with_reducible exact Calls.cls_same (HE2.out _)))
        | (go_at_call 162; exact Calls.cls (HOK.out _ (HB.out.trans ((Cls.h _).mono HB.out.size))))
        | (go_at_call 37; exact Calls.cls (HHE.out _))
        | (go_at_call 38; exact Calls.cls (HWI.out _))
        | (go_at_call 36; exact Calls.cls (HSA.out _ (HB.out.trans ((Cls.h _).mono HB.out.size))))))
    refine wpQuiet_nil ?_
    rintro w' ⟨⟨w', b_⟩, rfl⟩
    have HB_ : Hid _ := HB.out.trans (b_.mono HB.out.size)
    clear HOK HHE HWI HSA HE1 HE2 hME hVM k1_ k2_ this vA b_
    go_wp2
    go_ret
    exact ⟨by first | rfl | simp, HB_.out⟩
set_option maxHeartbeats 8000000 in
theorem implMsg2 (m : MsD) (a1 a2 a3 a4 : Option Addr) (n1 n2 n3 n4 c1 c2 c3 c4 : Nat) (S : Nat → Prop) (w : World) (r : RdM w S m (.slice a1 n1 c1) (.slice a2 n2 c2) (.slice a3 n3 c3) (.slice a4 n4 c4)) (hl : szMs m ≤ 2097152) (hk : m.kind = 2) :
    Calls Tryz.prog 8 #[msV m (.slice a1 n1 c1) (.slice a2 n2 c2) (.slice a3 n3 c3) (.slice a4 n4 c4)] w fun e w' => e = .returned (.bool (MOk m)) ∧ Below w.heap.size w w' := by
  obtain ⟨r1, r2, r3, r4⟩ := r
  have hl' := hl
  unfold szMs at hl'
  have HCO : Hid (∀ W, _) := fun W => content2 m a1 a2 a3 a4 n1 n2 n3 n4 c1 c2 c3 c4 W hk
  have HOK : Hid (∀ W, Below w.heap.size w W → _) := fun W hW => okM2 m a1 a2 a3 a4 n1 n2 n3 n4 c1 c2 c3 c4 S W ⟨r1.step hW, r2.step hW, r3.step hW, r4.step hW⟩ hl
  have HHE : Hid (∀ W, _) := fun W => headOf_any m a1 a2 a3 a4 n1 n2 n3 n4 c1 c2 c3 c4 W
  have HWI : Hid (∀ W, _) := fun W => with2 m a1 a2 a3 a4 n1 n2 n3 n4 c1 c2 c3 c4 W
  have HSA : Hid (∀ W, Below w.heap.size w W → _) := fun W hW => sameMsg_any 2 m.fr m.to m.req 0 m.code 0 m.op op0 m.rp rp0 m.tx m.tx m.pt m.pt m.h hd0 a1 a2 a3 a4 n1 n2 n3 n4 c1 c2 c3 c4 none none none a4 0 0 0 n4 0 0 0 c4 (zOp m.op) (zRp m.rp) (true) W
    (fun V hV => sameOp_zero _ _ m.op S V (r1.step (hW.trans (hV.mono hW.size))) (r2.step (hW.trans (hV.mono hW.size))))
    (fun V hV => sameReply_zero _ m.rp S V (r3.step (hW.trans (hV.mono hW.size))))
    (fun V hV => samePart_self _ m.pt S V (r4.step (hW.trans (hV.mono hW.size))))
  have HE1 : Hid (∀ W, _) := fun W => implEnd_w m.fr W
  have HE2 : Hid (∀ W, _) := fun W => implEnd_w m.to W
  have hres : MOk m = (isEndB m.fr && (isEndB m.to && ((TOk m.tx && POk m.pt) && (decide (m.req = 0) && (zOp m.op && (zRp m.rp && (decide (m.tx = m.tx) && (true && (decide (m.code = 0) && decide (m.h = hd0)))))))))) := by
    simp [MOk, MBody, hk, zTx, tx0, hd0, Bool.and_assoc]
  rw [hres]
  generalize (TOk m.tx && POk m.pt) = bc at HOK ⊢
  generalize isEndB m.fr = e1 at HE1 ⊢
  generalize isEndB m.to = e2 at HE2 ⊢
  generalize (decide (m.req = 0) && (zOp m.op && (zRp m.rp && (decide (m.tx = m.tx) && (true && (decide (m.code = 0) && decide (m.h = hd0))))))) = bs at HSA ⊢
  clear r1 r2 r3 r4 hl hl' hres
  obtain ⟨kd, fr, to, rq, ⟨ok, ⟨op_, oq, od⟩, nm, ⟨tp, tq, td⟩, asn, ov⟩, ⟨rc, ⟨rp_, rq_, rd⟩, rv, es⟩, ⟨xs, xb, xn⟩, ⟨pk, ⟨pp, pq, pd⟩, pas, ⟨sp, sq, sd⟩⟩, cd, ⟨hp, hq, hd⟩⟩ := m
  dsimp only at hk HCO HOK HHE HWI HSA HE1 HE2 ⊢
  subst hk
  go_enter Tryz.func8, Tryz.ntmps8
  repeat (first | (with_reducible refine guardLoad (ty := 35) ?_; refine wpList_loadA (VarA.new w _ _) rfl Tryz.underlying35 rfl (by kernel_rfl) ?_) | go_values | go_skip | go_guarded | go_step)
  refine Calls.mono (HCO.out _) ?_
  rintro e w2 ⟨rfl, b_⟩
  have vA : VarA w2 w.heap.size 35 #[.int .i64 2, .int .i64 fr, .int .i64 to, .int .i64 rq, .int .i64 ok, .int .i64 op_, .int .i64 oq, .bool od, .slice a1 n1 c1, .int .i64 tp, .int .i64 tq, .bool td, .slice a2 n2 c2, .int .i64 ov, .int .i64 rc, .int .i64 rp_, .int .i64 rq_, .bool rd, .int .i64 rv, .slice a3 n3 c3, .int .i64 xs, .int .i64 xb, .int .i64 xn, .int .i64 pk, .int .i64 pp, .int .i64 pq, .bool pd, .slice a4 n4 c4, .int .i64 sp, .int .i64 sq, .bool sd, .int .i64 cd, .int .i64 hp, .int .i64 hq, .bool hd] := VarA.step (VarA.new w _ _) b_
  have HB : Hid (Below w.heap.size w w2) := (Below.newH (w := w) _).trans (b_.mono (by simp))
  clear b_ HCO
  have hlt_ := vA.lt
  haveI := VarA.ne vA
  have k1_ := Cls.cell hlt_ (vA.c 1 rfl)
  have k2_ := Cls.cell hlt_ (vA.c 2 rfl)
  have hME : ∀ (v : Value) (W : World), (Go.method 297 118 v "loop.example/g00341/impl.ok").run Tryz.prog W = .ok (166, v) W := fun v W => by kernel_rfl
  have hVM : ∀ W, (∃ i : Cls w2, W = i.W) → VarA W w.heap.size 35 #[.int .i64 2, .int .i64 fr, .int .i64 to, .int .i64 rq, .int .i64 ok, .int .i64 op_, .int .i64 oq, .bool od, .slice a1 n1 c1, .int .i64 tp, .int .i64 tq, .bool td, .slice a2 n2 c2, .int .i64 ov, .int .i64 rc, .int .i64 rp_, .int .i64 rq_, .bool rd, .int .i64 rv, .slice a3 n3 c3, .int .i64 xs, .int .i64 xb, .int .i64 xn, .int .i64 pk, .int .i64 pp, .int .i64 pq, .bool pd, .slice a4 n4 c4, .int .i64 sp, .int .i64 sq, .bool sd, .int .i64 cd, .int .i64 hp, .int .i64 hq, .bool hd] := fun W ⟨i, hi⟩ => by rw [hi]; exact VarA.step vA i.h
  rcases (show e1 = false ∨ (e1 = true ∧ e2 = false) ∨ (e1 = true ∧ e2 = true ∧ bc = false) ∨ (e1 = true ∧ e2 = true ∧ bc = true) by cases e1 <;> cases e2 <;> cases bc <;> simp) with rfl | ⟨rfl, rfl⟩ | ⟨rfl, rfl, rfl⟩ | ⟨rfl, rfl, rfl⟩
  all_goals
    go_wp2_with fail
    refine wp_region_cls (by kernel_rfl) (by kernel_rfl) ?_
    repeat (go_big_quiet_step (first
      | (go_at_call 35; first | (with_reducible exact Calls.cls_same (HE1.out _)) | (with_reducible exact Calls.cls_same (HE2.out _)))
      | (go_at_call 166; exact Calls.cls (HOK.out _ (HB.out.trans ((Cls.h _).mono HB.out.size))))
      | (go_at_call 37; exact Calls.cls (HHE.out _))
      | (go_at_call 38; exact Calls.cls (HWI.out _))
      | (go_at_call 36; exact Calls.cls (HSA.out _ (HB.out.trans ((Cls.h _).mono HB.out.size))))))
    try
      refine wpQuiet_loadA hVM rfl rfl Tryz.underlying35 rfl (by kernel_rfl) ?_
      simp only [Act.put, List.setIfInBounds_toArray, List.set_cons_succ, List.set_cons_zero]
      refine wpQuiet_loadA hVM rfl rfl Tryz.underlying35 rfl (by kernel_rfl) ?_
      simp only [Act.put, List.setIfInBounds_toArray, List.set_cons_succ, List.set_cons_zero]
      repeat (go_big_quiet_step (first
        | (go_at_call 35; first | (with_reducible exact Calls.cls_same (HE1.out _)) | (with_reducible exact Calls.cls_same (HE2.out _)))
        | (go_at_call 166; exact Calls.cls (HOK.out _ (HB.out.trans ((Cls.h _).mono HB.out.size))))
        | (go_at_call 37; exact Calls.cls (HHE.out _))
        | (go_at_call 38; exact Calls.cls (HWI.out _))
        | (go_at_call 36; exact Calls.cls (HSA.out _ (HB.out.trans ((Cls.h _).mono HB.out.size))))))
    refine wpQuiet_nil ?_
    rintro w' ⟨⟨w', b_⟩, rfl⟩
    have HB_ : Hid _ := HB.out.trans (b_.mono HB.out.size)
    clear HOK HHE HWI HSA HE1 HE2 hME hVM k1_ k2_ this vA b_
    go_wp2
    go_ret
    exact ⟨by first | rfl | simp, HB_.out⟩
set_option maxHeartbeats 8000000 in
theorem implMsg3 (m : MsD) (a1 a2 a3 a4 : Option Addr) (n1 n2 n3 n4 c1 c2 c3 c4 : Nat) (S : Nat → Prop) (w : World) (r : RdM w S m (.slice a1 n1 c1) (.slice a2 n2 c2) (.slice a3 n3 c3) (.slice a4 n4 c4)) (hl : szMs m ≤ 2097152) (hk : m.kind = 3) :
    Calls Tryz.prog 8 #[msV m (.slice a1 n1 c1) (.slice a2 n2 c2) (.slice a3 n3 c3) (.slice a4 n4 c4)] w fun e w' => e = .returned (.bool (MOk m)) ∧ Below w.heap.size w w' := by
  obtain ⟨r1, r2, r3, r4⟩ := r
  have hl' := hl
  unfold szMs at hl'
  have HCO : Hid (∀ W, _) := fun W => content3 m a1 a2 a3 a4 n1 n2 n3 n4 c1 c2 c3 c4 W hk
  have HOK : Hid (∀ W, Below w.heap.size w W → _) := fun W hW => okM3 m a1 a2 a3 a4 n1 n2 n3 n4 c1 c2 c3 c4 S W ⟨r1.step hW, r2.step hW, r3.step hW, r4.step hW⟩ hl
  have HHE : Hid (∀ W, _) := fun W => headOf_any m a1 a2 a3 a4 n1 n2 n3 n4 c1 c2 c3 c4 W
  have HWI : Hid (∀ W, _) := fun W => with3 m a1 a2 a3 a4 n1 n2 n3 n4 c1 c2 c3 c4 W
  have HSA : Hid (∀ W, Below w.heap.size w W → _) := fun W hW => sameMsg_any 3 m.fr m.to m.req 0 m.code m.code m.op op0 m.rp rp0 m.tx m.tx m.pt m.pt m.h m.h a1 a2 a3 a4 n1 n2 n3 n4 c1 c2 c3 c4 none none none a4 0 0 0 n4 0 0 0 c4 (zOp m.op) (zRp m.rp) (true) W
    (fun V hV => sameOp_zero _ _ m.op S V (r1.step (hW.trans (hV.mono hW.size))) (r2.step (hW.trans (hV.mono hW.size))))
    (fun V hV => sameReply_zero _ m.rp S V (r3.step (hW.trans (hV.mono hW.size))))
    (fun V hV => samePart_self _ m.pt S V (r4.step (hW.trans (hV.mono hW.size))))
  have HE1 : Hid (∀ W, _) := fun W => implEnd_w m.fr W
  have HE2 : Hid (∀ W, _) := fun W => implEnd_w m.to W
  have hres : MOk m = (isEndB m.fr && (isEndB m.to && ((TOk m.tx && (POk m.pt && (isCd m.code && noneOk m.h))) && (decide (m.req = 0) && (zOp m.op && (zRp m.rp && (decide (m.tx = m.tx) && (true && (decide (m.code = m.code) && decide (m.h = m.h)))))))))) := by
    simp [MOk, MBody, hk, zTx, tx0, hd0, Bool.and_assoc]
  rw [hres]
  generalize (TOk m.tx && (POk m.pt && (isCd m.code && noneOk m.h))) = bc at HOK ⊢
  generalize isEndB m.fr = e1 at HE1 ⊢
  generalize isEndB m.to = e2 at HE2 ⊢
  generalize (decide (m.req = 0) && (zOp m.op && (zRp m.rp && (decide (m.tx = m.tx) && (true && (decide (m.code = m.code) && decide (m.h = m.h))))))) = bs at HSA ⊢
  clear r1 r2 r3 r4 hl hl' hres
  obtain ⟨kd, fr, to, rq, ⟨ok, ⟨op_, oq, od⟩, nm, ⟨tp, tq, td⟩, asn, ov⟩, ⟨rc, ⟨rp_, rq_, rd⟩, rv, es⟩, ⟨xs, xb, xn⟩, ⟨pk, ⟨pp, pq, pd⟩, pas, ⟨sp, sq, sd⟩⟩, cd, ⟨hp, hq, hd⟩⟩ := m
  dsimp only at hk HCO HOK HHE HWI HSA HE1 HE2 ⊢
  subst hk
  go_enter Tryz.func8, Tryz.ntmps8
  repeat (first | (with_reducible refine guardLoad (ty := 35) ?_; refine wpList_loadA (VarA.new w _ _) rfl Tryz.underlying35 rfl (by kernel_rfl) ?_) | go_values | go_skip | go_guarded | go_step)
  refine Calls.mono (HCO.out _) ?_
  rintro e w2 ⟨rfl, b_⟩
  have vA : VarA w2 w.heap.size 35 #[.int .i64 3, .int .i64 fr, .int .i64 to, .int .i64 rq, .int .i64 ok, .int .i64 op_, .int .i64 oq, .bool od, .slice a1 n1 c1, .int .i64 tp, .int .i64 tq, .bool td, .slice a2 n2 c2, .int .i64 ov, .int .i64 rc, .int .i64 rp_, .int .i64 rq_, .bool rd, .int .i64 rv, .slice a3 n3 c3, .int .i64 xs, .int .i64 xb, .int .i64 xn, .int .i64 pk, .int .i64 pp, .int .i64 pq, .bool pd, .slice a4 n4 c4, .int .i64 sp, .int .i64 sq, .bool sd, .int .i64 cd, .int .i64 hp, .int .i64 hq, .bool hd] := VarA.step (VarA.new w _ _) b_
  have HB : Hid (Below w.heap.size w w2) := (Below.newH (w := w) _).trans (b_.mono (by simp))
  clear b_ HCO
  have hlt_ := vA.lt
  haveI := VarA.ne vA
  have k1_ := Cls.cell hlt_ (vA.c 1 rfl)
  have k2_ := Cls.cell hlt_ (vA.c 2 rfl)
  have hME : ∀ (v : Value) (W : World), (Go.method 297 120 v "loop.example/g00341/impl.ok").run Tryz.prog W = .ok (170, v) W := fun v W => by kernel_rfl
  have hVM : ∀ W, (∃ i : Cls w2, W = i.W) → VarA W w.heap.size 35 #[.int .i64 3, .int .i64 fr, .int .i64 to, .int .i64 rq, .int .i64 ok, .int .i64 op_, .int .i64 oq, .bool od, .slice a1 n1 c1, .int .i64 tp, .int .i64 tq, .bool td, .slice a2 n2 c2, .int .i64 ov, .int .i64 rc, .int .i64 rp_, .int .i64 rq_, .bool rd, .int .i64 rv, .slice a3 n3 c3, .int .i64 xs, .int .i64 xb, .int .i64 xn, .int .i64 pk, .int .i64 pp, .int .i64 pq, .bool pd, .slice a4 n4 c4, .int .i64 sp, .int .i64 sq, .bool sd, .int .i64 cd, .int .i64 hp, .int .i64 hq, .bool hd] := fun W ⟨i, hi⟩ => by rw [hi]; exact VarA.step vA i.h
  rcases (show e1 = false ∨ (e1 = true ∧ e2 = false) ∨ (e1 = true ∧ e2 = true ∧ bc = false) ∨ (e1 = true ∧ e2 = true ∧ bc = true) by cases e1 <;> cases e2 <;> cases bc <;> simp) with rfl | ⟨rfl, rfl⟩ | ⟨rfl, rfl, rfl⟩ | ⟨rfl, rfl, rfl⟩
  all_goals
    go_wp2_with fail
    refine wp_region_cls (by kernel_rfl) (by kernel_rfl) ?_
    repeat (go_big_quiet_step (first
      | (go_at_call 35; first | (with_reducible exact Calls.cls_same (HE1.out _)) | (with_reducible exact Calls.cls_same (HE2.out _)))
      | (go_at_call 170; exact Calls.cls (HOK.out _ (HB.out.trans ((Cls.h _).mono HB.out.size))))
      | (go_at_call 37; exact Calls.cls (HHE.out _))
      | (go_at_call 38; exact Calls.cls (HWI.out _))
      | (go_at_call 36; exact Calls.cls (HSA.out _ (HB.out.trans ((Cls.h _).mono HB.out.size))))))
    try
      refine wpQuiet_loadA hVM rfl rfl Tryz.underlying35 rfl (by kernel_rfl) ?_
      simp only [Act.put, List.setIfInBounds_toArray, List.set_cons_succ, List.set_cons_zero]
      refine wpQuiet_loadA hVM rfl rfl Tryz.underlying35 rfl (by kernel_rfl) ?_
      simp only [Act.put, List.setIfInBounds_toArray, List.set_cons_succ, List.set_cons_zero]
      repeat (go_big_quiet_step (first
        | (go_at_call 35; first | (with_reducible exact Calls.cls_same (HE1.out _)) | (with_reducible exact Calls.cls_same (HE2.out _)))
        | (go_at_call 170; exact Calls.cls (HOK.out _ (HB.out.trans ((Cls.h _).mono HB.out.size))))
        | (go_at_call 37; exact Calls.cls (HHE.out _))
        | (go_at_call 38; exact Calls.cls (HWI.out _))
        | (go_at_call 36; exact Calls.cls (HSA.out _ (HB.out.trans ((Cls.h _).mono HB.out.size))))))
    refine wpQuiet_nil ?_
    rintro w' ⟨⟨w', b_⟩, rfl⟩
    have HB_ : Hid _ := HB.out.trans (b_.mono HB.out.size)
    clear HOK HHE HWI HSA HE1 HE2 hME hVM k1_ k2_ this vA b_
    go_wp2
    go_ret
    exact ⟨by first | rfl | simp, HB_.out⟩
end Go.Proofs.YtbnjhjgjmckedaaGreat
end

section
/- May a message be? By the program, kind by kind. Condition: no more than 2^21 of all. -/
namespace Go.Proofs.YtbnjhjgjmckedaaGreat
open Go.RowKit
set_option linter.unusedVariables false
set_option linter.unusedSimpArgs false
set_option maxRecDepth 100000

set_option maxHeartbeats 8000000 in
theorem implMsg4 (m : MsD) (a1 a2 a3 a4 : Option Addr) (n1 n2 n3 n4 c1 c2 c3 c4 : Nat) (S : Nat → Prop) (w : World) (r : RdM w S m (.slice a1 n1 c1) (.slice a2 n2 c2) (.slice a3 n3 c3) (.slice a4 n4 c4)) (hl : szMs m ≤ 2097152) (hk : m.kind = 4) :
    Calls Tryz.prog 8 #[msV m (.slice a1 n1 c1) (.slice a2 n2 c2) (.slice a3 n3 c3) (.slice a4 n4 c4)] w fun e w' => e = .returned (.bool (MOk m)) ∧ Below w.heap.size w w' := by
  obtain ⟨r1, r2, r3, r4⟩ := r
  have hl' := hl
  unfold szMs at hl'
  have HCO : Hid (∀ W, _) := fun W => content4 m a1 a2 a3 a4 n1 n2 n3 n4 c1 c2 c3 c4 W hk
  have HOK : Hid (∀ W, Below w.heap.size w W → _) := fun W hW => okM4 m a1 a2 a3 a4 n1 n2 n3 n4 c1 c2 c3 c4 S W ⟨r1.step hW, r2.step hW, r3.step hW, r4.step hW⟩ hl
  have HHE : Hid (∀ W, _) := fun W => headOf_any m a1 a2 a3 a4 n1 n2 n3 n4 c1 c2 c3 c4 W
  have HWI : Hid (∀ W, _) := fun W => with4 m a1 a2 a3 a4 n1 n2 n3 n4 c1 c2 c3 c4 W
  have HSA : Hid (∀ W, Below w.heap.size w W → _) := fun W hW => sameMsg_any 4 m.fr m.to m.req 0 m.code 0 m.op op0 m.rp rp0 m.tx m.tx m.pt pt0 m.h hd0 a1 a2 a3 a4 n1 n2 n3 n4 c1 c2 c3 c4 none none none none 0 0 0 0 0 0 0 0 (zOp m.op) (zRp m.rp) (zPt m.pt) W
    (fun V hV => sameOp_zero _ _ m.op S V (r1.step (hW.trans (hV.mono hW.size))) (r2.step (hW.trans (hV.mono hW.size))))
    (fun V hV => sameReply_zero _ m.rp S V (r3.step (hW.trans (hV.mono hW.size))))
    (fun V hV => samePart_zero _ m.pt S V (r4.step (hW.trans (hV.mono hW.size))))
  have HE1 : Hid (∀ W, _) := fun W => implEnd_w m.fr W
  have HE2 : Hid (∀ W, _) := fun W => implEnd_w m.to W
  have hres : MOk m = (isEndB m.fr && (isEndB m.to && ((TOk m.tx) && (decide (m.req = 0) && (zOp m.op && (zRp m.rp && (decide (m.tx = m.tx) && (zPt m.pt && (decide (m.code = 0) && decide (m.h = hd0)))))))))) := by
    simp [MOk, MBody, hk, zTx, tx0, hd0, Bool.and_assoc]
  rw [hres]
  generalize (TOk m.tx) = bc at HOK ⊢
  generalize isEndB m.fr = e1 at HE1 ⊢
  generalize isEndB m.to = e2 at HE2 ⊢
  generalize (decide (m.req = 0) && (zOp m.op && (zRp m.rp && (decide (m.tx = m.tx) && (zPt m.pt && (decide (m.code = 0) && decide (m.h = hd0))))))) = bs at HSA ⊢
  clear r1 r2 r3 r4 hl hl' hres
  obtain ⟨kd, fr, to, rq, ⟨ok, ⟨op_, oq, od⟩, nm, ⟨tp, tq, td⟩, asn, ov⟩, ⟨rc, ⟨rp_, rq_, rd⟩, rv, es⟩, ⟨xs, xb, xn⟩, ⟨pk, ⟨pp, pq, pd⟩, pas, ⟨sp, sq, sd⟩⟩, cd, ⟨hp, hq, hd⟩⟩ := m
  dsimp only at hk HCO HOK HHE HWI HSA HE1 HE2 ⊢
  subst hk
  go_enter Tryz.func8, Tryz.ntmps8
  repeat (first | (with_reducible refine guardLoad (ty := 35) ?_; refine wpList_loadA (VarA.new w _ _) rfl Tryz.underlying35 rfl (by kernel_rfl) ?_) | go_values | go_skip | go_guarded | go_step)
  refine Calls.mono (HCO.out _) ?_
  rintro e w2 ⟨rfl, b_⟩
  have vA : VarA w2 w.heap.size 35 #[.int .i64 4, .int .i64 fr, .int .i64 to, .int .i64 rq, .int .i64 ok, .int .i64 op_, .int .i64 oq, .bool od, .slice a1 n1 c1, .int .i64 tp, .int .i64 tq, .bool td, .slice a2 n2 c2, .int .i64 ov, .int .i64 rc, .int .i64 rp_, .int .i64 rq_, .bool rd, .int .i64 rv, .slice a3 n3 c3, .int .i64 xs, .int .i64 xb, .int .i64 xn, .int .i64 pk, .int .i64 pp, .int .i64 pq, .bool pd, .slice a4 n4 c4, .int .i64 sp, .int .i64 sq, .bool sd, .int .i64 cd, .int .i64 hp, .int .i64 hq, .bool hd] := VarA.step (VarA.new w _ _) b_
  have HB : Hid (Below w.heap.size w w2) := (Below.newH (w := w) _).trans (b_.mono (by simp))
  clear b_ HCO
  have hlt_ := vA.lt
  haveI := VarA.ne vA
  have k1_ := Cls.cell hlt_ (vA.c 1 rfl)
  have k2_ := Cls.cell hlt_ (vA.c 2 rfl)
  have hME : ∀ (v : Value) (W : World), (Go.method 297 122 v "loop.example/g00341/impl.ok").run Tryz.prog W = .ok (171, v) W := fun v W => by kernel_rfl
  have hVM : ∀ W, (∃ i : Cls w2, W = i.W) → VarA W w.heap.size 35 #[.int .i64 4, .int .i64 fr, .int .i64 to, .int .i64 rq, .int .i64 ok, .int .i64 op_, .int .i64 oq, .bool od, .slice a1 n1 c1, .int .i64 tp, .int .i64 tq, .bool td, .slice a2 n2 c2, .int .i64 ov, .int .i64 rc, .int .i64 rp_, .int .i64 rq_, .bool rd, .int .i64 rv, .slice a3 n3 c3, .int .i64 xs, .int .i64 xb, .int .i64 xn, .int .i64 pk, .int .i64 pp, .int .i64 pq, .bool pd, .slice a4 n4 c4, .int .i64 sp, .int .i64 sq, .bool sd, .int .i64 cd, .int .i64 hp, .int .i64 hq, .bool hd] := fun W ⟨i, hi⟩ => by rw [hi]; exact VarA.step vA i.h
  rcases (show e1 = false ∨ (e1 = true ∧ e2 = false) ∨ (e1 = true ∧ e2 = true ∧ bc = false) ∨ (e1 = true ∧ e2 = true ∧ bc = true) by cases e1 <;> cases e2 <;> cases bc <;> simp) with rfl | ⟨rfl, rfl⟩ | ⟨rfl, rfl, rfl⟩ | ⟨rfl, rfl, rfl⟩
  all_goals
    go_wp2_with fail
    refine wp_region_cls (by kernel_rfl) (by kernel_rfl) ?_
    repeat (go_big_quiet_step (first
      | (go_at_call 35; first | (with_reducible exact Calls.cls_same (HE1.out _)) | (with_reducible exact Calls.cls_same (HE2.out _)))
      | (go_at_call 171; exact Calls.cls (HOK.out _ (HB.out.trans ((Cls.h _).mono HB.out.size))))
      | (go_at_call 37; exact Calls.cls (HHE.out _))
      | (go_at_call 38; exact Calls.cls (HWI.out _))
      | (go_at_call 36; exact Calls.cls (HSA.out _ (HB.out.trans ((Cls.h _).mono HB.out.size))))))
    try
      refine wpQuiet_loadA hVM rfl rfl Tryz.underlying35 rfl (by kernel_rfl) ?_
      simp only [Act.put, List.setIfInBounds_toArray, List.set_cons_succ, List.set_cons_zero]
      refine wpQuiet_loadA hVM rfl rfl Tryz.underlying35 rfl (by kernel_rfl) ?_
      simp only [Act.put, List.setIfInBounds_toArray, List.set_cons_succ, List.set_cons_zero]
      repeat (go_big_quiet_step (first
        | (go_at_call 35; first | (with_reducible exact Calls.cls_same (HE1.out _)) | (with_reducible exact Calls.cls_same (HE2.out _)))
        | (go_at_call 171; exact Calls.cls (HOK.out _ (HB.out.trans ((Cls.h _).mono HB.out.size))))
        | (go_at_call 37; exact Calls.cls (HHE.out _))
        | (go_at_call 38; exact Calls.cls (HWI.out _))
        | (go_at_call 36; exact Calls.cls (HSA.out _ (HB.out.trans ((Cls.h _).mono HB.out.size))))))
    refine wpQuiet_nil ?_
    rintro w' ⟨⟨w', b_⟩, rfl⟩
    have HB_ : Hid _ := HB.out.trans (b_.mono HB.out.size)
    clear HOK HHE HWI HSA HE1 HE2 hME hVM k1_ k2_ this vA b_
    go_wp2
    go_ret
    exact ⟨by first | rfl | simp, HB_.out⟩
set_option maxHeartbeats 8000000 in
theorem implMsg5 (m : MsD) (a1 a2 a3 a4 : Option Addr) (n1 n2 n3 n4 c1 c2 c3 c4 : Nat) (S : Nat → Prop) (w : World) (r : RdM w S m (.slice a1 n1 c1) (.slice a2 n2 c2) (.slice a3 n3 c3) (.slice a4 n4 c4)) (hl : szMs m ≤ 2097152) (hk : m.kind = 5) :
    Calls Tryz.prog 8 #[msV m (.slice a1 n1 c1) (.slice a2 n2 c2) (.slice a3 n3 c3) (.slice a4 n4 c4)] w fun e w' => e = .returned (.bool (MOk m)) ∧ Below w.heap.size w w' := by
  obtain ⟨r1, r2, r3, r4⟩ := r
  have hl' := hl
  unfold szMs at hl'
  have HCO : Hid (∀ W, _) := fun W => content5 m a1 a2 a3 a4 n1 n2 n3 n4 c1 c2 c3 c4 W hk
  have HOK : Hid (∀ W, Below w.heap.size w W → _) := fun W hW => okM5 m a1 a2 a3 a4 n1 n2 n3 n4 c1 c2 c3 c4 S W ⟨r1.step hW, r2.step hW, r3.step hW, r4.step hW⟩ hl
  have HHE : Hid (∀ W, _) := fun W => headOf_any m a1 a2 a3 a4 n1 n2 n3 n4 c1 c2 c3 c4 W
  have HWI : Hid (∀ W, _) := fun W => with5 m a1 a2 a3 a4 n1 n2 n3 n4 c1 c2 c3 c4 W
  have HSA : Hid (∀ W, Below w.heap.size w W → _) := fun W hW => sameMsg_any 5 m.fr m.to m.req 0 m.code m.code m.op op0 m.rp rp0 m.tx m.tx m.pt pt0 m.h hd0 a1 a2 a3 a4 n1 n2 n3 n4 c1 c2 c3 c4 none none none none 0 0 0 0 0 0 0 0 (zOp m.op) (zRp m.rp) (zPt m.pt) W
    (fun V hV => sameOp_zero _ _ m.op S V (r1.step (hW.trans (hV.mono hW.size))) (r2.step (hW.trans (hV.mono hW.size))))
    (fun V hV => sameReply_zero _ m.rp S V (r3.step (hW.trans (hV.mono hW.size))))
    (fun V hV => samePart_zero _ m.pt S V (r4.step (hW.trans (hV.mono hW.size))))
  have HE1 : Hid (∀ W, _) := fun W => implEnd_w m.fr W
  have HE2 : Hid (∀ W, _) := fun W => implEnd_w m.to W
  have hres : MOk m = (isEndB m.fr && (isEndB m.to && ((TOk m.tx && (decide (m.code = 0) || decide (m.code = 1))) && (decide (m.req = 0) && (zOp m.op && (zRp m.rp && (decide (m.tx = m.tx) && (zPt m.pt && (decide (m.code = m.code) && decide (m.h = hd0)))))))))) := by
    simp [MOk, MBody, hk, zTx, tx0, hd0, Bool.and_assoc]
  rw [hres]
  generalize (TOk m.tx && (decide (m.code = 0) || decide (m.code = 1))) = bc at HOK ⊢
  generalize isEndB m.fr = e1 at HE1 ⊢
  generalize isEndB m.to = e2 at HE2 ⊢
  generalize (decide (m.req = 0) && (zOp m.op && (zRp m.rp && (decide (m.tx = m.tx) && (zPt m.pt && (decide (m.code = m.code) && decide (m.h = hd0))))))) = bs at HSA ⊢
  clear r1 r2 r3 r4 hl hl' hres
  obtain ⟨kd, fr, to, rq, ⟨ok, ⟨op_, oq, od⟩, nm, ⟨tp, tq, td⟩, asn, ov⟩, ⟨rc, ⟨rp_, rq_, rd⟩, rv, es⟩, ⟨xs, xb, xn⟩, ⟨pk, ⟨pp, pq, pd⟩, pas, ⟨sp, sq, sd⟩⟩, cd, ⟨hp, hq, hd⟩⟩ := m
  dsimp only at hk HCO HOK HHE HWI HSA HE1 HE2 ⊢
  subst hk
  go_enter Tryz.func8, Tryz.ntmps8
  repeat (first | (with_reducible refine guardLoad (ty := 35) ?_; refine wpList_loadA (VarA.new w _ _) rfl Tryz.underlying35 rfl (by kernel_rfl) ?_) | go_values | go_skip | go_guarded | go_step)
  refine Calls.mono (HCO.out _) ?_
  rintro e w2 ⟨rfl, b_⟩
  have vA : VarA w2 w.heap.size 35 #[.int .i64 5, .int .i64 fr, .int .i64 to, .int .i64 rq, .int .i64 ok, .int .i64 op_, .int .i64 oq, .bool od, .slice a1 n1 c1, .int .i64 tp, .int .i64 tq, .bool td, .slice a2 n2 c2, .int .i64 ov, .int .i64 rc, .int .i64 rp_, .int .i64 rq_, .bool rd, .int .i64 rv, .slice a3 n3 c3, .int .i64 xs, .int .i64 xb, .int .i64 xn, .int .i64 pk, .int .i64 pp, .int .i64 pq, .bool pd, .slice a4 n4 c4, .int .i64 sp, .int .i64 sq, .bool sd, .int .i64 cd, .int .i64 hp, .int .i64 hq, .bool hd] := VarA.step (VarA.new w _ _) b_
  have HB : Hid (Below w.heap.size w w2) := (Below.newH (w := w) _).trans (b_.mono (by simp))
  clear b_ HCO
  have hlt_ := vA.lt
  haveI := VarA.ne vA
  have k1_ := Cls.cell hlt_ (vA.c 1 rfl)
  have k2_ := Cls.cell hlt_ (vA.c 2 rfl)
  have hME : ∀ (v : Value) (W : World), (Go.method 297 124 v "loop.example/g00341/impl.ok").run Tryz.prog W = .ok (172, v) W := fun v W => by kernel_rfl
  have hVM : ∀ W, (∃ i : Cls w2, W = i.W) → VarA W w.heap.size 35 #[.int .i64 5, .int .i64 fr, .int .i64 to, .int .i64 rq, .int .i64 ok, .int .i64 op_, .int .i64 oq, .bool od, .slice a1 n1 c1, .int .i64 tp, .int .i64 tq, .bool td, .slice a2 n2 c2, .int .i64 ov, .int .i64 rc, .int .i64 rp_, .int .i64 rq_, .bool rd, .int .i64 rv, .slice a3 n3 c3, .int .i64 xs, .int .i64 xb, .int .i64 xn, .int .i64 pk, .int .i64 pp, .int .i64 pq, .bool pd, .slice a4 n4 c4, .int .i64 sp, .int .i64 sq, .bool sd, .int .i64 cd, .int .i64 hp, .int .i64 hq, .bool hd] := fun W ⟨i, hi⟩ => by rw [hi]; exact VarA.step vA i.h
  rcases (show e1 = false ∨ (e1 = true ∧ e2 = false) ∨ (e1 = true ∧ e2 = true ∧ bc = false) ∨ (e1 = true ∧ e2 = true ∧ bc = true) by cases e1 <;> cases e2 <;> cases bc <;> simp) with rfl | ⟨rfl, rfl⟩ | ⟨rfl, rfl, rfl⟩ | ⟨rfl, rfl, rfl⟩
  all_goals
    go_wp2_with fail
    refine wp_region_cls (by kernel_rfl) (by kernel_rfl) ?_
    repeat (go_big_quiet_step (first
      | (go_at_call 35; first | (with_reducible exact Calls.cls_same (HE1.out _)) | (with_reducible exact Calls.cls_same (HE2.out _)))
      | (go_at_call 172; exact Calls.cls (HOK.out _ (HB.out.trans ((Cls.h _).mono HB.out.size))))
      | (go_at_call 37; exact Calls.cls (HHE.out _))
      | (go_at_call 38; exact Calls.cls (HWI.out _))
      | (go_at_call 36; exact Calls.cls (HSA.out _ (HB.out.trans ((Cls.h _).mono HB.out.size))))))
    try
      refine wpQuiet_loadA hVM rfl rfl Tryz.underlying35 rfl (by kernel_rfl) ?_
      simp only [Act.put, List.setIfInBounds_toArray, List.set_cons_succ, List.set_cons_zero]
      refine wpQuiet_loadA hVM rfl rfl Tryz.underlying35 rfl (by kernel_rfl) ?_
      simp only [Act.put, List.setIfInBounds_toArray, List.set_cons_succ, List.set_cons_zero]
      repeat (go_big_quiet_step (first
        | (go_at_call 35; first | (with_reducible exact Calls.cls_same (HE1.out _)) | (with_reducible exact Calls.cls_same (HE2.out _)))
        | (go_at_call 172; exact Calls.cls (HOK.out _ (HB.out.trans ((Cls.h _).mono HB.out.size))))
        | (go_at_call 37; exact Calls.cls (HHE.out _))
        | (go_at_call 38; exact Calls.cls (HWI.out _))
        | (go_at_call 36; exact Calls.cls (HSA.out _ (HB.out.trans ((Cls.h _).mono HB.out.size))))))
    refine wpQuiet_nil ?_
    rintro w' ⟨⟨w', b_⟩, rfl⟩
    have HB_ : Hid _ := HB.out.trans (b_.mono HB.out.size)
    clear HOK HHE HWI HSA HE1 HE2 hME hVM k1_ k2_ this vA b_
    go_wp2
    go_ret
    exact ⟨by first | rfl | simp, HB_.out⟩
set_option maxHeartbeats 8000000 in
theorem implMsg6 (m : MsD) (a1 a2 a3 a4 : Option Addr) (n1 n2 n3 n4 c1 c2 c3 c4 : Nat) (S : Nat → Prop) (w : World) (r : RdM w S m (.slice a1 n1 c1) (.slice a2 n2 c2) (.slice a3 n3 c3) (.slice a4 n4 c4)) (hl : szMs m ≤ 2097152) (hk : m.kind = 6) :
    Calls Tryz.prog 8 #[msV m (.slice a1 n1 c1) (.slice a2 n2 c2) (.slice a3 n3 c3) (.slice a4 n4 c4)] w fun e w' => e = .returned (.bool (MOk m)) ∧ Below w.heap.size w w' := by
  obtain ⟨r1, r2, r3, r4⟩ := r
  have hl' := hl
  unfold szMs at hl'
  have HCO : Hid (∀ W, _) := fun W => content6 m a1 a2 a3 a4 n1 n2 n3 n4 c1 c2 c3 c4 W hk
  have HOK : Hid (∀ W, Below w.heap.size w W → _) := fun W hW => okM6 m a1 a2 a3 a4 n1 n2 n3 n4 c1 c2 c3 c4 S W ⟨r1.step hW, r2.step hW, r3.step hW, r4.step hW⟩ hl
  have HHE : Hid (∀ W, _) := fun W => headOf_any m a1 a2 a3 a4 n1 n2 n3 n4 c1 c2 c3 c4 W
  have HWI : Hid (∀ W, _) := fun W => with6 m a1 a2 a3 a4 n1 n2 n3 n4 c1 c2 c3 c4 W
  have HSA : Hid (∀ W, Below w.heap.size w W → _) := fun W hW => sameMsg_any 6 m.fr m.to m.req m.req m.code 0 m.op op0 m.rp rp0 m.tx m.tx m.pt pt0 m.h m.h a1 a2 a3 a4 n1 n2 n3 n4 c1 c2 c3 c4 none none none none 0 0 0 0 0 0 0 0 (zOp m.op) (zRp m.rp) (zPt m.pt) W
    (fun V hV => sameOp_zero _ _ m.op S V (r1.step (hW.trans (hV.mono hW.size))) (r2.step (hW.trans (hV.mono hW.size))))
    (fun V hV => sameReply_zero _ m.rp S V (r3.step (hW.trans (hV.mono hW.size))))
    (fun V hV => samePart_zero _ m.pt S V (r4.step (hW.trans (hV.mono hW.size))))
  have HE1 : Hid (∀ W, _) := fun W => implEnd_w m.fr W
  have HE2 : Hid (∀ W, _) := fun W => implEnd_w m.to W
  have hres : MOk m = (isEndB m.fr && (isEndB m.to && ((TOk m.tx && (num m.req && (HOk m.h && m.h.dir))) && (decide (m.req = m.req) && (zOp m.op && (zRp m.rp && (decide (m.tx = m.tx) && (zPt m.pt && (decide (m.code = 0) && decide (m.h = m.h)))))))))) := by
    simp [MOk, MBody, hk, zTx, tx0, hd0, Bool.and_assoc]
  rw [hres]
  generalize (TOk m.tx && (num m.req && (HOk m.h && m.h.dir))) = bc at HOK ⊢
  generalize isEndB m.fr = e1 at HE1 ⊢
  generalize isEndB m.to = e2 at HE2 ⊢
  generalize (decide (m.req = m.req) && (zOp m.op && (zRp m.rp && (decide (m.tx = m.tx) && (zPt m.pt && (decide (m.code = 0) && decide (m.h = m.h))))))) = bs at HSA ⊢
  clear r1 r2 r3 r4 hl hl' hres
  obtain ⟨kd, fr, to, rq, ⟨ok, ⟨op_, oq, od⟩, nm, ⟨tp, tq, td⟩, asn, ov⟩, ⟨rc, ⟨rp_, rq_, rd⟩, rv, es⟩, ⟨xs, xb, xn⟩, ⟨pk, ⟨pp, pq, pd⟩, pas, ⟨sp, sq, sd⟩⟩, cd, ⟨hp, hq, hd⟩⟩ := m
  dsimp only at hk HCO HOK HHE HWI HSA HE1 HE2 ⊢
  subst hk
  go_enter Tryz.func8, Tryz.ntmps8
  repeat (first | (with_reducible refine guardLoad (ty := 35) ?_; refine wpList_loadA (VarA.new w _ _) rfl Tryz.underlying35 rfl (by kernel_rfl) ?_) | go_values | go_skip | go_guarded | go_step)
  refine Calls.mono (HCO.out _) ?_
  rintro e w2 ⟨rfl, b_⟩
  have vA : VarA w2 w.heap.size 35 #[.int .i64 6, .int .i64 fr, .int .i64 to, .int .i64 rq, .int .i64 ok, .int .i64 op_, .int .i64 oq, .bool od, .slice a1 n1 c1, .int .i64 tp, .int .i64 tq, .bool td, .slice a2 n2 c2, .int .i64 ov, .int .i64 rc, .int .i64 rp_, .int .i64 rq_, .bool rd, .int .i64 rv, .slice a3 n3 c3, .int .i64 xs, .int .i64 xb, .int .i64 xn, .int .i64 pk, .int .i64 pp, .int .i64 pq, .bool pd, .slice a4 n4 c4, .int .i64 sp, .int .i64 sq, .bool sd, .int .i64 cd, .int .i64 hp, .int .i64 hq, .bool hd] := VarA.step (VarA.new w _ _) b_
  have HB : Hid (Below w.heap.size w w2) := (Below.newH (w := w) _).trans (b_.mono (by simp))
  clear b_ HCO
  have hlt_ := vA.lt
  haveI := VarA.ne vA
  have k1_ := Cls.cell hlt_ (vA.c 1 rfl)
  have k2_ := Cls.cell hlt_ (vA.c 2 rfl)
  have hME : ∀ (v : Value) (W : World), (Go.method 297 126 v "loop.example/g00341/impl.ok").run Tryz.prog W = .ok (173, v) W := fun v W => by kernel_rfl
  have hVM : ∀ W, (∃ i : Cls w2, W = i.W) → VarA W w.heap.size 35 #[.int .i64 6, .int .i64 fr, .int .i64 to, .int .i64 rq, .int .i64 ok, .int .i64 op_, .int .i64 oq, .bool od, .slice a1 n1 c1, .int .i64 tp, .int .i64 tq, .bool td, .slice a2 n2 c2, .int .i64 ov, .int .i64 rc, .int .i64 rp_, .int .i64 rq_, .bool rd, .int .i64 rv, .slice a3 n3 c3, .int .i64 xs, .int .i64 xb, .int .i64 xn, .int .i64 pk, .int .i64 pp, .int .i64 pq, .bool pd, .slice a4 n4 c4, .int .i64 sp, .int .i64 sq, .bool sd, .int .i64 cd, .int .i64 hp, .int .i64 hq, .bool hd] := fun W ⟨i, hi⟩ => by rw [hi]; exact VarA.step vA i.h
  rcases (show e1 = false ∨ (e1 = true ∧ e2 = false) ∨ (e1 = true ∧ e2 = true ∧ bc = false) ∨ (e1 = true ∧ e2 = true ∧ bc = true) by cases e1 <;> cases e2 <;> cases bc <;> simp) with rfl | ⟨rfl, rfl⟩ | ⟨rfl, rfl, rfl⟩ | ⟨rfl, rfl, rfl⟩
  all_goals
    go_wp2_with fail
    refine wp_region_cls (by kernel_rfl) (by kernel_rfl) ?_
    repeat (go_big_quiet_step (first
      | (go_at_call 35; first | (with_reducible exact Calls.cls_same (HE1.out _)) | (with_reducible exact Calls.cls_same (HE2.out _)))
      | (go_at_call 173; exact Calls.cls (HOK.out _ (HB.out.trans ((Cls.h _).mono HB.out.size))))
      | (go_at_call 37; exact Calls.cls (HHE.out _))
      | (go_at_call 38; exact Calls.cls (HWI.out _))
      | (go_at_call 36; exact Calls.cls (HSA.out _ (HB.out.trans ((Cls.h _).mono HB.out.size))))))
    try
      refine wpQuiet_loadA hVM rfl rfl Tryz.underlying35 rfl (by kernel_rfl) ?_
      simp only [Act.put, List.setIfInBounds_toArray, List.set_cons_succ, List.set_cons_zero]
      refine wpQuiet_loadA hVM rfl rfl Tryz.underlying35 rfl (by kernel_rfl) ?_
      simp only [Act.put, List.setIfInBounds_toArray, List.set_cons_succ, List.set_cons_zero]
      repeat (go_big_quiet_step (first
        | (go_at_call 35; first | (with_reducible exact Calls.cls_same (HE1.out _)) | (with_reducible exact Calls.cls_same (HE2.out _)))
        | (go_at_call 173; exact Calls.cls (HOK.out _ (HB.out.trans ((Cls.h _).mono HB.out.size))))
        | (go_at_call 37; exact Calls.cls (HHE.out _))
        | (go_at_call 38; exact Calls.cls (HWI.out _))
        | (go_at_call 36; exact Calls.cls (HSA.out _ (HB.out.trans ((Cls.h _).mono HB.out.size))))))
    refine wpQuiet_nil ?_
    rintro w' ⟨⟨w', b_⟩, rfl⟩
    have HB_ : Hid _ := HB.out.trans (b_.mono HB.out.size)
    clear HOK HHE HWI HSA HE1 HE2 hME hVM k1_ k2_ this vA b_
    go_wp2
    go_ret
    exact ⟨by first | rfl | simp, HB_.out⟩
set_option maxHeartbeats 8000000 in
theorem implMsg7 (m : MsD) (a1 a2 a3 a4 : Option Addr) (n1 n2 n3 n4 c1 c2 c3 c4 : Nat) (S : Nat → Prop) (w : World) (r : RdM w S m (.slice a1 n1 c1) (.slice a2 n2 c2) (.slice a3 n3 c3) (.slice a4 n4 c4)) (hl : szMs m ≤ 2097152) (hk : m.kind = 7) :
    Calls Tryz.prog 8 #[msV m (.slice a1 n1 c1) (.slice a2 n2 c2) (.slice a3 n3 c3) (.slice a4 n4 c4)] w fun e w' => e = .returned (.bool (MOk m)) ∧ Below w.heap.size w w' := by
  obtain ⟨r1, r2, r3, r4⟩ := r
  have hl' := hl
  unfold szMs at hl'
  have HCO : Hid (∀ W, _) := fun W => content7 m a1 a2 a3 a4 n1 n2 n3 n4 c1 c2 c3 c4 W hk
  have HOK : Hid (∀ W, Below w.heap.size w W → _) := fun W hW => okM7 m a1 a2 a3 a4 n1 n2 n3 n4 c1 c2 c3 c4 S W ⟨r1.step hW, r2.step hW, r3.step hW, r4.step hW⟩ hl
  have HHE : Hid (∀ W, _) := fun W => headOf_any m a1 a2 a3 a4 n1 n2 n3 n4 c1 c2 c3 c4 W
  have HWI : Hid (∀ W, _) := fun W => with7 m a1 a2 a3 a4 n1 n2 n3 n4 c1 c2 c3 c4 W
  have HSA : Hid (∀ W, Below w.heap.size w W → _) := fun W hW => sameMsg_any 7 m.fr m.to m.req m.req m.code m.code m.op op0 m.rp rp0 m.tx m.tx m.pt pt0 m.h m.h a1 a2 a3 a4 n1 n2 n3 n4 c1 c2 c3 c4 none none none none 0 0 0 0 0 0 0 0 (zOp m.op) (zRp m.rp) (zPt m.pt) W
    (fun V hV => sameOp_zero _ _ m.op S V (r1.step (hW.trans (hV.mono hW.size))) (r2.step (hW.trans (hV.mono hW.size))))
    (fun V hV => sameReply_zero _ m.rp S V (r3.step (hW.trans (hV.mono hW.size))))
    (fun V hV => samePart_zero _ m.pt S V (r4.step (hW.trans (hV.mono hW.size))))
  have HE1 : Hid (∀ W, _) := fun W => implEnd_w m.fr W
  have HE2 : Hid (∀ W, _) := fun W => implEnd_w m.to W
  have hres : MOk m = (isEndB m.fr && (isEndB m.to && ((TOk m.tx && (num m.req && (isCd m.code && noneOk m.h))) && (decide (m.req = m.req) && (zOp m.op && (zRp m.rp && (decide (m.tx = m.tx) && (zPt m.pt && (decide (m.code = m.code) && decide (m.h = m.h)))))))))) := by
    simp [MOk, MBody, hk, zTx, tx0, hd0, Bool.and_assoc]
  rw [hres]
  generalize (TOk m.tx && (num m.req && (isCd m.code && noneOk m.h))) = bc at HOK ⊢
  generalize isEndB m.fr = e1 at HE1 ⊢
  generalize isEndB m.to = e2 at HE2 ⊢
  generalize (decide (m.req = m.req) && (zOp m.op && (zRp m.rp && (decide (m.tx = m.tx) && (zPt m.pt && (decide (m.code = m.code) && decide (m.h = m.h))))))) = bs at HSA ⊢
  clear r1 r2 r3 r4 hl hl' hres
  obtain ⟨kd, fr, to, rq, ⟨ok, ⟨op_, oq, od⟩, nm, ⟨tp, tq, td⟩, asn, ov⟩, ⟨rc, ⟨rp_, rq_, rd⟩, rv, es⟩, ⟨xs, xb, xn⟩, ⟨pk, ⟨pp, pq, pd⟩, pas, ⟨sp, sq, sd⟩⟩, cd, ⟨hp, hq, hd⟩⟩ := m
  dsimp only at hk HCO HOK HHE HWI HSA HE1 HE2 ⊢
  subst hk
  go_enter Tryz.func8, Tryz.ntmps8
  repeat (first | (with_reducible refine guardLoad (ty := 35) ?_; refine wpList_loadA (VarA.new w _ _) rfl Tryz.underlying35 rfl (by kernel_rfl) ?_) | go_values | go_skip | go_guarded | go_step)
  refine Calls.mono (HCO.out _) ?_
  rintro e w2 ⟨rfl, b_⟩
  have vA : VarA w2 w.heap.size 35 #[.int .i64 7, .int .i64 fr, .int .i64 to, .int .i64 rq, .int .i64 ok, .int .i64 op_, .int .i64 oq, .bool od, .slice a1 n1 c1, .int .i64 tp, .int .i64 tq, .bool td, .slice a2 n2 c2, .int .i64 ov, .int .i64 rc, .int .i64 rp_, .int .i64 rq_, .bool rd, .int .i64 rv, .slice a3 n3 c3, .int .i64 xs, .int .i64 xb, .int .i64 xn, .int .i64 pk, .int .i64 pp, .int .i64 pq, .bool pd, .slice a4 n4 c4, .int .i64 sp, .int .i64 sq, .bool sd, .int .i64 cd, .int .i64 hp, .int .i64 hq, .bool hd] := VarA.step (VarA.new w _ _) b_
  have HB : Hid (Below w.heap.size w w2) := (Below.newH (w := w) _).trans (b_.mono (by simp))
  clear b_ HCO
  have hlt_ := vA.lt
  haveI := VarA.ne vA
  have k1_ := Cls.cell hlt_ (vA.c 1 rfl)
  have k2_ := Cls.cell hlt_ (vA.c 2 rfl)
  have hME : ∀ (v : Value) (W : World), (Go.method 297 128 v "loop.example/g00341/impl.ok").run Tryz.prog W = .ok (174, v) W := fun v W => by kernel_rfl
  have hVM : ∀ W, (∃ i : Cls w2, W = i.W) → VarA W w.heap.size 35 #[.int .i64 7, .int .i64 fr, .int .i64 to, .int .i64 rq, .int .i64 ok, .int .i64 op_, .int .i64 oq, .bool od, .slice a1 n1 c1, .int .i64 tp, .int .i64 tq, .bool td, .slice a2 n2 c2, .int .i64 ov, .int .i64 rc, .int .i64 rp_, .int .i64 rq_, .bool rd, .int .i64 rv, .slice a3 n3 c3, .int .i64 xs, .int .i64 xb, .int .i64 xn, .int .i64 pk, .int .i64 pp, .int .i64 pq, .bool pd, .slice a4 n4 c4, .int .i64 sp, .int .i64 sq, .bool sd, .int .i64 cd, .int .i64 hp, .int .i64 hq, .bool hd] := fun W ⟨i, hi⟩ => by rw [hi]; exact VarA.step vA i.h
  rcases (show e1 = false ∨ (e1 = true ∧ e2 = false) ∨ (e1 = true ∧ e2 = true ∧ bc = false) ∨ (e1 = true ∧ e2 = true ∧ bc = true) by cases e1 <;> cases e2 <;> cases bc <;> simp) with rfl | ⟨rfl, rfl⟩ | ⟨rfl, rfl, rfl⟩ | ⟨rfl, rfl, rfl⟩
  all_goals
    go_wp2_with fail
    refine wp_region_cls (by kernel_rfl) (by kernel_rfl) ?_
    repeat (go_big_quiet_step (first
      | (go_at_call 35; first | (with_reducible exact Calls.cls_same (HE1.out _)) | (with_reducible exact Calls.cls_same (HE2.out _)))
      | (go_at_call 174; exact Calls.cls (HOK.out _ (HB.out.trans ((Cls.h _).mono HB.out.size))))
      | (go_at_call 37; exact Calls.cls (HHE.out _))
      | (go_at_call 38; exact Calls.cls (HWI.out _))
      | (go_at_call 36; exact Calls.cls (HSA.out _ (HB.out.trans ((Cls.h _).mono HB.out.size))))))
    try
      refine wpQuiet_loadA hVM rfl rfl Tryz.underlying35 rfl (by kernel_rfl) ?_
      simp only [Act.put, List.setIfInBounds_toArray, List.set_cons_succ, List.set_cons_zero]
      refine wpQuiet_loadA hVM rfl rfl Tryz.underlying35 rfl (by kernel_rfl) ?_
      simp only [Act.put, List.setIfInBounds_toArray, List.set_cons_succ, List.set_cons_zero]
      repeat (go_big_quiet_step (first
        | (go_at_call 35; first | (with_reducible exact Calls.cls_same (HE1.out _)) | (with_reducible exact Calls.cls_same (HE2.out _)))
        | (go_at_call 174; exact Calls.cls (HOK.out _ (HB.out.trans ((Cls.h _).mono HB.out.size))))
        | (go_at_call 37; exact Calls.cls (HHE.out _))
        | (go_at_call 38; exact Calls.cls (HWI.out _))
        | (go_at_call 36; exact Calls.cls (HSA.out _ (HB.out.trans ((Cls.h _).mono HB.out.size))))))
    refine wpQuiet_nil ?_
    rintro w' ⟨⟨w', b_⟩, rfl⟩
    have HB_ : Hid _ := HB.out.trans (b_.mono HB.out.size)
    clear HOK HHE HWI HSA HE1 HE2 hME hVM k1_ k2_ this vA b_
    go_wp2
    go_ret
    exact ⟨by first | rfl | simp, HB_.out⟩
end Go.Proofs.YtbnjhjgjmckedaaGreat
end

section
/- May a message be? By the program. Condition: no more than 2^21 of all. -/
namespace Go.Proofs.YtbnjhjgjmckedaaGreat
open Go.RowKit
set_option linter.unusedVariables false
set_option linter.unusedSimpArgs false
set_option maxRecDepth 100000

set_option maxHeartbeats 4000000 in
theorem contentBad (m : MsD) (a1 a2 a3 a4 : Option Addr) (n1 n2 n3 n4 c1 c2 c3 c4 : Nat) (w : World) (hk : m.kind < 0 ∨ 7 < m.kind) :
    Calls Tryz.prog 24 #[msV m (.slice a1 n1 c1) (.slice a2 n2 c2) (.slice a3 n3 c3) (.slice a4 n4 c4)] w fun e w' => e = .returned .nilIface ∧ Below w.heap.size w w' := by
  obtain ⟨kd, fr, to, rq, ⟨ok, ⟨op_, oq, od⟩, nm, ⟨tp, tq, td⟩, asn, ov⟩, ⟨rc, ⟨rp_, rq_, rd⟩, rv, es⟩, ⟨xs, xb, xn⟩, ⟨pk, ⟨pp, pq, pd⟩, pas, ⟨sp, sq, sd⟩⟩, cd, ⟨hp, hq, hd⟩⟩ := m
  dsimp only at hk ⊢
  go_enter Tryz.func24, Tryz.ntmps24
  go_wp2
  all_goals first | (go_ret; exact ⟨rfl, by repeat (first | exact Below.refl _ _ | refine Below.al ?_ _ | refine below_drewN2 ?_ _)⟩) | (exfalso; omega)
set_option maxHeartbeats 4000000 in
theorem implMsgBad (m : MsD) (a1 a2 a3 a4 : Option Addr) (n1 n2 n3 n4 c1 c2 c3 c4 : Nat) (w : World) (hk : m.kind < 0 ∨ 7 < m.kind) :
    Calls Tryz.prog 8 #[msV m (.slice a1 n1 c1) (.slice a2 n2 c2) (.slice a3 n3 c3) (.slice a4 n4 c4)] w fun e w' => e = .returned (.bool (MOk m)) ∧ Below w.heap.size w w' := by
  have HF : Hid (MOk m = false) := by show _ = _; unfold MOk; rcases hk with h | h <;> simp <;> omega
  rw [HF.out]
  have HCO : Hid (∀ W, _) := fun W => contentBad m a1 a2 a3 a4 n1 n2 n3 n4 c1 c2 c3 c4 W hk
  clear HF
  obtain ⟨kd, fr, to, rq, ⟨ok, ⟨op_, oq, od⟩, nm, ⟨tp, tq, td⟩, asn, ov⟩, ⟨rc, ⟨rp_, rq_, rd⟩, rv, es⟩, ⟨xs, xb, xn⟩, ⟨pk, ⟨pp, pq, pd⟩, pas, ⟨sp, sq, sd⟩⟩, cd, ⟨hp, hq, hd⟩⟩ := m
  dsimp only at hk HCO ⊢
  go_enter Tryz.func8, Tryz.ntmps8
  repeat (first | (with_reducible refine guardLoad (ty := 35) ?_; refine wpList_loadA (VarA.new w _ _) rfl Tryz.underlying35 rfl (by kernel_rfl) ?_) | go_values | go_skip | go_guarded | go_step)
  refine Calls.mono (HCO.out _) ?_
  rintro e w2 ⟨rfl, b_⟩
  have vA : VarA w2 w.heap.size 35 #[.int .i64 kd, .int .i64 fr, .int .i64 to, .int .i64 rq, .int .i64 ok, .int .i64 op_, .int .i64 oq, .bool od, .slice a1 n1 c1, .int .i64 tp, .int .i64 tq, .bool td, .slice a2 n2 c2, .int .i64 ov, .int .i64 rc, .int .i64 rp_, .int .i64 rq_, .bool rd, .int .i64 rv, .slice a3 n3 c3, .int .i64 xs, .int .i64 xb, .int .i64 xn, .int .i64 pk, .int .i64 pp, .int .i64 pq, .bool pd, .slice a4 n4 c4, .int .i64 sp, .int .i64 sq, .bool sd, .int .i64 cd, .int .i64 hp, .int .i64 hq, .bool hd] := VarA.step (VarA.new w _ _) b_
  have HB : Hid (Below w.heap.size w w2) := (Below.newH (w := w) _).trans (b_.mono (by simp))
  clear b_ HCO
  haveI := VarA.ne vA
  go_wp2_with fail
  refine wp_region_cls (by kernel_rfl) (by kernel_rfl) ?_
  repeat (go_big_quiet_step (fail))
  refine wpQuiet_nil ?_
  rintro w' ⟨⟨w', b_⟩, rfl⟩
  have HB_ : Hid _ := HB.out.trans (b_.mono HB.out.size)
  clear this vA b_
  go_wp2
  go_ret
  exact ⟨rfl, HB_.out⟩
theorem implMsgOk_any (x y z u : Value) (m : MsD) (S : Nat → Prop) (w : World) (r : RdM w S m x y z u) (hl : szMs m ≤ 2097152) :
    Calls Tryz.prog 8 #[msV m x y z u] w fun e w' => e = .returned (.bool (MOk m)) ∧ Below w.heap.size w w' := by
  obtain ⟨a1, c1, rfl⟩ := r.1.sliceB
  obtain ⟨a2, c2, rfl⟩ := r.2.1.sliceB
  obtain ⟨a3, c3, rfl, _⟩ := RdV.sliced r.2.2.1
  obtain ⟨a4, c4, rfl⟩ := r.2.2.2.sliceB
  by_cases hk : m.kind < 0 ∨ 7 < m.kind
  · exact implMsgBad m _ _ _ _ _ _ _ _ _ _ _ _ w hk
  · have h : m.kind = 0 ∨ m.kind = 1 ∨ m.kind = 2 ∨ m.kind = 3 ∨ m.kind = 4 ∨ m.kind = 5 ∨ m.kind = 6 ∨ m.kind = 7 := by omega
    rcases h with h | h | h | h | h | h | h | h
    · exact implMsg0 m _ _ _ _ _ _ _ _ _ _ _ _ S w r hl h
    · exact implMsg1 m _ _ _ _ _ _ _ _ _ _ _ _ S w r hl h
    · exact implMsg2 m _ _ _ _ _ _ _ _ _ _ _ _ S w r hl h
    · exact implMsg3 m _ _ _ _ _ _ _ _ _ _ _ _ S w r hl h
    · exact implMsg4 m _ _ _ _ _ _ _ _ _ _ _ _ S w r hl h
    · exact implMsg5 m _ _ _ _ _ _ _ _ _ _ _ _ S w r hl h
    · exact implMsg6 m _ _ _ _ _ _ _ _ _ _ _ _ S w r hl h
    · exact implMsg7 m _ _ _ _ _ _ _ _ _ _ _ _ S w r hl h
end Go.Proofs.YtbnjhjgjmckedaaGreat
end
