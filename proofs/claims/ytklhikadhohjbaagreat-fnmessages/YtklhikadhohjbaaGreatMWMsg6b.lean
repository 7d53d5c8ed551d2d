/- May a message be? By the program, kind by kind. Condition: no more than 2^21 of all. -/
import Derived.Test.YtklhikadhohjbaaGreatMA07
namespace Go.Proofs.YtklhikadhohjbaaGreat
open Go.RowKit
set_option linter.unusedVariables false
set_option linter.unusedSimpArgs false
set_option maxRecDepth 100000

set_option maxHeartbeats 8000000 in
theorem implMsg4 (m : MsD) (a1 a2 a3 a4 : Option Addr) (n1 n2 n3 n4 c1 c2 c3 c4 : Nat) (S : Nat → Prop) (w : World) (r : RdM w S m (.slice a1 n1 c1) (.slice a2 n2 c2) (.slice a3 n3 c3) (.slice a4 n4 c4)) (hl : szMs m ≤ 2097152) (hk : m.kind = 4) :
  Calls Tryz.prog 12 #[msV m (.slice a1 n1 c1) (.slice a2 n2 c2) (.slice a3 n3 c3) (.slice a4 n4 c4)] w fun e w' => e = .returned (.bool (MOk m)) ∧ Below w.heap.size w w' := by
 obtain ⟨r1, r2, r3, r4⟩ := r
 have hl' := hl
 unfold szMs at hl'
 have HCO : Hid (∀ W, _) := fun W => content4 m a1 a2 a3 a4 n1 n2 n3 n4 c1 c2 c3 c4 W hk
 have HOK : Hid (∀ W, Below w.heap.size w W → _) := fun W hW => okM4 m a1 a2 a3 a4 n1 n2 n3 n4 c1 c2 c3 c4 S W ⟨r1.step hW, r2.step hW, r3.step hW, r4.step hW⟩ hl
 have HHE : Hid (∀ W, _) := fun W => headOf_any m a1 a2 a3 a4 n1 n2 n3 n4 c1 c2 c3 c4 W
 have HWI : Hid (∀ W, _) := fun W => with4 m a1 a2 a3 a4 n1 n2 n3 n4 c1 c2 c3 c4 W
 have HSA : Hid (∀ W, Below w.heap.size w W → _) := fun W hW => sameMsg_any 4 m.fr m.to m.req 0 m.code 0 m.op op0 m.rp rp0 m.tx m.tx m.pt pt0 m.h hd0 a1 a2 a3 a4 n1 n2 n3 n4 c1 c2 c3 c4 none none none none 0 0 0 0 0 0 0 0 (zOp m.op) (zRp m.rp) (zPt m.pt) W
  (fun V hV => sameOp_zero _ _ m.op S V (r1.step (hW.trans (hV.mono hW.size))) (r2.step (hW.trans (hV.mono hW.size))))
  (fun V hV => sameReply_zero _ m.rp S V (r3.step (hW.trans (hV.mono hW.size))))
  (fun V hV => samePart_zero _ m.pt S V (r4.step (hW.trans (hV.mono hW.size))))
 have HE1 : Hid (∀ W, _) := fun W => implEnd_w m.fr W
 have HE2 : Hid (∀ W, _) := fun W => implEnd_w m.to W
 have hres : MOk m = (isEndB m.fr && (isEndB m.to && ((TOk m.tx) && (decide (m.req = 0) && (zOp m.op && (zRp m.rp && (decide (m.tx = m.tx) && (zPt m.pt && (decide (m.code = 0) && decide (m.h = hd0)))))))))) := by
  simp [MOk, MBody, hk, zTx, tx0, hd0, Bool.and_assoc]
 rw [hres]
 generalize (TOk m.tx) = bc at HOK ⊢
 generalize isEndB m.fr = e1 at HE1 ⊢
 generalize isEndB m.to = e2 at HE2 ⊢
 generalize (decide (m.req = 0) && (zOp m.op && (zRp m.rp && (decide (m.tx = m.tx) && (zPt m.pt && (decide (m.code = 0) && decide (m.h = hd0))))))) = bs at HSA ⊢
 clear r1 r2 r3 r4 hl hl' hres
 obtain ⟨kd, fr, to, rq, ⟨ok, ⟨op_, oq, od⟩, nm, ⟨tp, tq, td⟩, asn, ov⟩, ⟨rc, ⟨rp_, rq_, rd⟩, rv, es⟩, ⟨xs, xb, xn⟩, ⟨pk, ⟨pp, pq, pd⟩, pas, ⟨sp, sq, sd⟩⟩, cd, ⟨hp, hq, hd⟩⟩ := m
 dsimp only at hk HCO HOK HHE HWI HSA HE1 HE2 ⊢
 subst hk
 go_enter Tryz.func12, Tryz.ntmps12
 repeat (first | (with_reducible refine guardLoad (ty := 35) ?_; refine wpList_loadA (VarA.new w _ _) rfl Tryz.underlying35 rfl (by kernel_rfl) ?_) | go_values | go_skip | go_guarded | go_step)
 refine Calls.mono (HCO.out _) ?_
 rintro e w2 ⟨rfl, b_⟩
 have vA := vaC b_
 have HB : Hid (Below w.heap.size w w2) := (Below.newH (w := w) _).trans (b_.mono (by simp))
 clear b_ HCO
 have hlt_ := vA.lt
 haveI := VarA.ne vA
 have k1_ := Cls.cell hlt_ (vA.c 1 rfl)
 have k2_ := Cls.cell hlt_ (vA.c 2 rfl)
 have hME : ∀ (v : Value) (W : World), (Go.method 461 197 v "loop.example/g00341/impl.ok").run Tryz.prog W = .ok (316, v) W := fun v W => by kernel_rfl
 have hVM : ∀ W, (∃ i : Cls w2, W = i.W) → VarA W w.heap.size 35 #[.i 4, .i fr, .i to, .i rq, .i ok, .i op_, .i oq, .bool od, .slice a1 n1 c1, .i tp, .i tq, .bool td, .slice a2 n2 c2, .i ov, .i rc, .i rp_, .i rq_, .bool rd, .i rv, .slice a3 n3 c3, .i xs, .i xb, .i xn, .i pk, .i pp, .i pq, .bool pd, .slice a4 n4 c4, .i sp, .i sq, .bool sd, .i cd, .i hp, .i hq, .bool hd] := fun W ⟨i, hi⟩ => by rw [hi]; exact VarA.step vA i.h
 rcases (show e1 = false ∨ (e1 = true ∧ e2 = false) ∨ (e1 = true ∧ e2 = true ∧ bc = false) ∨ (e1 = true ∧ e2 = true ∧ bc = true) by cases e1 <;> cases e2 <;> cases bc <;> simp) with rfl | ⟨rfl, rfl⟩ | ⟨rfl, rfl, rfl⟩ | ⟨rfl, rfl, rfl⟩
 all_goals
  go_wp2_with fail
  refine wp_region_cls (by kernel_rfl) (by kernel_rfl) ?_
  repeat (go_big_quiet_step (first
   | (go_at_call 64; first | (with_reducible exact Calls.cls_same (HE1.out _)) | (with_reducible exact Calls.cls_same (HE2.out _)))
   | (go_at_call 316; exact Calls.cls (HOK.out _ (HB.out.trans ((Cls.h _).mono HB.out.size))))
   | (go_at_call 66; exact Calls.cls (HHE.out _))
   | (go_at_call 67; exact Calls.cls (HWI.out _))
   | (go_at_call 65; exact Calls.cls (HSA.out _ (HB.out.trans ((Cls.h _).mono HB.out.size))))))
  try
   refine wpQuiet_loadA hVM rfl rfl Tryz.underlying35 rfl (by kernel_rfl) ?_
   simp only [Act.put, List.setIfInBounds_toArray, List.set_cons_succ, List.set_cons_zero]
   refine wpQuiet_loadA hVM rfl rfl Tryz.underlying35 rfl (by kernel_rfl) ?_
   simp only [Act.put, List.setIfInBounds_toArray, List.set_cons_succ, List.set_cons_zero]
   repeat (go_big_quiet_step (first
    | (go_at_call 64; first | (with_reducible exact Calls.cls_same (HE1.out _)) | (with_reducible exact Calls.cls_same (HE2.out _)))
    | (go_at_call 316; exact Calls.cls (HOK.out _ (HB.out.trans ((Cls.h _).mono HB.out.size))))
    | (go_at_call 66; exact Calls.cls (HHE.out _))
    | (go_at_call 67; exact Calls.cls (HWI.out _))
    | (go_at_call 65; exact Calls.cls (HSA.out _ (HB.out.trans ((Cls.h _).mono HB.out.size))))))
  refine wpQuiet_nil ?_
  rintro w' ⟨⟨w', b_⟩, rfl⟩
  have HB_ : Hid _ := HB.out.trans (b_.mono HB.out.size)
  clear HOK HHE HWI HSA HE1 HE2 hME hVM k1_ k2_ this vA b_
  go_wp2
  go_ret
  exact ⟨by first | rfl | simp, HB_.out⟩
set_option maxHeartbeats 8000000 in
theorem implMsg5 (m : MsD) (a1 a2 a3 a4 : Option Addr) (n1 n2 n3 n4 c1 c2 c3 c4 : Nat) (S : Nat → Prop) (w : World) (r : RdM w S m (.slice a1 n1 c1) (.slice a2 n2 c2) (.slice a3 n3 c3) (.slice a4 n4 c4)) (hl : szMs m ≤ 2097152) (hk : m.kind = 5) :
  Calls Tryz.prog 12 #[msV m (.slice a1 n1 c1) (.slice a2 n2 c2) (.slice a3 n3 c3) (.slice a4 n4 c4)] w fun e w' => e = .returned (.bool (MOk m)) ∧ Below w.heap.size w w' := by
 obtain ⟨r1, r2, r3, r4⟩ := r
 have hl' := hl
 unfold szMs at hl'
 have HCO : Hid (∀ W, _) := fun W => content5 m a1 a2 a3 a4 n1 n2 n3 n4 c1 c2 c3 c4 W hk
 have HOK : Hid (∀ W, Below w.heap.size w W → _) := fun W hW => okM5 m a1 a2 a3 a4 n1 n2 n3 n4 c1 c2 c3 c4 S W ⟨r1.step hW, r2.step hW, r3.step hW, r4.step hW⟩ hl
 have HHE : Hid (∀ W, _) := fun W => headOf_any m a1 a2 a3 a4 n1 n2 n3 n4 c1 c2 c3 c4 W
 have HWI : Hid (∀ W, _) := fun W => with5 m a1 a2 a3 a4 n1 n2 n3 n4 c1 c2 c3 c4 W
 have HSA : Hid (∀ W, Below w.heap.size w W → _) := fun W hW => sameMsg_any 5 m.fr m.to m.req 0 m.code m.code m.op op0 m.rp rp0 m.tx m.tx m.pt pt0 m.h hd0 a1 a2 a3 a4 n1 n2 n3 n4 c1 c2 c3 c4 none none none none 0 0 0 0 0 0 0 0 (zOp m.op) (zRp m.rp) (zPt m.pt) W
  (fun V hV => sameOp_zero _ _ m.op S V (r1.step (hW.trans (hV.mono hW.size))) (r2.step (hW.trans (hV.mono hW.size))))
  (fun V hV => sameReply_zero _ m.rp S V (r3.step (hW.trans (hV.mono hW.size))))
  (fun V hV => samePart_zero _ m.pt S V (r4.step (hW.trans (hV.mono hW.size))))
 have HE1 : Hid (∀ W, _) := fun W => implEnd_w m.fr W
 have HE2 : Hid (∀ W, _) := fun W => implEnd_w m.to W
 have hres : MOk m = (isEndB m.fr && (isEndB m.to && ((TOk m.tx && (decide (m.code = 0) || decide (m.code = 1))) && (decide (m.req = 0) && (zOp m.op && (zRp m.rp && (decide (m.tx = m.tx) && (zPt m.pt && (decide (m.code = m.code) && decide (m.h = hd0)))))))))) := by
  simp [MOk, MBody, hk, zTx, tx0, hd0, Bool.and_assoc]
 rw [hres]
 generalize (TOk m.tx && (decide (m.code = 0) || decide (m.code = 1))) = bc at HOK ⊢
 generalize isEndB m.fr = e1 at HE1 ⊢
 generalize isEndB m.to = e2 at HE2 ⊢
 generalize (decide (m.req = 0) && (zOp m.op && (zRp m.rp && (decide (m.tx = m.tx) && (zPt m.pt && (decide (m.code = m.code) && decide (m.h = hd0))))))) = bs at HSA ⊢
 clear r1 r2 r3 r4 hl hl' hres
 obtain ⟨kd, fr, to, rq, ⟨ok, ⟨op_, oq, od⟩, nm, ⟨tp, tq, td⟩, asn, ov⟩, ⟨rc, ⟨rp_, rq_, rd⟩, rv, es⟩, ⟨xs, xb, xn⟩, ⟨pk, ⟨pp, pq, pd⟩, pas, ⟨sp, sq, sd⟩⟩, cd, ⟨hp, hq, hd⟩⟩ := m
 dsimp only at hk HCO HOK HHE HWI HSA HE1 HE2 ⊢
 subst hk
 go_enter Tryz.func12, Tryz.ntmps12
 repeat (first | (with_reducible refine guardLoad (ty := 35) ?_; refine wpList_loadA (VarA.new w _ _) rfl Tryz.underlying35 rfl (by kernel_rfl) ?_) | go_values | go_skip | go_guarded | go_step)
 refine Calls.mono (HCO.out _) ?_
 rintro e w2 ⟨rfl, b_⟩
 have vA := vaC b_
 have HB : Hid (Below w.heap.size w w2) := (Below.newH (w := w) _).trans (b_.mono (by simp))
 clear b_ HCO
 have hlt_ := vA.lt
 haveI := VarA.ne vA
 have k1_ := Cls.cell hlt_ (vA.c 1 rfl)
 have k2_ := Cls.cell hlt_ (vA.c 2 rfl)
 have hME : ∀ (v : Value) (W : World), (Go.method 461 199 v "loop.example/g00341/impl.ok").run Tryz.prog W = .ok (317, v) W := fun v W => by kernel_rfl
 have hVM : ∀ W, (∃ i : Cls w2, W = i.W) → VarA W w.heap.size 35 #[.i 5, .i fr, .i to, .i rq, .i ok, .i op_, .i oq, .bool od, .slice a1 n1 c1, .i tp, .i tq, .bool td, .slice a2 n2 c2, .i ov, .i rc, .i rp_, .i rq_, .bool rd, .i rv, .slice a3 n3 c3, .i xs, .i xb, .i xn, .i pk, .i pp, .i pq, .bool pd, .slice a4 n4 c4, .i sp, .i sq, .bool sd, .i cd, .i hp, .i hq, .bool hd] := fun W ⟨i, hi⟩ => by rw [hi]; exact VarA.step vA i.h
 rcases (show e1 = false ∨ (e1 = true ∧ e2 = false) ∨ (e1 = true ∧ e2 = true ∧ bc = false) ∨ (e1 = true ∧ e2 = true ∧ bc = true) by cases e1 <;> cases e2 <;> cases bc <;> simp) with rfl | ⟨rfl, rfl⟩ | ⟨rfl, rfl, rfl⟩ | ⟨rfl, rfl, rfl⟩
 all_goals
  go_wp2_with fail
  refine wp_region_cls (by kernel_rfl) (by kernel_rfl) ?_
  repeat (go_big_quiet_step (first
   | (go_at_call 64; first | (with_reducible exact Calls.cls_same (HE1.out _)) | (with_reducible exact Calls.cls_same (HE2.out _)))
   | (go_at_call 317; exact Calls.cls (HOK.out _ (HB.out.trans ((Cls.h _).mono HB.out.size))))
   | (go_at_call 66; exact Calls.cls (HHE.out _))
   | (go_at_call 67; exact Calls.cls (HWI.out _))
   | (go_at_call 65; exact Calls.cls (HSA.out _ (HB.out.trans ((Cls.h _).mono HB.out.size))))))
  try
   refine wpQuiet_loadA hVM rfl rfl Tryz.underlying35 rfl (by kernel_rfl) ?_
   simp only [Act.put, List.setIfInBounds_toArray, List.set_cons_succ, List.set_cons_zero]
   refine wpQuiet_loadA hVM rfl rfl Tryz.underlying35 rfl (by kernel_rfl) ?_
   simp only [Act.put, List.setIfInBounds_toArray, List.set_cons_succ, List.set_cons_zero]
   repeat (go_big_quiet_step (first
    | (go_at_call 64; first | (with_reducible exact Calls.cls_same (HE1.out _)) | (with_reducible exact Calls.cls_same (HE2.out _)))
    | (go_at_call 317; exact Calls.cls (HOK.out _ (HB.out.trans ((Cls.h _).mono HB.out.size))))
    | (go_at_call 66; exact Calls.cls (HHE.out _))
    | (go_at_call 67; exact Calls.cls (HWI.out _))
    | (go_at_call 65; exact Calls.cls (HSA.out _ (HB.out.trans ((Cls.h _).mono HB.out.size))))))
  refine wpQuiet_nil ?_
  rintro w' ⟨⟨w', b_⟩, rfl⟩
  have HB_ : Hid _ := HB.out.trans (b_.mono HB.out.size)
  clear HOK HHE HWI HSA HE1 HE2 hME hVM k1_ k2_ this vA b_
  go_wp2
  go_ret
  exact ⟨by first | rfl | simp, HB_.out⟩
set_option maxHeartbeats 8000000 in
theorem implMsg6 (m : MsD) (a1 a2 a3 a4 : Option Addr) (n1 n2 n3 n4 c1 c2 c3 c4 : Nat) (S : Nat → Prop) (w : World) (r : RdM w S m (.slice a1 n1 c1) (.slice a2 n2 c2) (.slice a3 n3 c3) (.slice a4 n4 c4)) (hl : szMs m ≤ 2097152) (hk : m.kind = 6) :
  Calls Tryz.prog 12 #[msV m (.slice a1 n1 c1) (.slice a2 n2 c2) (.slice a3 n3 c3) (.slice a4 n4 c4)] w fun e w' => e = .returned (.bool (MOk m)) ∧ Below w.heap.size w w' := by
 obtain ⟨r1, r2, r3, r4⟩ := r
 have hl' := hl
 unfold szMs at hl'
 have HCO : Hid (∀ W, _) := fun W => content6 m a1 a2 a3 a4 n1 n2 n3 n4 c1 c2 c3 c4 W hk
 have HOK : Hid (∀ W, Below w.heap.size w W → _) := fun W hW => okM6 m a1 a2 a3 a4 n1 n2 n3 n4 c1 c2 c3 c4 S W ⟨r1.step hW, r2.step hW, r3.step hW, r4.step hW⟩ hl
 have HHE : Hid (∀ W, _) := fun W => headOf_any m a1 a2 a3 a4 n1 n2 n3 n4 c1 c2 c3 c4 W
 have HWI : Hid (∀ W, _) := fun W => with6 m a1 a2 a3 a4 n1 n2 n3 n4 c1 c2 c3 c4 W
 have HSA : Hid (∀ W, Below w.heap.size w W → _) := fun W hW => sameMsg_any 6 m.fr m.to m.req m.req m.code 0 m.op op0 m.rp rp0 m.tx m.tx m.pt pt0 m.h m.h a1 a2 a3 a4 n1 n2 n3 n4 c1 c2 c3 c4 none none none none 0 0 0 0 0 0 0 0 (zOp m.op) (zRp m.rp) (zPt m.pt) W
  (fun V hV => sameOp_zero _ _ m.op S V (r1.step (hW.trans (hV.mono hW.size))) (r2.step (hW.trans (hV.mono hW.size))))
  (fun V hV => sameReply_zero _ m.rp S V (r3.step (hW.trans (hV.mono hW.size))))
  (fun V hV => samePart_zero _ m.pt S V (r4.step (hW.trans (hV.mono hW.size))))
 have HE1 : Hid (∀ W, _) := fun W => implEnd_w m.fr W
 have HE2 : Hid (∀ W, _) := fun W => implEnd_w m.to W
 have hres : MOk m = (isEndB m.fr && (isEndB m.to && ((TOk m.tx && (num m.req && (HOk m.h && m.h.dir))) && (decide (m.req = m.req) && (zOp m.op && (zRp m.rp && (decide (m.tx = m.tx) && (zPt m.pt && (decide (m.code = 0) && decide (m.h = m.h)))))))))) := by
  simp [MOk, MBody, hk, zTx, tx0, hd0, Bool.and_assoc]
 rw [hres]
 generalize (TOk m.tx && (num m.req && (HOk m.h && m.h.dir))) = bc at HOK ⊢
 generalize isEndB m.fr = e1 at HE1 ⊢
 generalize isEndB m.to = e2 at HE2 ⊢
 generalize (decide (m.req = m.req) && (zOp m.op && (zRp m.rp && (decide (m.tx = m.tx) && (zPt m.pt && (decide (m.code = 0) && decide (m.h = m.h))))))) = bs at HSA ⊢
 clear r1 r2 r3 r4 hl hl' hres
 obtain ⟨kd, fr, to, rq, ⟨ok, ⟨op_, oq, od⟩, nm, ⟨tp, tq, td⟩, asn, ov⟩, ⟨rc, ⟨rp_, rq_, rd⟩, rv, es⟩, ⟨xs, xb, xn⟩, ⟨pk, ⟨pp, pq, pd⟩, pas, ⟨sp, sq, sd⟩⟩, cd, ⟨hp, hq, hd⟩⟩ := m
 dsimp only at hk HCO HOK HHE HWI HSA HE1 HE2 ⊢
 subst hk
 go_enter Tryz.func12, Tryz.ntmps12
 repeat (first | (with_reducible refine guardLoad (ty := 35) ?_; refine wpList_loadA (VarA.new w _ _) rfl Tryz.underlying35 rfl (by kernel_rfl) ?_) | go_values | go_skip | go_guarded | go_step)
 refine Calls.mono (HCO.out _) ?_
 rintro e w2 ⟨rfl, b_⟩
 have vA := vaC b_
 have HB : Hid (Below w.heap.size w w2) := (Below.newH (w := w) _).trans (b_.mono (by simp))
 clear b_ HCO
 have hlt_ := vA.lt
 haveI := VarA.ne vA
 have k1_ := Cls.cell hlt_ (vA.c 1 rfl)
 have k2_ := Cls.cell hlt_ (vA.c 2 rfl)
 have hME : ∀ (v : Value) (W : World), (Go.method 461 201 v "loop.example/g00341/impl.ok").run Tryz.prog W = .ok (318, v) W := fun v W => by kernel_rfl
 have hVM : ∀ W, (∃ i : Cls w2, W = i.W) → VarA W w.heap.size 35 #[.i 6, .i fr, .i to, .i rq, .i ok, .i op_, .i oq, .bool od, .slice a1 n1 c1, .i tp, .i tq, .bool td, .slice a2 n2 c2, .i ov, .i rc, .i rp_, .i rq_, .bool rd, .i rv, .slice a3 n3 c3, .i xs, .i xb, .i xn, .i pk, .i pp, .i pq, .bool pd, .slice a4 n4 c4, .i sp, .i sq, .bool sd, .i cd, .i hp, .i hq, .bool hd] := fun W ⟨i, hi⟩ => by rw [hi]; exact VarA.step vA i.h
 rcases (show e1 = false ∨ (e1 = true ∧ e2 = false) ∨ (e1 = true ∧ e2 = true ∧ bc = false) ∨ (e1 = true ∧ e2 = true ∧ bc = true) by cases e1 <;> cases e2 <;> cases bc <;> simp) with rfl | ⟨rfl, rfl⟩ | ⟨rfl, rfl, rfl⟩ | ⟨rfl, rfl, rfl⟩
 all_goals
  go_wp2_with fail
  refine wp_region_cls (by kernel_rfl) (by kernel_rfl) ?_
  repeat (go_big_quiet_step (first
   | (go_at_call 64; first | (with_reducible exact Calls.cls_same (HE1.out _)) | (with_reducible exact Calls.cls_same (HE2.out _)))
   | (go_at_call 318; exact Calls.cls (HOK.out _ (HB.out.trans ((Cls.h _).mono HB.out.size))))
   | (go_at_call 66; exact Calls.cls (HHE.out _))
   | (go_at_call 67; exact Calls.cls (HWI.out _))
   | (go_at_call 65; exact Calls.cls (HSA.out _ (HB.out.trans ((Cls.h _).mono HB.out.size))))))
  try
   refine wpQuiet_loadA hVM rfl rfl Tryz.underlying35 rfl (by kernel_rfl) ?_
   simp only [Act.put, List.setIfInBounds_toArray, List.set_cons_succ, List.set_cons_zero]
   refine wpQuiet_loadA hVM rfl rfl Tryz.underlying35 rfl (by kernel_rfl) ?_
   simp only [Act.put, List.setIfInBounds_toArray, List.set_cons_succ, List.set_cons_zero]
   repeat (go_big_quiet_step (first
    | (go_at_call 64; first | (with_reducible exact Calls.cls_same (HE1.out _)) | (with_reducible exact Calls.cls_same (HE2.out _)))
    | (go_at_call 318; exact Calls.cls (HOK.out _ (HB.out.trans ((Cls.h _).mono HB.out.size))))
    | (go_at_call 66; exact Calls.cls (HHE.out _))
    | (go_at_call 67; exact Calls.cls (HWI.out _))
    | (go_at_call 65; exact Calls.cls (HSA.out _ (HB.out.trans ((Cls.h _).mono HB.out.size))))))
  refine wpQuiet_nil ?_
  rintro w' ⟨⟨w', b_⟩, rfl⟩
  have HB_ : Hid _ := HB.out.trans (b_.mono HB.out.size)
  clear HOK HHE HWI HSA HE1 HE2 hME hVM k1_ k2_ this vA b_
  go_wp2
  go_ret
  exact ⟨by first | rfl | simp, HB_.out⟩
set_option maxHeartbeats 8000000 in
theorem implMsg7 (m : MsD) (a1 a2 a3 a4 : Option Addr) (n1 n2 n3 n4 c1 c2 c3 c4 : Nat) (S : Nat → Prop) (w : World) (r : RdM w S m (.slice a1 n1 c1) (.slice a2 n2 c2) (.slice a3 n3 c3) (.slice a4 n4 c4)) (hl : szMs m ≤ 2097152) (hk : m.kind = 7) :
  Calls Tryz.prog 12 #[msV m (.slice a1 n1 c1) (.slice a2 n2 c2) (.slice a3 n3 c3) (.slice a4 n4 c4)] w fun e w' => e = .returned (.bool (MOk m)) ∧ Below w.heap.size w w' := by
 obtain ⟨r1, r2, r3, r4⟩ := r
 have hl' := hl
 unfold szMs at hl'
 have HCO : Hid (∀ W, _) := fun W => content7 m a1 a2 a3 a4 n1 n2 n3 n4 c1 c2 c3 c4 W hk
 have HOK : Hid (∀ W, Below w.heap.size w W → _) := fun W hW => okM7 m a1 a2 a3 a4 n1 n2 n3 n4 c1 c2 c3 c4 S W ⟨r1.step hW, r2.step hW, r3.step hW, r4.step hW⟩ hl
 have HHE : Hid (∀ W, _) := fun W => headOf_any m a1 a2 a3 a4 n1 n2 n3 n4 c1 c2 c3 c4 W
 have HWI : Hid (∀ W, _) := fun W => with7 m a1 a2 a3 a4 n1 n2 n3 n4 c1 c2 c3 c4 W
 have HSA : Hid (∀ W, Below w.heap.size w W → _) := fun W hW => sameMsg_any 7 m.fr m.to m.req m.req m.code m.code m.op op0 m.rp rp0 m.tx m.tx m.pt pt0 m.h m.h a1 a2 a3 a4 n1 n2 n3 n4 c1 c2 c3 c4 none none none none 0 0 0 0 0 0 0 0 (zOp m.op) (zRp m.rp) (zPt m.pt) W
  (fun V hV => sameOp_zero _ _ m.op S V (r1.step (hW.trans (hV.mono hW.size))) (r2.step (hW.trans (hV.mono hW.size))))
  (fun V hV => sameReply_zero _ m.rp S V (r3.step (hW.trans (hV.mono hW.size))))
  (fun V hV => samePart_zero _ m.pt S V (r4.step (hW.trans (hV.mono hW.size))))
 have HE1 : Hid (∀ W, _) := fun W => implEnd_w m.fr W
 have HE2 : Hid (∀ W, _) := fun W => implEnd_w m.to W
 have hres : MOk m = (isEndB m.fr && (isEndB m.to && ((TOk m.tx && (num m.req && (isCd m.code && noneOk m.h))) && (decide (m.req = m.req) && (zOp m.op && (zRp m.rp && (decide (m.tx = m.tx) && (zPt m.pt && (decide (m.code = m.code) && decide (m.h = m.h)))))))))) := by
  simp [MOk, MBody, hk, zTx, tx0, hd0, Bool.and_assoc]
 rw [hres]
 generalize (TOk m.tx && (num m.req && (isCd m.code && noneOk m.h))) = bc at HOK ⊢
 generalize isEndB m.fr = e1 at HE1 ⊢
 generalize isEndB m.to = e2 at HE2 ⊢
 generalize (decide (m.req = m.req) && (zOp m.op && (zRp m.rp && (decide (m.tx = m.tx) && (zPt m.pt && (decide (m.code = m.code) && decide (m.h = m.h))))))) = bs at HSA ⊢
 clear r1 r2 r3 r4 hl hl' hres
 obtain ⟨kd, fr, to, rq, ⟨ok, ⟨op_, oq, od⟩, nm, ⟨tp, tq, td⟩, asn, ov⟩, ⟨rc, ⟨rp_, rq_, rd⟩, rv, es⟩, ⟨xs, xb, xn⟩, ⟨pk, ⟨pp, pq, pd⟩, pas, ⟨sp, sq, sd⟩⟩, cd, ⟨hp, hq, hd⟩⟩ := m
 dsimp only at hk HCO HOK HHE HWI HSA HE1 HE2 ⊢
 subst hk
 go_enter Tryz.func12, Tryz.ntmps12
 repeat (first | (with_reducible refine guardLoad (ty := 35) ?_; refine wpList_loadA (VarA.new w _ _) rfl Tryz.underlying35 rfl (by kernel_rfl) ?_) | go_values | go_skip | go_guarded | go_step)
 refine Calls.mono (HCO.out _) ?_
 rintro e w2 ⟨rfl, b_⟩
 have vA := vaC b_
 have HB : Hid (Below w.heap.size w w2) := (Below.newH (w := w) _).trans (b_.mono (by simp))
 clear b_ HCO
 have hlt_ := vA.lt
 haveI := VarA.ne vA
 have k1_ := Cls.cell hlt_ (vA.c 1 rfl)
 have k2_ := Cls.cell hlt_ (vA.c 2 rfl)
 have hME : ∀ (v : Value) (W : World), (Go.method 461 203 v "loop.example/g00341/impl.ok").run Tryz.prog W = .ok (319, v) W := fun v W => by kernel_rfl
 have hVM : ∀ W, (∃ i : Cls w2, W = i.W) → VarA W w.heap.size 35 #[.i 7, .i fr, .i to, .i rq, .i ok, .i op_, .i oq, .bool od, .slice a1 n1 c1, .i tp, .i tq, .bool td, .slice a2 n2 c2, .i ov, .i rc, .i rp_, .i rq_, .bool rd, .i rv, .slice a3 n3 c3, .i xs, .i xb, .i xn, .i pk, .i pp, .i pq, .bool pd, .slice a4 n4 c4, .i sp, .i sq, .bool sd, .i cd, .i hp, .i hq, .bool hd] := fun W ⟨i, hi⟩ => by rw [hi]; exact VarA.step vA i.h
 rcases (show e1 = false ∨ (e1 = true ∧ e2 = false) ∨ (e1 = true ∧ e2 = true ∧ bc = false) ∨ (e1 = true ∧ e2 = true ∧ bc = true) by cases e1 <;> cases e2 <;> cases bc <;> simp) with rfl | ⟨rfl, rfl⟩ | ⟨rfl, rfl, rfl⟩ | ⟨rfl, rfl, rfl⟩
 all_goals
  go_wp2_with fail
  refine wp_region_cls (by kernel_rfl) (by kernel_rfl) ?_
  repeat (go_big_quiet_step (first
   | (go_at_call 64; first | (with_reducible exact Calls.cls_same (HE1.out _)) | (with_reducible exact Calls.cls_same (HE2.out _)))
   | (go_at_call 319; exact Calls.cls (HOK.out _ (HB.out.trans ((Cls.h _).mono HB.out.size))))
   | (go_at_call 66; exact Calls.cls (HHE.out _))
   | (go_at_call 67; exact Calls.cls (HWI.out _))
   | (go_at_call 65; exact Calls.cls (HSA.out _ (HB.out.trans ((Cls.h _).mono HB.out.size))))))
  try
   refine wpQuiet_loadA hVM rfl rfl Tryz.underlying35 rfl (by kernel_rfl) ?_
   simp only [Act.put, List.setIfInBounds_toArray, List.set_cons_succ, List.set_cons_zero]
   refine wpQuiet_loadA hVM rfl rfl Tryz.underlying35 rfl (by kernel_rfl) ?_
   simp only [Act.put, List.setIfInBounds_toArray, List.set_cons_succ, List.set_cons_zero]
   repeat (go_big_quiet_step (first
    | (go_at_call 64; first | (with_reducible exact Calls.cls_same (HE1.out _)) | (with_reducible exact Calls.cls_same (HE2.out _)))
    | (go_at_call 319; exact Calls.cls (HOK.out _ (HB.out.trans ((Cls.h _).mono HB.out.size))))
    | (go_at_call 66; exact Calls.cls (HHE.out _))
    | (go_at_call 67; exact Calls.cls (HWI.out _))
    | (go_at_call 65; exact Calls.cls (HSA.out _ (HB.out.trans ((Cls.h _).mono HB.out.size))))))
  refine wpQuiet_nil ?_
  rintro w' ⟨⟨w', b_⟩, rfl⟩
  have HB_ : Hid _ := HB.out.trans (b_.mono HB.out.size)
  clear HOK HHE HWI HSA HE1 HE2 hME hVM k1_ k2_ this vA b_
  go_wp2
  go_ret
  exact ⟨by first | rfl | simp, HB_.out⟩
end Go.Proofs.YtklhikadhohjbaaGreat
