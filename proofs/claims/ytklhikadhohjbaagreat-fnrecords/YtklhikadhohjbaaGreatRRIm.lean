/- May a record be? By the program. Condition: no more than 2^21 of all. -/
import Derived.Test.YtklhikadhohjbaaGreatRA05
import Derived.Test.YtklhikadhohjbaaGreatRRIm2
namespace Go.Proofs.YtklhikadhohjbaaGreat
open Go.RowKit
set_option linter.unusedVariables false
set_option linter.unusedSimpArgs false
set_option maxRecDepth 100000

set_option maxHeartbeats 8000000 in
theorem implRec0 (m : MsD) (a1 a2 a3 a4 : Option Addr) (n1 n2 n3 n4 c1 c2 c3 c4 : Nat) (S : Nat → Prop) (w : World) (r : RdM w S m (.slice a1 n1 c1) (.slice a2 n2 c2) (.slice a3 n3 c3) (.slice a4 n4 c4)) (hl : szMs m ≤ 2097152) (hk : m.kind = 0) :
  Calls Tryz.prog 20 #[rcV m (.slice a1 n1 c1) (.slice a2 n2 c2) (.slice a3 n3 c3) (.slice a4 n4 c4)] w fun e w' => e = .returned (.bool (COk m)) ∧ Below w.heap.size w w' := by
 have HHA : Hid (∀ W, Below w.heap.size w W → _) := fun W hW => hasOk0 m a1 a2 a3 a4 n1 n2 n3 n4 c1 c2 c3 c4 S W (r.step hW) hl hk
 obtain ⟨r1, r2, r3, r4⟩ := r
 unfold szMs at hl
 have HJU : Hid (∀ W, _) := fun W => justOf0 m a1 a2 a3 a4 n1 n2 n3 n4 c1 c2 c3 c4 W hk
 have HSA : Hid (∀ W, Below w.heap.size w W → _) := fun W hW => sameRecord_any 0 m.to m.fr 0 m.req 0 m.code 0 m.op op0 m.rp rp0 m.tx tx0 m.pt pt0 m.h hd0 a1 a2 a3 a4 n1 n2 n3 n4 c1 c2 c3 c4 none none none none 0 0 0 0 0 0 0 0 (zOp m.op) (zRp m.rp) (zPt m.pt) W
  (fun V hV => sameOp_zero _ _ m.op S V (r1.step (hW.trans (hV.mono hW.size))) (r2.step (hW.trans (hV.mono hW.size))))
  (fun V hV => sameReply_zero _ m.rp S V (r3.step (hW.trans (hV.mono hW.size))))
  (fun V hV => samePart_zero _ m.pt S V (r4.step (hW.trans (hV.mono hW.size))))
 have hres : COk m = (true && (decide (m.fr = 0) && (decide (m.req = 0) && (zOp m.op && (decide (m.h = hd0) && (zRp m.rp && (decide (m.tx = tx0) && (zPt m.pt && decide (m.code = 0))))))))) := by
  simp [COk, CBody, hk, zTx, tx0, hd0, Bool.and_assoc]
 rw [hres]
 generalize true = bc at HHA ⊢
 generalize (decide (m.fr = 0) && (decide (m.req = 0) && (zOp m.op && (decide (m.h = hd0) && (zRp m.rp && (decide (m.tx = tx0) && (zPt m.pt && decide (m.code = 0)))))))) = bs at HSA ⊢
 clear r1 r2 r3 r4 hl hres
 obtain ⟨kd, fr, to, rq, ⟨ok, ⟨op_, oq, od⟩, nm, ⟨tp, tq, td⟩, asn, ov⟩, ⟨rc, ⟨rp_, rq_, rd⟩, rv, es⟩, ⟨xs, xb, xn⟩, ⟨pk, ⟨pp, pq, pd⟩, pas, ⟨sp, sq, sd⟩⟩, cd, ⟨hp, hq, hd⟩⟩ := m
 dsimp only at hk HHA HJU HSA ⊢
 subst hk
 go_enter Tryz.func20, Tryz.ntmps20
 have HB : Hid (Below w.heap.size w (w.alloc (.cells #[.int .i64 0, .int .i64 fr, .int .i64 rq, .int .i64 ok, .int .i64 op_, .int .i64 oq, .bool od, .slice a1 n1 c1, .int .i64 tp, .int .i64 tq, .bool td, .slice a2 n2 c2, .int .i64 ov, .int .i64 hp, .int .i64 hq, .bool hd, .int .i64 rc, .int .i64 rp_, .int .i64 rq_, .bool rd, .int .i64 rv, .slice a3 n3 c3, .int .i64 xs, .int .i64 xb, .int .i64 xn, .int .i64 pk, .int .i64 pp, .int .i64 pq, .bool pd, .slice a4 n4 c4, .int .i64 sp, .int .i64 sq, .bool sd, .int .i64 cd] 47))) := Below.newH _
 have vA : VarA (w.alloc (.cells #[.int .i64 0, .int .i64 fr, .int .i64 rq, .int .i64 ok, .int .i64 op_, .int .i64 oq, .bool od, .slice a1 n1 c1, .int .i64 tp, .int .i64 tq, .bool td, .slice a2 n2 c2, .int .i64 ov, .int .i64 hp, .int .i64 hq, .bool hd, .int .i64 rc, .int .i64 rp_, .int .i64 rq_, .bool rd, .int .i64 rv, .slice a3 n3 c3, .int .i64 xs, .int .i64 xb, .int .i64 xn, .int .i64 pk, .int .i64 pp, .int .i64 pq, .bool pd, .slice a4 n4 c4, .int .i64 sp, .int .i64 sq, .bool sd, .int .i64 cd] 47)) w.heap.size 47 #[.int .i64 0, .int .i64 fr, .int .i64 rq, .int .i64 ok, .int .i64 op_, .int .i64 oq, .bool od, .slice a1 n1 c1, .int .i64 tp, .int .i64 tq, .bool td, .slice a2 n2 c2, .int .i64 ov, .int .i64 hp, .int .i64 hq, .bool hd, .int .i64 rc, .int .i64 rp_, .int .i64 rq_, .bool rd, .int .i64 rv, .slice a3 n3 c3, .int .i64 xs, .int .i64 xb, .int .i64 xn, .int .i64 pk, .int .i64 pp, .int .i64 pq, .bool pd, .slice a4 n4 c4, .int .i64 sp, .int .i64 sq, .bool sd, .int .i64 cd] := VarA.new w _ _
 haveI := VarA.ne vA
 have hVM : ∀ W, (∃ i : Cls (w.alloc (.cells #[.int .i64 0, .int .i64 fr, .int .i64 rq, .int .i64 ok, .int .i64 op_, .int .i64 oq, .bool od, .slice a1 n1 c1, .int .i64 tp, .int .i64 tq, .bool td, .slice a2 n2 c2, .int .i64 ov, .int .i64 hp, .int .i64 hq, .bool hd, .int .i64 rc, .int .i64 rp_, .int .i64 rq_, .bool rd, .int .i64 rv, .slice a3 n3 c3, .int .i64 xs, .int .i64 xb, .int .i64 xn, .int .i64 pk, .int .i64 pp, .int .i64 pq, .bool pd, .slice a4 n4 c4, .int .i64 sp, .int .i64 sq, .bool sd, .int .i64 cd] 47)), W = i.W) → VarA W w.heap.size 47 #[.int .i64 0, .int .i64 fr, .int .i64 rq, .int .i64 ok, .int .i64 op_, .int .i64 oq, .bool od, .slice a1 n1 c1, .int .i64 tp, .int .i64 tq, .bool td, .slice a2 n2 c2, .int .i64 ov, .int .i64 hp, .int .i64 hq, .bool hd, .int .i64 rc, .int .i64 rp_, .int .i64 rq_, .bool rd, .int .i64 rv, .slice a3 n3 c3, .int .i64 xs, .int .i64 xb, .int .i64 xn, .int .i64 pk, .int .i64 pp, .int .i64 pq, .bool pd, .slice a4 n4 c4, .int .i64 sp, .int .i64 sq, .bool sd, .int .i64 cd] := fun W ⟨i, hi⟩ => by rw [hi]; exact VarA.step vA i.h
 clear vA
 cases bc
 all_goals
  repeat (first | go_values | go_skip | go_guarded | go_step)
  refine wp_region_cls (by kernel_rfl) (by kernel_rfl) ?_
  (refine wpQuiet_loadA hVM rfl rfl Tryz.underlying47 rfl (by kernel_rfl) ?_); simp only [Act.put, List.setIfInBounds_toArray, List.set_cons_succ, List.set_cons_zero]
  repeat (go_big_quiet_step (first | (go_at_call 78; exact Calls.cls (HHA.out _ (HB.out.trans ((Cls.h _).mono HB.out.size)))) | (go_at_call 80; exact Calls.cls (HJU.out _)) | (go_at_call 79; exact Calls.cls (HSA.out _ (HB.out.trans ((Cls.h _).mono HB.out.size))))))
  try
   (refine wpQuiet_loadA hVM rfl rfl Tryz.underlying47 rfl (by kernel_rfl) ?_); simp only [Act.put, List.setIfInBounds_toArray, List.set_cons_succ, List.set_cons_zero]
   (refine wpQuiet_loadA hVM rfl rfl Tryz.underlying47 rfl (by kernel_rfl) ?_); simp only [Act.put, List.setIfInBounds_toArray, List.set_cons_succ, List.set_cons_zero]
   repeat (go_big_quiet_step (first | (go_at_call 78; exact Calls.cls (HHA.out _ (HB.out.trans ((Cls.h _).mono HB.out.size)))) | (go_at_call 80; exact Calls.cls (HJU.out _)) | (go_at_call 79; exact Calls.cls (HSA.out _ (HB.out.trans ((Cls.h _).mono HB.out.size))))))
  refine wpQuiet_nil ?_
  rintro w' ⟨⟨w', b_⟩, rfl⟩
  have HB_ : Hid _ := HB.out.trans (b_.mono HB.out.size)
  clear HHA HJU HSA hVM this b_
  go_wp2
  go_ret
  exact ⟨by first | rfl | simp, HB_.out⟩
set_option maxHeartbeats 8000000 in
theorem implRec1 (m : MsD) (a1 a2 a3 a4 : Option Addr) (n1 n2 n3 n4 c1 c2 c3 c4 : Nat) (S : Nat → Prop) (w : World) (r : RdM w S m (.slice a1 n1 c1) (.slice a2 n2 c2) (.slice a3 n3 c3) (.slice a4 n4 c4)) (hl : szMs m ≤ 2097152) (hk : m.kind = 1) :
  Calls Tryz.prog 20 #[rcV m (.slice a1 n1 c1) (.slice a2 n2 c2) (.slice a3 n3 c3) (.slice a4 n4 c4)] w fun e w' => e = .returned (.bool (COk m)) ∧ Below w.heap.size w w' := by
 have HHA : Hid (∀ W, Below w.heap.size w W → _) := fun W hW => hasOk1 m a1 a2 a3 a4 n1 n2 n3 n4 c1 c2 c3 c4 S W (r.step hW) hl hk
 obtain ⟨r1, r2, r3, r4⟩ := r
 unfold szMs at hl
 have HJU : Hid (∀ W, _) := fun W => justOf1 m a1 a2 a3 a4 n1 n2 n3 n4 c1 c2 c3 c4 W hk
 have HSA : Hid (∀ W, Below w.heap.size w W → _) := fun W hW => sameRecord_any 1 m.to m.fr m.fr m.req m.req m.code 0 m.op m.op m.rp m.rp m.tx tx0 m.pt pt0 m.h m.h a1 a2 a3 a4 n1 n2 n3 n4 c1 c2 c3 c4 a1 a2 a3 none n1 n2 n3 0 c1 c2 c3 0 (true) (true) (zPt m.pt) W
  (fun V hV => sameOp_self _ _ m.op S V (r1.step (hW.trans (hV.mono hW.size))) (r2.step (hW.trans (hV.mono hW.size))))
  (fun V hV => sameReply_self _ m.rp S V (r3.step (hW.trans (hV.mono hW.size))) (by omega))
  (fun V hV => samePart_zero _ m.pt S V (r4.step (hW.trans (hV.mono hW.size))))
 have hres : COk m = ((callB m && noneOk m.h) && (decide (m.fr = m.fr) && (decide (m.req = m.req) && (true && (decide (m.h = m.h) && (true && (decide (m.tx = tx0) && (zPt m.pt && decide (m.code = 0))))))))) := by
  simp [COk, CBody, hk, zTx, tx0, hd0, Bool.and_assoc]
 rw [hres]
 generalize (callB m && noneOk m.h) = bc at HHA ⊢
 generalize (decide (m.fr = m.fr) && (decide (m.req = m.req) && (true && (decide (m.h = m.h) && (true && (decide (m.tx = tx0) && (zPt m.pt && decide (m.code = 0)))))))) = bs at HSA ⊢
 clear r1 r2 r3 r4 hl hres
 obtain ⟨kd, fr, to, rq, ⟨ok, ⟨op_, oq, od⟩, nm, ⟨tp, tq, td⟩, asn, ov⟩, ⟨rc, ⟨rp_, rq_, rd⟩, rv, es⟩, ⟨xs, xb, xn⟩, ⟨pk, ⟨pp, pq, pd⟩, pas, ⟨sp, sq, sd⟩⟩, cd, ⟨hp, hq, hd⟩⟩ := m
 dsimp only at hk HHA HJU HSA ⊢
 subst hk
 go_enter Tryz.func20, Tryz.ntmps20
 have HB : Hid (Below w.heap.size w (w.alloc (.cells #[.int .i64 1, .int .i64 fr, .int .i64 rq, .int .i64 ok, .int .i64 op_, .int .i64 oq, .bool od, .slice a1 n1 c1, .int .i64 tp, .int .i64 tq, .bool td, .slice a2 n2 c2, .int .i64 ov, .int .i64 hp, .int .i64 hq, .bool hd, .int .i64 rc, .int .i64 rp_, .int .i64 rq_, .bool rd, .int .i64 rv, .slice a3 n3 c3, .int .i64 xs, .int .i64 xb, .int .i64 xn, .int .i64 pk, .int .i64 pp, .int .i64 pq, .bool pd, .slice a4 n4 c4, .int .i64 sp, .int .i64 sq, .bool sd, .int .i64 cd] 47))) := Below.newH _
 have vA : VarA (w.alloc (.cells #[.int .i64 1, .int .i64 fr, .int .i64 rq, .int .i64 ok, .int .i64 op_, .int .i64 oq, .bool od, .slice a1 n1 c1, .int .i64 tp, .int .i64 tq, .bool td, .slice a2 n2 c2, .int .i64 ov, .int .i64 hp, .int .i64 hq, .bool hd, .int .i64 rc, .int .i64 rp_, .int .i64 rq_, .bool rd, .int .i64 rv, .slice a3 n3 c3, .int .i64 xs, .int .i64 xb, .int .i64 xn, .int .i64 pk, .int .i64 pp, .int .i64 pq, .bool pd, .slice a4 n4 c4, .int .i64 sp, .int .i64 sq, .bool sd, .int .i64 cd] 47)) w.heap.size 47 #[.int .i64 1, .int .i64 fr, .int .i64 rq, .int .i64 ok, .int .i64 op_, .int .i64 oq, .bool od, .slice a1 n1 c1, .int .i64 tp, .int .i64 tq, .bool td, .slice a2 n2 c2, .int .i64 ov, .int .i64 hp, .int .i64 hq, .bool hd, .int .i64 rc, .int .i64 rp_, .int .i64 rq_, .bool rd, .int .i64 rv, .slice a3 n3 c3, .int .i64 xs, .int .i64 xb, .int .i64 xn, .int .i64 pk, .int .i64 pp, .int .i64 pq, .bool pd, .slice a4 n4 c4, .int .i64 sp, .int .i64 sq, .bool sd, .int .i64 cd] := VarA.new w _ _
 haveI := VarA.ne vA
 have hVM : ∀ W, (∃ i : Cls (w.alloc (.cells #[.int .i64 1, .int .i64 fr, .int .i64 rq, .int .i64 ok, .int .i64 op_, .int .i64 oq, .bool od, .slice a1 n1 c1, .int .i64 tp, .int .i64 tq, .bool td, .slice a2 n2 c2, .int .i64 ov, .int .i64 hp, .int .i64 hq, .bool hd, .int .i64 rc, .int .i64 rp_, .int .i64 rq_, .bool rd, .int .i64 rv, .slice a3 n3 c3, .int .i64 xs, .int .i64 xb, .int .i64 xn, .int .i64 pk, .int .i64 pp, .int .i64 pq, .bool pd, .slice a4 n4 c4, .int .i64 sp, .int .i64 sq, .bool sd, .int .i64 cd] 47)), W = i.W) → VarA W w.heap.size 47 #[.int .i64 1, .int .i64 fr, .int .i64 rq, .int .i64 ok, .int .i64 op_, .int .i64 oq, .bool od, .slice a1 n1 c1, .int .i64 tp, .int .i64 tq, .bool td, .slice a2 n2 c2, .int .i64 ov, .int .i64 hp, .int .i64 hq, .bool hd, .int .i64 rc, .int .i64 rp_, .int .i64 rq_, .bool rd, .int .i64 rv, .slice a3 n3 c3, .int .i64 xs, .int .i64 xb, .int .i64 xn, .int .i64 pk, .int .i64 pp, .int .i64 pq, .bool pd, .slice a4 n4 c4, .int .i64 sp, .int .i64 sq, .bool sd, .int .i64 cd] := fun W ⟨i, hi⟩ => by rw [hi]; exact VarA.step vA i.h
 clear vA
 cases bc
 all_goals
  repeat (first | go_values | go_skip | go_guarded | go_step)
  refine wp_region_cls (by kernel_rfl) (by kernel_rfl) ?_
  (refine wpQuiet_loadA hVM rfl rfl Tryz.underlying47 rfl (by kernel_rfl) ?_); simp only [Act.put, List.setIfInBounds_toArray, List.set_cons_succ, List.set_cons_zero]
  repeat (go_big_quiet_step (first | (go_at_call 78; exact Calls.cls (HHA.out _ (HB.out.trans ((Cls.h _).mono HB.out.size)))) | (go_at_call 80; exact Calls.cls (HJU.out _)) | (go_at_call 79; exact Calls.cls (HSA.out _ (HB.out.trans ((Cls.h _).mono HB.out.size))))))
  try
   (refine wpQuiet_loadA hVM rfl rfl Tryz.underlying47 rfl (by kernel_rfl) ?_); simp only [Act.put, List.setIfInBounds_toArray, List.set_cons_succ, List.set_cons_zero]
   (refine wpQuiet_loadA hVM rfl rfl Tryz.underlying47 rfl (by kernel_rfl) ?_); simp only [Act.put, List.setIfInBounds_toArray, List.set_cons_succ, List.set_cons_zero]
   repeat (go_big_quiet_step (first | (go_at_call 78; exact Calls.cls (HHA.out _ (HB.out.trans ((Cls.h _).mono HB.out.size)))) | (go_at_call 80; exact Calls.cls (HJU.out _)) | (go_at_call 79; exact Calls.cls (HSA.out _ (HB.out.trans ((Cls.h _).mono HB.out.size))))))
  refine wpQuiet_nil ?_
  rintro w' ⟨⟨w', b_⟩, rfl⟩
  have HB_ : Hid _ := HB.out.trans (b_.mono HB.out.size)
  clear HHA HJU HSA hVM this b_
  go_wp2
  go_ret
  exact ⟨by first | rfl | simp, HB_.out⟩
set_option maxHeartbeats 8000000 in
theorem implRec2 (m : MsD) (a1 a2 a3 a4 : Option Addr) (n1 n2 n3 n4 c1 c2 c3 c4 : Nat) (S : Nat → Prop) (w : World) (r : RdM w S m (.slice a1 n1 c1) (.slice a2 n2 c2) (.slice a3 n3 c3) (.slice a4 n4 c4)) (hl : szMs m ≤ 2097152) (hk : m.kind = 2) :
  Calls Tryz.prog 20 #[rcV m (.slice a1 n1 c1) (.slice a2 n2 c2) (.slice a3 n3 c3) (.slice a4 n4 c4)] w fun e w' => e = .returned (.bool (COk m)) ∧ Below w.heap.size w w' := by
 have HHA : Hid (∀ W, Below w.heap.size w W → _) := fun W hW => hasOk2 m a1 a2 a3 a4 n1 n2 n3 n4 c1 c2 c3 c4 S W (r.step hW) hl hk
 obtain ⟨r1, r2, r3, r4⟩ := r
 unfold szMs at hl
 have HJU : Hid (∀ W, _) := fun W => justOf2 m a1 a2 a3 a4 n1 n2 n3 n4 c1 c2 c3 c4 W hk
 have HSA : Hid (∀ W, Below w.heap.size w W → _) := fun W hW => sameRecord_any 2 m.to m.fr 0 m.req 0 m.code m.code m.op op0 m.rp rp0 m.tx m.tx m.pt m.pt m.h m.h a1 a2 a3 a4 n1 n2 n3 n4 c1 c2 c3 c4 none none none a4 0 0 0 n4 0 0 0 c4 (zOp m.op) (zRp m.rp) (true) W
  (fun V hV => sameOp_zero _ _ m.op S V (r1.step (hW.trans (hV.mono hW.size))) (r2.step (hW.trans (hV.mono hW.size))))
  (fun V hV => sameReply_zero _ m.rp S V (r3.step (hW.trans (hV.mono hW.size))))
  (fun V hV => samePart_self _ m.pt S V (r4.step (hW.trans (hV.mono hW.size))))
 have hres : COk m = ((TOk m.tx && (POk m.pt && (isCd m.code && noneOk m.h))) && (decide (m.fr = 0) && (decide (m.req = 0) && (zOp m.op && (decide (m.h = m.h) && (zRp m.rp && (decide (m.tx = m.tx) && (true && decide (m.code = m.code))))))))) := by
  simp [COk, CBody, hk, zTx, tx0, hd0, Bool.and_assoc]
 rw [hres]
 generalize (TOk m.tx && (POk m.pt && (isCd m.code && noneOk m.h))) = bc at HHA ⊢
 generalize (decide (m.fr = 0) && (decide (m.req = 0) && (zOp m.op && (decide (m.h = m.h) && (zRp m.rp && (decide (m.tx = m.tx) && (true && decide (m.code = m.code)))))))) = bs at HSA ⊢
 clear r1 r2 r3 r4 hl hres
 obtain ⟨kd, fr, to, rq, ⟨ok, ⟨op_, oq, od⟩, nm, ⟨tp, tq, td⟩, asn, ov⟩, ⟨rc, ⟨rp_, rq_, rd⟩, rv, es⟩, ⟨xs, xb, xn⟩, ⟨pk, ⟨pp, pq, pd⟩, pas, ⟨sp, sq, sd⟩⟩, cd, ⟨hp, hq, hd⟩⟩ := m
 dsimp only at hk HHA HJU HSA ⊢
 subst hk
 go_enter Tryz.func20, Tryz.ntmps20
 have HB : Hid (Below w.heap.size w (w.alloc (.cells #[.int .i64 2, .int .i64 fr, .int .i64 rq, .int .i64 ok, .int .i64 op_, .int .i64 oq, .bool od, .slice a1 n1 c1, .int .i64 tp, .int .i64 tq, .bool td, .slice a2 n2 c2, .int .i64 ov, .int .i64 hp, .int .i64 hq, .bool hd, .int .i64 rc, .int .i64 rp_, .int .i64 rq_, .bool rd, .int .i64 rv, .slice a3 n3 c3, .int .i64 xs, .int .i64 xb, .int .i64 xn, .int .i64 pk, .int .i64 pp, .int .i64 pq, .bool pd, .slice a4 n4 c4, .int .i64 sp, .int .i64 sq, .bool sd, .int .i64 cd] 47))) := Below.newH _
 have vA : VarA (w.alloc (.cells #[.int .i64 2, .int .i64 fr, .int .i64 rq, .int .i64 ok, .int .i64 op_, .int .i64 oq, .bool od, .slice a1 n1 c1, .int .i64 tp, .int .i64 tq, .bool td, .slice a2 n2 c2, .int .i64 ov, .int .i64 hp, .int .i64 hq, .bool hd, .int .i64 rc, .int .i64 rp_, .int .i64 rq_, .bool rd, .int .i64 rv, .slice a3 n3 c3, .int .i64 xs, .int .i64 xb, .int .i64 xn, .int .i64 pk, .int .i64 pp, .int .i64 pq, .bool pd, .slice a4 n4 c4, .int .i64 sp, .int .i64 sq, .bool sd, .int .i64 cd] 47)) w.heap.size 47 #[.int .i64 2, .int .i64 fr, .int .i64 rq, .int .i64 ok, .int .i64 op_, .int .i64 oq, .bool od, .slice a1 n1 c1, .int .i64 tp, .int .i64 tq, .bool td, .slice a2 n2 c2, .int .i64 ov, .int .i64 hp, .int .i64 hq, .bool hd, .int .i64 rc, .int .i64 rp_, .int .i64 rq_, .bool rd, .int .i64 rv, .slice a3 n3 c3, .int .i64 xs, .int .i64 xb, .int .i64 xn, .int .i64 pk, .int .i64 pp, .int .i64 pq, .bool pd, .slice a4 n4 c4, .int .i64 sp, .int .i64 sq, .bool sd, .int .i64 cd] := VarA.new w _ _
 haveI := VarA.ne vA
 have hVM : ∀ W, (∃ i : Cls (w.alloc (.cells #[.int .i64 2, .int .i64 fr, .int .i64 rq, .int .i64 ok, .int .i64 op_, .int .i64 oq, .bool od, .slice a1 n1 c1, .int .i64 tp, .int .i64 tq, .bool td, .slice a2 n2 c2, .int .i64 ov, .int .i64 hp, .int .i64 hq, .bool hd, .int .i64 rc, .int .i64 rp_, .int .i64 rq_, .bool rd, .int .i64 rv, .slice a3 n3 c3, .int .i64 xs, .int .i64 xb, .int .i64 xn, .int .i64 pk, .int .i64 pp, .int .i64 pq, .bool pd, .slice a4 n4 c4, .int .i64 sp, .int .i64 sq, .bool sd, .int .i64 cd] 47)), W = i.W) → VarA W w.heap.size 47 #[.int .i64 2, .int .i64 fr, .int .i64 rq, .int .i64 ok, .int .i64 op_, .int .i64 oq, .bool od, .slice a1 n1 c1, .int .i64 tp, .int .i64 tq, .bool td, .slice a2 n2 c2, .int .i64 ov, .int .i64 hp, .int .i64 hq, .bool hd, .int .i64 rc, .int .i64 rp_, .int .i64 rq_, .bool rd, .int .i64 rv, .slice a3 n3 c3, .int .i64 xs, .int .i64 xb, .int .i64 xn, .int .i64 pk, .int .i64 pp, .int .i64 pq, .bool pd, .slice a4 n4 c4, .int .i64 sp, .int .i64 sq, .bool sd, .int .i64 cd] := fun W ⟨i, hi⟩ => by rw [hi]; exact VarA.step vA i.h
 clear vA
 cases bc
 all_goals
  repeat (first | go_values | go_skip | go_guarded | go_step)
  refine wp_region_cls (by kernel_rfl) (by kernel_rfl) ?_
  (refine wpQuiet_loadA hVM rfl rfl Tryz.underlying47 rfl (by kernel_rfl) ?_); simp only [Act.put, List.setIfInBounds_toArray, List.set_cons_succ, List.set_cons_zero]
  repeat (go_big_quiet_step (first | (go_at_call 78; exact Calls.cls (HHA.out _ (HB.out.trans ((Cls.h _).mono HB.out.size)))) | (go_at_call 80; exact Calls.cls (HJU.out _)) | (go_at_call 79; exact Calls.cls (HSA.out _ (HB.out.trans ((Cls.h _).mono HB.out.size))))))
  try
   (refine wpQuiet_loadA hVM rfl rfl Tryz.underlying47 rfl (by kernel_rfl) ?_); simp only [Act.put, List.setIfInBounds_toArray, List.set_cons_succ, List.set_cons_zero]
   (refine wpQuiet_loadA hVM rfl rfl Tryz.underlying47 rfl (by kernel_rfl) ?_); simp only [Act.put, List.setIfInBounds_toArray, List.set_cons_succ, List.set_cons_zero]
   repeat (go_big_quiet_step (first | (go_at_call 78; exact Calls.cls (HHA.out _ (HB.out.trans ((Cls.h _).mono HB.out.size)))) | (go_at_call 80; exact Calls.cls (HJU.out _)) | (go_at_call 79; exact Calls.cls (HSA.out _ (HB.out.trans ((Cls.h _).mono HB.out.size))))))
  refine wpQuiet_nil ?_
  rintro w' ⟨⟨w', b_⟩, rfl⟩
  have HB_ : Hid _ := HB.out.trans (b_.mono HB.out.size)
  clear HHA HJU HSA hVM this b_
  go_wp2
  go_ret
  exact ⟨by first | rfl | simp, HB_.out⟩
set_option maxHeartbeats 8000000 in
theorem implRec3 (m : MsD) (a1 a2 a3 a4 : Option Addr) (n1 n2 n3 n4 c1 c2 c3 c4 : Nat) (S : Nat → Prop) (w : World) (r : RdM w S m (.slice a1 n1 c1) (.slice a2 n2 c2) (.slice a3 n3 c3) (.slice a4 n4 c4)) (hl : szMs m ≤ 2097152) (hk : m.kind = 3) :
  Calls Tryz.prog 20 #[rcV m (.slice a1 n1 c1) (.slice a2 n2 c2) (.slice a3 n3 c3) (.slice a4 n4 c4)] w fun e w' => e = .returned (.bool (COk m)) ∧ Below w.heap.size w w' := by
 have HHA : Hid (∀ W, Below w.heap.size w W → _) := fun W hW => hasOk3 m a1 a2 a3 a4 n1 n2 n3 n4 c1 c2 c3 c4 S W (r.step hW) hl hk
 obtain ⟨r1, r2, r3, r4⟩ := r
 unfold szMs at hl
 have HJU : Hid (∀ W, _) := fun W => justOf3 m a1 a2 a3 a4 n1 n2 n3 n4 c1 c2 c3 c4 W hk
 have HSA : Hid (∀ W, Below w.heap.size w W → _) := fun W hW => sameRecord_any 3 m.to m.fr m.fr m.req m.req m.code m.code m.op m.op m.rp m.rp m.tx m.tx m.pt pt0 m.h hd0 a1 a2 a3 a4 n1 n2 n3 n4 c1 c2 c3 c4 a1 a2 a3 none n1 n2 n3 0 c1 c2 c3 0 (true) (true) (zPt m.pt) W
  (fun V hV => sameOp_self _ _ m.op S V (r1.step (hW.trans (hV.mono hW.size))) (r2.step (hW.trans (hV.mono hW.size))))
  (fun V hV => sameReply_self _ m.rp S V (r3.step (hW.trans (hV.mono hW.size))) (by omega))
  (fun V hV => samePart_zero _ m.pt S V (r4.step (hW.trans (hV.mono hW.size))))
 have hres : COk m = ((callB m && (TOk m.tx && (decide (m.code = 0) || decide (m.code = 1)))) && (decide (m.fr = m.fr) && (decide (m.req = m.req) && (true && (decide (m.h = hd0) && (true && (decide (m.tx = m.tx) && (zPt m.pt && decide (m.code = m.code))))))))) := by
  simp [COk, CBody, hk, zTx, tx0, hd0, Bool.and_assoc]
 rw [hres]
 generalize (callB m && (TOk m.tx && (decide (m.code = 0) || decide (m.code = 1)))) = bc at HHA ⊢
 generalize (decide (m.fr = m.fr) && (decide (m.req = m.req) && (true && (decide (m.h = hd0) && (true && (decide (m.tx = m.tx) && (zPt m.pt && decide (m.code = m.code)))))))) = bs at HSA ⊢
 clear r1 r2 r3 r4 hl hres
 obtain ⟨kd, fr, to, rq, ⟨ok, ⟨op_, oq, od⟩, nm, ⟨tp, tq, td⟩, asn, ov⟩, ⟨rc, ⟨rp_, rq_, rd⟩, rv, es⟩, ⟨xs, xb, xn⟩, ⟨pk, ⟨pp, pq, pd⟩, pas, ⟨sp, sq, sd⟩⟩, cd, ⟨hp, hq, hd⟩⟩ := m
 dsimp only at hk HHA HJU HSA ⊢
 subst hk
 go_enter Tryz.func20, Tryz.ntmps20
 have HB : Hid (Below w.heap.size w (w.alloc (.cells #[.int .i64 3, .int .i64 fr, .int .i64 rq, .int .i64 ok, .int .i64 op_, .int .i64 oq, .bool od, .slice a1 n1 c1, .int .i64 tp, .int .i64 tq, .bool td, .slice a2 n2 c2, .int .i64 ov, .int .i64 hp, .int .i64 hq, .bool hd, .int .i64 rc, .int .i64 rp_, .int .i64 rq_, .bool rd, .int .i64 rv, .slice a3 n3 c3, .int .i64 xs, .int .i64 xb, .int .i64 xn, .int .i64 pk, .int .i64 pp, .int .i64 pq, .bool pd, .slice a4 n4 c4, .int .i64 sp, .int .i64 sq, .bool sd, .int .i64 cd] 47))) := Below.newH _
 have vA : VarA (w.alloc (.cells #[.int .i64 3, .int .i64 fr, .int .i64 rq, .int .i64 ok, .int .i64 op_, .int .i64 oq, .bool od, .slice a1 n1 c1, .int .i64 tp, .int .i64 tq, .bool td, .slice a2 n2 c2, .int .i64 ov, .int .i64 hp, .int .i64 hq, .bool hd, .int .i64 rc, .int .i64 rp_, .int .i64 rq_, .bool rd, .int .i64 rv, .slice a3 n3 c3, .int .i64 xs, .int .i64 xb, .int .i64 xn, .int .i64 pk, .int .i64 pp, .int .i64 pq, .bool pd, .slice a4 n4 c4, .int .i64 sp, .int .i64 sq, .bool sd, .int .i64 cd] 47)) w.heap.size 47 #[.int .i64 3, .int .i64 fr, .int .i64 rq, .int .i64 ok, .int .i64 op_, .int .i64 oq, .bool od, .slice a1 n1 c1, .int .i64 tp, .int .i64 tq, .bool td, .slice a2 n2 c2, .int .i64 ov, .int .i64 hp, .int .i64 hq, .bool hd, .int .i64 rc, .int .i64 rp_, .int .i64 rq_, .bool rd, .int .i64 rv, .slice a3 n3 c3, .int .i64 xs, .int .i64 xb, .int .i64 xn, .int .i64 pk, .int .i64 pp, .int .i64 pq, .bool pd, .slice a4 n4 c4, .int .i64 sp, .int .i64 sq, .bool sd, .int .i64 cd] := VarA.new w _ _
 haveI := VarA.ne vA
 have hVM : ∀ W, (∃ i : Cls (w.alloc (.cells #[.int .i64 3, .int .i64 fr, .int .i64 rq, .int .i64 ok, .int .i64 op_, .int .i64 oq, .bool od, .slice a1 n1 c1, .int .i64 tp, .int .i64 tq, .bool td, .slice a2 n2 c2, .int .i64 ov, .int .i64 hp, .int .i64 hq, .bool hd, .int .i64 rc, .int .i64 rp_, .int .i64 rq_, .bool rd, .int .i64 rv, .slice a3 n3 c3, .int .i64 xs, .int .i64 xb, .int .i64 xn, .int .i64 pk, .int .i64 pp, .int .i64 pq, .bool pd, .slice a4 n4 c4, .int .i64 sp, .int .i64 sq, .bool sd, .int .i64 cd] 47)), W = i.W) → VarA W w.heap.size 47 #[.int .i64 3, .int .i64 fr, .int .i64 rq, .int .i64 ok, .int .i64 op_, .int .i64 oq, .bool od, .slice a1 n1 c1, .int .i64 tp, .int .i64 tq, .bool td, .slice a2 n2 c2, .int .i64 ov, .int .i64 hp, .int .i64 hq, .bool hd, .int .i64 rc, .int .i64 rp_, .int .i64 rq_, .bool rd, .int .i64 rv, .slice a3 n3 c3, .int .i64 xs, .int .i64 xb, .int .i64 xn, .int .i64 pk, .int .i64 pp, .int .i64 pq, .bool pd, .slice a4 n4 c4, .int .i64 sp, .int .i64 sq, .bool sd, .int .i64 cd] := fun W ⟨i, hi⟩ => by rw [hi]; exact VarA.step vA i.h
 clear vA
 cases bc
 all_goals
  repeat (first | go_values | go_skip | go_guarded | go_step)
  refine wp_region_cls (by kernel_rfl) (by kernel_rfl) ?_
  (refine wpQuiet_loadA hVM rfl rfl Tryz.underlying47 rfl (by kernel_rfl) ?_); simp only [Act.put, List.setIfInBounds_toArray, List.set_cons_succ, List.set_cons_zero]
  repeat (go_big_quiet_step (first | (go_at_call 78; exact Calls.cls (HHA.out _ (HB.out.trans ((Cls.h _).mono HB.out.size)))) | (go_at_call 80; exact Calls.cls (HJU.out _)) | (go_at_call 79; exact Calls.cls (HSA.out _ (HB.out.trans ((Cls.h _).mono HB.out.size))))))
  try
   (refine wpQuiet_loadA hVM rfl rfl Tryz.underlying47 rfl (by kernel_rfl) ?_); simp only [Act.put, List.setIfInBounds_toArray, List.set_cons_succ, List.set_cons_zero]
   (refine wpQuiet_loadA hVM rfl rfl Tryz.underlying47 rfl (by kernel_rfl) ?_); simp only [Act.put, List.setIfInBounds_toArray, List.set_cons_succ, List.set_cons_zero]
   repeat (go_big_quiet_step (first | (go_at_call 78; exact Calls.cls (HHA.out _ (HB.out.trans ((Cls.h _).mono HB.out.size)))) | (go_at_call 80; exact Calls.cls (HJU.out _)) | (go_at_call 79; exact Calls.cls (HSA.out _ (HB.out.trans ((Cls.h _).mono HB.out.size))))))
  refine wpQuiet_nil ?_
  rintro w' ⟨⟨w', b_⟩, rfl⟩
  have HB_ : Hid _ := HB.out.trans (b_.mono HB.out.size)
  clear HHA HJU HSA hVM this b_
  go_wp2
  go_ret
  exact ⟨by first | rfl | simp, HB_.out⟩
set_option maxHeartbeats 8000000 in
theorem implRec4 (m : MsD) (a1 a2 a3 a4 : Option Addr) (n1 n2 n3 n4 c1 c2 c3 c4 : Nat) (S : Nat → Prop) (w : World) (r : RdM w S m (.slice a1 n1 c1) (.slice a2 n2 c2) (.slice a3 n3 c3) (.slice a4 n4 c4)) (hl : szMs m ≤ 2097152) (hk : m.kind = 4) :
  Calls Tryz.prog 20 #[rcV m (.slice a1 n1 c1) (.slice a2 n2 c2) (.slice a3 n3 c3) (.slice a4 n4 c4)] w fun e w' => e = .returned (.bool (COk m)) ∧ Below w.heap.size w w' := by
 have HHA : Hid (∀ W, Below w.heap.size w W → _) := fun W hW => hasOk4 m a1 a2 a3 a4 n1 n2 n3 n4 c1 c2 c3 c4 S W (r.step hW) hl hk
 obtain ⟨r1, r2, r3, r4⟩ := r
 unfold szMs at hl
 have HJU : Hid (∀ W, _) := fun W => justOf4 m a1 a2 a3 a4 n1 n2 n3 n4 c1 c2 c3 c4 W hk
 have HSA : Hid (∀ W, Below w.heap.size w W → _) := fun W hW => sameRecord_any 4 m.to m.fr 0 m.req 0 m.code m.code m.op op0 m.rp rp0 m.tx m.tx m.pt pt0 m.h hd0 a1 a2 a3 a4 n1 n2 n3 n4 c1 c2 c3 c4 none none none none 0 0 0 0 0 0 0 0 (zOp m.op) (zRp m.rp) (zPt m.pt) W
  (fun V hV => sameOp_zero _ _ m.op S V (r1.step (hW.trans (hV.mono hW.size))) (r2.step (hW.trans (hV.mono hW.size))))
  (fun V hV => sameReply_zero _ m.rp S V (r3.step (hW.trans (hV.mono hW.size))))
  (fun V hV => samePart_zero _ m.pt S V (r4.step (hW.trans (hV.mono hW.size))))
 have hres : COk m = ((TOk m.tx && (decide (m.code = 0) || decide (m.code = 1))) && (decide (m.fr = 0) && (decide (m.req = 0) && (zOp m.op && (decide (m.h = hd0) && (zRp m.rp && (decide (m.tx = m.tx) && (zPt m.pt && decide (m.code = m.code))))))))) := by
  simp [COk, CBody, hk, zTx, tx0, hd0, Bool.and_assoc]
 rw [hres]
 generalize (TOk m.tx && (decide (m.code = 0) || decide (m.code = 1))) = bc at HHA ⊢
 generalize (decide (m.fr = 0) && (decide (m.req = 0) && (zOp m.op && (decide (m.h = hd0) && (zRp m.rp && (decide (m.tx = m.tx) && (zPt m.pt && decide (m.code = m.code)))))))) = bs at HSA ⊢
 clear r1 r2 r3 r4 hl hres
 obtain ⟨kd, fr, to, rq, ⟨ok, ⟨op_, oq, od⟩, nm, ⟨tp, tq, td⟩, asn, ov⟩, ⟨rc, ⟨rp_, rq_, rd⟩, rv, es⟩, ⟨xs, xb, xn⟩, ⟨pk, ⟨pp, pq, pd⟩, pas, ⟨sp, sq, sd⟩⟩, cd, ⟨hp, hq, hd⟩⟩ := m
 dsimp only at hk HHA HJU HSA ⊢
 subst hk
 go_enter Tryz.func20, Tryz.ntmps20
 have HB : Hid (Below w.heap.size w (w.alloc (.cells #[.int .i64 4, .int .i64 fr, .int .i64 rq, .int .i64 ok, .int .i64 op_, .int .i64 oq, .bool od, .slice a1 n1 c1, .int .i64 tp, .int .i64 tq, .bool td, .slice a2 n2 c2, .int .i64 ov, .int .i64 hp, .int .i64 hq, .bool hd, .int .i64 rc, .int .i64 rp_, .int .i64 rq_, .bool rd, .int .i64 rv, .slice a3 n3 c3, .int .i64 xs, .int .i64 xb, .int .i64 xn, .int .i64 pk, .int .i64 pp, .int .i64 pq, .bool pd, .slice a4 n4 c4, .int .i64 sp, .int .i64 sq, .bool sd, .int .i64 cd] 47))) := Below.newH _
 have vA : VarA (w.alloc (.cells #[.int .i64 4, .int .i64 fr, .int .i64 rq, .int .i64 ok, .int .i64 op_, .int .i64 oq, .bool od, .slice a1 n1 c1, .int .i64 tp, .int .i64 tq, .bool td, .slice a2 n2 c2, .int .i64 ov, .int .i64 hp, .int .i64 hq, .bool hd, .int .i64 rc, .int .i64 rp_, .int .i64 rq_, .bool rd, .int .i64 rv, .slice a3 n3 c3, .int .i64 xs, .int .i64 xb, .int .i64 xn, .int .i64 pk, .int .i64 pp, .int .i64 pq, .bool pd, .slice a4 n4 c4, .int .i64 sp, .int .i64 sq, .bool sd, .int .i64 cd] 47)) w.heap.size 47 #[.int .i64 4, .int .i64 fr, .int .i64 rq, .int .i64 ok, .int .i64 op_, .int .i64 oq, .bool od, .slice a1 n1 c1, .int .i64 tp, .int .i64 tq, .bool td, .slice a2 n2 c2, .int .i64 ov, .int .i64 hp, .int .i64 hq, .bool hd, .int .i64 rc, .int .i64 rp_, .int .i64 rq_, .bool rd, .int .i64 rv, .slice a3 n3 c3, .int .i64 xs, .int .i64 xb, .int .i64 xn, .int .i64 pk, .int .i64 pp, .int .i64 pq, .bool pd, .slice a4 n4 c4, .int .i64 sp, .int .i64 sq, .bool sd, .int .i64 cd] := VarA.new w _ _
 haveI := VarA.ne vA
 have hVM : ∀ W, (∃ i : Cls (w.alloc (.cells #[.int .i64 4, .int .i64 fr, .int .i64 rq, .int .i64 ok, .int .i64 op_, .int .i64 oq, .bool od, .slice a1 n1 c1, .int .i64 tp, .int .i64 tq, .bool td, .slice a2 n2 c2, .int .i64 ov, .int .i64 hp, .int .i64 hq, .bool hd, .int .i64 rc, .int .i64 rp_, .int .i64 rq_, .bool rd, .int .i64 rv, .slice a3 n3 c3, .int .i64 xs, .int .i64 xb, .int .i64 xn, .int .i64 pk, .int .i64 pp, .int .i64 pq, .bool pd, .slice a4 n4 c4, .int .i64 sp, .int .i64 sq, .bool sd, .int .i64 cd] 47)), W = i.W) → VarA W w.heap.size 47 #[.int .i64 4, .int .i64 fr, .int .i64 rq, .int .i64 ok, .int .i64 op_, .int .i64 oq, .bool od, .slice a1 n1 c1, .int .i64 tp, .int .i64 tq, .bool td, .slice a2 n2 c2, .int .i64 ov, .int .i64 hp, .int .i64 hq, .bool hd, .int .i64 rc, .int .i64 rp_, .int .i64 rq_, .bool rd, .int .i64 rv, .slice a3 n3 c3, .int .i64 xs, .int .i64 xb, .int .i64 xn, .int .i64 pk, .int .i64 pp, .int .i64 pq, .bool pd, .slice a4 n4 c4, .int .i64 sp, .int .i64 sq, .bool sd, .int .i64 cd] := fun W ⟨i, hi⟩ => by rw [hi]; exact VarA.step vA i.h
 clear vA
 cases bc
 all_goals
  repeat (first | go_values | go_skip | go_guarded | go_step)
  refine wp_region_cls (by kernel_rfl) (by kernel_rfl) ?_
  (refine wpQuiet_loadA hVM rfl rfl Tryz.underlying47 rfl (by kernel_rfl) ?_); simp only [Act.put, List.setIfInBounds_toArray, List.set_cons_succ, List.set_cons_zero]
  repeat (go_big_quiet_step (first | (go_at_call 78; exact Calls.cls (HHA.out _ (HB.out.trans ((Cls.h _).mono HB.out.size)))) | (go_at_call 80; exact Calls.cls (HJU.out _)) | (go_at_call 79; exact Calls.cls (HSA.out _ (HB.out.trans ((Cls.h _).mono HB.out.size))))))
  try
   (refine wpQuiet_loadA hVM rfl rfl Tryz.underlying47 rfl (by kernel_rfl) ?_); simp only [Act.put, List.setIfInBounds_toArray, List.set_cons_succ, List.set_cons_zero]
   (refine wpQuiet_loadA hVM rfl rfl Tryz.underlying47 rfl (by kernel_rfl) ?_); simp only [Act.put, List.setIfInBounds_toArray, List.set_cons_succ, List.set_cons_zero]
   repeat (go_big_quiet_step (first | (go_at_call 78; exact Calls.cls (HHA.out _ (HB.out.trans ((Cls.h _).mono HB.out.size)))) | (go_at_call 80; exact Calls.cls (HJU.out _)) | (go_at_call 79; exact Calls.cls (HSA.out _ (HB.out.trans ((Cls.h _).mono HB.out.size))))))
  refine wpQuiet_nil ?_
  rintro w' ⟨⟨w', b_⟩, rfl⟩
  have HB_ : Hid _ := HB.out.trans (b_.mono HB.out.size)
  clear HHA HJU HSA hVM this b_
  go_wp2
  go_ret
  exact ⟨by first | rfl | simp, HB_.out⟩
set_option maxHeartbeats 4000000 in
theorem hasBad (m : MsD) (a1 a2 a3 a4 : Option Addr) (n1 n2 n3 n4 c1 c2 c3 c4 : Nat) (w : World) (hk : m.kind < 0 ∨ 4 < m.kind) :
  Calls Tryz.prog 78 #[rcV m (.slice a1 n1 c1) (.slice a2 n2 c2) (.slice a3 n3 c3) (.slice a4 n4 c4)] w fun e w' => e = .returned (.bool false) ∧ Below w.heap.size w w' := by
 obtain ⟨kd, fr, to, rq, ⟨ok, ⟨op_, oq, od⟩, nm, ⟨tp, tq, td⟩, asn, ov⟩, ⟨rc, ⟨rp_, rq_, rd⟩, rv, es⟩, ⟨xs, xb, xn⟩, ⟨pk, ⟨pp, pq, pd⟩, pas, ⟨sp, sq, sd⟩⟩, cd, ⟨hp, hq, hd⟩⟩ := m
 dsimp only at hk ⊢
 go_enter Tryz.func78, Tryz.ntmps78
 go_wp2
 all_goals first | (go_ret; exact ⟨rfl, by repeat (first | exact Below.refl _ _ | refine Below.al ?_ _ | refine Below.drew ?_ | refine below_drewN2 ?_ _)⟩) | (exfalso; omega)
set_option maxHeartbeats 4000000 in
theorem implRecBad (m : MsD) (a1 a2 a3 a4 : Option Addr) (n1 n2 n3 n4 c1 c2 c3 c4 : Nat) (w : World) (hk : m.kind < 0 ∨ 4 < m.kind) :
  Calls Tryz.prog 20 #[rcV m (.slice a1 n1 c1) (.slice a2 n2 c2) (.slice a3 n3 c3) (.slice a4 n4 c4)] w fun e w' => e = .returned (.bool (COk m)) ∧ Below w.heap.size w w' := by
 have HF : Hid (COk m = false) := by show _ = _; unfold COk; rcases hk with h | h <;> simp <;> omega
 rw [HF.out]
 have HHA : Hid (∀ W, _) := fun W => hasBad m a1 a2 a3 a4 n1 n2 n3 n4 c1 c2 c3 c4 W hk
 clear HF
 obtain ⟨kd, fr, to, rq, ⟨ok, ⟨op_, oq, od⟩, nm, ⟨tp, tq, td⟩, asn, ov⟩, ⟨rc, ⟨rp_, rq_, rd⟩, rv, es⟩, ⟨xs, xb, xn⟩, ⟨pk, ⟨pp, pq, pd⟩, pas, ⟨sp, sq, sd⟩⟩, cd, ⟨hp, hq, hd⟩⟩ := m
 dsimp only at hk HHA ⊢
 go_enter Tryz.func20, Tryz.ntmps20
 have HB : Hid (Below w.heap.size w (w.alloc (.cells #[.int .i64 kd, .int .i64 fr, .int .i64 rq, .int .i64 ok, .int .i64 op_, .int .i64 oq, .bool od, .slice a1 n1 c1, .int .i64 tp, .int .i64 tq, .bool td, .slice a2 n2 c2, .int .i64 ov, .int .i64 hp, .int .i64 hq, .bool hd, .int .i64 rc, .int .i64 rp_, .int .i64 rq_, .bool rd, .int .i64 rv, .slice a3 n3 c3, .int .i64 xs, .int .i64 xb, .int .i64 xn, .int .i64 pk, .int .i64 pp, .int .i64 pq, .bool pd, .slice a4 n4 c4, .int .i64 sp, .int .i64 sq, .bool sd, .int .i64 cd] 47))) := Below.newH _
 have vA : VarA (w.alloc (.cells #[.int .i64 kd, .int .i64 fr, .int .i64 rq, .int .i64 ok, .int .i64 op_, .int .i64 oq, .bool od, .slice a1 n1 c1, .int .i64 tp, .int .i64 tq, .bool td, .slice a2 n2 c2, .int .i64 ov, .int .i64 hp, .int .i64 hq, .bool hd, .int .i64 rc, .int .i64 rp_, .int .i64 rq_, .bool rd, .int .i64 rv, .slice a3 n3 c3, .int .i64 xs, .int .i64 xb, .int .i64 xn, .int .i64 pk, .int .i64 pp, .int .i64 pq, .bool pd, .slice a4 n4 c4, .int .i64 sp, .int .i64 sq, .bool sd, .int .i64 cd] 47)) w.heap.size 47 #[.int .i64 kd, .int .i64 fr, .int .i64 rq, .int .i64 ok, .int .i64 op_, .int .i64 oq, .bool od, .slice a1 n1 c1, .int .i64 tp, .int .i64 tq, .bool td, .slice a2 n2 c2, .int .i64 ov, .int .i64 hp, .int .i64 hq, .bool hd, .int .i64 rc, .int .i64 rp_, .int .i64 rq_, .bool rd, .int .i64 rv, .slice a3 n3 c3, .int .i64 xs, .int .i64 xb, .int .i64 xn, .int .i64 pk, .int .i64 pp, .int .i64 pq, .bool pd, .slice a4 n4 c4, .int .i64 sp, .int .i64 sq, .bool sd, .int .i64 cd] := VarA.new w _ _
 haveI := VarA.ne vA
 have hVM : ∀ W, (∃ i : Cls (w.alloc (.cells #[.int .i64 kd, .int .i64 fr, .int .i64 rq, .int .i64 ok, .int .i64 op_, .int .i64 oq, .bool od, .slice a1 n1 c1, .int .i64 tp, .int .i64 tq, .bool td, .slice a2 n2 c2, .int .i64 ov, .int .i64 hp, .int .i64 hq, .bool hd, .int .i64 rc, .int .i64 rp_, .int .i64 rq_, .bool rd, .int .i64 rv, .slice a3 n3 c3, .int .i64 xs, .int .i64 xb, .int .i64 xn, .int .i64 pk, .int .i64 pp, .int .i64 pq, .bool pd, .slice a4 n4 c4, .int .i64 sp, .int .i64 sq, .bool sd, .int .i64 cd] 47)), W = i.W) → VarA W w.heap.size 47 #[.int .i64 kd, .int .i64 fr, .int .i64 rq, .int .i64 ok, .int .i64 op_, .int .i64 oq, .bool od, .slice a1 n1 c1, .int .i64 tp, .int .i64 tq, .bool td, .slice a2 n2 c2, .int .i64 ov, .int .i64 hp, .int .i64 hq, .bool hd, .int .i64 rc, .int .i64 rp_, .int .i64 rq_, .bool rd, .int .i64 rv, .slice a3 n3 c3, .int .i64 xs, .int .i64 xb, .int .i64 xn, .int .i64 pk, .int .i64 pp, .int .i64 pq, .bool pd, .slice a4 n4 c4, .int .i64 sp, .int .i64 sq, .bool sd, .int .i64 cd] := fun W ⟨i, hi⟩ => by rw [hi]; exact VarA.step vA i.h
 clear vA
 all_goals
  repeat (first | go_values | go_skip | go_guarded | go_step)
  refine wp_region_cls (by kernel_rfl) (by kernel_rfl) ?_
  (refine wpQuiet_loadA hVM rfl rfl Tryz.underlying47 rfl (by kernel_rfl) ?_); simp only [Act.put, List.setIfInBounds_toArray, List.set_cons_succ, List.set_cons_zero]
  repeat (go_big_quiet_step (first | (go_at_call 78; exact Calls.cls (HHA.out _)) | fail))
  try
   (refine wpQuiet_loadA hVM rfl rfl Tryz.underlying47 rfl (by kernel_rfl) ?_); simp only [Act.put, List.setIfInBounds_toArray, List.set_cons_succ, List.set_cons_zero]
   (refine wpQuiet_loadA hVM rfl rfl Tryz.underlying47 rfl (by kernel_rfl) ?_); simp only [Act.put, List.setIfInBounds_toArray, List.set_cons_succ, List.set_cons_zero]
   repeat (go_big_quiet_step (first | (go_at_call 78; exact Calls.cls (HHA.out _)) | fail))
  refine wpQuiet_nil ?_
  rintro w' ⟨⟨w', b_⟩, rfl⟩
  have HB_ : Hid _ := HB.out.trans (b_.mono HB.out.size)
  clear HHA hVM this b_
  go_wp2
  go_ret
  exact ⟨by first | rfl | simp, HB_.out⟩
theorem implRecordOk_any (x y z u : Value) (m : MsD) (S : Nat → Prop) (w : World) (r : RdM w S m x y z u) (hl : szMs m ≤ 2097152) :
  Calls Tryz.prog 20 #[rcV m x y z u] w fun e w' => e = .returned (.bool (COk m)) ∧ Below w.heap.size w w' := by
 obtain ⟨a1, c1, rfl⟩ := r.1.sliceB
 obtain ⟨a2, c2, rfl⟩ := r.2.1.sliceB
 obtain ⟨a3, c3, rfl, _⟩ := RdV.sliced r.2.2.1
 obtain ⟨a4, c4, rfl⟩ := r.2.2.2.sliceB
 by_cases hk : m.kind < 0 ∨ 4 < m.kind
 ·exact implRecBad m _ _ _ _ _ _ _ _ _ _ _ _ w hk
 ·have h : m.kind = 0 ∨ m.kind = 1 ∨ m.kind = 2 ∨ m.kind = 3 ∨ m.kind = 4 := by omega
  rcases h with h | h | h | h | h
  ·exact implRec0 m _ _ _ _ _ _ _ _ _ _ _ _ S w r hl h
  ·exact implRec1 m _ _ _ _ _ _ _ _ _ _ _ _ S w r hl h
  ·exact implRec2 m _ _ _ _ _ _ _ _ _ _ _ _ S w r hl h
  ·exact implRec3 m _ _ _ _ _ _ _ _ _ _ _ _ S w r hl h
  ·exact implRec4 m _ _ _ _ _ _ _ _ _ _ _ _ S w r hl h
end Go.Proofs.YtklhikadhohjbaaGreat
