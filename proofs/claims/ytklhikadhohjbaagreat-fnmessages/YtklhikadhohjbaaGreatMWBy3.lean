/- The specification writes messages, kind by kind. Condition: at most 12 entries, no more than 2^20 of all. -/
import Derived.Test.YtklhikadhohjbaaGreatMA02
namespace Go.Proofs.YtklhikadhohjbaaGreat
open Go.RowKit
set_option linter.unusedVariables false
set_option linter.unusedSimpArgs false
set_option maxRecDepth 100000

set_option maxHeartbeats 8000000 in
theorem specBytes0 (m : MsD) (x y z u : Value) (S : Nat → Prop) (w : World) (r : RdM w S m x y z u) (hl : szMs m ≤ 1048576) (h12 : m.rp.list.length ≤ 12) (hk : m.kind = 0) : Ap 157 #[msV m x y z u] w (msB m) := by
 obtain ⟨r1, r2, r3, r4⟩ := r
 obtain ⟨kd, fr, to, rq, ⟨ok, ⟨op_, oq, od⟩, nm, ⟨tp, tq, td⟩, asn, ov⟩, ⟨rc, ⟨rp_, rq_, rd⟩, rv, es⟩, ⟨xs, xb, xn⟩, ⟨pk, ⟨pp, pq, pd⟩, pas, ⟨sp, sq, sd⟩⟩, cd, ⟨hp, hq, hd⟩⟩ := m
 unfold szMs at hl
 dsimp only at r1 r2 r3 r4 hl h12 hk ⊢
 subst hk
 have HX : Hid (∀ W, Below w.heap.size w W → _) := r1.old
 have HY : Hid (∀ W, Below w.heap.size w W → _) := r2.old
 have HZL : Hid (∀ W, Below w.heap.size w W → _) := r3.old
 have HUL : Hid (∀ W, Below w.heap.size w W → _) := r4.old
 have hes : szEns es ≤ 1048576 := by omega
 clear r1 r2 r3 r4
 have g0 := putB_len 0
 have g1 := putB_len fr
 have g2 := putB_len to
 have g3 := putB_len rq
 have g4 := opB_len ⟨ok, (op_, oq, od), nm, (tp, tq, td), asn, ov⟩
 have g5 := txB_len (xs, xb, xn)
 have g6 := ptB_len ⟨pk, (pp, pq, pd), pas, (sp, sq, sd)⟩
 have g7 := putB_len cd
 have HG : Hid (∀ v, v = Value.slice none 0 0 → ∀ W, RdV W (fun _ => True) v (.bytes [])) := fun v hv W => by rw [hv]; exact ⟨isBytes_nil, none, 0, 0, rfl, rfl, ⟨Nat.le_refl _, Nat.zero_le _, fun _ => ⟨rfl, rfl⟩⟩, .inl rfl⟩
 go_enter Tryz.func157, Tryz.ntmps157
 go_wp2_with fail
 all_goals first
  | (go_region_held3 (fun w' => w'.cell? ⟨w.heap.size, 0, none⟩ = some (.i 0) ∧ w'.cell? ⟨w.heap.size, 1, none⟩ = some (.i fr) ∧ w'.cell? ⟨w.heap.size, 2, none⟩ = some (.i to)) (first | go_keep | (refine ⟨?_, ?_, ?_⟩ <;> assumption)) (first
   | (go_at_call 219; (with_reducible refine Calls.mono (specPutR (.slice none 0 0) [] 0 _ _ (HG.out _ rfl _) (by simp)) ?_); rintro e w2 ⟨v1, rfl, z1, o1, b_⟩; have HB1 : Hid (Below w.heap.size w w2) := Below.trans (by repeat (first | apply bl1 | apply bl2 | apply bl3 | apply bl4)) (b_.mono (by simp [World.drew] <;> omega)); have vA1 := vaB b_; clear b_; have m0_1 := vA1.c 0 rfl; have m1_1 := vA1.c 1 rfl; have m2_1 := vA1.c 2 rfl)
   | (go_at_call 219; (with_reducible refine Calls.mono (specPutR v1 ([] ++ putB 0) fr _ _ ((Owns.step o1 (by repeat (first | apply bl1 | apply bl2 | apply bl3 | apply bl4))).rdT z1) (by simp only [List.length_append, List.length_nil]; omega)) ?_); rintro e w3 ⟨v2, rfl, z2, o2, b_⟩; have HB2 : Hid (Below w.heap.size w w3) := HB1.out.trans (Below.mono (Below.trans (by repeat (first | apply bl1 | apply bl2 | apply bl3 | apply bl4)) b_) HB1.out.size); have vA2 := VarA.step vA1 (Below.trans (by repeat (first | apply bl1 | apply bl2 | apply bl3 | apply bl4)) b_); clear b_; have m0_2 := vA2.c 0 rfl; have m1_2 := vA2.c 1 rfl; have m2_2 := vA2.c 2 rfl)
   | (go_at_call 219; (with_reducible refine Calls.mono (specPutR v2 ([] ++ putB 0 ++ putB fr) to _ _ ((Owns.step o2 (by repeat (first | apply bl1 | apply bl2 | apply bl3 | apply bl4))).rdT z2) (by simp only [List.length_append, List.length_nil]; omega)) ?_); rintro e w4 ⟨v3, rfl, z3, o3, b_⟩; have HB3 : Hid (Below w.heap.size w w4) := HB2.out.trans (Below.mono (Below.trans (by repeat (first | apply bl1 | apply bl2 | apply bl3 | apply bl4)) b_) HB2.out.size); have vA3 := VarA.step vA2 (Below.trans (by repeat (first | apply bl1 | apply bl2 | apply bl3 | apply bl4)) b_); clear b_; have m0_3 := vA3.c 0 rfl; have m1_3 := vA3.c 1 rfl; have m2_3 := vA3.c 2 rfl)))
  | skip
 all_goals
  have m0_ := vA3.c 0 rfl
  have m3_ := vA3.c 3 rfl
  have m4_ := vA3.c 4 rfl
  have m5_ := vA3.c 5 rfl
  have m6_ := vA3.c 6 rfl
  have m7_ := vA3.c 7 rfl
  have m8_ := vA3.c 8 rfl
  have m9_ := vA3.c 9 rfl
  have m10_ := vA3.c 10 rfl
  have m11_ := vA3.c 11 rfl
  have m12_ := vA3.c 12 rfl
  have m13_ := vA3.c 13 rfl
  go_wp2_with fail
 all_goals first
  | (go_region_held3 (fun w' => w'.cell? ⟨w.heap.size, 3, none⟩ = some (.i rq) ∧ w'.cell? ⟨w.heap.size, 4, none⟩ = some (.i ok) ∧ w'.cell? ⟨w.heap.size, 5, none⟩ = some (.i op_) ∧ w'.cell? ⟨w.heap.size, 6, none⟩ = some (.i oq) ∧ w'.cell? ⟨w.heap.size, 7, none⟩ = some (.bool od) ∧ w'.cell? ⟨w.heap.size, 8, none⟩ = some (x) ∧ w'.cell? ⟨w.heap.size, 9, none⟩ = some (.i tp) ∧ w'.cell? ⟨w.heap.size, 10, none⟩ = some (.i tq) ∧ w'.cell? ⟨w.heap.size, 11, none⟩ = some (.bool td) ∧ w'.cell? ⟨w.heap.size, 12, none⟩ = some (y) ∧ w'.cell? ⟨w.heap.size, 13, none⟩ = some (.i ov)) (first | go_keep | (refine ⟨?_, ?_, ?_, ?_, ?_, ?_, ?_, ?_, ?_, ?_, ?_⟩ <;> assumption)) (first
   | (go_at_call 219; (with_reducible refine Calls.mono (specPutR v3 ([] ++ putB 0 ++ putB fr ++ putB to) rq _ _ ((Owns.step o3 (by repeat (first | apply bl1 | apply bl2 | apply bl3 | apply bl4))).rdT z3) (by simp only [List.length_append, List.length_nil]; omega)) ?_); rintro e w5 ⟨v4, rfl, z4, o4, b_⟩; have HB4 : Hid (Below w.heap.size w w5) := HB3.out.trans (Below.mono (Below.trans (by repeat (first | apply bl1 | apply bl2 | apply bl3 | apply bl4)) b_) HB3.out.size); have vA4 := VarA.step vA3 (Below.trans (by repeat (first | apply bl1 | apply bl2 | apply bl3 | apply bl4)) b_); clear b_; have m0_4 := vA4.c 0 rfl; have m3_4 := vA4.c 3 rfl; have m4_4 := vA4.c 4 rfl; have m5_4 := vA4.c 5 rfl; have m6_4 := vA4.c 6 rfl; have m7_4 := vA4.c 7 rfl; have m8_4 := vA4.c 8 rfl; have m9_4 := vA4.c 9 rfl; have m10_4 := vA4.c 10 rfl; have m11_4 := vA4.c 11 rfl; have m12_4 := vA4.c 12 rfl; have m13_4 := vA4.c 13 rfl)
   | (go_at_call 220; (with_reducible refine Calls.mono (specOpR v4 ([] ++ putB 0 ++ putB fr ++ putB to ++ putB rq) ⟨ok, (op_, oq, od), nm, (tp, tq, td), asn, ov⟩ x y _ S _ ((Owns.step o4 (by repeat (first | apply bl1 | apply bl2 | apply bl3 | apply bl4))).rdT z4) (by simp only [List.length_append, List.length_nil]; omega) (HX.out _ (HB4.out.trans (Below.mono (by repeat (first | apply bl1 | apply bl2 | apply bl3 | apply bl4)) HB4.out.size))) (HY.out _ (HB4.out.trans (Below.mono (by repeat (first | apply bl1 | apply bl2 | apply bl3 | apply bl4)) HB4.out.size))) (by dsimp only; omega) (by dsimp only; omega)) ?_); rintro e w6 ⟨v5, rfl, z5, o5, b_⟩; have HB5 : Hid (Below w.heap.size w w6) := HB4.out.trans (Below.mono (Below.trans (by repeat (first | apply bl1 | apply bl2 | apply bl3 | apply bl4)) b_) HB4.out.size); have vA5 := VarA.step vA4 (Below.trans (by repeat (first | apply bl1 | apply bl2 | apply bl3 | apply bl4)) b_); clear b_; have m0_5 := vA5.c 0 rfl; have m3_5 := vA5.c 3 rfl; have m4_5 := vA5.c 4 rfl; have m5_5 := vA5.c 5 rfl; have m6_5 := vA5.c 6 rfl; have m7_5 := vA5.c 7 rfl; have m8_5 := vA5.c 8 rfl; have m9_5 := vA5.c 9 rfl; have m10_5 := vA5.c 10 rfl; have m11_5 := vA5.c 11 rfl; have m12_5 := vA5.c 12 rfl; have m13_5 := vA5.c 13 rfl)))
  | skip
 all_goals
  have m0_ : w6.cell? ⟨w.heap.size, 0, none⟩ = some (.i 0) := vA5.c 0 rfl
  go_wp2
  go_ret
  refine ⟨_, rfl, ?_, ?_, HB5.out⟩
  ·simpa [msB, msRest, List.append_assoc] using z5
  ·have o_ := o5.base (b' := w.heap.size) (by exact HB4.out.size)
   simpa [msB, msRest, List.append_assoc] using o_
set_option maxHeartbeats 8000000 in
theorem specBytes1 (m : MsD) (x y z u : Value) (S : Nat → Prop) (w : World) (r : RdM w S m x y z u) (hl : szMs m ≤ 1048576) (h12 : m.rp.list.length ≤ 12) (hk : m.kind = 1) : Ap 157 #[msV m x y z u] w (msB m) := by
 obtain ⟨r1, r2, r3, r4⟩ := r
 obtain ⟨kd, fr, to, rq, ⟨ok, ⟨op_, oq, od⟩, nm, ⟨tp, tq, td⟩, asn, ov⟩, ⟨rc, ⟨rp_, rq_, rd⟩, rv, es⟩, ⟨xs, xb, xn⟩, ⟨pk, ⟨pp, pq, pd⟩, pas, ⟨sp, sq, sd⟩⟩, cd, ⟨hp, hq, hd⟩⟩ := m
 unfold szMs at hl
 dsimp only at r1 r2 r3 r4 hl h12 hk ⊢
 subst hk
 have HX : Hid (∀ W, Below w.heap.size w W → _) := r1.old
 have HY : Hid (∀ W, Below w.heap.size w W → _) := r2.old
 have HZL : Hid (∀ W, Below w.heap.size w W → _) := r3.old
 have HUL : Hid (∀ W, Below w.heap.size w W → _) := r4.old
 have hes : szEns es ≤ 1048576 := by omega
 clear r1 r2 r3 r4
 have g0 := putB_len 1
 have g1 := putB_len fr
 have g2 := putB_len to
 have g3 := putB_len rq
 have g4 := opB_len ⟨ok, (op_, oq, od), nm, (tp, tq, td), asn, ov⟩
 have g5 := txB_len (xs, xb, xn)
 have g6 := ptB_len ⟨pk, (pp, pq, pd), pas, (sp, sq, sd)⟩
 have g7 := putB_len cd
 have HG : Hid (∀ v, v = Value.slice none 0 0 → ∀ W, RdV W (fun _ => True) v (.bytes [])) := fun v hv W => by rw [hv]; exact ⟨isBytes_nil, none, 0, 0, rfl, rfl, ⟨Nat.le_refl _, Nat.zero_le _, fun _ => ⟨rfl, rfl⟩⟩, .inl rfl⟩
 go_enter Tryz.func157, Tryz.ntmps157
 go_wp2_with fail
 all_goals first
  | (go_region_held3 (fun w' => w'.cell? ⟨w.heap.size, 0, none⟩ = some (.i 1) ∧ w'.cell? ⟨w.heap.size, 1, none⟩ = some (.i fr) ∧ w'.cell? ⟨w.heap.size, 2, none⟩ = some (.i to)) (first | go_keep | (refine ⟨?_, ?_, ?_⟩ <;> assumption)) (first
   | (go_at_call 219; (with_reducible refine Calls.mono (specPutR (.slice none 0 0) [] 1 _ _ (HG.out _ rfl _) (by simp)) ?_); rintro e w2 ⟨v1, rfl, z1, o1, b_⟩; have HB1 : Hid (Below w.heap.size w w2) := Below.trans (by repeat (first | apply bl1 | apply bl2 | apply bl3 | apply bl4)) (b_.mono (by simp [World.drew] <;> omega)); have vA1 := vaB b_; clear b_; have m0_1 := vA1.c 0 rfl; have m1_1 := vA1.c 1 rfl; have m2_1 := vA1.c 2 rfl)
   | (go_at_call 219; (with_reducible refine Calls.mono (specPutR v1 ([] ++ putB 1) fr _ _ ((Owns.step o1 (by repeat (first | apply bl1 | apply bl2 | apply bl3 | apply bl4))).rdT z1) (by simp only [List.length_append, List.length_nil]; omega)) ?_); rintro e w3 ⟨v2, rfl, z2, o2, b_⟩; have HB2 : Hid (Below w.heap.size w w3) := HB1.out.trans (Below.mono (Below.trans (by repeat (first | apply bl1 | apply bl2 | apply bl3 | apply bl4)) b_) HB1.out.size); have vA2 := VarA.step vA1 (Below.trans (by repeat (first | apply bl1 | apply bl2 | apply bl3 | apply bl4)) b_); clear b_; have m0_2 := vA2.c 0 rfl; have m1_2 := vA2.c 1 rfl; have m2_2 := vA2.c 2 rfl)
   | (go_at_call 219; (with_reducible refine Calls.mono (specPutR v2 ([] ++ putB 1 ++ putB fr) to _ _ ((Owns.step o2 (by repeat (first | apply bl1 | apply bl2 | apply bl3 | apply bl4))).rdT z2) (by simp only [List.length_append, List.length_nil]; omega)) ?_); rintro e w4 ⟨v3, rfl, z3, o3, b_⟩; have HB3 : Hid (Below w.heap.size w w4) := HB2.out.trans (Below.mono (Below.trans (by repeat (first | apply bl1 | apply bl2 | apply bl3 | apply bl4)) b_) HB2.out.size); have vA3 := VarA.step vA2 (Below.trans (by repeat (first | apply bl1 | apply bl2 | apply bl3 | apply bl4)) b_); clear b_; have m0_3 := vA3.c 0 rfl; have m1_3 := vA3.c 1 rfl; have m2_3 := vA3.c 2 rfl)))
  | skip
 all_goals
  have m0_ := vA3.c 0 rfl
  have m3_ := vA3.c 3 rfl
  have m14_ := vA3.c 14 rfl
  have m15_ := vA3.c 15 rfl
  have m16_ := vA3.c 16 rfl
  have m17_ := vA3.c 17 rfl
  have m18_ := vA3.c 18 rfl
  have m19_ := vA3.c 19 rfl
  go_wp2_with fail
 all_goals first
  | (go_region_held3 (fun w' => w'.cell? ⟨w.heap.size, 3, none⟩ = some (.i rq) ∧ w'.cell? ⟨w.heap.size, 14, none⟩ = some (.i rc) ∧ w'.cell? ⟨w.heap.size, 15, none⟩ = some (.i rp_) ∧ w'.cell? ⟨w.heap.size, 16, none⟩ = some (.i rq_) ∧ w'.cell? ⟨w.heap.size, 17, none⟩ = some (.bool rd) ∧ w'.cell? ⟨w.heap.size, 18, none⟩ = some (.i rv) ∧ w'.cell? ⟨w.heap.size, 19, none⟩ = some (z)) (first | go_keep | (refine ⟨?_, ?_, ?_, ?_, ?_, ?_, ?_⟩ <;> assumption)) (first
   | (go_at_call 219; (with_reducible refine Calls.mono (specPutR v3 ([] ++ putB 1 ++ putB fr ++ putB to) rq _ _ ((Owns.step o3 (by repeat (first | apply bl1 | apply bl2 | apply bl3 | apply bl4))).rdT z3) (by simp only [List.length_append, List.length_nil]; omega)) ?_); rintro e w5 ⟨v4, rfl, z4, o4, b_⟩; have HB4 : Hid (Below w.heap.size w w5) := HB3.out.trans (Below.mono (Below.trans (by repeat (first | apply bl1 | apply bl2 | apply bl3 | apply bl4)) b_) HB3.out.size); have vA4 := VarA.step vA3 (Below.trans (by repeat (first | apply bl1 | apply bl2 | apply bl3 | apply bl4)) b_); clear b_; have m0_4 := vA4.c 0 rfl; have m3_4 := vA4.c 3 rfl; have m14_4 := vA4.c 14 rfl; have m15_4 := vA4.c 15 rfl; have m16_4 := vA4.c 16 rfl; have m17_4 := vA4.c 17 rfl; have m18_4 := vA4.c 18 rfl; have m19_4 := vA4.c 19 rfl)
   | (go_at_call 221; (with_reducible refine Calls.mono (specReplyR v4 ([] ++ putB 1 ++ putB fr ++ putB to ++ putB rq) ⟨rc, (rp_, rq_, rd), rv, es⟩ z _ S _ ((Owns.step o4 (by repeat (first | apply bl1 | apply bl2 | apply bl3 | apply bl4))).rdT z4) (by simp only [List.length_append, List.length_nil]; omega) (HZL.out _ (HB4.out.trans (Below.mono (by repeat (first | apply bl1 | apply bl2 | apply bl3 | apply bl4)) HB4.out.size))) (by dsimp only; omega) (by dsimp only; omega)) ?_); rintro e w6 ⟨v5, rfl, z5, o5, b_⟩; have HB5 : Hid (Below w.heap.size w w6) := HB4.out.trans (Below.mono (Below.trans (by repeat (first | apply bl1 | apply bl2 | apply bl3 | apply bl4)) b_) HB4.out.size); have vA5 := VarA.step vA4 (Below.trans (by repeat (first | apply bl1 | apply bl2 | apply bl3 | apply bl4)) b_); clear b_; have m0_5 := vA5.c 0 rfl; have m3_5 := vA5.c 3 rfl; have m14_5 := vA5.c 14 rfl; have m15_5 := vA5.c 15 rfl; have m16_5 := vA5.c 16 rfl; have m17_5 := vA5.c 17 rfl; have m18_5 := vA5.c 18 rfl; have m19_5 := vA5.c 19 rfl)))
  | skip
 all_goals
  have m0_ : w6.cell? ⟨w.heap.size, 0, none⟩ = some (.i 1) := vA5.c 0 rfl
  go_wp2
  go_ret
  refine ⟨_, rfl, ?_, ?_, HB5.out⟩
  ·simpa [msB, msRest, List.append_assoc] using z5
  ·have o_ := o5.base (b' := w.heap.size) (by exact HB4.out.size)
   simpa [msB, msRest, List.append_assoc] using o_
set_option maxHeartbeats 8000000 in
theorem specBytes2 (m : MsD) (x y z u : Value) (S : Nat → Prop) (w : World) (r : RdM w S m x y z u) (hl : szMs m ≤ 1048576) (h12 : m.rp.list.length ≤ 12) (hk : m.kind = 2) : Ap 157 #[msV m x y z u] w (msB m) := by
 obtain ⟨r1, r2, r3, r4⟩ := r
 obtain ⟨kd, fr, to, rq, ⟨ok, ⟨op_, oq, od⟩, nm, ⟨tp, tq, td⟩, asn, ov⟩, ⟨rc, ⟨rp_, rq_, rd⟩, rv, es⟩, ⟨xs, xb, xn⟩, ⟨pk, ⟨pp, pq, pd⟩, pas, ⟨sp, sq, sd⟩⟩, cd, ⟨hp, hq, hd⟩⟩ := m
 unfold szMs at hl
 dsimp only at r1 r2 r3 r4 hl h12 hk ⊢
 subst hk
 have HX : Hid (∀ W, Below w.heap.size w W → _) := r1.old
 have HY : Hid (∀ W, Below w.heap.size w W → _) := r2.old
 have HZL : Hid (∀ W, Below w.heap.size w W → _) := r3.old
 have HUL : Hid (∀ W, Below w.heap.size w W → _) := r4.old
 have hes : szEns es ≤ 1048576 := by omega
 clear r1 r2 r3 r4
 have g0 := putB_len 2
 have g1 := putB_len fr
 have g2 := putB_len to
 have g3 := putB_len rq
 have g4 := opB_len ⟨ok, (op_, oq, od), nm, (tp, tq, td), asn, ov⟩
 have g5 := txB_len (xs, xb, xn)
 have g6 := ptB_len ⟨pk, (pp, pq, pd), pas, (sp, sq, sd)⟩
 have g7 := putB_len cd
 have HG : Hid (∀ v, v = Value.slice none 0 0 → ∀ W, RdV W (fun _ => True) v (.bytes [])) := fun v hv W => by rw [hv]; exact ⟨isBytes_nil, none, 0, 0, rfl, rfl, ⟨Nat.le_refl _, Nat.zero_le _, fun _ => ⟨rfl, rfl⟩⟩, .inl rfl⟩
 go_enter Tryz.func157, Tryz.ntmps157
 go_wp2_with fail
 all_goals first
  | (go_region_held3 (fun w' => w'.cell? ⟨w.heap.size, 0, none⟩ = some (.i 2) ∧ w'.cell? ⟨w.heap.size, 1, none⟩ = some (.i fr) ∧ w'.cell? ⟨w.heap.size, 2, none⟩ = some (.i to)) (first | go_keep | (refine ⟨?_, ?_, ?_⟩ <;> assumption)) (first
   | (go_at_call 219; (with_reducible refine Calls.mono (specPutR (.slice none 0 0) [] 2 _ _ (HG.out _ rfl _) (by simp)) ?_); rintro e w2 ⟨v1, rfl, z1, o1, b_⟩; have HB1 : Hid (Below w.heap.size w w2) := Below.trans (by repeat (first | apply bl1 | apply bl2 | apply bl3 | apply bl4)) (b_.mono (by simp [World.drew] <;> omega)); have vA1 := vaB b_; clear b_; have m0_1 := vA1.c 0 rfl; have m1_1 := vA1.c 1 rfl; have m2_1 := vA1.c 2 rfl)
   | (go_at_call 219; (with_reducible refine Calls.mono (specPutR v1 ([] ++ putB 2) fr _ _ ((Owns.step o1 (by repeat (first | apply bl1 | apply bl2 | apply bl3 | apply bl4))).rdT z1) (by simp only [List.length_append, List.length_nil]; omega)) ?_); rintro e w3 ⟨v2, rfl, z2, o2, b_⟩; have HB2 : Hid (Below w.heap.size w w3) := HB1.out.trans (Below.mono (Below.trans (by repeat (first | apply bl1 | apply bl2 | apply bl3 | apply bl4)) b_) HB1.out.size); have vA2 := VarA.step vA1 (Below.trans (by repeat (first | apply bl1 | apply bl2 | apply bl3 | apply bl4)) b_); clear b_; have m0_2 := vA2.c 0 rfl; have m1_2 := vA2.c 1 rfl; have m2_2 := vA2.c 2 rfl)
   | (go_at_call 219; (with_reducible refine Calls.mono (specPutR v2 ([] ++ putB 2 ++ putB fr) to _ _ ((Owns.step o2 (by repeat (first | apply bl1 | apply bl2 | apply bl3 | apply bl4))).rdT z2) (by simp only [List.length_append, List.length_nil]; omega)) ?_); rintro e w4 ⟨v3, rfl, z3, o3, b_⟩; have HB3 : Hid (Below w.heap.size w w4) := HB2.out.trans (Below.mono (Below.trans (by repeat (first | apply bl1 | apply bl2 | apply bl3 | apply bl4)) b_) HB2.out.size); have vA3 := VarA.step vA2 (Below.trans (by repeat (first | apply bl1 | apply bl2 | apply bl3 | apply bl4)) b_); clear b_; have m0_3 := vA3.c 0 rfl; have m1_3 := vA3.c 1 rfl; have m2_3 := vA3.c 2 rfl)))
  | skip
 all_goals
  have m0_ := vA3.c 0 rfl
  have m20_ := vA3.c 20 rfl
  have m21_ := vA3.c 21 rfl
  have m22_ := vA3.c 22 rfl
  have m23_ := vA3.c 23 rfl
  have m24_ := vA3.c 24 rfl
  have m25_ := vA3.c 25 rfl
  have m26_ := vA3.c 26 rfl
  have m27_ := vA3.c 27 rfl
  have m28_ := vA3.c 28 rfl
  have m29_ := vA3.c 29 rfl
  have m30_ := vA3.c 30 rfl
  go_wp2_with (first
  | (go_at_call 222; (with_reducible refine Calls.mono (specTxR v3 ([] ++ putB 2 ++ putB fr ++ putB to) (xs, xb, xn) _ (fun _ => True) _ ((Owns.step o3 (by repeat (first | apply bl1 | apply bl2 | apply bl3 | apply bl4))).rdT z3) (by simp only [List.length_append, List.length_nil]; omega)) ?_); rintro e w5 ⟨v4, rfl, z4, o4, b_⟩; have HB4 : Hid (Below w.heap.size w w5) := HB3.out.trans (Below.mono (Below.trans (by repeat (first | apply bl1 | apply bl2 | apply bl3 | apply bl4)) b_) HB3.out.size); have vA4 := VarA.step vA3 (Below.trans (by repeat (first | apply bl1 | apply bl2 | apply bl3 | apply bl4)) b_); clear b_; have m0_4 := vA4.c 0 rfl; have m20_4 := vA4.c 20 rfl; have m21_4 := vA4.c 21 rfl; have m22_4 := vA4.c 22 rfl; have m23_4 := vA4.c 23 rfl; have m24_4 := vA4.c 24 rfl; have m25_4 := vA4.c 25 rfl; have m26_4 := vA4.c 26 rfl; have m27_4 := vA4.c 27 rfl; have m28_4 := vA4.c 28 rfl; have m29_4 := vA4.c 29 rfl; have m30_4 := vA4.c 30 rfl)
  | (go_at_call 223; (with_reducible refine Calls.mono (specPartR v4 ([] ++ putB 2 ++ putB fr ++ putB to ++ txB (xs, xb, xn)) ⟨pk, (pp, pq, pd), pas, (sp, sq, sd)⟩ u _ S _ ((Owns.step o4 (by repeat (first | apply bl1 | apply bl2 | apply bl3 | apply bl4))).rdT z4) (by simp only [List.length_append, List.length_nil]; omega) (HUL.out _ (HB4.out.trans (Below.mono (by repeat (first | apply bl1 | apply bl2 | apply bl3 | apply bl4)) HB4.out.size))) (by dsimp only; omega)) ?_); rintro e w6 ⟨v5, rfl, z5, o5, b_⟩; have HB5 : Hid (Below w.heap.size w w6) := HB4.out.trans (Below.mono (Below.trans (by repeat (first | apply bl1 | apply bl2 | apply bl3 | apply bl4)) b_) HB4.out.size); have vA5 := VarA.step vA4 (Below.trans (by repeat (first | apply bl1 | apply bl2 | apply bl3 | apply bl4)) b_); clear b_; have m0_5 := vA5.c 0 rfl; have m20_5 := vA5.c 20 rfl; have m21_5 := vA5.c 21 rfl; have m22_5 := vA5.c 22 rfl; have m23_5 := vA5.c 23 rfl; have m24_5 := vA5.c 24 rfl; have m25_5 := vA5.c 25 rfl; have m26_5 := vA5.c 26 rfl; have m27_5 := vA5.c 27 rfl; have m28_5 := vA5.c 28 rfl; have m29_5 := vA5.c 29 rfl; have m30_5 := vA5.c 30 rfl))
 all_goals
  have m0_ : w6.cell? ⟨w.heap.size, 0, none⟩ = some (.i 2) := vA5.c 0 rfl
  go_wp2
  go_ret
  refine ⟨_, rfl, ?_, ?_, HB5.out⟩
  ·simpa [msB, msRest, List.append_assoc] using z5
  ·have o_ := o5.base (b' := w.heap.size) (by exact HB4.out.size)
   simpa [msB, msRest, List.append_assoc] using o_
set_option maxHeartbeats 8000000 in
theorem specBytes3 (m : MsD) (x y z u : Value) (S : Nat → Prop) (w : World) (r : RdM w S m x y z u) (hl : szMs m ≤ 1048576) (h12 : m.rp.list.length ≤ 12) (hk : m.kind = 3) : Ap 157 #[msV m x y z u] w (msB m) := by
 obtain ⟨r1, r2, r3, r4⟩ := r
 obtain ⟨kd, fr, to, rq, ⟨ok, ⟨op_, oq, od⟩, nm, ⟨tp, tq, td⟩, asn, ov⟩, ⟨rc, ⟨rp_, rq_, rd⟩, rv, es⟩, ⟨xs, xb, xn⟩, ⟨pk, ⟨pp, pq, pd⟩, pas, ⟨sp, sq, sd⟩⟩, cd, ⟨hp, hq, hd⟩⟩ := m
 unfold szMs at hl
 dsimp only at r1 r2 r3 r4 hl h12 hk ⊢
 subst hk
 have HX : Hid (∀ W, Below w.heap.size w W → _) := r1.old
 have HY : Hid (∀ W, Below w.heap.size w W → _) := r2.old
 have HZL : Hid (∀ W, Below w.heap.size w W → _) := r3.old
 have HUL : Hid (∀ W, Below w.heap.size w W → _) := r4.old
 have hes : szEns es ≤ 1048576 := by omega
 clear r1 r2 r3 r4
 have g0 := putB_len 3
 have g1 := putB_len fr
 have g2 := putB_len to
 have g3 := putB_len rq
 have g4 := opB_len ⟨ok, (op_, oq, od), nm, (tp, tq, td), asn, ov⟩
 have g5 := txB_len (xs, xb, xn)
 have g6 := ptB_len ⟨pk, (pp, pq, pd), pas, (sp, sq, sd)⟩
 have g7 := putB_len cd
 have HG : Hid (∀ v, v = Value.slice none 0 0 → ∀ W, RdV W (fun _ => True) v (.bytes [])) := fun v hv W => by rw [hv]; exact ⟨isBytes_nil, none, 0, 0, rfl, rfl, ⟨Nat.le_refl _, Nat.zero_le _, fun _ => ⟨rfl, rfl⟩⟩, .inl rfl⟩
 go_enter Tryz.func157, Tryz.ntmps157
 go_wp2_with fail
 all_goals first
  | (go_region_held3 (fun w' => w'.cell? ⟨w.heap.size, 0, none⟩ = some (.i 3) ∧ w'.cell? ⟨w.heap.size, 1, none⟩ = some (.i fr) ∧ w'.cell? ⟨w.heap.size, 2, none⟩ = some (.i to)) (first | go_keep | (refine ⟨?_, ?_, ?_⟩ <;> assumption)) (first
   | (go_at_call 219; (with_reducible refine Calls.mono (specPutR (.slice none 0 0) [] 3 _ _ (HG.out _ rfl _) (by simp)) ?_); rintro e w2 ⟨v1, rfl, z1, o1, b_⟩; have HB1 : Hid (Below w.heap.size w w2) := Below.trans (by repeat (first | apply bl1 | apply bl2 | apply bl3 | apply bl4)) (b_.mono (by simp [World.drew] <;> omega)); have vA1 := vaB b_; clear b_; have m0_1 := vA1.c 0 rfl; have m1_1 := vA1.c 1 rfl; have m2_1 := vA1.c 2 rfl)
   | (go_at_call 219; (with_reducible refine Calls.mono (specPutR v1 ([] ++ putB 3) fr _ _ ((Owns.step o1 (by repeat (first | apply bl1 | apply bl2 | apply bl3 | apply bl4))).rdT z1) (by simp only [List.length_append, List.length_nil]; omega)) ?_); rintro e w3 ⟨v2, rfl, z2, o2, b_⟩; have HB2 : Hid (Below w.heap.size w w3) := HB1.out.trans (Below.mono (Below.trans (by repeat (first | apply bl1 | apply bl2 | apply bl3 | apply bl4)) b_) HB1.out.size); have vA2 := VarA.step vA1 (Below.trans (by repeat (first | apply bl1 | apply bl2 | apply bl3 | apply bl4)) b_); clear b_; have m0_2 := vA2.c 0 rfl; have m1_2 := vA2.c 1 rfl; have m2_2 := vA2.c 2 rfl)
   | (go_at_call 219; (with_reducible refine Calls.mono (specPutR v2 ([] ++ putB 3 ++ putB fr) to _ _ ((Owns.step o2 (by repeat (first | apply bl1 | apply bl2 | apply bl3 | apply bl4))).rdT z2) (by simp only [List.length_append, List.length_nil]; omega)) ?_); rintro e w4 ⟨v3, rfl, z3, o3, b_⟩; have HB3 : Hid (Below w.heap.size w w4) := HB2.out.trans (Below.mono (Below.trans (by repeat (first | apply bl1 | apply bl2 | apply bl3 | apply bl4)) b_) HB2.out.size); have vA3 := VarA.step vA2 (Below.trans (by repeat (first | apply bl1 | apply bl2 | apply bl3 | apply bl4)) b_); clear b_; have m0_3 := vA3.c 0 rfl; have m1_3 := vA3.c 1 rfl; have m2_3 := vA3.c 2 rfl)))
  | skip
 all_goals
  have m0_ := vA3.c 0 rfl
  have m20_ := vA3.c 20 rfl
  have m21_ := vA3.c 21 rfl
  have m22_ := vA3.c 22 rfl
  have m23_ := vA3.c 23 rfl
  have m24_ := vA3.c 24 rfl
  have m25_ := vA3.c 25 rfl
  have m26_ := vA3.c 26 rfl
  have m27_ := vA3.c 27 rfl
  have m28_ := vA3.c 28 rfl
  have m29_ := vA3.c 29 rfl
  have m30_ := vA3.c 30 rfl
  have m31_ := vA3.c 31 rfl
  have m32_ := vA3.c 32 rfl
  have m33_ := vA3.c 33 rfl
  have m34_ := vA3.c 34 rfl
  go_wp2_with (first
  | (go_at_call 222; (with_reducible refine Calls.mono (specTxR v3 ([] ++ putB 3 ++ putB fr ++ putB to) (xs, xb, xn) _ (fun _ => True) _ ((Owns.step o3 (by repeat (first | apply bl1 | apply bl2 | apply bl3 | apply bl4))).rdT z3) (by simp only [List.length_append, List.length_nil]; omega)) ?_); rintro e w5 ⟨v4, rfl, z4, o4, b_⟩; have HB4 : Hid (Below w.heap.size w w5) := HB3.out.trans (Below.mono (Below.trans (by repeat (first | apply bl1 | apply bl2 | apply bl3 | apply bl4)) b_) HB3.out.size); have vA4 := VarA.step vA3 (Below.trans (by repeat (first | apply bl1 | apply bl2 | apply bl3 | apply bl4)) b_); clear b_; have m0_4 := vA4.c 0 rfl; have m20_4 := vA4.c 20 rfl; have m21_4 := vA4.c 21 rfl; have m22_4 := vA4.c 22 rfl; have m23_4 := vA4.c 23 rfl; have m24_4 := vA4.c 24 rfl; have m25_4 := vA4.c 25 rfl; have m26_4 := vA4.c 26 rfl; have m27_4 := vA4.c 27 rfl; have m28_4 := vA4.c 28 rfl; have m29_4 := vA4.c 29 rfl; have m30_4 := vA4.c 30 rfl; have m31_4 := vA4.c 31 rfl; have m32_4 := vA4.c 32 rfl; have m33_4 := vA4.c 33 rfl; have m34_4 := vA4.c 34 rfl))
 all_goals first
  | (go_region_held3 (fun w' => w'.cell? ⟨w.heap.size, 23, none⟩ = some (.i pk) ∧ w'.cell? ⟨w.heap.size, 24, none⟩ = some (.i pp) ∧ w'.cell? ⟨w.heap.size, 25, none⟩ = some (.i pq) ∧ w'.cell? ⟨w.heap.size, 26, none⟩ = some (.bool pd) ∧ w'.cell? ⟨w.heap.size, 27, none⟩ = some (u) ∧ w'.cell? ⟨w.heap.size, 28, none⟩ = some (.i sp) ∧ w'.cell? ⟨w.heap.size, 29, none⟩ = some (.i sq) ∧ w'.cell? ⟨w.heap.size, 30, none⟩ = some (.bool sd) ∧ w'.cell? ⟨w.heap.size, 31, none⟩ = some (.i cd) ∧ w'.cell? ⟨w.heap.size, 32, none⟩ = some (.i hp) ∧ w'.cell? ⟨w.heap.size, 33, none⟩ = some (.i hq) ∧ w'.cell? ⟨w.heap.size, 34, none⟩ = some (.bool hd)) (first | go_keep | (refine ⟨?_, ?_, ?_, ?_, ?_, ?_, ?_, ?_, ?_, ?_, ?_, ?_⟩ <;> assumption)) (first
   | (go_at_call 223; (with_reducible refine Calls.mono (specPartR v4 ([] ++ putB 3 ++ putB fr ++ putB to ++ txB (xs, xb, xn)) ⟨pk, (pp, pq, pd), pas, (sp, sq, sd)⟩ u _ S _ ((Owns.step o4 (by repeat (first | apply bl1 | apply bl2 | apply bl3 | apply bl4))).rdT z4) (by simp only [List.length_append, List.length_nil]; omega) (HUL.out _ (HB4.out.trans (Below.mono (by repeat (first | apply bl1 | apply bl2 | apply bl3 | apply bl4)) HB4.out.size))) (by dsimp only; omega)) ?_); rintro e w6 ⟨v5, rfl, z5, o5, b_⟩; have HB5 : Hid (Below w.heap.size w w6) := HB4.out.trans (Below.mono (Below.trans (by repeat (first | apply bl1 | apply bl2 | apply bl3 | apply bl4)) b_) HB4.out.size); have vA5 := VarA.step vA4 (Below.trans (by repeat (first | apply bl1 | apply bl2 | apply bl3 | apply bl4)) b_); clear b_; have m0_5 := vA5.c 0 rfl; have m20_5 := vA5.c 20 rfl; have m21_5 := vA5.c 21 rfl; have m22_5 := vA5.c 22 rfl; have m23_5 := vA5.c 23 rfl; have m24_5 := vA5.c 24 rfl; have m25_5 := vA5.c 25 rfl; have m26_5 := vA5.c 26 rfl; have m27_5 := vA5.c 27 rfl; have m28_5 := vA5.c 28 rfl; have m29_5 := vA5.c 29 rfl; have m30_5 := vA5.c 30 rfl; have m31_5 := vA5.c 31 rfl; have m32_5 := vA5.c 32 rfl; have m33_5 := vA5.c 33 rfl; have m34_5 := vA5.c 34 rfl)
   | (go_at_call 219; (with_reducible refine Calls.mono (specPutR v5 ([] ++ putB 3 ++ putB fr ++ putB to ++ txB (xs, xb, xn) ++ ptB ⟨pk, (pp, pq, pd), pas, (sp, sq, sd)⟩) cd _ _ ((Owns.step o5 (by repeat (first | apply bl1 | apply bl2 | apply bl3 | apply bl4))).rdT z5) (by simp only [List.length_append, List.length_nil]; omega)) ?_); rintro e w7 ⟨v6, rfl, z6, o6, b_⟩; have HB6 : Hid (Below w.heap.size w w7) := HB5.out.trans (Below.mono (Below.trans (by repeat (first | apply bl1 | apply bl2 | apply bl3 | apply bl4)) b_) HB5.out.size); have vA6 := VarA.step vA5 (Below.trans (by repeat (first | apply bl1 | apply bl2 | apply bl3 | apply bl4)) b_); clear b_; have m0_6 := vA6.c 0 rfl; have m20_6 := vA6.c 20 rfl; have m21_6 := vA6.c 21 rfl; have m22_6 := vA6.c 22 rfl; have m23_6 := vA6.c 23 rfl; have m24_6 := vA6.c 24 rfl; have m25_6 := vA6.c 25 rfl; have m26_6 := vA6.c 26 rfl; have m27_6 := vA6.c 27 rfl; have m28_6 := vA6.c 28 rfl; have m29_6 := vA6.c 29 rfl; have m30_6 := vA6.c 30 rfl; have m31_6 := vA6.c 31 rfl; have m32_6 := vA6.c 32 rfl; have m33_6 := vA6.c 33 rfl; have m34_6 := vA6.c 34 rfl)
   | (go_at_call 224; (with_reducible refine Calls.mono (specHandX v6 ([] ++ putB 3 ++ putB fr ++ putB to ++ txB (xs, xb, xn) ++ ptB ⟨pk, (pp, pq, pd), pas, (sp, sq, sd)⟩ ++ putB cd) hp hq hd _ _ ((Owns.step o6 (by repeat (first | apply bl1 | apply bl2 | apply bl3 | apply bl4))).rdT z6) (by simp only [List.length_append, List.length_nil]; omega)) ?_); rintro e w8 ⟨v7, rfl, z7, o7, b_⟩; have HB7 : Hid (Below w.heap.size w w8) := HB6.out.trans (Below.mono (Below.trans (by repeat (first | apply bl1 | apply bl2 | apply bl3 | apply bl4)) b_) HB6.out.size); have vA7 := VarA.step vA6 (Below.trans (by repeat (first | apply bl1 | apply bl2 | apply bl3 | apply bl4)) b_); clear b_; have m0_7 := vA7.c 0 rfl; have m20_7 := vA7.c 20 rfl; have m21_7 := vA7.c 21 rfl; have m22_7 := vA7.c 22 rfl; have m23_7 := vA7.c 23 rfl; have m24_7 := vA7.c 24 rfl; have m25_7 := vA7.c 25 rfl; have m26_7 := vA7.c 26 rfl; have m27_7 := vA7.c 27 rfl; have m28_7 := vA7.c 28 rfl; have m29_7 := vA7.c 29 rfl; have m30_7 := vA7.c 30 rfl; have m31_7 := vA7.c 31 rfl; have m32_7 := vA7.c 32 rfl; have m33_7 := vA7.c 33 rfl; have m34_7 := vA7.c 34 rfl)))
  | skip
 all_goals
  have m0_ : w8.cell? ⟨w.heap.size, 0, none⟩ = some (.i 3) := vA7.c 0 rfl
  go_wp2
  go_ret
  refine ⟨_, rfl, ?_, ?_, HB7.out⟩
  ·simpa [msB, msRest, List.append_assoc] using z7
  ·have o_ := o7.base (b' := w.heap.size) (by exact HB6.out.size)
   simpa [msB, msRest, List.append_assoc] using o_
set_option maxHeartbeats 8000000 in
theorem specBytes4 (m : MsD) (x y z u : Value) (S : Nat → Prop) (w : World) (r : RdM w S m x y z u) (hl : szMs m ≤ 1048576) (h12 : m.rp.list.length ≤ 12) (hk : m.kind = 4) : Ap 157 #[msV m x y z u] w (msB m) := by
 obtain ⟨r1, r2, r3, r4⟩ := r
 obtain ⟨kd, fr, to, rq, ⟨ok, ⟨op_, oq, od⟩, nm, ⟨tp, tq, td⟩, asn, ov⟩, ⟨rc, ⟨rp_, rq_, rd⟩, rv, es⟩, ⟨xs, xb, xn⟩, ⟨pk, ⟨pp, pq, pd⟩, pas, ⟨sp, sq, sd⟩⟩, cd, ⟨hp, hq, hd⟩⟩ := m
 unfold szMs at hl
 dsimp only at r1 r2 r3 r4 hl h12 hk ⊢
 subst hk
 have HX : Hid (∀ W, Below w.heap.size w W → _) := r1.old
 have HY : Hid (∀ W, Below w.heap.size w W → _) := r2.old
 have HZL : Hid (∀ W, Below w.heap.size w W → _) := r3.old
 have HUL : Hid (∀ W, Below w.heap.size w W → _) := r4.old
 have hes : szEns es ≤ 1048576 := by omega
 clear r1 r2 r3 r4
 have g0 := putB_len 4
 have g1 := putB_len fr
 have g2 := putB_len to
 have g3 := putB_len rq
 have g4 := opB_len ⟨ok, (op_, oq, od), nm, (tp, tq, td), asn, ov⟩
 have g5 := txB_len (xs, xb, xn)
 have g6 := ptB_len ⟨pk, (pp, pq, pd), pas, (sp, sq, sd)⟩
 have g7 := putB_len cd
 have HG : Hid (∀ v, v = Value.slice none 0 0 → ∀ W, RdV W (fun _ => True) v (.bytes [])) := fun v hv W => by rw [hv]; exact ⟨isBytes_nil, none, 0, 0, rfl, rfl, ⟨Nat.le_refl _, Nat.zero_le _, fun _ => ⟨rfl, rfl⟩⟩, .inl rfl⟩
 go_enter Tryz.func157, Tryz.ntmps157
 go_wp2_with fail
 all_goals first
  | (go_region_held3 (fun w' => w'.cell? ⟨w.heap.size, 0, none⟩ = some (.i 4) ∧ w'.cell? ⟨w.heap.size, 1, none⟩ = some (.i fr) ∧ w'.cell? ⟨w.heap.size, 2, none⟩ = some (.i to)) (first | go_keep | (refine ⟨?_, ?_, ?_⟩ <;> assumption)) (first
   | (go_at_call 219; (with_reducible refine Calls.mono (specPutR (.slice none 0 0) [] 4 _ _ (HG.out _ rfl _) (by simp)) ?_); rintro e w2 ⟨v1, rfl, z1, o1, b_⟩; have HB1 : Hid (Below w.heap.size w w2) := Below.trans (by repeat (first | apply bl1 | apply bl2 | apply bl3 | apply bl4)) (b_.mono (by simp [World.drew] <;> omega)); have vA1 := vaB b_; clear b_; have m0_1 := vA1.c 0 rfl; have m1_1 := vA1.c 1 rfl; have m2_1 := vA1.c 2 rfl)
   | (go_at_call 219; (with_reducible refine Calls.mono (specPutR v1 ([] ++ putB 4) fr _ _ ((Owns.step o1 (by repeat (first | apply bl1 | apply bl2 | apply bl3 | apply bl4))).rdT z1) (by simp only [List.length_append, List.length_nil]; omega)) ?_); rintro e w3 ⟨v2, rfl, z2, o2, b_⟩; have HB2 : Hid (Below w.heap.size w w3) := HB1.out.trans (Below.mono (Below.trans (by repeat (first | apply bl1 | apply bl2 | apply bl3 | apply bl4)) b_) HB1.out.size); have vA2 := VarA.step vA1 (Below.trans (by repeat (first | apply bl1 | apply bl2 | apply bl3 | apply bl4)) b_); clear b_; have m0_2 := vA2.c 0 rfl; have m1_2 := vA2.c 1 rfl; have m2_2 := vA2.c 2 rfl)
   | (go_at_call 219; (with_reducible refine Calls.mono (specPutR v2 ([] ++ putB 4 ++ putB fr) to _ _ ((Owns.step o2 (by repeat (first | apply bl1 | apply bl2 | apply bl3 | apply bl4))).rdT z2) (by simp only [List.length_append, List.length_nil]; omega)) ?_); rintro e w4 ⟨v3, rfl, z3, o3, b_⟩; have HB3 : Hid (Below w.heap.size w w4) := HB2.out.trans (Below.mono (Below.trans (by repeat (first | apply bl1 | apply bl2 | apply bl3 | apply bl4)) b_) HB2.out.size); have vA3 := VarA.step vA2 (Below.trans (by repeat (first | apply bl1 | apply bl2 | apply bl3 | apply bl4)) b_); clear b_; have m0_3 := vA3.c 0 rfl; have m1_3 := vA3.c 1 rfl; have m2_3 := vA3.c 2 rfl)))
  | skip
 all_goals
  have m0_ := vA3.c 0 rfl
  have m20_ := vA3.c 20 rfl
  have m21_ := vA3.c 21 rfl
  have m22_ := vA3.c 22 rfl
  go_wp2_with (first
  | (go_at_call 222; (with_reducible refine Calls.mono (specTxR v3 ([] ++ putB 4 ++ putB fr ++ putB to) (xs, xb, xn) _ (fun _ => True) _ ((Owns.step o3 (by repeat (first | apply bl1 | apply bl2 | apply bl3 | apply bl4))).rdT z3) (by simp only [List.length_append, List.length_nil]; omega)) ?_); rintro e w5 ⟨v4, rfl, z4, o4, b_⟩; have HB4 : Hid (Below w.heap.size w w5) := HB3.out.trans (Below.mono (Below.trans (by repeat (first | apply bl1 | apply bl2 | apply bl3 | apply bl4)) b_) HB3.out.size); have vA4 := VarA.step vA3 (Below.trans (by repeat (first | apply bl1 | apply bl2 | apply bl3 | apply bl4)) b_); clear b_; have m0_4 := vA4.c 0 rfl; have m20_4 := vA4.c 20 rfl; have m21_4 := vA4.c 21 rfl; have m22_4 := vA4.c 22 rfl))
 all_goals
  have m0_ : w5.cell? ⟨w.heap.size, 0, none⟩ = some (.i 4) := vA4.c 0 rfl
  go_wp2
  go_ret
  refine ⟨_, rfl, ?_, ?_, HB4.out⟩
  ·simpa [msB, msRest, List.append_assoc] using z4
  ·have o_ := o4.base (b' := w.heap.size) (by exact HB3.out.size)
   simpa [msB, msRest, List.append_assoc] using o_
set_option maxHeartbeats 8000000 in
theorem specBytes5 (m : MsD) (x y z u : Value) (S : Nat → Prop) (w : World) (r : RdM w S m x y z u) (hl : szMs m ≤ 1048576) (h12 : m.rp.list.length ≤ 12) (hk : m.kind = 5) : Ap 157 #[msV m x y z u] w (msB m) := by
 obtain ⟨r1, r2, r3, r4⟩ := r
 obtain ⟨kd, fr, to, rq, ⟨ok, ⟨op_, oq, od⟩, nm, ⟨tp, tq, td⟩, asn, ov⟩, ⟨rc, ⟨rp_, rq_, rd⟩, rv, es⟩, ⟨xs, xb, xn⟩, ⟨pk, ⟨pp, pq, pd⟩, pas, ⟨sp, sq, sd⟩⟩, cd, ⟨hp, hq, hd⟩⟩ := m
 unfold szMs at hl
 dsimp only at r1 r2 r3 r4 hl h12 hk ⊢
 subst hk
 have HX : Hid (∀ W, Below w.heap.size w W → _) := r1.old
 have HY : Hid (∀ W, Below w.heap.size w W → _) := r2.old
 have HZL : Hid (∀ W, Below w.heap.size w W → _) := r3.old
 have HUL : Hid (∀ W, Below w.heap.size w W → _) := r4.old
 have hes : szEns es ≤ 1048576 := by omega
 clear r1 r2 r3 r4
 have g0 := putB_len 5
 have g1 := putB_len fr
 have g2 := putB_len to
 have g3 := putB_len rq
 have g4 := opB_len ⟨ok, (op_, oq, od), nm, (tp, tq, td), asn, ov⟩
 have g5 := txB_len (xs, xb, xn)
 have g6 := ptB_len ⟨pk, (pp, pq, pd), pas, (sp, sq, sd)⟩
 have g7 := putB_len cd
 have HG : Hid (∀ v, v = Value.slice none 0 0 → ∀ W, RdV W (fun _ => True) v (.bytes [])) := fun v hv W => by rw [hv]; exact ⟨isBytes_nil, none, 0, 0, rfl, rfl, ⟨Nat.le_refl _, Nat.zero_le _, fun _ => ⟨rfl, rfl⟩⟩, .inl rfl⟩
 go_enter Tryz.func157, Tryz.ntmps157
 go_wp2_with fail
 all_goals first
  | (go_region_held3 (fun w' => w'.cell? ⟨w.heap.size, 0, none⟩ = some (.i 5) ∧ w'.cell? ⟨w.heap.size, 1, none⟩ = some (.i fr) ∧ w'.cell? ⟨w.heap.size, 2, none⟩ = some (.i to)) (first | go_keep | (refine ⟨?_, ?_, ?_⟩ <;> assumption)) (first
   | (go_at_call 219; (with_reducible refine Calls.mono (specPutR (.slice none 0 0) [] 5 _ _ (HG.out _ rfl _) (by simp)) ?_); rintro e w2 ⟨v1, rfl, z1, o1, b_⟩; have HB1 : Hid (Below w.heap.size w w2) := Below.trans (by repeat (first | apply bl1 | apply bl2 | apply bl3 | apply bl4)) (b_.mono (by simp [World.drew] <;> omega)); have vA1 := vaB b_; clear b_; have m0_1 := vA1.c 0 rfl; have m1_1 := vA1.c 1 rfl; have m2_1 := vA1.c 2 rfl)
   | (go_at_call 219; (with_reducible refine Calls.mono (specPutR v1 ([] ++ putB 5) fr _ _ ((Owns.step o1 (by repeat (first | apply bl1 | apply bl2 | apply bl3 | apply bl4))).rdT z1) (by simp only [List.length_append, List.length_nil]; omega)) ?_); rintro e w3 ⟨v2, rfl, z2, o2, b_⟩; have HB2 : Hid (Below w.heap.size w w3) := HB1.out.trans (Below.mono (Below.trans (by repeat (first | apply bl1 | apply bl2 | apply bl3 | apply bl4)) b_) HB1.out.size); have vA2 := VarA.step vA1 (Below.trans (by repeat (first | apply bl1 | apply bl2 | apply bl3 | apply bl4)) b_); clear b_; have m0_2 := vA2.c 0 rfl; have m1_2 := vA2.c 1 rfl; have m2_2 := vA2.c 2 rfl)
   | (go_at_call 219; (with_reducible refine Calls.mono (specPutR v2 ([] ++ putB 5 ++ putB fr) to _ _ ((Owns.step o2 (by repeat (first | apply bl1 | apply bl2 | apply bl3 | apply bl4))).rdT z2) (by simp only [List.length_append, List.length_nil]; omega)) ?_); rintro e w4 ⟨v3, rfl, z3, o3, b_⟩; have HB3 : Hid (Below w.heap.size w w4) := HB2.out.trans (Below.mono (Below.trans (by repeat (first | apply bl1 | apply bl2 | apply bl3 | apply bl4)) b_) HB2.out.size); have vA3 := VarA.step vA2 (Below.trans (by repeat (first | apply bl1 | apply bl2 | apply bl3 | apply bl4)) b_); clear b_; have m0_3 := vA3.c 0 rfl; have m1_3 := vA3.c 1 rfl; have m2_3 := vA3.c 2 rfl)))
  | skip
 all_goals
  have m0_ := vA3.c 0 rfl
  have m20_ := vA3.c 20 rfl
  have m21_ := vA3.c 21 rfl
  have m22_ := vA3.c 22 rfl
  have m31_ := vA3.c 31 rfl
  go_wp2_with (first
  | (go_at_call 222; (with_reducible refine Calls.mono (specTxR v3 ([] ++ putB 5 ++ putB fr ++ putB to) (xs, xb, xn) _ (fun _ => True) _ ((Owns.step o3 (by repeat (first | apply bl1 | apply bl2 | apply bl3 | apply bl4))).rdT z3) (by simp only [List.length_append, List.length_nil]; omega)) ?_); rintro e w5 ⟨v4, rfl, z4, o4, b_⟩; have HB4 : Hid (Below w.heap.size w w5) := HB3.out.trans (Below.mono (Below.trans (by repeat (first | apply bl1 | apply bl2 | apply bl3 | apply bl4)) b_) HB3.out.size); have vA4 := VarA.step vA3 (Below.trans (by repeat (first | apply bl1 | apply bl2 | apply bl3 | apply bl4)) b_); clear b_; have m0_4 := vA4.c 0 rfl; have m20_4 := vA4.c 20 rfl; have m21_4 := vA4.c 21 rfl; have m22_4 := vA4.c 22 rfl; have m31_4 := vA4.c 31 rfl)
  | (go_at_call 219; (with_reducible refine Calls.mono (specPutR v4 ([] ++ putB 5 ++ putB fr ++ putB to ++ txB (xs, xb, xn)) cd _ _ ((Owns.step o4 (by repeat (first | apply bl1 | apply bl2 | apply bl3 | apply bl4))).rdT z4) (by simp only [List.length_append, List.length_nil]; omega)) ?_); rintro e w6 ⟨v5, rfl, z5, o5, b_⟩; have HB5 : Hid (Below w.heap.size w w6) := HB4.out.trans (Below.mono (Below.trans (by repeat (first | apply bl1 | apply bl2 | apply bl3 | apply bl4)) b_) HB4.out.size); have vA5 := VarA.step vA4 (Below.trans (by repeat (first | apply bl1 | apply bl2 | apply bl3 | apply bl4)) b_); clear b_; have m0_5 := vA5.c 0 rfl; have m20_5 := vA5.c 20 rfl; have m21_5 := vA5.c 21 rfl; have m22_5 := vA5.c 22 rfl; have m31_5 := vA5.c 31 rfl))
 all_goals
  have m0_ : w6.cell? ⟨w.heap.size, 0, none⟩ = some (.i 5) := vA5.c 0 rfl
  go_wp2
  go_ret
  refine ⟨_, rfl, ?_, ?_, HB5.out⟩
  ·simpa [msB, msRest, List.append_assoc] using z5
  ·have o_ := o5.base (b' := w.heap.size) (by exact HB4.out.size)
   simpa [msB, msRest, List.append_assoc] using o_
set_option maxHeartbeats 8000000 in
theorem specBytes6 (m : MsD) (x y z u : Value) (S : Nat → Prop) (w : World) (r : RdM w S m x y z u) (hl : szMs m ≤ 1048576) (h12 : m.rp.list.length ≤ 12) (hk : m.kind = 6) : Ap 157 #[msV m x y z u] w (msB m) := by
 obtain ⟨r1, r2, r3, r4⟩ := r
 obtain ⟨kd, fr, to, rq, ⟨ok, ⟨op_, oq, od⟩, nm, ⟨tp, tq, td⟩, asn, ov⟩, ⟨rc, ⟨rp_, rq_, rd⟩, rv, es⟩, ⟨xs, xb, xn⟩, ⟨pk, ⟨pp, pq, pd⟩, pas, ⟨sp, sq, sd⟩⟩, cd, ⟨hp, hq, hd⟩⟩ := m
 unfold szMs at hl
 dsimp only at r1 r2 r3 r4 hl h12 hk ⊢
 subst hk
 have HX : Hid (∀ W, Below w.heap.size w W → _) := r1.old
 have HY : Hid (∀ W, Below w.heap.size w W → _) := r2.old
 have HZL : Hid (∀ W, Below w.heap.size w W → _) := r3.old
 have HUL : Hid (∀ W, Below w.heap.size w W → _) := r4.old
 have hes : szEns es ≤ 1048576 := by omega
 clear r1 r2 r3 r4
 have g0 := putB_len 6
 have g1 := putB_len fr
 have g2 := putB_len to
 have g3 := putB_len rq
 have g4 := opB_len ⟨ok, (op_, oq, od), nm, (tp, tq, td), asn, ov⟩
 have g5 := txB_len (xs, xb, xn)
 have g6 := ptB_len ⟨pk, (pp, pq, pd), pas, (sp, sq, sd)⟩
 have g7 := putB_len cd
 have HG : Hid (∀ v, v = Value.slice none 0 0 → ∀ W, RdV W (fun _ => True) v (.bytes [])) := fun v hv W => by rw [hv]; exact ⟨isBytes_nil, none, 0, 0, rfl, rfl, ⟨Nat.le_refl _, Nat.zero_le _, fun _ => ⟨rfl, rfl⟩⟩, .inl rfl⟩
 go_enter Tryz.func157, Tryz.ntmps157
 go_wp2_with fail
 all_goals first
  | (go_region_held3 (fun w' => w'.cell? ⟨w.heap.size, 0, none⟩ = some (.i 6) ∧ w'.cell? ⟨w.heap.size, 1, none⟩ = some (.i fr) ∧ w'.cell? ⟨w.heap.size, 2, none⟩ = some (.i to)) (first | go_keep | (refine ⟨?_, ?_, ?_⟩ <;> assumption)) (first
   | (go_at_call 219; (with_reducible refine Calls.mono (specPutR (.slice none 0 0) [] 6 _ _ (HG.out _ rfl _) (by simp)) ?_); rintro e w2 ⟨v1, rfl, z1, o1, b_⟩; have HB1 : Hid (Below w.heap.size w w2) := Below.trans (by repeat (first | apply bl1 | apply bl2 | apply bl3 | apply bl4)) (b_.mono (by simp [World.drew] <;> omega)); have vA1 := vaB b_; clear b_; have m0_1 := vA1.c 0 rfl; have m1_1 := vA1.c 1 rfl; have m2_1 := vA1.c 2 rfl)
   | (go_at_call 219; (with_reducible refine Calls.mono (specPutR v1 ([] ++ putB 6) fr _ _ ((Owns.step o1 (by repeat (first | apply bl1 | apply bl2 | apply bl3 | apply bl4))).rdT z1) (by simp only [List.length_append, List.length_nil]; omega)) ?_); rintro e w3 ⟨v2, rfl, z2, o2, b_⟩; have HB2 : Hid (Below w.heap.size w w3) := HB1.out.trans (Below.mono (Below.trans (by repeat (first | apply bl1 | apply bl2 | apply bl3 | apply bl4)) b_) HB1.out.size); have vA2 := VarA.step vA1 (Below.trans (by repeat (first | apply bl1 | apply bl2 | apply bl3 | apply bl4)) b_); clear b_; have m0_2 := vA2.c 0 rfl; have m1_2 := vA2.c 1 rfl; have m2_2 := vA2.c 2 rfl)
   | (go_at_call 219; (with_reducible refine Calls.mono (specPutR v2 ([] ++ putB 6 ++ putB fr) to _ _ ((Owns.step o2 (by repeat (first | apply bl1 | apply bl2 | apply bl3 | apply bl4))).rdT z2) (by simp only [List.length_append, List.length_nil]; omega)) ?_); rintro e w4 ⟨v3, rfl, z3, o3, b_⟩; have HB3 : Hid (Below w.heap.size w w4) := HB2.out.trans (Below.mono (Below.trans (by repeat (first | apply bl1 | apply bl2 | apply bl3 | apply bl4)) b_) HB2.out.size); have vA3 := VarA.step vA2 (Below.trans (by repeat (first | apply bl1 | apply bl2 | apply bl3 | apply bl4)) b_); clear b_; have m0_3 := vA3.c 0 rfl; have m1_3 := vA3.c 1 rfl; have m2_3 := vA3.c 2 rfl)))
  | skip
 all_goals
  have m0_ := vA3.c 0 rfl
  have m3_ := vA3.c 3 rfl
  have m20_ := vA3.c 20 rfl
  have m21_ := vA3.c 21 rfl
  have m22_ := vA3.c 22 rfl
  have m32_ := vA3.c 32 rfl
  have m33_ := vA3.c 33 rfl
  have m34_ := vA3.c 34 rfl
  go_wp2_with (first
  | (go_at_call 222; (with_reducible refine Calls.mono (specTxR v3 ([] ++ putB 6 ++ putB fr ++ putB to) (xs, xb, xn) _ (fun _ => True) _ ((Owns.step o3 (by repeat (first | apply bl1 | apply bl2 | apply bl3 | apply bl4))).rdT z3) (by simp only [List.length_append, List.length_nil]; omega)) ?_); rintro e w5 ⟨v4, rfl, z4, o4, b_⟩; have HB4 : Hid (Below w.heap.size w w5) := HB3.out.trans (Below.mono (Below.trans (by repeat (first | apply bl1 | apply bl2 | apply bl3 | apply bl4)) b_) HB3.out.size); have vA4 := VarA.step vA3 (Below.trans (by repeat (first | apply bl1 | apply bl2 | apply bl3 | apply bl4)) b_); clear b_; have m0_4 := vA4.c 0 rfl; have m3_4 := vA4.c 3 rfl; have m20_4 := vA4.c 20 rfl; have m21_4 := vA4.c 21 rfl; have m22_4 := vA4.c 22 rfl; have m32_4 := vA4.c 32 rfl; have m33_4 := vA4.c 33 rfl; have m34_4 := vA4.c 34 rfl))
 all_goals first
  | (go_region_held3 (fun w' => w'.cell? ⟨w.heap.size, 3, none⟩ = some (.i rq) ∧ w'.cell? ⟨w.heap.size, 32, none⟩ = some (.i hp) ∧ w'.cell? ⟨w.heap.size, 33, none⟩ = some (.i hq) ∧ w'.cell? ⟨w.heap.size, 34, none⟩ = some (.bool hd)) (first | go_keep | (refine ⟨?_, ?_, ?_, ?_⟩ <;> assumption)) (first
   | (go_at_call 219; (with_reducible refine Calls.mono (specPutR v4 ([] ++ putB 6 ++ putB fr ++ putB to ++ txB (xs, xb, xn)) rq _ _ ((Owns.step o4 (by repeat (first | apply bl1 | apply bl2 | apply bl3 | apply bl4))).rdT z4) (by simp only [List.length_append, List.length_nil]; omega)) ?_); rintro e w6 ⟨v5, rfl, z5, o5, b_⟩; have HB5 : Hid (Below w.heap.size w w6) := HB4.out.trans (Below.mono (Below.trans (by repeat (first | apply bl1 | apply bl2 | apply bl3 | apply bl4)) b_) HB4.out.size); have vA5 := VarA.step vA4 (Below.trans (by repeat (first | apply bl1 | apply bl2 | apply bl3 | apply bl4)) b_); clear b_; have m0_5 := vA5.c 0 rfl; have m3_5 := vA5.c 3 rfl; have m20_5 := vA5.c 20 rfl; have m21_5 := vA5.c 21 rfl; have m22_5 := vA5.c 22 rfl; have m32_5 := vA5.c 32 rfl; have m33_5 := vA5.c 33 rfl; have m34_5 := vA5.c 34 rfl)
   | (go_at_call 224; (with_reducible refine Calls.mono (specHandX v5 ([] ++ putB 6 ++ putB fr ++ putB to ++ txB (xs, xb, xn) ++ putB rq) hp hq hd _ _ ((Owns.step o5 (by repeat (first | apply bl1 | apply bl2 | apply bl3 | apply bl4))).rdT z5) (by simp only [List.length_append, List.length_nil]; omega)) ?_); rintro e w7 ⟨v6, rfl, z6, o6, b_⟩; have HB6 : Hid (Below w.heap.size w w7) := HB5.out.trans (Below.mono (Below.trans (by repeat (first | apply bl1 | apply bl2 | apply bl3 | apply bl4)) b_) HB5.out.size); have vA6 := VarA.step vA5 (Below.trans (by repeat (first | apply bl1 | apply bl2 | apply bl3 | apply bl4)) b_); clear b_; have m0_6 := vA6.c 0 rfl; have m3_6 := vA6.c 3 rfl; have m20_6 := vA6.c 20 rfl; have m21_6 := vA6.c 21 rfl; have m22_6 := vA6.c 22 rfl; have m32_6 := vA6.c 32 rfl; have m33_6 := vA6.c 33 rfl; have m34_6 := vA6.c 34 rfl)))
  | skip
 all_goals
  have m0_ : w7.cell? ⟨w.heap.size, 0, none⟩ = some (.i 6) := vA6.c 0 rfl
  go_wp2
  go_ret
  refine ⟨_, rfl, ?_, ?_, HB6.out⟩
  ·simpa [msB, msRest, List.append_assoc] using z6
  ·have o_ := o6.base (b' := w.heap.size) (by exact HB5.out.size)
   simpa [msB, msRest, List.append_assoc] using o_
set_option maxHeartbeats 8000000 in
theorem specBytes7 (m : MsD) (x y z u : Value) (S : Nat → Prop) (w : World) (r : RdM w S m x y z u) (hl : szMs m ≤ 1048576) (h12 : m.rp.list.length ≤ 12) (hk : m.kind = 7) : Ap 157 #[msV m x y z u] w (msB m) := by
 obtain ⟨r1, r2, r3, r4⟩ := r
 obtain ⟨kd, fr, to, rq, ⟨ok, ⟨op_, oq, od⟩, nm, ⟨tp, tq, td⟩, asn, ov⟩, ⟨rc, ⟨rp_, rq_, rd⟩, rv, es⟩, ⟨xs, xb, xn⟩, ⟨pk, ⟨pp, pq, pd⟩, pas, ⟨sp, sq, sd⟩⟩, cd, ⟨hp, hq, hd⟩⟩ := m
 unfold szMs at hl
 dsimp only at r1 r2 r3 r4 hl h12 hk ⊢
 subst hk
 have HX : Hid (∀ W, Below w.heap.size w W → _) := r1.old
 have HY : Hid (∀ W, Below w.heap.size w W → _) := r2.old
 have HZL : Hid (∀ W, Below w.heap.size w W → _) := r3.old
 have HUL : Hid (∀ W, Below w.heap.size w W → _) := r4.old
 have hes : szEns es ≤ 1048576 := by omega
 clear r1 r2 r3 r4
 have g0 := putB_len 7
 have g1 := putB_len fr
 have g2 := putB_len to
 have g3 := putB_len rq
 have g4 := opB_len ⟨ok, (op_, oq, od), nm, (tp, tq, td), asn, ov⟩
 have g5 := txB_len (xs, xb, xn)
 have g6 := ptB_len ⟨pk, (pp, pq, pd), pas, (sp, sq, sd)⟩
 have g7 := putB_len cd
 have HG : Hid (∀ v, v = Value.slice none 0 0 → ∀ W, RdV W (fun _ => True) v (.bytes [])) := fun v hv W => by rw [hv]; exact ⟨isBytes_nil, none, 0, 0, rfl, rfl, ⟨Nat.le_refl _, Nat.zero_le _, fun _ => ⟨rfl, rfl⟩⟩, .inl rfl⟩
 go_enter Tryz.func157, Tryz.ntmps157
 go_wp2_with fail
 all_goals first
  | (go_region_held3 (fun w' => w'.cell? ⟨w.heap.size, 0, none⟩ = some (.i 7) ∧ w'.cell? ⟨w.heap.size, 1, none⟩ = some (.i fr) ∧ w'.cell? ⟨w.heap.size, 2, none⟩ = some (.i to)) (first | go_keep | (refine ⟨?_, ?_, ?_⟩ <;> assumption)) (first
   | (go_at_call 219; (with_reducible refine Calls.mono (specPutR (.slice none 0 0) [] 7 _ _ (HG.out _ rfl _) (by simp)) ?_); rintro e w2 ⟨v1, rfl, z1, o1, b_⟩; have HB1 : Hid (Below w.heap.size w w2) := Below.trans (by repeat (first | apply bl1 | apply bl2 | apply bl3 | apply bl4)) (b_.mono (by simp [World.drew] <;> omega)); have vA1 := vaB b_; clear b_; have m0_1 := vA1.c 0 rfl; have m1_1 := vA1.c 1 rfl; have m2_1 := vA1.c 2 rfl)
   | (go_at_call 219; (with_reducible refine Calls.mono (specPutR v1 ([] ++ putB 7) fr _ _ ((Owns.step o1 (by repeat (first | apply bl1 | apply bl2 | apply bl3 | apply bl4))).rdT z1) (by simp only [List.length_append, List.length_nil]; omega)) ?_); rintro e w3 ⟨v2, rfl, z2, o2, b_⟩; have HB2 : Hid (Below w.heap.size w w3) := HB1.out.trans (Below.mono (Below.trans (by repeat (first | apply bl1 | apply bl2 | apply bl3 | apply bl4)) b_) HB1.out.size); have vA2 := VarA.step vA1 (Below.trans (by repeat (first | apply bl1 | apply bl2 | apply bl3 | apply bl4)) b_); clear b_; have m0_2 := vA2.c 0 rfl; have m1_2 := vA2.c 1 rfl; have m2_2 := vA2.c 2 rfl)
   | (go_at_call 219; (with_reducible refine Calls.mono (specPutR v2 ([] ++ putB 7 ++ putB fr) to _ _ ((Owns.step o2 (by repeat (first | apply bl1 | apply bl2 | apply bl3 | apply bl4))).rdT z2) (by simp only [List.length_append, List.length_nil]; omega)) ?_); rintro e w4 ⟨v3, rfl, z3, o3, b_⟩; have HB3 : Hid (Below w.heap.size w w4) := HB2.out.trans (Below.mono (Below.trans (by repeat (first | apply bl1 | apply bl2 | apply bl3 | apply bl4)) b_) HB2.out.size); have vA3 := VarA.step vA2 (Below.trans (by repeat (first | apply bl1 | apply bl2 | apply bl3 | apply bl4)) b_); clear b_; have m0_3 := vA3.c 0 rfl; have m1_3 := vA3.c 1 rfl; have m2_3 := vA3.c 2 rfl)))
  | skip
 all_goals
  have m0_ := vA3.c 0 rfl
  have m3_ := vA3.c 3 rfl
  have m20_ := vA3.c 20 rfl
  have m21_ := vA3.c 21 rfl
  have m22_ := vA3.c 22 rfl
  have m31_ := vA3.c 31 rfl
  have m32_ := vA3.c 32 rfl
  have m33_ := vA3.c 33 rfl
  have m34_ := vA3.c 34 rfl
  go_wp2_with (first
  | (go_at_call 222; (with_reducible refine Calls.mono (specTxR v3 ([] ++ putB 7 ++ putB fr ++ putB to) (xs, xb, xn) _ (fun _ => True) _ ((Owns.step o3 (by repeat (first | apply bl1 | apply bl2 | apply bl3 | apply bl4))).rdT z3) (by simp only [List.length_append, List.length_nil]; omega)) ?_); rintro e w5 ⟨v4, rfl, z4, o4, b_⟩; have HB4 : Hid (Below w.heap.size w w5) := HB3.out.trans (Below.mono (Below.trans (by repeat (first | apply bl1 | apply bl2 | apply bl3 | apply bl4)) b_) HB3.out.size); have vA4 := VarA.step vA3 (Below.trans (by repeat (first | apply bl1 | apply bl2 | apply bl3 | apply bl4)) b_); clear b_; have m0_4 := vA4.c 0 rfl; have m3_4 := vA4.c 3 rfl; have m20_4 := vA4.c 20 rfl; have m21_4 := vA4.c 21 rfl; have m22_4 := vA4.c 22 rfl; have m31_4 := vA4.c 31 rfl; have m32_4 := vA4.c 32 rfl; have m33_4 := vA4.c 33 rfl; have m34_4 := vA4.c 34 rfl))
 all_goals first
  | (go_region_held3 (fun w' => w'.cell? ⟨w.heap.size, 3, none⟩ = some (.i rq) ∧ w'.cell? ⟨w.heap.size, 31, none⟩ = some (.i cd) ∧ w'.cell? ⟨w.heap.size, 32, none⟩ = some (.i hp) ∧ w'.cell? ⟨w.heap.size, 33, none⟩ = some (.i hq) ∧ w'.cell? ⟨w.heap.size, 34, none⟩ = some (.bool hd)) (first | go_keep | (refine ⟨?_, ?_, ?_, ?_, ?_⟩ <;> assumption)) (first
   | (go_at_call 219; (with_reducible refine Calls.mono (specPutR v4 ([] ++ putB 7 ++ putB fr ++ putB to ++ txB (xs, xb, xn)) rq _ _ ((Owns.step o4 (by repeat (first | apply bl1 | apply bl2 | apply bl3 | apply bl4))).rdT z4) (by simp only [List.length_append, List.length_nil]; omega)) ?_); rintro e w6 ⟨v5, rfl, z5, o5, b_⟩; have HB5 : Hid (Below w.heap.size w w6) := HB4.out.trans (Below.mono (Below.trans (by repeat (first | apply bl1 | apply bl2 | apply bl3 | apply bl4)) b_) HB4.out.size); have vA5 := VarA.step vA4 (Below.trans (by repeat (first | apply bl1 | apply bl2 | apply bl3 | apply bl4)) b_); clear b_; have m0_5 := vA5.c 0 rfl; have m3_5 := vA5.c 3 rfl; have m20_5 := vA5.c 20 rfl; have m21_5 := vA5.c 21 rfl; have m22_5 := vA5.c 22 rfl; have m31_5 := vA5.c 31 rfl; have m32_5 := vA5.c 32 rfl; have m33_5 := vA5.c 33 rfl; have m34_5 := vA5.c 34 rfl)
   | (go_at_call 219; (with_reducible refine Calls.mono (specPutR v5 ([] ++ putB 7 ++ putB fr ++ putB to ++ txB (xs, xb, xn) ++ putB rq) cd _ _ ((Owns.step o5 (by repeat (first | apply bl1 | apply bl2 | apply bl3 | apply bl4))).rdT z5) (by simp only [List.length_append, List.length_nil]; omega)) ?_); rintro e w7 ⟨v6, rfl, z6, o6, b_⟩; have HB6 : Hid (Below w.heap.size w w7) := HB5.out.trans (Below.mono (Below.trans (by repeat (first | apply bl1 | apply bl2 | apply bl3 | apply bl4)) b_) HB5.out.size); have vA6 := VarA.step vA5 (Below.trans (by repeat (first | apply bl1 | apply bl2 | apply bl3 | apply bl4)) b_); clear b_; have m0_6 := vA6.c 0 rfl; have m3_6 := vA6.c 3 rfl; have m20_6 := vA6.c 20 rfl; have m21_6 := vA6.c 21 rfl; have m22_6 := vA6.c 22 rfl; have m31_6 := vA6.c 31 rfl; have m32_6 := vA6.c 32 rfl; have m33_6 := vA6.c 33 rfl; have m34_6 := vA6.c 34 rfl)
   | (go_at_call 224; (with_reducible refine Calls.mono (specHandX v6 ([] ++ putB 7 ++ putB fr ++ putB to ++ txB (xs, xb, xn) ++ putB rq ++ putB cd) hp hq hd _ _ ((Owns.step o6 (by repeat (first | apply bl1 | apply bl2 | apply bl3 | apply bl4))).rdT z6) (by simp only [List.length_append, List.length_nil]; omega)) ?_); rintro e w8 ⟨v7, rfl, z7, o7, b_⟩; have HB7 : Hid (Below w.heap.size w w8) := HB6.out.trans (Below.mono (Below.trans (by repeat (first | apply bl1 | apply bl2 | apply bl3 | apply bl4)) b_) HB6.out.size); have vA7 := VarA.step vA6 (Below.trans (by repeat (first | apply bl1 | apply bl2 | apply bl3 | apply bl4)) b_); clear b_; have m0_7 := vA7.c 0 rfl; have m3_7 := vA7.c 3 rfl; have m20_7 := vA7.c 20 rfl; have m21_7 := vA7.c 21 rfl; have m22_7 := vA7.c 22 rfl; have m31_7 := vA7.c 31 rfl; have m32_7 := vA7.c 32 rfl; have m33_7 := vA7.c 33 rfl; have m34_7 := vA7.c 34 rfl)))
  | skip
 all_goals
  have m0_ : w8.cell? ⟨w.heap.size, 0, none⟩ = some (.i 7) := vA7.c 0 rfl
  go_wp2
  go_ret
  refine ⟨_, rfl, ?_, ?_, HB7.out⟩
  ·simpa [msB, msRest, List.append_assoc] using z7
  ·have o_ := o7.base (b' := w.heap.size) (by exact HB6.out.size)
   simpa [msB, msRest, List.append_assoc] using o_
end Go.Proofs.YtklhikadhohjbaaGreat
