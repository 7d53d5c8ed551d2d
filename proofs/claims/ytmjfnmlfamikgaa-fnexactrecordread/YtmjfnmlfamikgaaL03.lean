/- Joined: RBy3 RBy4 PRec RdI. -/
import Derived.Test.YtmjfnmlfamikgaaL02
import Derived.Test.YtmjfnmlfamikgaaRec0
import Derived.Test.YtmjfnmlfamikgaaRSp
import Derived.Test.YtmjfnmlfamikgaaVarL
import Derived.Test.YtmjfnmlfamikgaaL01

section
/- The specification writes records, kind by kind. Condition: at most 12 entries, no more than 2^20 of all. -/
namespace Go.Proofs.Ytmjfnmlfamikgaa
open Go.RowKit
set_option linter.unusedVariables false
set_option linter.unusedSimpArgs false
set_option maxRecDepth 100000

def rcRest (m : MsD) : List Int :=
  if m.kind = 1 then putB m.fr ++ (putB m.req ++ (opB m.op ++ (hdB m.h ++ rpB m.rp)))
  else if m.kind = 2 then txB m.tx ++ (ptB m.pt ++ (putB m.code ++ hdB m.h))
  else if m.kind = 3 then txB m.tx ++ (putB m.code ++ (putB m.fr ++ (putB m.req ++ (opB m.op ++ rpB m.rp))))
  else if m.kind = 4 then txB m.tx ++ putB m.code
  else []
def rcB (m : MsD) : List Int := putB m.kind ++ rcRest m
set_option maxHeartbeats 8000000 in
theorem specRecB0 (m : MsD) (x y z u : Value) (S : Nat → Prop) (w : World) (r : RdM w S m x y z u) (hl : szMs m ≤ 1048576) (h12 : m.rp.list.length ≤ 12) (hk : m.kind = 0) : Ap 46 #[rcV m x y z u] w (rcB m) := by
  obtain ⟨r1, r2, r3, r4⟩ := r
  obtain ⟨kd, fr, to, rq, ⟨ok, ⟨op_, oq, od⟩, nm, ⟨tp, tq, td⟩, asn, ov⟩, ⟨rc, ⟨rp_, rq_, rd⟩, rv, es⟩, ⟨xs, xb, xn⟩, ⟨pk, ⟨pp, pq, pd⟩, pas, ⟨sp, sq, sd⟩⟩, cd, ⟨hp, hq, hd⟩⟩ := m
  unfold szMs at hl
  dsimp only at r1 r2 r3 r4 hl h12 hk ⊢
  subst hk
  have HX : Hid (∀ W, Below w.heap.size w W → _) := r1.old
  have HY : Hid (∀ W, Below w.heap.size w W → _) := r2.old
  have HZL : Hid (∀ W, Below w.heap.size w W → _) := r3.old
  have HUL : Hid (∀ W, Below w.heap.size w W → _) := r4.old
  have hes : szEns es ≤ 1048576 := by omega
  clear r1 r2 r3 r4
  have g0 := putB_len 0
  have g1 := putB_len fr
  have g2 := hdB_len (hp, hq, hd)
  have g3 := putB_len rq
  have g4 := opB_len ⟨ok, (op_, oq, od), nm, (tp, tq, td), asn, ov⟩
  have g5 := txB_len (xs, xb, xn)
  have g6 := ptB_len ⟨pk, (pp, pq, pd), pas, (sp, sq, sd)⟩
  have g7 := putB_len cd
  have HG : Hid (∀ v, v = Value.slice none 0 0 → ∀ W, RdV W (fun _ => True) v (.bytes [])) := fun v hv W => by rw [hv]; exact ⟨isBytes_nil, none, 0, 0, rfl, rfl, ⟨Nat.le_refl _, Nat.zero_le _, fun _ => ⟨rfl, rfl⟩⟩, .inl rfl⟩
  go_enter Try.func46, Try.ntmps46
  go_wp2_with (go_at_call 79; (with_reducible refine Calls.mono (specPutR (.slice none 0 0) [] 0 _ _ (HG.out _ rfl _) (by simp)) ?_); rintro e w2 ⟨v1, rfl, z1, o1, b_⟩; have HB1 : Hid (Below w.heap.size w w2) := Below.trans (by repeat (first | exact Below.refl _ _ | refine Below.al2 ?_ _ | refine Below.drew ?_ | refine below_drewN2 ?_ _)) (b_.mono (by simp [World.drew] <;> omega)); have vA1 : VarA w2 w.heap.size 48 #[.int .i64 0, .int .i64 fr, .int .i64 rq, .int .i64 ok, .int .i64 op_, .int .i64 oq, .bool od, x, .int .i64 tp, .int .i64 tq, .bool td, y, .int .i64 ov, .int .i64 hp, .int .i64 hq, .bool hd, .int .i64 rc, .int .i64 rp_, .int .i64 rq_, .bool rd, .int .i64 rv, z, .int .i64 xs, .int .i64 xb, .int .i64 xn, .int .i64 pk, .int .i64 pp, .int .i64 pq, .bool pd, u, .int .i64 sp, .int .i64 sq, .bool sd, .int .i64 cd] := VarA.step (VarA.new w _ _) b_; clear b_; have m0_1 : w2.cell? ⟨w.heap.size, 0, none⟩ = some (.int .i64 0) := vA1.c 0 rfl)
  all_goals
    try go_wp2
    go_ret
    refine ⟨_, rfl, ?_, ?_, HB1.out⟩
    · simpa [rcB, rcRest, List.append_assoc] using z1
    · have o_ := o1.base (b' := w.heap.size) (by exact (by simp))
      simpa [rcB, rcRest, List.append_assoc] using o_
set_option maxHeartbeats 8000000 in
theorem specRecB1 (m : MsD) (x y z u : Value) (S : Nat → Prop) (w : World) (r : RdM w S m x y z u) (hl : szMs m ≤ 1048576) (h12 : m.rp.list.length ≤ 12) (hk : m.kind = 1) : Ap 46 #[rcV m x y z u] w (rcB m) := by
  obtain ⟨r1, r2, r3, r4⟩ := r
  obtain ⟨kd, fr, to, rq, ⟨ok, ⟨op_, oq, od⟩, nm, ⟨tp, tq, td⟩, asn, ov⟩, ⟨rc, ⟨rp_, rq_, rd⟩, rv, es⟩, ⟨xs, xb, xn⟩, ⟨pk, ⟨pp, pq, pd⟩, pas, ⟨sp, sq, sd⟩⟩, cd, ⟨hp, hq, hd⟩⟩ := m
  unfold szMs at hl
  dsimp only at r1 r2 r3 r4 hl h12 hk ⊢
  subst hk
  have HX : Hid (∀ W, Below w.heap.size w W → _) := r1.old
  have HY : Hid (∀ W, Below w.heap.size w W → _) := r2.old
  have HZL : Hid (∀ W, Below w.heap.size w W → _) := r3.old
  have HUL : Hid (∀ W, Below w.heap.size w W → _) := r4.old
  have hes : szEns es ≤ 1048576 := by omega
  clear r1 r2 r3 r4
  have g0 := putB_len 1
  have g1 := putB_len fr
  have g2 := hdB_len (hp, hq, hd)
  have g3 := putB_len rq
  have g4 := opB_len ⟨ok, (op_, oq, od), nm, (tp, tq, td), asn, ov⟩
  have g5 := txB_len (xs, xb, xn)
  have g6 := ptB_len ⟨pk, (pp, pq, pd), pas, (sp, sq, sd)⟩
  have g7 := putB_len cd
  have HG : Hid (∀ v, v = Value.slice none 0 0 → ∀ W, RdV W (fun _ => True) v (.bytes [])) := fun v hv W => by rw [hv]; exact ⟨isBytes_nil, none, 0, 0, rfl, rfl, ⟨Nat.le_refl _, Nat.zero_le _, fun _ => ⟨rfl, rfl⟩⟩, .inl rfl⟩
  go_enter Try.func46, Try.ntmps46
  go_wp2_with (go_at_call 79; (with_reducible refine Calls.mono (specPutR (.slice none 0 0) [] 1 _ _ (HG.out _ rfl _) (by simp)) ?_); rintro e w2 ⟨v1, rfl, z1, o1, b_⟩; have HB1 : Hid (Below w.heap.size w w2) := Below.trans (by repeat (first | exact Below.refl _ _ | refine Below.al2 ?_ _ | refine Below.drew ?_ | refine below_drewN2 ?_ _)) (b_.mono (by simp [World.drew] <;> omega)); have vA1 : VarA w2 w.heap.size 48 #[.int .i64 1, .int .i64 fr, .int .i64 rq, .int .i64 ok, .int .i64 op_, .int .i64 oq, .bool od, x, .int .i64 tp, .int .i64 tq, .bool td, y, .int .i64 ov, .int .i64 hp, .int .i64 hq, .bool hd, .int .i64 rc, .int .i64 rp_, .int .i64 rq_, .bool rd, .int .i64 rv, z, .int .i64 xs, .int .i64 xb, .int .i64 xn, .int .i64 pk, .int .i64 pp, .int .i64 pq, .bool pd, u, .int .i64 sp, .int .i64 sq, .bool sd, .int .i64 cd] := VarA.step (VarA.new w _ _) b_; clear b_; have m0_1 : w2.cell? ⟨w.heap.size, 0, none⟩ = some (.int .i64 1) := vA1.c 0 rfl)
  have m0_ : w2.cell? ⟨w.heap.size, 0, none⟩ = some (.int .i64 1) := vA1.c 0 rfl
  have m1_ : w2.cell? ⟨w.heap.size, 1, none⟩ = some (.int .i64 fr) := vA1.c 1 rfl
  have m2_ : w2.cell? ⟨w.heap.size, 2, none⟩ = some (.int .i64 rq) := vA1.c 2 rfl
  have m3_ : w2.cell? ⟨w.heap.size, 3, none⟩ = some (.int .i64 ok) := vA1.c 3 rfl
  have m4_ : w2.cell? ⟨w.heap.size, 4, none⟩ = some (.int .i64 op_) := vA1.c 4 rfl
  have m5_ : w2.cell? ⟨w.heap.size, 5, none⟩ = some (.int .i64 oq) := vA1.c 5 rfl
  have m6_ : w2.cell? ⟨w.heap.size, 6, none⟩ = some (.bool od) := vA1.c 6 rfl
  have m7_ : w2.cell? ⟨w.heap.size, 7, none⟩ = some (x) := vA1.c 7 rfl
  have m8_ : w2.cell? ⟨w.heap.size, 8, none⟩ = some (.int .i64 tp) := vA1.c 8 rfl
  have m9_ : w2.cell? ⟨w.heap.size, 9, none⟩ = some (.int .i64 tq) := vA1.c 9 rfl
  have m10_ : w2.cell? ⟨w.heap.size, 10, none⟩ = some (.bool td) := vA1.c 10 rfl
  have m11_ : w2.cell? ⟨w.heap.size, 11, none⟩ = some (y) := vA1.c 11 rfl
  have m12_ : w2.cell? ⟨w.heap.size, 12, none⟩ = some (.int .i64 ov) := vA1.c 12 rfl
  have m13_ : w2.cell? ⟨w.heap.size, 13, none⟩ = some (.int .i64 hp) := vA1.c 13 rfl
  have m14_ : w2.cell? ⟨w.heap.size, 14, none⟩ = some (.int .i64 hq) := vA1.c 14 rfl
  have m15_ : w2.cell? ⟨w.heap.size, 15, none⟩ = some (.bool hd) := vA1.c 15 rfl
  have m16_ : w2.cell? ⟨w.heap.size, 16, none⟩ = some (.int .i64 rc) := vA1.c 16 rfl
  have m17_ : w2.cell? ⟨w.heap.size, 17, none⟩ = some (.int .i64 rp_) := vA1.c 17 rfl
  have m18_ : w2.cell? ⟨w.heap.size, 18, none⟩ = some (.int .i64 rq_) := vA1.c 18 rfl
  have m19_ : w2.cell? ⟨w.heap.size, 19, none⟩ = some (.bool rd) := vA1.c 19 rfl
  have m20_ : w2.cell? ⟨w.heap.size, 20, none⟩ = some (.int .i64 rv) := vA1.c 20 rfl
  have m21_ : w2.cell? ⟨w.heap.size, 21, none⟩ = some (z) := vA1.c 21 rfl
  go_region_held3 (fun w' => w'.cell? ⟨w.heap.size, 1, none⟩ = some (.int .i64 fr) ∧ w'.cell? ⟨w.heap.size, 2, none⟩ = some (.int .i64 rq) ∧ w'.cell? ⟨w.heap.size, 3, none⟩ = some (.int .i64 ok) ∧ w'.cell? ⟨w.heap.size, 4, none⟩ = some (.int .i64 op_) ∧ w'.cell? ⟨w.heap.size, 5, none⟩ = some (.int .i64 oq) ∧ w'.cell? ⟨w.heap.size, 6, none⟩ = some (.bool od) ∧ w'.cell? ⟨w.heap.size, 7, none⟩ = some (x) ∧ w'.cell? ⟨w.heap.size, 8, none⟩ = some (.int .i64 tp) ∧ w'.cell? ⟨w.heap.size, 9, none⟩ = some (.int .i64 tq) ∧ w'.cell? ⟨w.heap.size, 10, none⟩ = some (.bool td) ∧ w'.cell? ⟨w.heap.size, 11, none⟩ = some (y) ∧ w'.cell? ⟨w.heap.size, 12, none⟩ = some (.int .i64 ov) ∧ w'.cell? ⟨w.heap.size, 13, none⟩ = some (.int .i64 hp) ∧ w'.cell? ⟨w.heap.size, 14, none⟩ = some (.int .i64 hq) ∧ w'.cell? ⟨w.heap.size, 15, none⟩ = some (.bool hd) ∧ w'.cell? ⟨w.heap.size, 16, none⟩ = some (.int .i64 rc) ∧ w'.cell? ⟨w.heap.size, 17, none⟩ = some (.int .i64 rp_) ∧ w'.cell? ⟨w.heap.size, 18, none⟩ = some (.int .i64 rq_) ∧ w'.cell? ⟨w.heap.size, 19, none⟩ = some (.bool rd) ∧ w'.cell? ⟨w.heap.size, 20, none⟩ = some (.int .i64 rv) ∧ w'.cell? ⟨w.heap.size, 21, none⟩ = some (z)) (first | go_keep | (refine ⟨?_, ?_, ?_, ?_, ?_, ?_, ?_, ?_, ?_, ?_, ?_, ?_, ?_, ?_, ?_, ?_, ?_, ?_, ?_, ?_, ?_⟩ <;> assumption)) (first
      | (go_at_call 79; (with_reducible refine Calls.mono (specPutR v1 ([] ++ putB 1) fr _ _ ((Owns.step o1 (by repeat (first | exact Below.refl _ _ | refine Below.al2 ?_ _ | refine Below.drew ?_ | refine below_drewN2 ?_ _))).rdT z1) (by simp only [List.length_append, List.length_nil]; omega)) ?_); rintro e w3 ⟨v2, rfl, z2, o2, b_⟩; have HB2 : Hid (Below w.heap.size w w3) := HB1.out.trans (Below.mono (Below.trans (by repeat (first | exact Below.refl _ _ | refine Below.al2 ?_ _ | refine Below.drew ?_ | refine below_drewN2 ?_ _)) b_) HB1.out.size); have vA2 : VarA w3 w.heap.size 48 #[.int .i64 1, .int .i64 fr, .int .i64 rq, .int .i64 ok, .int .i64 op_, .int .i64 oq, .bool od, x, .int .i64 tp, .int .i64 tq, .bool td, y, .int .i64 ov, .int .i64 hp, .int .i64 hq, .bool hd, .int .i64 rc, .int .i64 rp_, .int .i64 rq_, .bool rd, .int .i64 rv, z, .int .i64 xs, .int .i64 xb, .int .i64 xn, .int .i64 pk, .int .i64 pp, .int .i64 pq, .bool pd, u, .int .i64 sp, .int .i64 sq, .bool sd, .int .i64 cd] := VarA.step vA1 (Below.trans (by repeat (first | exact Below.refl _ _ | refine Below.al2 ?_ _ | refine Below.drew ?_ | refine below_drewN2 ?_ _)) b_); clear b_; have m0_2 : w3.cell? ⟨w.heap.size, 0, none⟩ = some (.int .i64 1) := vA2.c 0 rfl; have m1_2 : w3.cell? ⟨w.heap.size, 1, none⟩ = some (.int .i64 fr) := vA2.c 1 rfl; have m2_2 : w3.cell? ⟨w.heap.size, 2, none⟩ = some (.int .i64 rq) := vA2.c 2 rfl; have m3_2 : w3.cell? ⟨w.heap.size, 3, none⟩ = some (.int .i64 ok) := vA2.c 3 rfl; have m4_2 : w3.cell? ⟨w.heap.size, 4, none⟩ = some (.int .i64 op_) := vA2.c 4 rfl; have m5_2 : w3.cell? ⟨w.heap.size, 5, none⟩ = some (.int .i64 oq) := vA2.c 5 rfl; have m6_2 : w3.cell? ⟨w.heap.size, 6, none⟩ = some (.bool od) := vA2.c 6 rfl; have m7_2 : w3.cell? ⟨w.heap.size, 7, none⟩ = some (x) := vA2.c 7 rfl; have m8_2 : w3.cell? ⟨w.heap.size, 8, none⟩ = some (.int .i64 tp) := vA2.c 8 rfl; have m9_2 : w3.cell? ⟨w.heap.size, 9, none⟩ = some (.int .i64 tq) := vA2.c 9 rfl; have m10_2 : w3.cell? ⟨w.heap.size, 10, none⟩ = some (.bool td) := vA2.c 10 rfl; have m11_2 : w3.cell? ⟨w.heap.size, 11, none⟩ = some (y) := vA2.c 11 rfl; have m12_2 : w3.cell? ⟨w.heap.size, 12, none⟩ = some (.int .i64 ov) := vA2.c 12 rfl; have m13_2 : w3.cell? ⟨w.heap.size, 13, none⟩ = some (.int .i64 hp) := vA2.c 13 rfl; have m14_2 : w3.cell? ⟨w.heap.size, 14, none⟩ = some (.int .i64 hq) := vA2.c 14 rfl; have m15_2 : w3.cell? ⟨w.heap.size, 15, none⟩ = some (.bool hd) := vA2.c 15 rfl; have m16_2 : w3.cell? ⟨w.heap.size, 16, none⟩ = some (.int .i64 rc) := vA2.c 16 rfl; have m17_2 : w3.cell? ⟨w.heap.size, 17, none⟩ = some (.int .i64 rp_) := vA2.c 17 rfl; have m18_2 : w3.cell? ⟨w.heap.size, 18, none⟩ = some (.int .i64 rq_) := vA2.c 18 rfl; have m19_2 : w3.cell? ⟨w.heap.size, 19, none⟩ = some (.bool rd) := vA2.c 19 rfl; have m20_2 : w3.cell? ⟨w.heap.size, 20, none⟩ = some (.int .i64 rv) := vA2.c 20 rfl; have m21_2 : w3.cell? ⟨w.heap.size, 21, none⟩ = some (z) := vA2.c 21 rfl)
      | (go_at_call 79; (with_reducible refine Calls.mono (specPutR v2 ([] ++ putB 1 ++ putB fr) rq _ _ ((Owns.step o2 (by repeat (first | exact Below.refl _ _ | refine Below.al2 ?_ _ | refine Below.drew ?_ | refine below_drewN2 ?_ _))).rdT z2) (by simp only [List.length_append, List.length_nil]; omega)) ?_); rintro e w4 ⟨v3, rfl, z3, o3, b_⟩; have HB3 : Hid (Below w.heap.size w w4) := HB2.out.trans (Below.mono (Below.trans (by repeat (first | exact Below.refl _ _ | refine Below.al2 ?_ _ | refine Below.drew ?_ | refine below_drewN2 ?_ _)) b_) HB2.out.size); have vA3 : VarA w4 w.heap.size 48 #[.int .i64 1, .int .i64 fr, .int .i64 rq, .int .i64 ok, .int .i64 op_, .int .i64 oq, .bool od, x, .int .i64 tp, .int .i64 tq, .bool td, y, .int .i64 ov, .int .i64 hp, .int .i64 hq, .bool hd, .int .i64 rc, .int .i64 rp_, .int .i64 rq_, .bool rd, .int .i64 rv, z, .int .i64 xs, .int .i64 xb, .int .i64 xn, .int .i64 pk, .int .i64 pp, .int .i64 pq, .bool pd, u, .int .i64 sp, .int .i64 sq, .bool sd, .int .i64 cd] := VarA.step vA2 (Below.trans (by repeat (first | exact Below.refl _ _ | refine Below.al2 ?_ _ | refine Below.drew ?_ | refine below_drewN2 ?_ _)) b_); clear b_; have m0_3 : w4.cell? ⟨w.heap.size, 0, none⟩ = some (.int .i64 1) := vA3.c 0 rfl; have m1_3 : w4.cell? ⟨w.heap.size, 1, none⟩ = some (.int .i64 fr) := vA3.c 1 rfl; have m2_3 : w4.cell? ⟨w.heap.size, 2, none⟩ = some (.int .i64 rq) := vA3.c 2 rfl; have m3_3 : w4.cell? ⟨w.heap.size, 3, none⟩ = some (.int .i64 ok) := vA3.c 3 rfl; have m4_3 : w4.cell? ⟨w.heap.size, 4, none⟩ = some (.int .i64 op_) := vA3.c 4 rfl; have m5_3 : w4.cell? ⟨w.heap.size, 5, none⟩ = some (.int .i64 oq) := vA3.c 5 rfl; have m6_3 : w4.cell? ⟨w.heap.size, 6, none⟩ = some (.bool od) := vA3.c 6 rfl; have m7_3 : w4.cell? ⟨w.heap.size, 7, none⟩ = some (x) := vA3.c 7 rfl; have m8_3 : w4.cell? ⟨w.heap.size, 8, none⟩ = some (.int .i64 tp) := vA3.c 8 rfl; have m9_3 : w4.cell? ⟨w.heap.size, 9, none⟩ = some (.int .i64 tq) := vA3.c 9 rfl; have m10_3 : w4.cell? ⟨w.heap.size, 10, none⟩ = some (.bool td) := vA3.c 10 rfl; have m11_3 : w4.cell? ⟨w.heap.size, 11, none⟩ = some (y) := vA3.c 11 rfl; have m12_3 : w4.cell? ⟨w.heap.size, 12, none⟩ = some (.int .i64 ov) := vA3.c 12 rfl; have m13_3 : w4.cell? ⟨w.heap.size, 13, none⟩ = some (.int .i64 hp) := vA3.c 13 rfl; have m14_3 : w4.cell? ⟨w.heap.size, 14, none⟩ = some (.int .i64 hq) := vA3.c 14 rfl; have m15_3 : w4.cell? ⟨w.heap.size, 15, none⟩ = some (.bool hd) := vA3.c 15 rfl; have m16_3 : w4.cell? ⟨w.heap.size, 16, none⟩ = some (.int .i64 rc) := vA3.c 16 rfl; have m17_3 : w4.cell? ⟨w.heap.size, 17, none⟩ = some (.int .i64 rp_) := vA3.c 17 rfl; have m18_3 : w4.cell? ⟨w.heap.size, 18, none⟩ = some (.int .i64 rq_) := vA3.c 18 rfl; have m19_3 : w4.cell? ⟨w.heap.size, 19, none⟩ = some (.bool rd) := vA3.c 19 rfl; have m20_3 : w4.cell? ⟨w.heap.size, 20, none⟩ = some (.int .i64 rv) := vA3.c 20 rfl; have m21_3 : w4.cell? ⟨w.heap.size, 21, none⟩ = some (z) := vA3.c 21 rfl)
      | (go_at_call 82; (with_reducible refine Calls.mono (specOpR v3 ([] ++ putB 1 ++ putB fr ++ putB rq) ⟨ok, (op_, oq, od), nm, (tp, tq, td), asn, ov⟩ x y _ S _ ((Owns.step o3 (by repeat (first | exact Below.refl _ _ | refine Below.al2 ?_ _ | refine Below.drew ?_ | refine below_drewN2 ?_ _))).rdT z3) (by simp only [List.length_append, List.length_nil]; omega) (HX.out _ (HB3.out.trans (Below.mono (by repeat (first | exact Below.refl _ _ | refine Below.al2 ?_ _ | refine Below.drew ?_ | refine below_drewN2 ?_ _)) HB3.out.size))) (HY.out _ (HB3.out.trans (Below.mono (by repeat (first | exact Below.refl _ _ | refine Below.al2 ?_ _ | refine Below.drew ?_ | refine below_drewN2 ?_ _)) HB3.out.size))) (by dsimp only; omega) (by dsimp only; omega)) ?_); rintro e w5 ⟨v4, rfl, z4, o4, b_⟩; have HB4 : Hid (Below w.heap.size w w5) := HB3.out.trans (Below.mono (Below.trans (by repeat (first | exact Below.refl _ _ | refine Below.al2 ?_ _ | refine Below.drew ?_ | refine below_drewN2 ?_ _)) b_) HB3.out.size); have vA4 : VarA w5 w.heap.size 48 #[.int .i64 1, .int .i64 fr, .int .i64 rq, .int .i64 ok, .int .i64 op_, .int .i64 oq, .bool od, x, .int .i64 tp, .int .i64 tq, .bool td, y, .int .i64 ov, .int .i64 hp, .int .i64 hq, .bool hd, .int .i64 rc, .int .i64 rp_, .int .i64 rq_, .bool rd, .int .i64 rv, z, .int .i64 xs, .int .i64 xb, .int .i64 xn, .int .i64 pk, .int .i64 pp, .int .i64 pq, .bool pd, u, .int .i64 sp, .int .i64 sq, .bool sd, .int .i64 cd] := VarA.step vA3 (Below.trans (by repeat (first | exact Below.refl _ _ | refine Below.al2 ?_ _ | refine Below.drew ?_ | refine below_drewN2 ?_ _)) b_); clear b_; have m0_4 : w5.cell? ⟨w.heap.size, 0, none⟩ = some (.int .i64 1) := vA4.c 0 rfl; have m1_4 : w5.cell? ⟨w.heap.size, 1, none⟩ = some (.int .i64 fr) := vA4.c 1 rfl; have m2_4 : w5.cell? ⟨w.heap.size, 2, none⟩ = some (.int .i64 rq) := vA4.c 2 rfl; have m3_4 : w5.cell? ⟨w.heap.size, 3, none⟩ = some (.int .i64 ok) := vA4.c 3 rfl; have m4_4 : w5.cell? ⟨w.heap.size, 4, none⟩ = some (.int .i64 op_) := vA4.c 4 rfl; have m5_4 : w5.cell? ⟨w.heap.size, 5, none⟩ = some (.int .i64 oq) := vA4.c 5 rfl; have m6_4 : w5.cell? ⟨w.heap.size, 6, none⟩ = some (.bool od) := vA4.c 6 rfl; have m7_4 : w5.cell? ⟨w.heap.size, 7, none⟩ = some (x) := vA4.c 7 rfl; have m8_4 : w5.cell? ⟨w.heap.size, 8, none⟩ = some (.int .i64 tp) := vA4.c 8 rfl; have m9_4 : w5.cell? ⟨w.heap.size, 9, none⟩ = some (.int .i64 tq) := vA4.c 9 rfl; have m10_4 : w5.cell? ⟨w.heap.size, 10, none⟩ = some (.bool td) := vA4.c 10 rfl; have m11_4 : w5.cell? ⟨w.heap.size, 11, none⟩ = some (y) := vA4.c 11 rfl; have m12_4 : w5.cell? ⟨w.heap.size, 12, none⟩ = some (.int .i64 ov) := vA4.c 12 rfl; have m13_4 : w5.cell? ⟨w.heap.size, 13, none⟩ = some (.int .i64 hp) := vA4.c 13 rfl; have m14_4 : w5.cell? ⟨w.heap.size, 14, none⟩ = some (.int .i64 hq) := vA4.c 14 rfl; have m15_4 : w5.cell? ⟨w.heap.size, 15, none⟩ = some (.bool hd) := vA4.c 15 rfl; have m16_4 : w5.cell? ⟨w.heap.size, 16, none⟩ = some (.int .i64 rc) := vA4.c 16 rfl; have m17_4 : w5.cell? ⟨w.heap.size, 17, none⟩ = some (.int .i64 rp_) := vA4.c 17 rfl; have m18_4 : w5.cell? ⟨w.heap.size, 18, none⟩ = some (.int .i64 rq_) := vA4.c 18 rfl; have m19_4 : w5.cell? ⟨w.heap.size, 19, none⟩ = some (.bool rd) := vA4.c 19 rfl; have m20_4 : w5.cell? ⟨w.heap.size, 20, none⟩ = some (.int .i64 rv) := vA4.c 20 rfl; have m21_4 : w5.cell? ⟨w.heap.size, 21, none⟩ = some (z) := vA4.c 21 rfl)
      | (go_at_call 81; (with_reducible refine Calls.mono (specHandX v4 ([] ++ putB 1 ++ putB fr ++ putB rq ++ opB ⟨ok, (op_, oq, od), nm, (tp, tq, td), asn, ov⟩) hp hq hd _ _ ((Owns.step o4 (by repeat (first | exact Below.refl _ _ | refine Below.al2 ?_ _ | refine Below.drew ?_ | refine below_drewN2 ?_ _))).rdT z4) (by simp only [List.length_append, List.length_nil]; omega)) ?_); rintro e w6 ⟨v5, rfl, z5, o5, b_⟩; have HB5 : Hid (Below w.heap.size w w6) := HB4.out.trans (Below.mono (Below.trans (by repeat (first | exact Below.refl _ _ | refine Below.al2 ?_ _ | refine Below.drew ?_ | refine below_drewN2 ?_ _)) b_) HB4.out.size); have vA5 : VarA w6 w.heap.size 48 #[.int .i64 1, .int .i64 fr, .int .i64 rq, .int .i64 ok, .int .i64 op_, .int .i64 oq, .bool od, x, .int .i64 tp, .int .i64 tq, .bool td, y, .int .i64 ov, .int .i64 hp, .int .i64 hq, .bool hd, .int .i64 rc, .int .i64 rp_, .int .i64 rq_, .bool rd, .int .i64 rv, z, .int .i64 xs, .int .i64 xb, .int .i64 xn, .int .i64 pk, .int .i64 pp, .int .i64 pq, .bool pd, u, .int .i64 sp, .int .i64 sq, .bool sd, .int .i64 cd] := VarA.step vA4 (Below.trans (by repeat (first | exact Below.refl _ _ | refine Below.al2 ?_ _ | refine Below.drew ?_ | refine below_drewN2 ?_ _)) b_); clear b_; have m0_5 : w6.cell? ⟨w.heap.size, 0, none⟩ = some (.int .i64 1) := vA5.c 0 rfl; have m1_5 : w6.cell? ⟨w.heap.size, 1, none⟩ = some (.int .i64 fr) := vA5.c 1 rfl; have m2_5 : w6.cell? ⟨w.heap.size, 2, none⟩ = some (.int .i64 rq) := vA5.c 2 rfl; have m3_5 : w6.cell? ⟨w.heap.size, 3, none⟩ = some (.int .i64 ok) := vA5.c 3 rfl; have m4_5 : w6.cell? ⟨w.heap.size, 4, none⟩ = some (.int .i64 op_) := vA5.c 4 rfl; have m5_5 : w6.cell? ⟨w.heap.size, 5, none⟩ = some (.int .i64 oq) := vA5.c 5 rfl; have m6_5 : w6.cell? ⟨w.heap.size, 6, none⟩ = some (.bool od) := vA5.c 6 rfl; have m7_5 : w6.cell? ⟨w.heap.size, 7, none⟩ = some (x) := vA5.c 7 rfl; have m8_5 : w6.cell? ⟨w.heap.size, 8, none⟩ = some (.int .i64 tp) := vA5.c 8 rfl; have m9_5 : w6.cell? ⟨w.heap.size, 9, none⟩ = some (.int .i64 tq) := vA5.c 9 rfl; have m10_5 : w6.cell? ⟨w.heap.size, 10, none⟩ = some (.bool td) := vA5.c 10 rfl; have m11_5 : w6.cell? ⟨w.heap.size, 11, none⟩ = some (y) := vA5.c 11 rfl; have m12_5 : w6.cell? ⟨w.heap.size, 12, none⟩ = some (.int .i64 ov) := vA5.c 12 rfl; have m13_5 : w6.cell? ⟨w.heap.size, 13, none⟩ = some (.int .i64 hp) := vA5.c 13 rfl; have m14_5 : w6.cell? ⟨w.heap.size, 14, none⟩ = some (.int .i64 hq) := vA5.c 14 rfl; have m15_5 : w6.cell? ⟨w.heap.size, 15, none⟩ = some (.bool hd) := vA5.c 15 rfl; have m16_5 : w6.cell? ⟨w.heap.size, 16, none⟩ = some (.int .i64 rc) := vA5.c 16 rfl; have m17_5 : w6.cell? ⟨w.heap.size, 17, none⟩ = some (.int .i64 rp_) := vA5.c 17 rfl; have m18_5 : w6.cell? ⟨w.heap.size, 18, none⟩ = some (.int .i64 rq_) := vA5.c 18 rfl; have m19_5 : w6.cell? ⟨w.heap.size, 19, none⟩ = some (.bool rd) := vA5.c 19 rfl; have m20_5 : w6.cell? ⟨w.heap.size, 20, none⟩ = some (.int .i64 rv) := vA5.c 20 rfl; have m21_5 : w6.cell? ⟨w.heap.size, 21, none⟩ = some (z) := vA5.c 21 rfl)
      | (go_at_call 80; (with_reducible refine Calls.mono (specReplyR v5 ([] ++ putB 1 ++ putB fr ++ putB rq ++ opB ⟨ok, (op_, oq, od), nm, (tp, tq, td), asn, ov⟩ ++ hdB (hp, hq, hd)) ⟨rc, (rp_, rq_, rd), rv, es⟩ z _ S _ ((Owns.step o5 (by repeat (first | exact Below.refl _ _ | refine Below.al2 ?_ _ | refine Below.drew ?_ | refine below_drewN2 ?_ _))).rdT z5) (by simp only [List.length_append, List.length_nil]; omega) (HZL.out _ (HB5.out.trans (Below.mono (by repeat (first | exact Below.refl _ _ | refine Below.al2 ?_ _ | refine Below.drew ?_ | refine below_drewN2 ?_ _)) HB5.out.size))) (by dsimp only; omega) (by dsimp only; omega)) ?_); rintro e w7 ⟨v6, rfl, z6, o6, b_⟩; have HB6 : Hid (Below w.heap.size w w7) := HB5.out.trans (Below.mono (Below.trans (by repeat (first | exact Below.refl _ _ | refine Below.al2 ?_ _ | refine Below.drew ?_ | refine below_drewN2 ?_ _)) b_) HB5.out.size); have vA6 : VarA w7 w.heap.size 48 #[.int .i64 1, .int .i64 fr, .int .i64 rq, .int .i64 ok, .int .i64 op_, .int .i64 oq, .bool od, x, .int .i64 tp, .int .i64 tq, .bool td, y, .int .i64 ov, .int .i64 hp, .int .i64 hq, .bool hd, .int .i64 rc, .int .i64 rp_, .int .i64 rq_, .bool rd, .int .i64 rv, z, .int .i64 xs, .int .i64 xb, .int .i64 xn, .int .i64 pk, .int .i64 pp, .int .i64 pq, .bool pd, u, .int .i64 sp, .int .i64 sq, .bool sd, .int .i64 cd] := VarA.step vA5 (Below.trans (by repeat (first | exact Below.refl _ _ | refine Below.al2 ?_ _ | refine Below.drew ?_ | refine below_drewN2 ?_ _)) b_); clear b_; have m0_6 : w7.cell? ⟨w.heap.size, 0, none⟩ = some (.int .i64 1) := vA6.c 0 rfl; have m1_6 : w7.cell? ⟨w.heap.size, 1, none⟩ = some (.int .i64 fr) := vA6.c 1 rfl; have m2_6 : w7.cell? ⟨w.heap.size, 2, none⟩ = some (.int .i64 rq) := vA6.c 2 rfl; have m3_6 : w7.cell? ⟨w.heap.size, 3, none⟩ = some (.int .i64 ok) := vA6.c 3 rfl; have m4_6 : w7.cell? ⟨w.heap.size, 4, none⟩ = some (.int .i64 op_) := vA6.c 4 rfl; have m5_6 : w7.cell? ⟨w.heap.size, 5, none⟩ = some (.int .i64 oq) := vA6.c 5 rfl; have m6_6 : w7.cell? ⟨w.heap.size, 6, none⟩ = some (.bool od) := vA6.c 6 rfl; have m7_6 : w7.cell? ⟨w.heap.size, 7, none⟩ = some (x) := vA6.c 7 rfl; have m8_6 : w7.cell? ⟨w.heap.size, 8, none⟩ = some (.int .i64 tp) := vA6.c 8 rfl; have m9_6 : w7.cell? ⟨w.heap.size, 9, none⟩ = some (.int .i64 tq) := vA6.c 9 rfl; have m10_6 : w7.cell? ⟨w.heap.size, 10, none⟩ = some (.bool td) := vA6.c 10 rfl; have m11_6 : w7.cell? ⟨w.heap.size, 11, none⟩ = some (y) := vA6.c 11 rfl; have m12_6 : w7.cell? ⟨w.heap.size, 12, none⟩ = some (.int .i64 ov) := vA6.c 12 rfl; have m13_6 : w7.cell? ⟨w.heap.size, 13, none⟩ = some (.int .i64 hp) := vA6.c 13 rfl; have m14_6 : w7.cell? ⟨w.heap.size, 14, none⟩ = some (.int .i64 hq) := vA6.c 14 rfl; have m15_6 : w7.cell? ⟨w.heap.size, 15, none⟩ = some (.bool hd) := vA6.c 15 rfl; have m16_6 : w7.cell? ⟨w.heap.size, 16, none⟩ = some (.int .i64 rc) := vA6.c 16 rfl; have m17_6 : w7.cell? ⟨w.heap.size, 17, none⟩ = some (.int .i64 rp_) := vA6.c 17 rfl; have m18_6 : w7.cell? ⟨w.heap.size, 18, none⟩ = some (.int .i64 rq_) := vA6.c 18 rfl; have m19_6 : w7.cell? ⟨w.heap.size, 19, none⟩ = some (.bool rd) := vA6.c 19 rfl; have m20_6 : w7.cell? ⟨w.heap.size, 20, none⟩ = some (.int .i64 rv) := vA6.c 20 rfl; have m21_6 : w7.cell? ⟨w.heap.size, 21, none⟩ = some (z) := vA6.c 21 rfl))
  all_goals
    try go_wp2
    go_ret
    refine ⟨_, rfl, ?_, ?_, HB6.out⟩
    · simpa [rcB, rcRest, List.append_assoc] using z6
    · have o_ := o6.base (b' := w.heap.size) (by exact HB5.out.size)
      simpa [rcB, rcRest, List.append_assoc] using o_
set_option maxHeartbeats 8000000 in
theorem specRecB2 (m : MsD) (x y z u : Value) (S : Nat → Prop) (w : World) (r : RdM w S m x y z u) (hl : szMs m ≤ 1048576) (h12 : m.rp.list.length ≤ 12) (hk : m.kind = 2) : Ap 46 #[rcV m x y z u] w (rcB m) := by
  obtain ⟨r1, r2, r3, r4⟩ := r
  obtain ⟨kd, fr, to, rq, ⟨ok, ⟨op_, oq, od⟩, nm, ⟨tp, tq, td⟩, asn, ov⟩, ⟨rc, ⟨rp_, rq_, rd⟩, rv, es⟩, ⟨xs, xb, xn⟩, ⟨pk, ⟨pp, pq, pd⟩, pas, ⟨sp, sq, sd⟩⟩, cd, ⟨hp, hq, hd⟩⟩ := m
  unfold szMs at hl
  dsimp only at r1 r2 r3 r4 hl h12 hk ⊢
  subst hk
  have HX : Hid (∀ W, Below w.heap.size w W → _) := r1.old
  have HY : Hid (∀ W, Below w.heap.size w W → _) := r2.old
  have HZL : Hid (∀ W, Below w.heap.size w W → _) := r3.old
  have HUL : Hid (∀ W, Below w.heap.size w W → _) := r4.old
  have hes : szEns es ≤ 1048576 := by omega
  clear r1 r2 r3 r4
  have g0 := putB_len 2
  have g1 := putB_len fr
  have g2 := hdB_len (hp, hq, hd)
  have g3 := putB_len rq
  have g4 := opB_len ⟨ok, (op_, oq, od), nm, (tp, tq, td), asn, ov⟩
  have g5 := txB_len (xs, xb, xn)
  have g6 := ptB_len ⟨pk, (pp, pq, pd), pas, (sp, sq, sd)⟩
  have g7 := putB_len cd
  have HG : Hid (∀ v, v = Value.slice none 0 0 → ∀ W, RdV W (fun _ => True) v (.bytes [])) := fun v hv W => by rw [hv]; exact ⟨isBytes_nil, none, 0, 0, rfl, rfl, ⟨Nat.le_refl _, Nat.zero_le _, fun _ => ⟨rfl, rfl⟩⟩, .inl rfl⟩
  go_enter Try.func46, Try.ntmps46
  go_wp2_with (go_at_call 79; (with_reducible refine Calls.mono (specPutR (.slice none 0 0) [] 2 _ _ (HG.out _ rfl _) (by simp)) ?_); rintro e w2 ⟨v1, rfl, z1, o1, b_⟩; have HB1 : Hid (Below w.heap.size w w2) := Below.trans (by repeat (first | exact Below.refl _ _ | refine Below.al2 ?_ _ | refine Below.drew ?_ | refine below_drewN2 ?_ _)) (b_.mono (by simp [World.drew] <;> omega)); have vA1 : VarA w2 w.heap.size 48 #[.int .i64 2, .int .i64 fr, .int .i64 rq, .int .i64 ok, .int .i64 op_, .int .i64 oq, .bool od, x, .int .i64 tp, .int .i64 tq, .bool td, y, .int .i64 ov, .int .i64 hp, .int .i64 hq, .bool hd, .int .i64 rc, .int .i64 rp_, .int .i64 rq_, .bool rd, .int .i64 rv, z, .int .i64 xs, .int .i64 xb, .int .i64 xn, .int .i64 pk, .int .i64 pp, .int .i64 pq, .bool pd, u, .int .i64 sp, .int .i64 sq, .bool sd, .int .i64 cd] := VarA.step (VarA.new w _ _) b_; clear b_; have m0_1 : w2.cell? ⟨w.heap.size, 0, none⟩ = some (.int .i64 2) := vA1.c 0 rfl)
  have m0_ : w2.cell? ⟨w.heap.size, 0, none⟩ = some (.int .i64 2) := vA1.c 0 rfl
  have m13_ : w2.cell? ⟨w.heap.size, 13, none⟩ = some (.int .i64 hp) := vA1.c 13 rfl
  have m14_ : w2.cell? ⟨w.heap.size, 14, none⟩ = some (.int .i64 hq) := vA1.c 14 rfl
  have m15_ : w2.cell? ⟨w.heap.size, 15, none⟩ = some (.bool hd) := vA1.c 15 rfl
  have m22_ : w2.cell? ⟨w.heap.size, 22, none⟩ = some (.int .i64 xs) := vA1.c 22 rfl
  have m23_ : w2.cell? ⟨w.heap.size, 23, none⟩ = some (.int .i64 xb) := vA1.c 23 rfl
  have m24_ : w2.cell? ⟨w.heap.size, 24, none⟩ = some (.int .i64 xn) := vA1.c 24 rfl
  have m25_ : w2.cell? ⟨w.heap.size, 25, none⟩ = some (.int .i64 pk) := vA1.c 25 rfl
  have m26_ : w2.cell? ⟨w.heap.size, 26, none⟩ = some (.int .i64 pp) := vA1.c 26 rfl
  have m27_ : w2.cell? ⟨w.heap.size, 27, none⟩ = some (.int .i64 pq) := vA1.c 27 rfl
  have m28_ : w2.cell? ⟨w.heap.size, 28, none⟩ = some (.bool pd) := vA1.c 28 rfl
  have m29_ : w2.cell? ⟨w.heap.size, 29, none⟩ = some (u) := vA1.c 29 rfl
  have m30_ : w2.cell? ⟨w.heap.size, 30, none⟩ = some (.int .i64 sp) := vA1.c 30 rfl
  have m31_ : w2.cell? ⟨w.heap.size, 31, none⟩ = some (.int .i64 sq) := vA1.c 31 rfl
  have m32_ : w2.cell? ⟨w.heap.size, 32, none⟩ = some (.bool sd) := vA1.c 32 rfl
  have m33_ : w2.cell? ⟨w.heap.size, 33, none⟩ = some (.int .i64 cd) := vA1.c 33 rfl
  go_region_held3 (fun w' => w'.cell? ⟨w.heap.size, 13, none⟩ = some (.int .i64 hp) ∧ w'.cell? ⟨w.heap.size, 14, none⟩ = some (.int .i64 hq) ∧ w'.cell? ⟨w.heap.size, 15, none⟩ = some (.bool hd) ∧ w'.cell? ⟨w.heap.size, 22, none⟩ = some (.int .i64 xs) ∧ w'.cell? ⟨w.heap.size, 23, none⟩ = some (.int .i64 xb) ∧ w'.cell? ⟨w.heap.size, 24, none⟩ = some (.int .i64 xn) ∧ w'.cell? ⟨w.heap.size, 25, none⟩ = some (.int .i64 pk) ∧ w'.cell? ⟨w.heap.size, 26, none⟩ = some (.int .i64 pp) ∧ w'.cell? ⟨w.heap.size, 27, none⟩ = some (.int .i64 pq) ∧ w'.cell? ⟨w.heap.size, 28, none⟩ = some (.bool pd) ∧ w'.cell? ⟨w.heap.size, 29, none⟩ = some (u) ∧ w'.cell? ⟨w.heap.size, 30, none⟩ = some (.int .i64 sp) ∧ w'.cell? ⟨w.heap.size, 31, none⟩ = some (.int .i64 sq) ∧ w'.cell? ⟨w.heap.size, 32, none⟩ = some (.bool sd) ∧ w'.cell? ⟨w.heap.size, 33, none⟩ = some (.int .i64 cd)) (first | go_keep | (refine ⟨?_, ?_, ?_, ?_, ?_, ?_, ?_, ?_, ?_, ?_, ?_, ?_, ?_, ?_, ?_⟩ <;> assumption)) (first
      | (go_at_call 84; (with_reducible refine Calls.mono (specTxR v1 ([] ++ putB 2) (xs, xb, xn) _ (fun _ => True) _ ((Owns.step o1 (by repeat (first | exact Below.refl _ _ | refine Below.al2 ?_ _ | refine Below.drew ?_ | refine below_drewN2 ?_ _))).rdT z1) (by simp only [List.length_append, List.length_nil]; omega)) ?_); rintro e w3 ⟨v2, rfl, z2, o2, b_⟩; have HB2 : Hid (Below w.heap.size w w3) := HB1.out.trans (Below.mono (Below.trans (by repeat (first | exact Below.refl _ _ | refine Below.al2 ?_ _ | refine Below.drew ?_ | refine below_drewN2 ?_ _)) b_) HB1.out.size); have vA2 : VarA w3 w.heap.size 48 #[.int .i64 2, .int .i64 fr, .int .i64 rq, .int .i64 ok, .int .i64 op_, .int .i64 oq, .bool od, x, .int .i64 tp, .int .i64 tq, .bool td, y, .int .i64 ov, .int .i64 hp, .int .i64 hq, .bool hd, .int .i64 rc, .int .i64 rp_, .int .i64 rq_, .bool rd, .int .i64 rv, z, .int .i64 xs, .int .i64 xb, .int .i64 xn, .int .i64 pk, .int .i64 pp, .int .i64 pq, .bool pd, u, .int .i64 sp, .int .i64 sq, .bool sd, .int .i64 cd] := VarA.step vA1 (Below.trans (by repeat (first | exact Below.refl _ _ | refine Below.al2 ?_ _ | refine Below.drew ?_ | refine below_drewN2 ?_ _)) b_); clear b_; have m0_2 : w3.cell? ⟨w.heap.size, 0, none⟩ = some (.int .i64 2) := vA2.c 0 rfl; have m13_2 : w3.cell? ⟨w.heap.size, 13, none⟩ = some (.int .i64 hp) := vA2.c 13 rfl; have m14_2 : w3.cell? ⟨w.heap.size, 14, none⟩ = some (.int .i64 hq) := vA2.c 14 rfl; have m15_2 : w3.cell? ⟨w.heap.size, 15, none⟩ = some (.bool hd) := vA2.c 15 rfl; have m22_2 : w3.cell? ⟨w.heap.size, 22, none⟩ = some (.int .i64 xs) := vA2.c 22 rfl; have m23_2 : w3.cell? ⟨w.heap.size, 23, none⟩ = some (.int .i64 xb) := vA2.c 23 rfl; have m24_2 : w3.cell? ⟨w.heap.size, 24, none⟩ = some (.int .i64 xn) := vA2.c 24 rfl; have m25_2 : w3.cell? ⟨w.heap.size, 25, none⟩ = some (.int .i64 pk) := vA2.c 25 rfl; have m26_2 : w3.cell? ⟨w.heap.size, 26, none⟩ = some (.int .i64 pp) := vA2.c 26 rfl; have m27_2 : w3.cell? ⟨w.heap.size, 27, none⟩ = some (.int .i64 pq) := vA2.c 27 rfl; have m28_2 : w3.cell? ⟨w.heap.size, 28, none⟩ = some (.bool pd) := vA2.c 28 rfl; have m29_2 : w3.cell? ⟨w.heap.size, 29, none⟩ = some (u) := vA2.c 29 rfl; have m30_2 : w3.cell? ⟨w.heap.size, 30, none⟩ = some (.int .i64 sp) := vA2.c 30 rfl; have m31_2 : w3.cell? ⟨w.heap.size, 31, none⟩ = some (.int .i64 sq) := vA2.c 31 rfl; have m32_2 : w3.cell? ⟨w.heap.size, 32, none⟩ = some (.bool sd) := vA2.c 32 rfl; have m33_2 : w3.cell? ⟨w.heap.size, 33, none⟩ = some (.int .i64 cd) := vA2.c 33 rfl)
      | (go_at_call 83; (with_reducible refine Calls.mono (specPartR v2 ([] ++ putB 2 ++ txB (xs, xb, xn)) ⟨pk, (pp, pq, pd), pas, (sp, sq, sd)⟩ u _ S _ ((Owns.step o2 (by repeat (first | exact Below.refl _ _ | refine Below.al2 ?_ _ | refine Below.drew ?_ | refine below_drewN2 ?_ _))).rdT z2) (by simp only [List.length_append, List.length_nil]; omega) (HUL.out _ (HB2.out.trans (Below.mono (by repeat (first | exact Below.refl _ _ | refine Below.al2 ?_ _ | refine Below.drew ?_ | refine below_drewN2 ?_ _)) HB2.out.size))) (by dsimp only; omega)) ?_); rintro e w4 ⟨v3, rfl, z3, o3, b_⟩; have HB3 : Hid (Below w.heap.size w w4) := HB2.out.trans (Below.mono (Below.trans (by repeat (first | exact Below.refl _ _ | refine Below.al2 ?_ _ | refine Below.drew ?_ | refine below_drewN2 ?_ _)) b_) HB2.out.size); have vA3 : VarA w4 w.heap.size 48 #[.int .i64 2, .int .i64 fr, .int .i64 rq, .int .i64 ok, .int .i64 op_, .int .i64 oq, .bool od, x, .int .i64 tp, .int .i64 tq, .bool td, y, .int .i64 ov, .int .i64 hp, .int .i64 hq, .bool hd, .int .i64 rc, .int .i64 rp_, .int .i64 rq_, .bool rd, .int .i64 rv, z, .int .i64 xs, .int .i64 xb, .int .i64 xn, .int .i64 pk, .int .i64 pp, .int .i64 pq, .bool pd, u, .int .i64 sp, .int .i64 sq, .bool sd, .int .i64 cd] := VarA.step vA2 (Below.trans (by repeat (first | exact Below.refl _ _ | refine Below.al2 ?_ _ | refine Below.drew ?_ | refine below_drewN2 ?_ _)) b_); clear b_; have m0_3 : w4.cell? ⟨w.heap.size, 0, none⟩ = some (.int .i64 2) := vA3.c 0 rfl; have m13_3 : w4.cell? ⟨w.heap.size, 13, none⟩ = some (.int .i64 hp) := vA3.c 13 rfl; have m14_3 : w4.cell? ⟨w.heap.size, 14, none⟩ = some (.int .i64 hq) := vA3.c 14 rfl; have m15_3 : w4.cell? ⟨w.heap.size, 15, none⟩ = some (.bool hd) := vA3.c 15 rfl; have m22_3 : w4.cell? ⟨w.heap.size, 22, none⟩ = some (.int .i64 xs) := vA3.c 22 rfl; have m23_3 : w4.cell? ⟨w.heap.size, 23, none⟩ = some (.int .i64 xb) := vA3.c 23 rfl; have m24_3 : w4.cell? ⟨w.heap.size, 24, none⟩ = some (.int .i64 xn) := vA3.c 24 rfl; have m25_3 : w4.cell? ⟨w.heap.size, 25, none⟩ = some (.int .i64 pk) := vA3.c 25 rfl; have m26_3 : w4.cell? ⟨w.heap.size, 26, none⟩ = some (.int .i64 pp) := vA3.c 26 rfl; have m27_3 : w4.cell? ⟨w.heap.size, 27, none⟩ = some (.int .i64 pq) := vA3.c 27 rfl; have m28_3 : w4.cell? ⟨w.heap.size, 28, none⟩ = some (.bool pd) := vA3.c 28 rfl; have m29_3 : w4.cell? ⟨w.heap.size, 29, none⟩ = some (u) := vA3.c 29 rfl; have m30_3 : w4.cell? ⟨w.heap.size, 30, none⟩ = some (.int .i64 sp) := vA3.c 30 rfl; have m31_3 : w4.cell? ⟨w.heap.size, 31, none⟩ = some (.int .i64 sq) := vA3.c 31 rfl; have m32_3 : w4.cell? ⟨w.heap.size, 32, none⟩ = some (.bool sd) := vA3.c 32 rfl; have m33_3 : w4.cell? ⟨w.heap.size, 33, none⟩ = some (.int .i64 cd) := vA3.c 33 rfl)
      | (go_at_call 79; (with_reducible refine Calls.mono (specPutR v3 ([] ++ putB 2 ++ txB (xs, xb, xn) ++ ptB ⟨pk, (pp, pq, pd), pas, (sp, sq, sd)⟩) cd _ _ ((Owns.step o3 (by repeat (first | exact Below.refl _ _ | refine Below.al2 ?_ _ | refine Below.drew ?_ | refine below_drewN2 ?_ _))).rdT z3) (by simp only [List.length_append, List.length_nil]; omega)) ?_); rintro e w5 ⟨v4, rfl, z4, o4, b_⟩; have HB4 : Hid (Below w.heap.size w w5) := HB3.out.trans (Below.mono (Below.trans (by repeat (first | exact Below.refl _ _ | refine Below.al2 ?_ _ | refine Below.drew ?_ | refine below_drewN2 ?_ _)) b_) HB3.out.size); have vA4 : VarA w5 w.heap.size 48 #[.int .i64 2, .int .i64 fr, .int .i64 rq, .int .i64 ok, .int .i64 op_, .int .i64 oq, .bool od, x, .int .i64 tp, .int .i64 tq, .bool td, y, .int .i64 ov, .int .i64 hp, .int .i64 hq, .bool hd, .int .i64 rc, .int .i64 rp_, .int .i64 rq_, .bool rd, .int .i64 rv, z, .int .i64 xs, .int .i64 xb, .int .i64 xn, .int .i64 pk, .int .i64 pp, .int .i64 pq, .bool pd, u, .int .i64 sp, .int .i64 sq, .bool sd, .int .i64 cd] := VarA.step vA3 (Below.trans (by repeat (first | exact Below.refl _ _ | refine Below.al2 ?_ _ | refine Below.drew ?_ | refine below_drewN2 ?_ _)) b_); clear b_; have m0_4 : w5.cell? ⟨w.heap.size, 0, none⟩ = some (.int .i64 2) := vA4.c 0 rfl; have m13_4 : w5.cell? ⟨w.heap.size, 13, none⟩ = some (.int .i64 hp) := vA4.c 13 rfl; have m14_4 : w5.cell? ⟨w.heap.size, 14, none⟩ = some (.int .i64 hq) := vA4.c 14 rfl; have m15_4 : w5.cell? ⟨w.heap.size, 15, none⟩ = some (.bool hd) := vA4.c 15 rfl; have m22_4 : w5.cell? ⟨w.heap.size, 22, none⟩ = some (.int .i64 xs) := vA4.c 22 rfl; have m23_4 : w5.cell? ⟨w.heap.size, 23, none⟩ = some (.int .i64 xb) := vA4.c 23 rfl; have m24_4 : w5.cell? ⟨w.heap.size, 24, none⟩ = some (.int .i64 xn) := vA4.c 24 rfl; have m25_4 : w5.cell? ⟨w.heap.size, 25, none⟩ = some (.int .i64 pk) := vA4.c 25 rfl; have m26_4 : w5.cell? ⟨w.heap.size, 26, none⟩ = some (.int .i64 pp) := vA4.c 26 rfl; have m27_4 : w5.cell? ⟨w.heap.size, 27, none⟩ = some (.int .i64 pq) := vA4.c 27 rfl; have m28_4 : w5.cell? ⟨w.heap.size, 28, none⟩ = some (.bool pd) := vA4.c 28 rfl; have m29_4 : w5.cell? ⟨w.heap.size, 29, none⟩ = some (u) := vA4.c 29 rfl; have m30_4 : w5.cell? ⟨w.heap.size, 30, none⟩ = some (.int .i64 sp) := vA4.c 30 rfl; have m31_4 : w5.cell? ⟨w.heap.size, 31, none⟩ = some (.int .i64 sq) := vA4.c 31 rfl; have m32_4 : w5.cell? ⟨w.heap.size, 32, none⟩ = some (.bool sd) := vA4.c 32 rfl; have m33_4 : w5.cell? ⟨w.heap.size, 33, none⟩ = some (.int .i64 cd) := vA4.c 33 rfl)
      | (go_at_call 81; (with_reducible refine Calls.mono (specHandX v4 ([] ++ putB 2 ++ txB (xs, xb, xn) ++ ptB ⟨pk, (pp, pq, pd), pas, (sp, sq, sd)⟩ ++ putB cd) hp hq hd _ _ ((Owns.step o4 (by repeat (first | exact Below.refl _ _ | refine Below.al2 ?_ _ | refine Below.drew ?_ | refine below_drewN2 ?_ _))).rdT z4) (by simp only [List.length_append, List.length_nil]; omega)) ?_); rintro e w6 ⟨v5, rfl, z5, o5, b_⟩; have HB5 : Hid (Below w.heap.size w w6) := HB4.out.trans (Below.mono (Below.trans (by repeat (first | exact Below.refl _ _ | refine Below.al2 ?_ _ | refine Below.drew ?_ | refine below_drewN2 ?_ _)) b_) HB4.out.size); have vA5 : VarA w6 w.heap.size 48 #[.int .i64 2, .int .i64 fr, .int .i64 rq, .int .i64 ok, .int .i64 op_, .int .i64 oq, .bool od, x, .int .i64 tp, .int .i64 tq, .bool td, y, .int .i64 ov, .int .i64 hp, .int .i64 hq, .bool hd, .int .i64 rc, .int .i64 rp_, .int .i64 rq_, .bool rd, .int .i64 rv, z, .int .i64 xs, .int .i64 xb, .int .i64 xn, .int .i64 pk, .int .i64 pp, .int .i64 pq, .bool pd, u, .int .i64 sp, .int .i64 sq, .bool sd, .int .i64 cd] := VarA.step vA4 (Below.trans (by repeat (first | exact Below.refl _ _ | refine Below.al2 ?_ _ | refine Below.drew ?_ | refine below_drewN2 ?_ _)) b_); clear b_; have m0_5 : w6.cell? ⟨w.heap.size, 0, none⟩ = some (.int .i64 2) := vA5.c 0 rfl; have m13_5 : w6.cell? ⟨w.heap.size, 13, none⟩ = some (.int .i64 hp) := vA5.c 13 rfl; have m14_5 : w6.cell? ⟨w.heap.size, 14, none⟩ = some (.int .i64 hq) := vA5.c 14 rfl; have m15_5 : w6.cell? ⟨w.heap.size, 15, none⟩ = some (.bool hd) := vA5.c 15 rfl; have m22_5 : w6.cell? ⟨w.heap.size, 22, none⟩ = some (.int .i64 xs) := vA5.c 22 rfl; have m23_5 : w6.cell? ⟨w.heap.size, 23, none⟩ = some (.int .i64 xb) := vA5.c 23 rfl; have m24_5 : w6.cell? ⟨w.heap.size, 24, none⟩ = some (.int .i64 xn) := vA5.c 24 rfl; have m25_5 : w6.cell? ⟨w.heap.size, 25, none⟩ = some (.int .i64 pk) := vA5.c 25 rfl; have m26_5 : w6.cell? ⟨w.heap.size, 26, none⟩ = some (.int .i64 pp) := vA5.c 26 rfl; have m27_5 : w6.cell? ⟨w.heap.size, 27, none⟩ = some (.int .i64 pq) := vA5.c 27 rfl; have m28_5 : w6.cell? ⟨w.heap.size, 28, none⟩ = some (.bool pd) := vA5.c 28 rfl; have m29_5 : w6.cell? ⟨w.heap.size, 29, none⟩ = some (u) := vA5.c 29 rfl; have m30_5 : w6.cell? ⟨w.heap.size, 30, none⟩ = some (.int .i64 sp) := vA5.c 30 rfl; have m31_5 : w6.cell? ⟨w.heap.size, 31, none⟩ = some (.int .i64 sq) := vA5.c 31 rfl; have m32_5 : w6.cell? ⟨w.heap.size, 32, none⟩ = some (.bool sd) := vA5.c 32 rfl; have m33_5 : w6.cell? ⟨w.heap.size, 33, none⟩ = some (.int .i64 cd) := vA5.c 33 rfl))
  all_goals
    try go_wp2
    go_ret
    refine ⟨_, rfl, ?_, ?_, HB5.out⟩
    · simpa [rcB, rcRest, List.append_assoc] using z5
    · have o_ := o5.base (b' := w.heap.size) (by exact HB4.out.size)
      simpa [rcB, rcRest, List.append_assoc] using o_
set_option maxHeartbeats 8000000 in
theorem specRecB3 (m : MsD) (x y z u : Value) (S : Nat → Prop) (w : World) (r : RdM w S m x y z u) (hl : szMs m ≤ 1048576) (h12 : m.rp.list.length ≤ 12) (hk : m.kind = 3) : Ap 46 #[rcV m x y z u] w (rcB m) := by
  obtain ⟨r1, r2, r3, r4⟩ := r
  obtain ⟨kd, fr, to, rq, ⟨ok, ⟨op_, oq, od⟩, nm, ⟨tp, tq, td⟩, asn, ov⟩, ⟨rc, ⟨rp_, rq_, rd⟩, rv, es⟩, ⟨xs, xb, xn⟩, ⟨pk, ⟨pp, pq, pd⟩, pas, ⟨sp, sq, sd⟩⟩, cd, ⟨hp, hq, hd⟩⟩ := m
  unfold szMs at hl
  dsimp only at r1 r2 r3 r4 hl h12 hk ⊢
  subst hk
  have HX : Hid (∀ W, Below w.heap.size w W → _) := r1.old
  have HY : Hid (∀ W, Below w.heap.size w W → _) := r2.old
  have HZL : Hid (∀ W, Below w.heap.size w W → _) := r3.old
  have HUL : Hid (∀ W, Below w.heap.size w W → _) := r4.old
  have hes : szEns es ≤ 1048576 := by omega
  clear r1 r2 r3 r4
  have g0 := putB_len 3
  have g1 := putB_len fr
  have g2 := hdB_len (hp, hq, hd)
  have g3 := putB_len rq
  have g4 := opB_len ⟨ok, (op_, oq, od), nm, (tp, tq, td), asn, ov⟩
  have g5 := txB_len (xs, xb, xn)
  have g6 := ptB_len ⟨pk, (pp, pq, pd), pas, (sp, sq, sd)⟩
  have g7 := putB_len cd
  have HG : Hid (∀ v, v = Value.slice none 0 0 → ∀ W, RdV W (fun _ => True) v (.bytes [])) := fun v hv W => by rw [hv]; exact ⟨isBytes_nil, none, 0, 0, rfl, rfl, ⟨Nat.le_refl _, Nat.zero_le _, fun _ => ⟨rfl, rfl⟩⟩, .inl rfl⟩
  go_enter Try.func46, Try.ntmps46
  go_wp2_with (go_at_call 79; (with_reducible refine Calls.mono (specPutR (.slice none 0 0) [] 3 _ _ (HG.out _ rfl _) (by simp)) ?_); rintro e w2 ⟨v1, rfl, z1, o1, b_⟩; have HB1 : Hid (Below w.heap.size w w2) := Below.trans (by repeat (first | exact Below.refl _ _ | refine Below.al2 ?_ _ | refine Below.drew ?_ | refine below_drewN2 ?_ _)) (b_.mono (by simp [World.drew] <;> omega)); have vA1 : VarA w2 w.heap.size 48 #[.int .i64 3, .int .i64 fr, .int .i64 rq, .int .i64 ok, .int .i64 op_, .int .i64 oq, .bool od, x, .int .i64 tp, .int .i64 tq, .bool td, y, .int .i64 ov, .int .i64 hp, .int .i64 hq, .bool hd, .int .i64 rc, .int .i64 rp_, .int .i64 rq_, .bool rd, .int .i64 rv, z, .int .i64 xs, .int .i64 xb, .int .i64 xn, .int .i64 pk, .int .i64 pp, .int .i64 pq, .bool pd, u, .int .i64 sp, .int .i64 sq, .bool sd, .int .i64 cd] := VarA.step (VarA.new w _ _) b_; clear b_; have m0_1 : w2.cell? ⟨w.heap.size, 0, none⟩ = some (.int .i64 3) := vA1.c 0 rfl)
  have m0_ : w2.cell? ⟨w.heap.size, 0, none⟩ = some (.int .i64 3) := vA1.c 0 rfl
  have m1_ : w2.cell? ⟨w.heap.size, 1, none⟩ = some (.int .i64 fr) := vA1.c 1 rfl
  have m2_ : w2.cell? ⟨w.heap.size, 2, none⟩ = some (.int .i64 rq) := vA1.c 2 rfl
  have m3_ : w2.cell? ⟨w.heap.size, 3, none⟩ = some (.int .i64 ok) := vA1.c 3 rfl
  have m4_ : w2.cell? ⟨w.heap.size, 4, none⟩ = some (.int .i64 op_) := vA1.c 4 rfl
  have m5_ : w2.cell? ⟨w.heap.size, 5, none⟩ = some (.int .i64 oq) := vA1.c 5 rfl
  have m6_ : w2.cell? ⟨w.heap.size, 6, none⟩ = some (.bool od) := vA1.c 6 rfl
  have m7_ : w2.cell? ⟨w.heap.size, 7, none⟩ = some (x) := vA1.c 7 rfl
  have m8_ : w2.cell? ⟨w.heap.size, 8, none⟩ = some (.int .i64 tp) := vA1.c 8 rfl
  have m9_ : w2.cell? ⟨w.heap.size, 9, none⟩ = some (.int .i64 tq) := vA1.c 9 rfl
  have m10_ : w2.cell? ⟨w.heap.size, 10, none⟩ = some (.bool td) := vA1.c 10 rfl
  have m11_ : w2.cell? ⟨w.heap.size, 11, none⟩ = some (y) := vA1.c 11 rfl
  have m12_ : w2.cell? ⟨w.heap.size, 12, none⟩ = some (.int .i64 ov) := vA1.c 12 rfl
  have m16_ : w2.cell? ⟨w.heap.size, 16, none⟩ = some (.int .i64 rc) := vA1.c 16 rfl
  have m17_ : w2.cell? ⟨w.heap.size, 17, none⟩ = some (.int .i64 rp_) := vA1.c 17 rfl
  have m18_ : w2.cell? ⟨w.heap.size, 18, none⟩ = some (.int .i64 rq_) := vA1.c 18 rfl
  have m19_ : w2.cell? ⟨w.heap.size, 19, none⟩ = some (.bool rd) := vA1.c 19 rfl
  have m20_ : w2.cell? ⟨w.heap.size, 20, none⟩ = some (.int .i64 rv) := vA1.c 20 rfl
  have m21_ : w2.cell? ⟨w.heap.size, 21, none⟩ = some (z) := vA1.c 21 rfl
  have m22_ : w2.cell? ⟨w.heap.size, 22, none⟩ = some (.int .i64 xs) := vA1.c 22 rfl
  have m23_ : w2.cell? ⟨w.heap.size, 23, none⟩ = some (.int .i64 xb) := vA1.c 23 rfl
  have m24_ : w2.cell? ⟨w.heap.size, 24, none⟩ = some (.int .i64 xn) := vA1.c 24 rfl
  have m33_ : w2.cell? ⟨w.heap.size, 33, none⟩ = some (.int .i64 cd) := vA1.c 33 rfl
  go_region_held3 (fun w' => w'.cell? ⟨w.heap.size, 1, none⟩ = some (.int .i64 fr) ∧ w'.cell? ⟨w.heap.size, 2, none⟩ = some (.int .i64 rq) ∧ w'.cell? ⟨w.heap.size, 3, none⟩ = some (.int .i64 ok) ∧ w'.cell? ⟨w.heap.size, 4, none⟩ = some (.int .i64 op_) ∧ w'.cell? ⟨w.heap.size, 5, none⟩ = some (.int .i64 oq) ∧ w'.cell? ⟨w.heap.size, 6, none⟩ = some (.bool od) ∧ w'.cell? ⟨w.heap.size, 7, none⟩ = some (x) ∧ w'.cell? ⟨w.heap.size, 8, none⟩ = some (.int .i64 tp) ∧ w'.cell? ⟨w.heap.size, 9, none⟩ = some (.int .i64 tq) ∧ w'.cell? ⟨w.heap.size, 10, none⟩ = some (.bool td) ∧ w'.cell? ⟨w.heap.size, 11, none⟩ = some (y) ∧ w'.cell? ⟨w.heap.size, 12, none⟩ = some (.int .i64 ov) ∧ w'.cell? ⟨w.heap.size, 16, none⟩ = some (.int .i64 rc) ∧ w'.cell? ⟨w.heap.size, 17, none⟩ = some (.int .i64 rp_) ∧ w'.cell? ⟨w.heap.size, 18, none⟩ = some (.int .i64 rq_) ∧ w'.cell? ⟨w.heap.size, 19, none⟩ = some (.bool rd) ∧ w'.cell? ⟨w.heap.size, 20, none⟩ = some (.int .i64 rv) ∧ w'.cell? ⟨w.heap.size, 21, none⟩ = some (z) ∧ w'.cell? ⟨w.heap.size, 22, none⟩ = some (.int .i64 xs) ∧ w'.cell? ⟨w.heap.size, 23, none⟩ = some (.int .i64 xb) ∧ w'.cell? ⟨w.heap.size, 24, none⟩ = some (.int .i64 xn) ∧ w'.cell? ⟨w.heap.size, 33, none⟩ = some (.int .i64 cd)) (first | go_keep | (refine ⟨?_, ?_, ?_, ?_, ?_, ?_, ?_, ?_, ?_, ?_, ?_, ?_, ?_, ?_, ?_, ?_, ?_, ?_, ?_, ?_, ?_, ?_⟩ <;> assumption)) (first
      | (go_at_call 84; (with_reducible refine Calls.mono (specTxR v1 ([] ++ putB 3) (xs, xb, xn) _ (fun _ => True) _ ((Owns.step o1 (by repeat (first | exact Below.refl _ _ | refine Below.al2 ?_ _ | refine Below.drew ?_ | refine below_drewN2 ?_ _))).rdT z1) (by simp only [List.length_append, List.length_nil]; omega)) ?_); rintro e w3 ⟨v2, rfl, z2, o2, b_⟩; have HB2 : Hid (Below w.heap.size w w3) := HB1.out.trans (Below.mono (Below.trans (by repeat (first | exact Below.refl _ _ | refine Below.al2 ?_ _ | refine Below.drew ?_ | refine below_drewN2 ?_ _)) b_) HB1.out.size); have vA2 : VarA w3 w.heap.size 48 #[.int .i64 3, .int .i64 fr, .int .i64 rq, .int .i64 ok, .int .i64 op_, .int .i64 oq, .bool od, x, .int .i64 tp, .int .i64 tq, .bool td, y, .int .i64 ov, .int .i64 hp, .int .i64 hq, .bool hd, .int .i64 rc, .int .i64 rp_, .int .i64 rq_, .bool rd, .int .i64 rv, z, .int .i64 xs, .int .i64 xb, .int .i64 xn, .int .i64 pk, .int .i64 pp, .int .i64 pq, .bool pd, u, .int .i64 sp, .int .i64 sq, .bool sd, .int .i64 cd] := VarA.step vA1 (Below.trans (by repeat (first | exact Below.refl _ _ | refine Below.al2 ?_ _ | refine Below.drew ?_ | refine below_drewN2 ?_ _)) b_); clear b_; have m0_2 : w3.cell? ⟨w.heap.size, 0, none⟩ = some (.int .i64 3) := vA2.c 0 rfl; have m1_2 : w3.cell? ⟨w.heap.size, 1, none⟩ = some (.int .i64 fr) := vA2.c 1 rfl; have m2_2 : w3.cell? ⟨w.heap.size, 2, none⟩ = some (.int .i64 rq) := vA2.c 2 rfl; have m3_2 : w3.cell? ⟨w.heap.size, 3, none⟩ = some (.int .i64 ok) := vA2.c 3 rfl; have m4_2 : w3.cell? ⟨w.heap.size, 4, none⟩ = some (.int .i64 op_) := vA2.c 4 rfl; have m5_2 : w3.cell? ⟨w.heap.size, 5, none⟩ = some (.int .i64 oq) := vA2.c 5 rfl; have m6_2 : w3.cell? ⟨w.heap.size, 6, none⟩ = some (.bool od) := vA2.c 6 rfl; have m7_2 : w3.cell? ⟨w.heap.size, 7, none⟩ = some (x) := vA2.c 7 rfl; have m8_2 : w3.cell? ⟨w.heap.size, 8, none⟩ = some (.int .i64 tp) := vA2.c 8 rfl; have m9_2 : w3.cell? ⟨w.heap.size, 9, none⟩ = some (.int .i64 tq) := vA2.c 9 rfl; have m10_2 : w3.cell? ⟨w.heap.size, 10, none⟩ = some (.bool td) := vA2.c 10 rfl; have m11_2 : w3.cell? ⟨w.heap.size, 11, none⟩ = some (y) := vA2.c 11 rfl; have m12_2 : w3.cell? ⟨w.heap.size, 12, none⟩ = some (.int .i64 ov) := vA2.c 12 rfl; have m16_2 : w3.cell? ⟨w.heap.size, 16, none⟩ = some (.int .i64 rc) := vA2.c 16 rfl; have m17_2 : w3.cell? ⟨w.heap.size, 17, none⟩ = some (.int .i64 rp_) := vA2.c 17 rfl; have m18_2 : w3.cell? ⟨w.heap.size, 18, none⟩ = some (.int .i64 rq_) := vA2.c 18 rfl; have m19_2 : w3.cell? ⟨w.heap.size, 19, none⟩ = some (.bool rd) := vA2.c 19 rfl; have m20_2 : w3.cell? ⟨w.heap.size, 20, none⟩ = some (.int .i64 rv) := vA2.c 20 rfl; have m21_2 : w3.cell? ⟨w.heap.size, 21, none⟩ = some (z) := vA2.c 21 rfl; have m22_2 : w3.cell? ⟨w.heap.size, 22, none⟩ = some (.int .i64 xs) := vA2.c 22 rfl; have m23_2 : w3.cell? ⟨w.heap.size, 23, none⟩ = some (.int .i64 xb) := vA2.c 23 rfl; have m24_2 : w3.cell? ⟨w.heap.size, 24, none⟩ = some (.int .i64 xn) := vA2.c 24 rfl; have m33_2 : w3.cell? ⟨w.heap.size, 33, none⟩ = some (.int .i64 cd) := vA2.c 33 rfl)
      | (go_at_call 79; (with_reducible refine Calls.mono (specPutR v2 ([] ++ putB 3 ++ txB (xs, xb, xn)) cd _ _ ((Owns.step o2 (by repeat (first | exact Below.refl _ _ | refine Below.al2 ?_ _ | refine Below.drew ?_ | refine below_drewN2 ?_ _))).rdT z2) (by simp only [List.length_append, List.length_nil]; omega)) ?_); rintro e w4 ⟨v3, rfl, z3, o3, b_⟩; have HB3 : Hid (Below w.heap.size w w4) := HB2.out.trans (Below.mono (Below.trans (by repeat (first | exact Below.refl _ _ | refine Below.al2 ?_ _ | refine Below.drew ?_ | refine below_drewN2 ?_ _)) b_) HB2.out.size); have vA3 : VarA w4 w.heap.size 48 #[.int .i64 3, .int .i64 fr, .int .i64 rq, .int .i64 ok, .int .i64 op_, .int .i64 oq, .bool od, x, .int .i64 tp, .int .i64 tq, .bool td, y, .int .i64 ov, .int .i64 hp, .int .i64 hq, .bool hd, .int .i64 rc, .int .i64 rp_, .int .i64 rq_, .bool rd, .int .i64 rv, z, .int .i64 xs, .int .i64 xb, .int .i64 xn, .int .i64 pk, .int .i64 pp, .int .i64 pq, .bool pd, u, .int .i64 sp, .int .i64 sq, .bool sd, .int .i64 cd] := VarA.step vA2 (Below.trans (by repeat (first | exact Below.refl _ _ | refine Below.al2 ?_ _ | refine Below.drew ?_ | refine below_drewN2 ?_ _)) b_); clear b_; have m0_3 : w4.cell? ⟨w.heap.size, 0, none⟩ = some (.int .i64 3) := vA3.c 0 rfl; have m1_3 : w4.cell? ⟨w.heap.size, 1, none⟩ = some (.int .i64 fr) := vA3.c 1 rfl; have m2_3 : w4.cell? ⟨w.heap.size, 2, none⟩ = some (.int .i64 rq) := vA3.c 2 rfl; have m3_3 : w4.cell? ⟨w.heap.size, 3, none⟩ = some (.int .i64 ok) := vA3.c 3 rfl; have m4_3 : w4.cell? ⟨w.heap.size, 4, none⟩ = some (.int .i64 op_) := vA3.c 4 rfl; have m5_3 : w4.cell? ⟨w.heap.size, 5, none⟩ = some (.int .i64 oq) := vA3.c 5 rfl; have m6_3 : w4.cell? ⟨w.heap.size, 6, none⟩ = some (.bool od) := vA3.c 6 rfl; have m7_3 : w4.cell? ⟨w.heap.size, 7, none⟩ = some (x) := vA3.c 7 rfl; have m8_3 : w4.cell? ⟨w.heap.size, 8, none⟩ = some (.int .i64 tp) := vA3.c 8 rfl; have m9_3 : w4.cell? ⟨w.heap.size, 9, none⟩ = some (.int .i64 tq) := vA3.c 9 rfl; have m10_3 : w4.cell? ⟨w.heap.size, 10, none⟩ = some (.bool td) := vA3.c 10 rfl; have m11_3 : w4.cell? ⟨w.heap.size, 11, none⟩ = some (y) := vA3.c 11 rfl; have m12_3 : w4.cell? ⟨w.heap.size, 12, none⟩ = some (.int .i64 ov) := vA3.c 12 rfl; have m16_3 : w4.cell? ⟨w.heap.size, 16, none⟩ = some (.int .i64 rc) := vA3.c 16 rfl; have m17_3 : w4.cell? ⟨w.heap.size, 17, none⟩ = some (.int .i64 rp_) := vA3.c 17 rfl; have m18_3 : w4.cell? ⟨w.heap.size, 18, none⟩ = some (.int .i64 rq_) := vA3.c 18 rfl; have m19_3 : w4.cell? ⟨w.heap.size, 19, none⟩ = some (.bool rd) := vA3.c 19 rfl; have m20_3 : w4.cell? ⟨w.heap.size, 20, none⟩ = some (.int .i64 rv) := vA3.c 20 rfl; have m21_3 : w4.cell? ⟨w.heap.size, 21, none⟩ = some (z) := vA3.c 21 rfl; have m22_3 : w4.cell? ⟨w.heap.size, 22, none⟩ = some (.int .i64 xs) := vA3.c 22 rfl; have m23_3 : w4.cell? ⟨w.heap.size, 23, none⟩ = some (.int .i64 xb) := vA3.c 23 rfl; have m24_3 : w4.cell? ⟨w.heap.size, 24, none⟩ = some (.int .i64 xn) := vA3.c 24 rfl; have m33_3 : w4.cell? ⟨w.heap.size, 33, none⟩ = some (.int .i64 cd) := vA3.c 33 rfl)
      | (go_at_call 79; (with_reducible refine Calls.mono (specPutR v3 ([] ++ putB 3 ++ txB (xs, xb, xn) ++ putB cd) fr _ _ ((Owns.step o3 (by repeat (first | exact Below.refl _ _ | refine Below.al2 ?_ _ | refine Below.drew ?_ | refine below_drewN2 ?_ _))).rdT z3) (by simp only [List.length_append, List.length_nil]; omega)) ?_); rintro e w5 ⟨v4, rfl, z4, o4, b_⟩; have HB4 : Hid (Below w.heap.size w w5) := HB3.out.trans (Below.mono (Below.trans (by repeat (first | exact Below.refl _ _ | refine Below.al2 ?_ _ | refine Below.drew ?_ | refine below_drewN2 ?_ _)) b_) HB3.out.size); have vA4 : VarA w5 w.heap.size 48 #[.int .i64 3, .int .i64 fr, .int .i64 rq, .int .i64 ok, .int .i64 op_, .int .i64 oq, .bool od, x, .int .i64 tp, .int .i64 tq, .bool td, y, .int .i64 ov, .int .i64 hp, .int .i64 hq, .bool hd, .int .i64 rc, .int .i64 rp_, .int .i64 rq_, .bool rd, .int .i64 rv, z, .int .i64 xs, .int .i64 xb, .int .i64 xn, .int .i64 pk, .int .i64 pp, .int .i64 pq, .bool pd, u, .int .i64 sp, .int .i64 sq, .bool sd, .int .i64 cd] := VarA.step vA3 (Below.trans (by repeat (first | exact Below.refl _ _ | refine Below.al2 ?_ _ | refine Below.drew ?_ | refine below_drewN2 ?_ _)) b_); clear b_; have m0_4 : w5.cell? ⟨w.heap.size, 0, none⟩ = some (.int .i64 3) := vA4.c 0 rfl; have m1_4 : w5.cell? ⟨w.heap.size, 1, none⟩ = some (.int .i64 fr) := vA4.c 1 rfl; have m2_4 : w5.cell? ⟨w.heap.size, 2, none⟩ = some (.int .i64 rq) := vA4.c 2 rfl; have m3_4 : w5.cell? ⟨w.heap.size, 3, none⟩ = some (.int .i64 ok) := vA4.c 3 rfl; have m4_4 : w5.cell? ⟨w.heap.size, 4, none⟩ = some (.int .i64 op_) := vA4.c 4 rfl; have m5_4 : w5.cell? ⟨w.heap.size, 5, none⟩ = some (.int .i64 oq) := vA4.c 5 rfl; have m6_4 : w5.cell? ⟨w.heap.size, 6, none⟩ = some (.bool od) := vA4.c 6 rfl; have m7_4 : w5.cell? ⟨w.heap.size, 7, none⟩ = some (x) := vA4.c 7 rfl; have m8_4 : w5.cell? ⟨w.heap.size, 8, none⟩ = some (.int .i64 tp) := vA4.c 8 rfl; have m9_4 : w5.cell? ⟨w.heap.size, 9, none⟩ = some (.int .i64 tq) := vA4.c 9 rfl; have m10_4 : w5.cell? ⟨w.heap.size, 10, none⟩ = some (.bool td) := vA4.c 10 rfl; have m11_4 : w5.cell? ⟨w.heap.size, 11, none⟩ = some (y) := vA4.c 11 rfl; have m12_4 : w5.cell? ⟨w.heap.size, 12, none⟩ = some (.int .i64 ov) := vA4.c 12 rfl; have m16_4 : w5.cell? ⟨w.heap.size, 16, none⟩ = some (.int .i64 rc) := vA4.c 16 rfl; have m17_4 : w5.cell? ⟨w.heap.size, 17, none⟩ = some (.int .i64 rp_) := vA4.c 17 rfl; have m18_4 : w5.cell? ⟨w.heap.size, 18, none⟩ = some (.int .i64 rq_) := vA4.c 18 rfl; have m19_4 : w5.cell? ⟨w.heap.size, 19, none⟩ = some (.bool rd) := vA4.c 19 rfl; have m20_4 : w5.cell? ⟨w.heap.size, 20, none⟩ = some (.int .i64 rv) := vA4.c 20 rfl; have m21_4 : w5.cell? ⟨w.heap.size, 21, none⟩ = some (z) := vA4.c 21 rfl; have m22_4 : w5.cell? ⟨w.heap.size, 22, none⟩ = some (.int .i64 xs) := vA4.c 22 rfl; have m23_4 : w5.cell? ⟨w.heap.size, 23, none⟩ = some (.int .i64 xb) := vA4.c 23 rfl; have m24_4 : w5.cell? ⟨w.heap.size, 24, none⟩ = some (.int .i64 xn) := vA4.c 24 rfl; have m33_4 : w5.cell? ⟨w.heap.size, 33, none⟩ = some (.int .i64 cd) := vA4.c 33 rfl)
      | (go_at_call 79; (with_reducible refine Calls.mono (specPutR v4 ([] ++ putB 3 ++ txB (xs, xb, xn) ++ putB cd ++ putB fr) rq _ _ ((Owns.step o4 (by repeat (first | exact Below.refl _ _ | refine Below.al2 ?_ _ | refine Below.drew ?_ | refine below_drewN2 ?_ _))).rdT z4) (by simp only [List.length_append, List.length_nil]; omega)) ?_); rintro e w6 ⟨v5, rfl, z5, o5, b_⟩; have HB5 : Hid (Below w.heap.size w w6) := HB4.out.trans (Below.mono (Below.trans (by repeat (first | exact Below.refl _ _ | refine Below.al2 ?_ _ | refine Below.drew ?_ | refine below_drewN2 ?_ _)) b_) HB4.out.size); have vA5 : VarA w6 w.heap.size 48 #[.int .i64 3, .int .i64 fr, .int .i64 rq, .int .i64 ok, .int .i64 op_, .int .i64 oq, .bool od, x, .int .i64 tp, .int .i64 tq, .bool td, y, .int .i64 ov, .int .i64 hp, .int .i64 hq, .bool hd, .int .i64 rc, .int .i64 rp_, .int .i64 rq_, .bool rd, .int .i64 rv, z, .int .i64 xs, .int .i64 xb, .int .i64 xn, .int .i64 pk, .int .i64 pp, .int .i64 pq, .bool pd, u, .int .i64 sp, .int .i64 sq, .bool sd, .int .i64 cd] := VarA.step vA4 (Below.trans (by repeat (first | exact Below.refl _ _ | refine Below.al2 ?_ _ | refine Below.drew ?_ | refine below_drewN2 ?_ _)) b_); clear b_; have m0_5 : w6.cell? ⟨w.heap.size, 0, none⟩ = some (.int .i64 3) := vA5.c 0 rfl; have m1_5 : w6.cell? ⟨w.heap.size, 1, none⟩ = some (.int .i64 fr) := vA5.c 1 rfl; have m2_5 : w6.cell? ⟨w.heap.size, 2, none⟩ = some (.int .i64 rq) := vA5.c 2 rfl; have m3_5 : w6.cell? ⟨w.heap.size, 3, none⟩ = some (.int .i64 ok) := vA5.c 3 rfl; have m4_5 : w6.cell? ⟨w.heap.size, 4, none⟩ = some (.int .i64 op_) := vA5.c 4 rfl; have m5_5 : w6.cell? ⟨w.heap.size, 5, none⟩ = some (.int .i64 oq) := vA5.c 5 rfl; have m6_5 : w6.cell? ⟨w.heap.size, 6, none⟩ = some (.bool od) := vA5.c 6 rfl; have m7_5 : w6.cell? ⟨w.heap.size, 7, none⟩ = some (x) := vA5.c 7 rfl; have m8_5 : w6.cell? ⟨w.heap.size, 8, none⟩ = some (.int .i64 tp) := vA5.c 8 rfl; have m9_5 : w6.cell? ⟨w.heap.size, 9, none⟩ = some (.int .i64 tq) := vA5.c 9 rfl; have m10_5 : w6.cell? ⟨w.heap.size, 10, none⟩ = some (.bool td) := vA5.c 10 rfl; have m11_5 : w6.cell? ⟨w.heap.size, 11, none⟩ = some (y) := vA5.c 11 rfl; have m12_5 : w6.cell? ⟨w.heap.size, 12, none⟩ = some (.int .i64 ov) := vA5.c 12 rfl; have m16_5 : w6.cell? ⟨w.heap.size, 16, none⟩ = some (.int .i64 rc) := vA5.c 16 rfl; have m17_5 : w6.cell? ⟨w.heap.size, 17, none⟩ = some (.int .i64 rp_) := vA5.c 17 rfl; have m18_5 : w6.cell? ⟨w.heap.size, 18, none⟩ = some (.int .i64 rq_) := vA5.c 18 rfl; have m19_5 : w6.cell? ⟨w.heap.size, 19, none⟩ = some (.bool rd) := vA5.c 19 rfl; have m20_5 : w6.cell? ⟨w.heap.size, 20, none⟩ = some (.int .i64 rv) := vA5.c 20 rfl; have m21_5 : w6.cell? ⟨w.heap.size, 21, none⟩ = some (z) := vA5.c 21 rfl; have m22_5 : w6.cell? ⟨w.heap.size, 22, none⟩ = some (.int .i64 xs) := vA5.c 22 rfl; have m23_5 : w6.cell? ⟨w.heap.size, 23, none⟩ = some (.int .i64 xb) := vA5.c 23 rfl; have m24_5 : w6.cell? ⟨w.heap.size, 24, none⟩ = some (.int .i64 xn) := vA5.c 24 rfl; have m33_5 : w6.cell? ⟨w.heap.size, 33, none⟩ = some (.int .i64 cd) := vA5.c 33 rfl)
      | (go_at_call 82; (with_reducible refine Calls.mono (specOpR v5 ([] ++ putB 3 ++ txB (xs, xb, xn) ++ putB cd ++ putB fr ++ putB rq) ⟨ok, (op_, oq, od), nm, (tp, tq, td), asn, ov⟩ x y _ S _ ((Owns.step o5 (by repeat (first | exact Below.refl _ _ | refine Below.al2 ?_ _ | refine Below.drew ?_ | refine below_drewN2 ?_ _))).rdT z5) (by simp only [List.length_append, List.length_nil]; omega) (HX.out _ (HB5.out.trans (Below.mono (by repeat (first | exact Below.refl _ _ | refine Below.al2 ?_ _ | refine Below.drew ?_ | refine below_drewN2 ?_ _)) HB5.out.size))) (HY.out _ (HB5.out.trans (Below.mono (by repeat (first | exact Below.refl _ _ | refine Below.al2 ?_ _ | refine Below.drew ?_ | refine below_drewN2 ?_ _)) HB5.out.size))) (by dsimp only; omega) (by dsimp only; omega)) ?_); rintro e w7 ⟨v6, rfl, z6, o6, b_⟩; have HB6 : Hid (Below w.heap.size w w7) := HB5.out.trans (Below.mono (Below.trans (by repeat (first | exact Below.refl _ _ | refine Below.al2 ?_ _ | refine Below.drew ?_ | refine below_drewN2 ?_ _)) b_) HB5.out.size); have vA6 : VarA w7 w.heap.size 48 #[.int .i64 3, .int .i64 fr, .int .i64 rq, .int .i64 ok, .int .i64 op_, .int .i64 oq, .bool od, x, .int .i64 tp, .int .i64 tq, .bool td, y, .int .i64 ov, .int .i64 hp, .int .i64 hq, .bool hd, .int .i64 rc, .int .i64 rp_, .int .i64 rq_, .bool rd, .int .i64 rv, z, .int .i64 xs, .int .i64 xb, .int .i64 xn, .int .i64 pk, .int .i64 pp, .int .i64 pq, .bool pd, u, .int .i64 sp, .int .i64 sq, .bool sd, .int .i64 cd] := VarA.step vA5 (Below.trans (by repeat (first | exact Below.refl _ _ | refine Below.al2 ?_ _ | refine Below.drew ?_ | refine below_drewN2 ?_ _)) b_); clear b_; have m0_6 : w7.cell? ⟨w.heap.size, 0, none⟩ = some (.int .i64 3) := vA6.c 0 rfl; have m1_6 : w7.cell? ⟨w.heap.size, 1, none⟩ = some (.int .i64 fr) := vA6.c 1 rfl; have m2_6 : w7.cell? ⟨w.heap.size, 2, none⟩ = some (.int .i64 rq) := vA6.c 2 rfl; have m3_6 : w7.cell? ⟨w.heap.size, 3, none⟩ = some (.int .i64 ok) := vA6.c 3 rfl; have m4_6 : w7.cell? ⟨w.heap.size, 4, none⟩ = some (.int .i64 op_) := vA6.c 4 rfl; have m5_6 : w7.cell? ⟨w.heap.size, 5, none⟩ = some (.int .i64 oq) := vA6.c 5 rfl; have m6_6 : w7.cell? ⟨w.heap.size, 6, none⟩ = some (.bool od) := vA6.c 6 rfl; have m7_6 : w7.cell? ⟨w.heap.size, 7, none⟩ = some (x) := vA6.c 7 rfl; have m8_6 : w7.cell? ⟨w.heap.size, 8, none⟩ = some (.int .i64 tp) := vA6.c 8 rfl; have m9_6 : w7.cell? ⟨w.heap.size, 9, none⟩ = some (.int .i64 tq) := vA6.c 9 rfl; have m10_6 : w7.cell? ⟨w.heap.size, 10, none⟩ = some (.bool td) := vA6.c 10 rfl; have m11_6 : w7.cell? ⟨w.heap.size, 11, none⟩ = some (y) := vA6.c 11 rfl; have m12_6 : w7.cell? ⟨w.heap.size, 12, none⟩ = some (.int .i64 ov) := vA6.c 12 rfl; have m16_6 : w7.cell? ⟨w.heap.size, 16, none⟩ = some (.int .i64 rc) := vA6.c 16 rfl; have m17_6 : w7.cell? ⟨w.heap.size, 17, none⟩ = some (.int .i64 rp_) := vA6.c 17 rfl; have m18_6 : w7.cell? ⟨w.heap.size, 18, none⟩ = some (.int .i64 rq_) := vA6.c 18 rfl; have m19_6 : w7.cell? ⟨w.heap.size, 19, none⟩ = some (.bool rd) := vA6.c 19 rfl; have m20_6 : w7.cell? ⟨w.heap.size, 20, none⟩ = some (.int .i64 rv) := vA6.c 20 rfl; have m21_6 : w7.cell? ⟨w.heap.size, 21, none⟩ = some (z) := vA6.c 21 rfl; have m22_6 : w7.cell? ⟨w.heap.size, 22, none⟩ = some (.int .i64 xs) := vA6.c 22 rfl; have m23_6 : w7.cell? ⟨w.heap.size, 23, none⟩ = some (.int .i64 xb) := vA6.c 23 rfl; have m24_6 : w7.cell? ⟨w.heap.size, 24, none⟩ = some (.int .i64 xn) := vA6.c 24 rfl; have m33_6 : w7.cell? ⟨w.heap.size, 33, none⟩ = some (.int .i64 cd) := vA6.c 33 rfl)
      | (go_at_call 80; (with_reducible refine Calls.mono (specReplyR v6 ([] ++ putB 3 ++ txB (xs, xb, xn) ++ putB cd ++ putB fr ++ putB rq ++ opB ⟨ok, (op_, oq, od), nm, (tp, tq, td), asn, ov⟩) ⟨rc, (rp_, rq_, rd), rv, es⟩ z _ S _ ((Owns.step o6 (by repeat (first | exact Below.refl _ _ | refine Below.al2 ?_ _ | refine Below.drew ?_ | refine below_drewN2 ?_ _))).rdT z6) (by simp only [List.length_append, List.length_nil]; omega) (HZL.out _ (HB6.out.trans (Below.mono (by repeat (first | exact Below.refl _ _ | refine Below.al2 ?_ _ | refine Below.drew ?_ | refine below_drewN2 ?_ _)) HB6.out.size))) (by dsimp only; omega) (by dsimp only; omega)) ?_); rintro e w8 ⟨v7, rfl, z7, o7, b_⟩; have HB7 : Hid (Below w.heap.size w w8) := HB6.out.trans (Below.mono (Below.trans (by repeat (first | exact Below.refl _ _ | refine Below.al2 ?_ _ | refine Below.drew ?_ | refine below_drewN2 ?_ _)) b_) HB6.out.size); have vA7 : VarA w8 w.heap.size 48 #[.int .i64 3, .int .i64 fr, .int .i64 rq, .int .i64 ok, .int .i64 op_, .int .i64 oq, .bool od, x, .int .i64 tp, .int .i64 tq, .bool td, y, .int .i64 ov, .int .i64 hp, .int .i64 hq, .bool hd, .int .i64 rc, .int .i64 rp_, .int .i64 rq_, .bool rd, .int .i64 rv, z, .int .i64 xs, .int .i64 xb, .int .i64 xn, .int .i64 pk, .int .i64 pp, .int .i64 pq, .bool pd, u, .int .i64 sp, .int .i64 sq, .bool sd, .int .i64 cd] := VarA.step vA6 (Below.trans (by repeat (first | exact Below.refl _ _ | refine Below.al2 ?_ _ | refine Below.drew ?_ | refine below_drewN2 ?_ _)) b_); clear b_; have m0_7 : w8.cell? ⟨w.heap.size, 0, none⟩ = some (.int .i64 3) := vA7.c 0 rfl; have m1_7 : w8.cell? ⟨w.heap.size, 1, none⟩ = some (.int .i64 fr) := vA7.c 1 rfl; have m2_7 : w8.cell? ⟨w.heap.size, 2, none⟩ = some (.int .i64 rq) := vA7.c 2 rfl; have m3_7 : w8.cell? ⟨w.heap.size, 3, none⟩ = some (.int .i64 ok) := vA7.c 3 rfl; have m4_7 : w8.cell? ⟨w.heap.size, 4, none⟩ = some (.int .i64 op_) := vA7.c 4 rfl; have m5_7 : w8.cell? ⟨w.heap.size, 5, none⟩ = some (.int .i64 oq) := vA7.c 5 rfl; have m6_7 : w8.cell? ⟨w.heap.size, 6, none⟩ = some (.bool od) := vA7.c 6 rfl; have m7_7 : w8.cell? ⟨w.heap.size, 7, none⟩ = some (x) := vA7.c 7 rfl; have m8_7 : w8.cell? ⟨w.heap.size, 8, none⟩ = some (.int .i64 tp) := vA7.c 8 rfl; have m9_7 : w8.cell? ⟨w.heap.size, 9, none⟩ = some (.int .i64 tq) := vA7.c 9 rfl; have m10_7 : w8.cell? ⟨w.heap.size, 10, none⟩ = some (.bool td) := vA7.c 10 rfl; have m11_7 : w8.cell? ⟨w.heap.size, 11, none⟩ = some (y) := vA7.c 11 rfl; have m12_7 : w8.cell? ⟨w.heap.size, 12, none⟩ = some (.int .i64 ov) := vA7.c 12 rfl; have m16_7 : w8.cell? ⟨w.heap.size, 16, none⟩ = some (.int .i64 rc) := vA7.c 16 rfl; have m17_7 : w8.cell? ⟨w.heap.size, 17, none⟩ = some (.int .i64 rp_) := vA7.c 17 rfl; have m18_7 : w8.cell? ⟨w.heap.size, 18, none⟩ = some (.int .i64 rq_) := vA7.c 18 rfl; have m19_7 : w8.cell? ⟨w.heap.size, 19, none⟩ = some (.bool rd) := vA7.c 19 rfl; have m20_7 : w8.cell? ⟨w.heap.size, 20, none⟩ = some (.int .i64 rv) := vA7.c 20 rfl; have m21_7 : w8.cell? ⟨w.heap.size, 21, none⟩ = some (z) := vA7.c 21 rfl; have m22_7 : w8.cell? ⟨w.heap.size, 22, none⟩ = some (.int .i64 xs) := vA7.c 22 rfl; have m23_7 : w8.cell? ⟨w.heap.size, 23, none⟩ = some (.int .i64 xb) := vA7.c 23 rfl; have m24_7 : w8.cell? ⟨w.heap.size, 24, none⟩ = some (.int .i64 xn) := vA7.c 24 rfl; have m33_7 : w8.cell? ⟨w.heap.size, 33, none⟩ = some (.int .i64 cd) := vA7.c 33 rfl))
  all_goals
    try go_wp2
    go_ret
    refine ⟨_, rfl, ?_, ?_, HB7.out⟩
    · simpa [rcB, rcRest, List.append_assoc] using z7
    · have o_ := o7.base (b' := w.heap.size) (by exact HB6.out.size)
      simpa [rcB, rcRest, List.append_assoc] using o_
set_option maxHeartbeats 8000000 in
theorem specRecB4 (m : MsD) (x y z u : Value) (S : Nat → Prop) (w : World) (r : RdM w S m x y z u) (hl : szMs m ≤ 1048576) (h12 : m.rp.list.length ≤ 12) (hk : m.kind = 4) : Ap 46 #[rcV m x y z u] w (rcB m) := by
  obtain ⟨r1, r2, r3, r4⟩ := r
  obtain ⟨kd, fr, to, rq, ⟨ok, ⟨op_, oq, od⟩, nm, ⟨tp, tq, td⟩, asn, ov⟩, ⟨rc, ⟨rp_, rq_, rd⟩, rv, es⟩, ⟨xs, xb, xn⟩, ⟨pk, ⟨pp, pq, pd⟩, pas, ⟨sp, sq, sd⟩⟩, cd, ⟨hp, hq, hd⟩⟩ := m
  unfold szMs at hl
  dsimp only at r1 r2 r3 r4 hl h12 hk ⊢
  subst hk
  have HX : Hid (∀ W, Below w.heap.size w W → _) := r1.old
  have HY : Hid (∀ W, Below w.heap.size w W → _) := r2.old
  have HZL : Hid (∀ W, Below w.heap.size w W → _) := r3.old
  have HUL : Hid (∀ W, Below w.heap.size w W → _) := r4.old
  have hes : szEns es ≤ 1048576 := by omega
  clear r1 r2 r3 r4
  have g0 := putB_len 4
  have g1 := putB_len fr
  have g2 := hdB_len (hp, hq, hd)
  have g3 := putB_len rq
  have g4 := opB_len ⟨ok, (op_, oq, od), nm, (tp, tq, td), asn, ov⟩
  have g5 := txB_len (xs, xb, xn)
  have g6 := ptB_len ⟨pk, (pp, pq, pd), pas, (sp, sq, sd)⟩
  have g7 := putB_len cd
  have HG : Hid (∀ v, v = Value.slice none 0 0 → ∀ W, RdV W (fun _ => True) v (.bytes [])) := fun v hv W => by rw [hv]; exact ⟨isBytes_nil, none, 0, 0, rfl, rfl, ⟨Nat.le_refl _, Nat.zero_le _, fun _ => ⟨rfl, rfl⟩⟩, .inl rfl⟩
  go_enter Try.func46, Try.ntmps46
  go_wp2_with (go_at_call 79; (with_reducible refine Calls.mono (specPutR (.slice none 0 0) [] 4 _ _ (HG.out _ rfl _) (by simp)) ?_); rintro e w2 ⟨v1, rfl, z1, o1, b_⟩; have HB1 : Hid (Below w.heap.size w w2) := Below.trans (by repeat (first | exact Below.refl _ _ | refine Below.al2 ?_ _ | refine Below.drew ?_ | refine below_drewN2 ?_ _)) (b_.mono (by simp [World.drew] <;> omega)); have vA1 : VarA w2 w.heap.size 48 #[.int .i64 4, .int .i64 fr, .int .i64 rq, .int .i64 ok, .int .i64 op_, .int .i64 oq, .bool od, x, .int .i64 tp, .int .i64 tq, .bool td, y, .int .i64 ov, .int .i64 hp, .int .i64 hq, .bool hd, .int .i64 rc, .int .i64 rp_, .int .i64 rq_, .bool rd, .int .i64 rv, z, .int .i64 xs, .int .i64 xb, .int .i64 xn, .int .i64 pk, .int .i64 pp, .int .i64 pq, .bool pd, u, .int .i64 sp, .int .i64 sq, .bool sd, .int .i64 cd] := VarA.step (VarA.new w _ _) b_; clear b_; have m0_1 : w2.cell? ⟨w.heap.size, 0, none⟩ = some (.int .i64 4) := vA1.c 0 rfl)
  have m0_ : w2.cell? ⟨w.heap.size, 0, none⟩ = some (.int .i64 4) := vA1.c 0 rfl
  have m22_ : w2.cell? ⟨w.heap.size, 22, none⟩ = some (.int .i64 xs) := vA1.c 22 rfl
  have m23_ : w2.cell? ⟨w.heap.size, 23, none⟩ = some (.int .i64 xb) := vA1.c 23 rfl
  have m24_ : w2.cell? ⟨w.heap.size, 24, none⟩ = some (.int .i64 xn) := vA1.c 24 rfl
  have m33_ : w2.cell? ⟨w.heap.size, 33, none⟩ = some (.int .i64 cd) := vA1.c 33 rfl
  go_region_held3 (fun w' => w'.cell? ⟨w.heap.size, 22, none⟩ = some (.int .i64 xs) ∧ w'.cell? ⟨w.heap.size, 23, none⟩ = some (.int .i64 xb) ∧ w'.cell? ⟨w.heap.size, 24, none⟩ = some (.int .i64 xn) ∧ w'.cell? ⟨w.heap.size, 33, none⟩ = some (.int .i64 cd)) (first | go_keep | (refine ⟨?_, ?_, ?_, ?_⟩ <;> assumption)) (first
      | (go_at_call 84; (with_reducible refine Calls.mono (specTxR v1 ([] ++ putB 4) (xs, xb, xn) _ (fun _ => True) _ ((Owns.step o1 (by repeat (first | exact Below.refl _ _ | refine Below.al2 ?_ _ | refine Below.drew ?_ | refine below_drewN2 ?_ _))).rdT z1) (by simp only [List.length_append, List.length_nil]; omega)) ?_); rintro e w3 ⟨v2, rfl, z2, o2, b_⟩; have HB2 : Hid (Below w.heap.size w w3) := HB1.out.trans (Below.mono (Below.trans (by repeat (first | exact Below.refl _ _ | refine Below.al2 ?_ _ | refine Below.drew ?_ | refine below_drewN2 ?_ _)) b_) HB1.out.size); have vA2 : VarA w3 w.heap.size 48 #[.int .i64 4, .int .i64 fr, .int .i64 rq, .int .i64 ok, .int .i64 op_, .int .i64 oq, .bool od, x, .int .i64 tp, .int .i64 tq, .bool td, y, .int .i64 ov, .int .i64 hp, .int .i64 hq, .bool hd, .int .i64 rc, .int .i64 rp_, .int .i64 rq_, .bool rd, .int .i64 rv, z, .int .i64 xs, .int .i64 xb, .int .i64 xn, .int .i64 pk, .int .i64 pp, .int .i64 pq, .bool pd, u, .int .i64 sp, .int .i64 sq, .bool sd, .int .i64 cd] := VarA.step vA1 (Below.trans (by repeat (first | exact Below.refl _ _ | refine Below.al2 ?_ _ | refine Below.drew ?_ | refine below_drewN2 ?_ _)) b_); clear b_; have m0_2 : w3.cell? ⟨w.heap.size, 0, none⟩ = some (.int .i64 4) := vA2.c 0 rfl; have m22_2 : w3.cell? ⟨w.heap.size, 22, none⟩ = some (.int .i64 xs) := vA2.c 22 rfl; have m23_2 : w3.cell? ⟨w.heap.size, 23, none⟩ = some (.int .i64 xb) := vA2.c 23 rfl; have m24_2 : w3.cell? ⟨w.heap.size, 24, none⟩ = some (.int .i64 xn) := vA2.c 24 rfl; have m33_2 : w3.cell? ⟨w.heap.size, 33, none⟩ = some (.int .i64 cd) := vA2.c 33 rfl)
      | (go_at_call 79; (with_reducible refine Calls.mono (specPutR v2 ([] ++ putB 4 ++ txB (xs, xb, xn)) cd _ _ ((Owns.step o2 (by repeat (first | exact Below.refl _ _ | refine Below.al2 ?_ _ | refine Below.drew ?_ | refine below_drewN2 ?_ _))).rdT z2) (by simp only [List.length_append, List.length_nil]; omega)) ?_); rintro e w4 ⟨v3, rfl, z3, o3, b_⟩; have HB3 : Hid (Below w.heap.size w w4) := HB2.out.trans (Below.mono (Below.trans (by repeat (first | exact Below.refl _ _ | refine Below.al2 ?_ _ | refine Below.drew ?_ | refine below_drewN2 ?_ _)) b_) HB2.out.size); have vA3 : VarA w4 w.heap.size 48 #[.int .i64 4, .int .i64 fr, .int .i64 rq, .int .i64 ok, .int .i64 op_, .int .i64 oq, .bool od, x, .int .i64 tp, .int .i64 tq, .bool td, y, .int .i64 ov, .int .i64 hp, .int .i64 hq, .bool hd, .int .i64 rc, .int .i64 rp_, .int .i64 rq_, .bool rd, .int .i64 rv, z, .int .i64 xs, .int .i64 xb, .int .i64 xn, .int .i64 pk, .int .i64 pp, .int .i64 pq, .bool pd, u, .int .i64 sp, .int .i64 sq, .bool sd, .int .i64 cd] := VarA.step vA2 (Below.trans (by repeat (first | exact Below.refl _ _ | refine Below.al2 ?_ _ | refine Below.drew ?_ | refine below_drewN2 ?_ _)) b_); clear b_; have m0_3 : w4.cell? ⟨w.heap.size, 0, none⟩ = some (.int .i64 4) := vA3.c 0 rfl; have m22_3 : w4.cell? ⟨w.heap.size, 22, none⟩ = some (.int .i64 xs) := vA3.c 22 rfl; have m23_3 : w4.cell? ⟨w.heap.size, 23, none⟩ = some (.int .i64 xb) := vA3.c 23 rfl; have m24_3 : w4.cell? ⟨w.heap.size, 24, none⟩ = some (.int .i64 xn) := vA3.c 24 rfl; have m33_3 : w4.cell? ⟨w.heap.size, 33, none⟩ = some (.int .i64 cd) := vA3.c 33 rfl))
  all_goals
    try go_wp2
    go_ret
    refine ⟨_, rfl, ?_, ?_, HB3.out⟩
    · simpa [rcB, rcRest, List.append_assoc] using z3
    · have o_ := o3.base (b' := w.heap.size) (by exact HB2.out.size)
      simpa [rcB, rcRest, List.append_assoc] using o_
end Go.Proofs.Ytmjfnmlfamikgaa
end

section
/- The specification's RecordBytes. Condition: no more than 2^20 of all. -/
namespace Go.Proofs.Ytmjfnmlfamikgaa
open Go.RowKit
set_option linter.unusedVariables false
set_option linter.unusedSimpArgs false
set_option maxRecDepth 100000

theorem COk_kind {m : MsD} (h : COk m = true) : 0 ≤ m.kind ∧ m.kind ≤ 4 := by
  simp only [COk, Bool.and_eq_true, decide_eq_true_eq] at h
  exact h.1
theorem zRp_len {r : RpD} (h : zRp r = true) : r.list.length ≤ 12 := by
  simp only [zRp, Bool.and_eq_true, decide_eq_true_eq] at h
  omega
theorem callB_len {m : MsD} (h : callB m = true) : m.rp.list.length ≤ 12 := by
  simp only [callB, Bool.and_eq_true, decide_eq_true_eq] at h
  omega
theorem COk_12 {m : MsD} (h : COk m = true) : m.rp.list.length ≤ 12 := by
  have hk := COk_kind h
  simp only [COk, Bool.and_eq_true] at h
  have hb := h.2
  rcases (show m.kind = 0 ∨ m.kind = 1 ∨ m.kind = 2 ∨ m.kind = 3 ∨ m.kind = 4 by omega) with h | h | h | h | h <;> simp [CBody, h] at hb
  · exact zRp_len hb.2.2.2.2.1
  · exact callB_len hb.1.1
  · exact zRp_len hb.2.2.2.2
  · exact callB_len hb.1.1
  · exact zRp_len hb.2.2.2.2.2.1
theorem specRecB_any (m : MsD) (x y z u : Value) (S : Nat → Prop) (w : World) (r : RdM w S m x y z u) (hl : szMs m ≤ 1048576) (ho : COk m = true) : Ap 46 #[rcV m x y z u] w (rcB m) := by
  have hk := COk_kind ho
  rcases (show m.kind = 0 ∨ m.kind = 1 ∨ m.kind = 2 ∨ m.kind = 3 ∨ m.kind = 4 by omega) with h | h | h | h | h
  · exact specRecB0 m x y z u S w r hl (COk_12 ho) h
  · exact specRecB1 m x y z u S w r hl (COk_12 ho) h
  · exact specRecB2 m x y z u S w r hl (COk_12 ho) h
  · exact specRecB3 m x y z u S w r hl (COk_12 ho) h
  · exact specRecB4 m x y z u S w r hl (COk_12 ho) h
/-- What RecordBytes answers. -/
def outR (m : MsD) : List Int := if COk m then rcB m else []
set_option maxHeartbeats 4000000 in
theorem specRecordBytes_any (m : MsD) (x y z u : Value) (S : Nat → Prop) (w : World) (r : RdM w S m x y z u) (hl : szMs m ≤ 1048576) :
    Calls Try.prog 11 #[rcV m x y z u] w fun e w' => ∃ v, e = .returned (.tuple #[v, .bool (COk m)]) ∧ isBytes (outR m) ∧ Owns w' w.heap.size v (outR m) ∧ Below w.heap.size w w' := by
  have HM : Hid (∀ W, Below w.heap.size w W → _) := fun W hW => specRecordOk_any x y z u m S W (r.step hW) (by omega)
  by_cases ho : COk m = true
  · have HY : Hid (∀ W, Below w.heap.size w W → _) := fun W hW => specRecB_any m x y z u S W (r.step hW) hl ho
    have HF : Hid (outR m = rcB m) := by show _ = _; unfold outR; rw [if_pos ho]
    rw [HF.out, ho]
    rw [ho] at HM
    generalize rcB m = zs at HY ⊢
    clear r hl ho HF
    obtain ⟨kd, fr, to, rq, ⟨ok, ⟨op_, oq, od⟩, nm, ⟨tp, tq, td⟩, asn, ov⟩, ⟨rc, ⟨rp_, rq_, rd⟩, rv, es⟩, ⟨xs, xb, xn⟩, ⟨pk, ⟨pp, pq, pd⟩, pas, ⟨sp, sq, sd⟩⟩, cd, ⟨hp, hq, hd⟩⟩ := m
    try dsimp only at HM HY ⊢
    go_enter Try.func11, Try.ntmps11
    go_wp2_with ((with_reducible refine guardLoad (ty := 48) ?_); refine wpList_loadA (VarA.new w _ _) rfl Try.underlying48 rfl (by kernel_rfl) ?_)
    refine Calls.mono (HM.out _ (Below.newH _)) ?_
    rintro e w2 ⟨rfl, b_⟩
    have vA : VarA w2 w.heap.size 48 #[.int .i64 kd, .int .i64 fr, .int .i64 rq, .int .i64 ok, .int .i64 op_, .int .i64 oq, .bool od, x, .int .i64 tp, .int .i64 tq, .bool td, y, .int .i64 ov, .int .i64 hp, .int .i64 hq, .bool hd, .int .i64 rc, .int .i64 rp_, .int .i64 rq_, .bool rd, .int .i64 rv, z, .int .i64 xs, .int .i64 xb, .int .i64 xn, .int .i64 pk, .int .i64 pp, .int .i64 pq, .bool pd, u, .int .i64 sp, .int .i64 sq, .bool sd, .int .i64 cd] := VarA.step (VarA.new w _ _) b_
    have HB : Hid (Below w.heap.size w w2) := (Below.newH (w := w) _).trans (b_.mono (by simp))
    clear b_ HM
    go_wp2_with ((with_reducible refine guardLoad (ty := 48) ?_); refine wpList_loadA vA rfl Try.underlying48 rfl (by kernel_rfl) ?_)
    refine Calls.mono (HY.out _ HB.out) ?_
    rintro e w3 ⟨v, rfl, z1, o1, b_⟩
    have hsz := HB.out.size
    have HB2 : Hid _ := HB.out.trans (b_.mono HB.out.size)
    clear vA
    go_wp2
    go_ret2
    exact ⟨_, rfl, z1, o1.base hsz, HB2.out⟩
  · have hof : COk m = false := by simpa using ho
    have HF : Hid (outR m = []) := by show _ = _; unfold outR; rw [if_neg ho]
    rw [HF.out, hof]
    rw [hof] at HM
    clear r hl ho hof HF
    obtain ⟨kd, fr, to, rq, ⟨ok, ⟨op_, oq, od⟩, nm, ⟨tp, tq, td⟩, asn, ov⟩, ⟨rc, ⟨rp_, rq_, rd⟩, rv, es⟩, ⟨xs, xb, xn⟩, ⟨pk, ⟨pp, pq, pd⟩, pas, ⟨sp, sq, sd⟩⟩, cd, ⟨hp, hq, hd⟩⟩ := m
    try dsimp only at HM ⊢
    go_enter Try.func11, Try.ntmps11
    go_wp2_with ((with_reducible refine guardLoad (ty := 48) ?_); refine wpList_loadA (VarA.new w _ _) rfl Try.underlying48 rfl (by kernel_rfl) ?_)
    refine Calls.mono (HM.out _ (Below.newH _)) ?_
    rintro e w2 ⟨rfl, b_⟩
    have HB : Hid (Below w.heap.size w w2) := (Below.newH (w := w) _).trans (b_.mono (by simp))
    clear b_ HM
    go_wp2
    go_ret2
    exact ⟨_, rfl, isBytes_nil, ⟨rfl, .inl ⟨rfl, rfl⟩⟩, HB.out⟩
end Go.Proofs.Ytmjfnmlfamikgaa
end

section
/- Plain facts: a record read out of bytes, as the specification and as the program do. -/
namespace Go.Proofs.Ytmjfnmlfamikgaa
open Go.RowKit
set_option linter.unusedVariables false
set_option linter.unusedSimpArgs false
set_option maxRecDepth 100000

def rdRc (e : Int → List En × Int) (zs : List Int) : MsD × Int :=
  let k := getNum zs 0
  if k.1 = 1 then let f := getNum zs k.2; let r := getNum zs f.2; let o := rdOp zs r.2; let h := rdHd zs o.2; let p := rdRp e zs h.2; (⟨k.1, f.1, 0, r.1, o.1, p.1, tx0, pt0, 0, h.1⟩, p.2)
  else if k.1 = 2 then let x := rdTx zs k.2; let t := rdPt zs x.2; let c := getNum zs t.2; let h := rdHd zs c.2; (⟨k.1, 0, 0, 0, op0, rp0, x.1, t.1, c.1, h.1⟩, h.2)
  else if k.1 = 3 then let x := rdTx zs k.2; let c := getNum zs x.2; let f := getNum zs c.2; let r := getNum zs f.2; let o := rdOp zs r.2; let p := rdRp e zs o.2; (⟨k.1, f.1, 0, r.1, o.1, p.1, x.1, pt0, c.1, hd0⟩, p.2)
  else if k.1 = 4 then let x := rdTx zs k.2; let c := getNum zs x.2; (⟨k.1, 0, 0, 0, op0, rp0, x.1, pt0, c.1, hd0⟩, c.2)
  else (⟨k.1, 0, 0, 0, op0, rp0, tx0, pt0, 0, hd0⟩, k.2)
theorem rc_took {zs : List Int} (hz : isBytes zs) (h : 0 ≤ (rdRc (rdEnP zs) zs).2) : Took zs 0 (rcB (rdRc (rdEnP zs) zs).1) (rdRc (rdEnP zs) zs).2 := by
  unfold rdRc at h ⊢
  dsimp only at h ⊢
  by_cases k1 : (getNum zs 0).1 = 1
  · simp only [k1, if_true] at h ⊢
    have h1 := rp_neg h
    have h2 := hd_neg h1
    have h3 := op_neg h2
    have h4 := num_neg h3
    have h5 := num_neg h4
    have hh := (num_took hz h5).trans ((num_took hz h4).trans ((num_took hz h3).trans ((op_took hz h2).trans ((hd_took hz h1).trans (rp_took hz h)))))
    rw [k1] at hh
    simpa [rcB, rcRest] using hh
  by_cases k2 : (getNum zs 0).1 = 2
  · simp only [k2, if_true] at h ⊢
    simp only [show ¬ ((2 : Int) = 1) by omega, if_false] at h ⊢
    have h1 := hd_neg h
    have h2 := num_neg h1
    have h3 := pt_neg h2
    have h4 := tx_neg h3
    have hh := (num_took hz h4).trans ((tx_took hz h3).trans ((pt_took hz h2).trans ((num_took hz h1).trans (hd_took hz h))))
    rw [k2] at hh
    simpa [rcB, rcRest] using hh
  by_cases k3 : (getNum zs 0).1 = 3
  · simp only [k3, if_true] at h ⊢
    simp only [show ¬ ((3 : Int) = 1) by omega, show ¬ ((3 : Int) = 2) by omega, if_false] at h ⊢
    have h1 := rp_neg h
    have h2 := op_neg h1
    have h3 := num_neg h2
    have h4 := num_neg h3
    have h5 := num_neg h4
    have h6 := tx_neg h5
    have hh := (num_took hz h6).trans ((tx_took hz h5).trans ((num_took hz h4).trans ((num_took hz h3).trans ((num_took hz h2).trans ((op_took hz h1).trans (rp_took hz h))))))
    rw [k3] at hh
    simpa [rcB, rcRest] using hh
  by_cases k4 : (getNum zs 0).1 = 4
  · simp only [k4, if_true] at h ⊢
    simp only [show ¬ ((4 : Int) = 1) by omega, show ¬ ((4 : Int) = 2) by omega, show ¬ ((4 : Int) = 3) by omega, if_false] at h ⊢
    have h1 := num_neg h
    have h2 := tx_neg h1
    have hh := (num_took hz h2).trans ((tx_took hz h1).trans (num_took hz h))
    rw [k4] at hh
    simpa [rcB, rcRest] using hh
  simp only [k1, k2, k3, k4, if_false] at h ⊢
  have hh := num_took hz h
  simpa [rcB, rcRest, k1, k2, k3, k4] using hh
theorem rp_sameP {zs : List Int} {p : Int} (h : 0 ≤ (rdRp (rdEnP zs) zs p).2) : rdRp (rdEnS zs) zs p = rdRp (rdEnP zs) zs p := by
  unfold rdRp at h ⊢
  dsimp only at h ⊢
  rw [enP_same h]
theorem rp_sameS {zs : List Int} (hz : isBytes zs) {p : Int} (h : 0 ≤ (rdRp (rdEnS zs) zs p).2) (h12 : (rdRp (rdEnS zs) zs p).1.list.length ≤ 12) : rdRp (rdEnP zs) zs p = rdRp (rdEnS zs) zs p := by
  unfold rdRp at h h12 ⊢
  dsimp only at h h12 ⊢
  rw [enS_same hz h h12]
theorem rc_same {zs : List Int} (h : 0 ≤ (rdRc (rdEnP zs) zs).2) : rdRc (rdEnS zs) zs = rdRc (rdEnP zs) zs := by
  unfold rdRc at h ⊢
  dsimp only at h ⊢
  by_cases k1 : (getNum zs 0).1 = 1
  · simp only [k1, if_true] at h ⊢
    rw [rp_sameP h]
  by_cases k3 : (getNum zs 0).1 = 3
  · simp only [k3, if_true] at h ⊢
    simp only [show ¬ ((3 : Int) = 1) by omega, show ¬ ((3 : Int) = 2) by omega, if_false] at h ⊢
    rw [rp_sameP h]
  simp only [k1, k3, if_false]
theorem rc_same' {zs : List Int} (hz : isBytes zs) (h : 0 ≤ (rdRc (rdEnS zs) zs).2) (h12 : (rdRc (rdEnS zs) zs).1.rp.list.length ≤ 12) : rdRc (rdEnP zs) zs = rdRc (rdEnS zs) zs := by
  unfold rdRc at h h12 ⊢
  dsimp only at h h12 ⊢
  by_cases k1 : (getNum zs 0).1 = 1
  · simp only [k1, if_true] at h h12 ⊢
    rw [rp_sameS hz h h12]
  by_cases k3 : (getNum zs 0).1 = 3
  · simp only [k3, if_true] at h h12 ⊢
    simp only [show ¬ ((3 : Int) = 1) by omega, show ¬ ((3 : Int) = 2) by omega, if_false] at h h12 ⊢
    rw [rp_sameS hz h h12]
  simp only [k1, k3, if_false]
/-- What RecordRead answers. -/
def recRead (zs : List Int) : MsD × Bool := if (rdRc (rdEnP zs) zs).2 = zs.length ∧ COk (rdRc (rdEnP zs) zs).1 = true then ((rdRc (rdEnP zs) zs).1, true) else (ms0, false)
theorem recRead_spec {zs : List Int} (hz : isBytes zs) : recRead zs = if (rdRc (rdEnS zs) zs).2 = zs.length ∧ COk (rdRc (rdEnS zs) zs).1 = true ∧ rcB (rdRc (rdEnS zs) zs).1 = zs then ((rdRc (rdEnS zs) zs).1, true) else (ms0, false) := by
  unfold recRead
  by_cases h : (rdRc (rdEnP zs) zs).2 = zs.length ∧ COk (rdRc (rdEnP zs) zs).1 = true
  · have hs := rc_same (zs := zs) (by omega)
    have ht := rc_took hz (by omega)
    rw [h.1] at ht
    have hb := ht.all
    rw [if_pos h, hs, if_pos ⟨h.1, h.2, hb⟩]
  · rw [if_neg h]
    by_cases g : (rdRc (rdEnS zs) zs).2 = zs.length ∧ COk (rdRc (rdEnS zs) zs).1 = true ∧ rcB (rdRc (rdEnS zs) zs).1 = zs
    · exfalso
      apply h
      have hs := rc_same' hz (by omega) (COk_12 g.2.1)
      rw [hs]
      exact ⟨g.1, g.2.1⟩
    · rw [if_neg g]
end Go.Proofs.Ytmjfnmlfamikgaa
end

section
/- The program reads flags, handles, transactions' numbers, operations, parts. Condition: at most 2,000,000 bytes. -/
namespace Go.Proofs.Ytmjfnmlfamikgaa
open Go.RowKit
set_option linter.unusedVariables false
set_option linter.unusedSimpArgs false
set_option maxRecDepth 100000

set_option maxHeartbeats 2000000 in
theorem implFlagC (pb : Nat) (zs : List Int) (v : Value) (p : Int) (w : World) (h : CurV 100 pb zs v p w) (hl : zs.length ≤ 2000000) :
    Calls Try.prog 118 #[.pointer (some ⟨pb, 0, none⟩)] w fun e w' => e = .returned (.bool (rdFlag zs p).1) ∧ Gone 100 pb zs v (rdFlag zs p).2 w w' := by
  have hz := RdV.zs h.2.1
  rw [← flag_num p hz]
  have HN : Hid _ := implNumC pb zs v p w h hl
  have HA : Hid _ := getNum_at hz p
  clear h
  generalize getNum zs p = g at HN HA ⊢
  obtain ⟨n, nx⟩ := g
  dsimp only at HN HA ⊢
  have HF : Hid (∀ W, Calls Try.prog 74 #[.int .i64 n] W fun e w' => e = .returned (.bool (decide (n = 0) || decide (n = 1))) ∧ w' = W) := fun W => by
    go_enter Try.func74, Try.ntmps74
    go_wp2
    all_goals (go_ret; exact ⟨by first | rfl | (simp_all; done) | (simp_all; omega) | (simp_all; rw [Bool.eq_iff_iff]; simp; done), rfl⟩)
  have hbq : (n == 1) = decide (n = 1) := by simp [BEq.beq]
  by_cases hn : n = 0 ∨ n = 1
  · have hb : (decide (n = 0) || decide (n = 1)) = true := by simpa using hn
    rw [hb] at HF
    rw [if_pos hn]
    go_enter Try.func118, Try.ntmps118
    go_wp2_with fail
    refine Calls.mono HN.out ?_
    rintro e w2 ⟨rfl, hc, ht⟩
    have HC : Hid _ := hc
    have HT : Hid _ := ht
    clear hc ht HN
    go_wp2_with (go_at_call 74; refine Calls.mono (HF.out _) ?_; rintro e w' ⟨rfl, rfl⟩)
    all_goals (go_ret; exact ⟨by first | rfl | simp [hbq] | simp_all, HC.out, HT.out⟩)
  · have hb : (decide (n = 0) || decide (n = 1)) = false := by simp only [Bool.or_eq_false_iff, decide_eq_false_iff_not]; omega
    rw [hb] at HF
    rw [if_neg hn]
    go_enter Try.func118, Try.ntmps118
    go_wp2_with fail
    refine Calls.mono HN.out ?_
    rintro e w2 ⟨rfl, hc, ht⟩
    obtain ⟨c0, c1⟩ := VarA.l2 hc.1
    have hf := VarA.fz hc.1
    have HC : Hid (CurV 100 pb zs v (-1) (w2.setCell ⟨pb, 1, none⟩ (.int .i64 (-1)))) := CurV.put hc (-1) (by omega) (by omega)
    have HT : Hid (Turned (fun b => b = pb) w (w2.setCell ⟨pb, 1, none⟩ (.int .i64 (-1)))) := ht.set _ _ rfl
    clear hc ht HN
    go_wp2_with (go_at_call 74; refine Calls.mono (HF.out _) ?_; rintro e w' ⟨rfl, rfl⟩)
    all_goals (go_ret; exact ⟨by first | rfl | simp [hbq] | simp_all, HC.out, HT.out⟩)
set_option maxHeartbeats 4000000 in
theorem implHandC (pb : Nat) (zs : List Int) (v : Value) (p : Int) (w : World) (h : CurV 100 pb zs v p w) (hl : zs.length ≤ 2000000) :
    Calls Try.prog 95 #[.pointer (some ⟨pb, 0, none⟩)] w fun e w' => e = .returned (Hd.v (rdHd zs p).1) ∧ Gone 100 pb zs v (rdHd zs p).2 w w' := by
  have hz := RdV.zs h.2.1
  have hpl := h.lt
  obtain ⟨n0, q0, e0⟩ : ∃ x q, getNum zs p = (x, q) := ⟨_, _, rfl⟩
  have H0 : Hid (∀ W, CurV 100 pb zs v p W → _) := fun W hW => by have h_ := implNumC pb zs v p W hW hl; rw [e0] at h_; exact h_
  obtain ⟨n1, q1, e1⟩ : ∃ x q, getNum zs q0 = (x, q) := ⟨_, _, rfl⟩
  have H1 : Hid (∀ W, CurV 100 pb zs v q0 W → _) := fun W hW => by have h_ := implNumC pb zs v q0 W hW hl; rw [e1] at h_; exact h_
  obtain ⟨b2, q2, e2⟩ : ∃ x q, rdFlag zs q1 = (x, q) := ⟨_, _, rfl⟩
  have H2 : Hid (∀ W, CurV 100 pb zs v q1 W → _) := fun W hW => by have h_ := implFlagC pb zs v q1 W hW hl; rw [e2] at h_; exact h_
  have hR : rdHd zs p = ((n0, n1, b2), q2) := by simp [rdHd, e0, e1, e2]
  rw [hR]
  clear hR e0 e1 e2
  have HC0 : Hid (CurV 100 pb zs v p w) := h
  clear h
  dsimp only
  go_enter Try.func95, Try.ntmps95
  go_wp2_with fail
  refine Calls.mono (H0.out _ (HC0.out.alloc _)) ?_
  rintro e w1 ⟨rfl, hc_, t_⟩
  have HT : Hid (Turned (fun b => b = pb) w w1) := (Turned.ofBelow (Below.new1 (w := w) _)).trans t_
  have vR : VarA w1 w.heap.size 38 #[.int .i64 0, .int .i64 0, .bool false] := VarA.turn (VarA.new w _ _) t_ (by omega)
  have hx0 := t_.size
  simp at hx0
  have HC1 : Hid (CurV 100 pb zs v q0 w1) := hc_
  clear hc_ t_ H0 HC0
  go_wp2_with fail
  refine Calls.mono (H1.out _ HC1.out) ?_
  rintro e w2 ⟨rfl, hc_, t_⟩
  have HT_ : Hid (Turned (fun b => b = pb) w w2) := HT.out.trans t_
  clear HT
  have HT := HT_
  clear HT_
  have vR_ := vR.turn t_ (by omega)
  clear vR
  have vR := vR_
  clear vR_
  have hx1 := t_.size
  have HC2 : Hid (CurV 100 pb zs v q1 w2) := hc_
  clear hc_ t_ H1 HC1
  go_wp2_with fail
  refine Calls.mono (H2.out _ HC2.out) ?_
  rintro e w3 ⟨rfl, hc_, t_⟩
  have HT_ : Hid (Turned (fun b => b = pb) w w3) := HT.out.trans t_
  clear HT
  have HT := HT_
  clear HT_
  have vR_ := vR.turn t_ (by omega)
  clear vR
  have vR := vR_
  clear vR_
  have hx2 := t_.size
  have HC3 : Hid (CurV 100 pb zs v q2 w3) := hc_
  clear hc_ t_ H2 HC2
  dsimp only
  repeat (first | ((with_reducible refine guardStore (ty := 38) ?_); refine wpList_storeF vR rfl rfl (by kernel_rfl) rfl (of_decide_eq_true rfl) rfl ?_; intro w' vR_ t_) | go_values | go_skip | go_guarded | go_step | go_upon)
  have t1 : Turned (fun b => b = w.heap.size) w3 w' := t_
  have hC : CurV 100 pb zs v q2 w' := HC3.out.keep t1 (fun b hb => by omega)
  have hT : Turned (fun b => b = pb) w w' := HT.out.then t1 (fun i hi hs => by omega)
  have hsz := t1.size
  refine bodyPost_ret (results_cell_row Try.results95 _ _ _ _ _ _ _ rfl vR_ Try.underlying38 rfl (by kernel_rfl)) rfl ?_
  exact ⟨rfl, hC, hT⟩
set_option maxHeartbeats 4000000 in
theorem implTxC (pb : Nat) (zs : List Int) (v : Value) (p : Int) (w : World) (h : CurV 100 pb zs v p w) (hl : zs.length ≤ 2000000) :
    Calls Try.prog 97 #[.pointer (some ⟨pb, 0, none⟩)] w fun e w' => e = .returned (txV (rdTx zs p).1) ∧ Gone 100 pb zs v (rdTx zs p).2 w w' := by
  have hz := RdV.zs h.2.1
  have hpl := h.lt
  obtain ⟨n0, q0, e0⟩ : ∃ x q, getNum zs p = (x, q) := ⟨_, _, rfl⟩
  have H0 : Hid (∀ W, CurV 100 pb zs v p W → _) := fun W hW => by have h_ := implNumC pb zs v p W hW hl; rw [e0] at h_; exact h_
  obtain ⟨n1, q1, e1⟩ : ∃ x q, getNum zs q0 = (x, q) := ⟨_, _, rfl⟩
  have H1 : Hid (∀ W, CurV 100 pb zs v q0 W → _) := fun W hW => by have h_ := implNumC pb zs v q0 W hW hl; rw [e1] at h_; exact h_
  obtain ⟨n2, q2, e2⟩ : ∃ x q, getNum zs q1 = (x, q) := ⟨_, _, rfl⟩
  have H2 : Hid (∀ W, CurV 100 pb zs v q1 W → _) := fun W hW => by have h_ := implNumC pb zs v q1 W hW hl; rw [e2] at h_; exact h_
  have hR : rdTx zs p = ((n0, n1, n2), q2) := by simp [rdTx, e0, e1, e2]
  rw [hR]
  clear hR e0 e1 e2
  have HC0 : Hid (CurV 100 pb zs v p w) := h
  clear h
  dsimp only
  go_enter Try.func97, Try.ntmps97
  go_wp2_with fail
  refine Calls.mono (H0.out _ (HC0.out.alloc _)) ?_
  rintro e w1 ⟨rfl, hc_, t_⟩
  have HT : Hid (Turned (fun b => b = pb) w w1) := (Turned.ofBelow (Below.new1 (w := w) _)).trans t_
  have vR : VarA w1 w.heap.size 44 #[.int .i64 0, .int .i64 0, .int .i64 0] := VarA.turn (VarA.new w _ _) t_ (by omega)
  have hx0 := t_.size
  simp at hx0
  have HC1 : Hid (CurV 100 pb zs v q0 w1) := hc_
  clear hc_ t_ H0 HC0
  go_wp2_with fail
  refine Calls.mono (H1.out _ HC1.out) ?_
  rintro e w2 ⟨rfl, hc_, t_⟩
  have HT_ : Hid (Turned (fun b => b = pb) w w2) := HT.out.trans t_
  clear HT
  have HT := HT_
  clear HT_
  have vR_ := vR.turn t_ (by omega)
  clear vR
  have vR := vR_
  clear vR_
  have hx1 := t_.size
  have HC2 : Hid (CurV 100 pb zs v q1 w2) := hc_
  clear hc_ t_ H1 HC1
  go_wp2_with fail
  refine Calls.mono (H2.out _ HC2.out) ?_
  rintro e w3 ⟨rfl, hc_, t_⟩
  have HT_ : Hid (Turned (fun b => b = pb) w w3) := HT.out.trans t_
  clear HT
  have HT := HT_
  clear HT_
  have vR_ := vR.turn t_ (by omega)
  clear vR
  have vR := vR_
  clear vR_
  have hx2 := t_.size
  have HC3 : Hid (CurV 100 pb zs v q2 w3) := hc_
  clear hc_ t_ H2 HC2
  dsimp only
  repeat (first | ((with_reducible refine guardStore (ty := 44) ?_); refine wpList_storeF vR rfl rfl (by kernel_rfl) rfl (of_decide_eq_true rfl) rfl ?_; intro w' vR_ t_) | go_values | go_skip | go_guarded | go_step | go_upon)
  have t1 : Turned (fun b => b = w.heap.size) w3 w' := t_
  have hC : CurV 100 pb zs v q2 w' := HC3.out.keep t1 (fun b hb => by omega)
  have hT : Turned (fun b => b = pb) w w' := HT.out.then t1 (fun i hi hs => by omega)
  have hsz := t1.size
  refine bodyPost_ret (results_cell_row Try.results97 _ _ _ _ _ _ _ rfl vR_ Try.underlying44 rfl (by kernel_rfl)) rfl ?_
  exact ⟨rfl, hC, hT⟩
set_option maxHeartbeats 4000000 in
theorem implOpC (pb : Nat) (zs : List Int) (v : Value) (p : Int) (w : World) (h : CurV 100 pb zs v p w) (hl : zs.length ≤ 2000000) :
    Calls Try.prog 94 #[.pointer (some ⟨pb, 0, none⟩)] w fun e w' => ∃ a n c a2 n2 c2 M, e = .returned (opV (rdOp zs p).1 (.slice a n c) (.slice a2 n2 c2)) ∧ OwV w' (fun b => w.heap.size ≤ b ∧ b < M) (.slice a n c) (.bytes (rdOp zs p).1.nm) ∧ OwV w' (fun b => M ≤ b ∧ b < w'.heap.size) (.slice a2 n2 c2) (.bytes (rdOp zs p).1.asn) ∧ w.heap.size ≤ M ∧ M ≤ w'.heap.size ∧ Gone 100 pb zs v (rdOp zs p).2 w w' := by
  have hz := RdV.zs h.2.1
  have hpl := h.lt
  obtain ⟨n0, q0, e0⟩ : ∃ x q, getNum zs p = (x, q) := ⟨_, _, rfl⟩
  have H0 : Hid (∀ W, CurV 100 pb zs v p W → _) := fun W hW => by have h_ := implNumC pb zs v p W hW hl; rw [e0] at h_; exact h_
  obtain ⟨⟨hs1, hi1, hd1⟩, q1, e1⟩ : ∃ x q, rdHd zs q0 = (x, q) := ⟨_, _, rfl⟩
  have H1 : Hid (∀ W, CurV 100 pb zs v q0 W → _) := fun W hW => by have h_ := implHandC pb zs v q0 W hW hl; rw [e1] at h_; exact h_
  obtain ⟨ts2, q2, e2⟩ : ∃ x q, getText zs q1 = (x, q) := ⟨_, _, rfl⟩
  have H2 : Hid (∀ W, CurV 100 pb zs v q1 W → _) := fun W hW => by have h_ := implTextC pb zs v q1 W hW hl; rw [e2] at h_; exact h_
  obtain ⟨⟨hs3, hi3, hd3⟩, q3, e3⟩ : ∃ x q, rdHd zs q2 = (x, q) := ⟨_, _, rfl⟩
  have H3 : Hid (∀ W, CurV 100 pb zs v q2 W → _) := fun W hW => by have h_ := implHandC pb zs v q2 W hW hl; rw [e3] at h_; exact h_
  obtain ⟨ts4, q4, e4⟩ : ∃ x q, getText zs q3 = (x, q) := ⟨_, _, rfl⟩
  have H4 : Hid (∀ W, CurV 100 pb zs v q3 W → _) := fun W hW => by have h_ := implTextC pb zs v q3 W hW hl; rw [e4] at h_; exact h_
  obtain ⟨n5, q5, e5⟩ : ∃ x q, getNum zs q4 = (x, q) := ⟨_, _, rfl⟩
  have H5 : Hid (∀ W, CurV 100 pb zs v q4 W → _) := fun W hW => by have h_ := implNumC pb zs v q4 W hW hl; rw [e5] at h_; exact h_
  have hR : rdOp zs p = (⟨n0, (hs1, hi1, hd1), ts2, (hs3, hi3, hd3), ts4, n5⟩, q5) := by simp [rdOp, e0, e1, e2, e3, e4, e5]
  rw [hR]
  clear hR e0 e1 e2 e3 e4 e5
  have HC0 : Hid (CurV 100 pb zs v p w) := h
  clear h
  dsimp only
  go_enter Try.func94, Try.ntmps94
  go_wp2_with fail
  refine Calls.mono (H0.out _ (HC0.out.alloc _)) ?_
  rintro e w1 ⟨rfl, hc_, t_⟩
  have HT : Hid (Turned (fun b => b = pb) w w1) := (Turned.ofBelow (Below.new1 (w := w) _)).trans t_
  have vR : VarA w1 w.heap.size 40 #[.int .i64 0, .int .i64 0, .int .i64 0, .bool false, .slice none 0 0, .int .i64 0, .int .i64 0, .bool false, .slice none 0 0, .int .i64 0] := VarA.turn (VarA.new w _ _) t_ (by omega)
  have hx0 := t_.size
  simp at hx0
  have HC1 : Hid (CurV 100 pb zs v q0 w1) := hc_
  clear hc_ t_ H0 HC0
  go_wp2_with fail
  refine Calls.mono (H1.out _ HC1.out) ?_
  rintro e w2 ⟨rfl, hc_, t_⟩
  have HT_ : Hid (Turned (fun b => b = pb) w w2) := HT.out.trans t_
  clear HT
  have HT := HT_
  clear HT_
  have vR_ := vR.turn t_ (by omega)
  clear vR
  have vR := vR_
  clear vR_
  have hx1 := t_.size
  have HC2 : Hid (CurV 100 pb zs v q1 w2) := hc_
  clear hc_ t_ H1 HC1
  go_wp2_with fail
  refine Calls.mono (H2.out _ HC2.out) ?_
  rintro e w3 ⟨a2, l2, c2, rfl, o2, hc_, t_⟩
  have HT_ : Hid (Turned (fun b => b = pb) w w3) := HT.out.trans t_
  clear HT
  have HT := HT_
  clear HT_
  have vR_ := vR.turn t_ (by omega)
  clear vR
  have vR := vR_
  clear vR_
  have hx2 := t_.size
  have HO2 : Hid (OwV w3 (fun b => w2.heap.size ≤ b ∧ b < w3.heap.size) (.slice a2 l2 c2) (.bytes ts2)) := o2
  clear o2
  have HC3 : Hid (CurV 100 pb zs v q2 w3) := hc_
  clear hc_ t_ H2 HC2
  go_wp2_with fail
  refine Calls.mono (H3.out _ HC3.out) ?_
  rintro e w4 ⟨rfl, hc_, t_⟩
  have HT_ : Hid (Turned (fun b => b = pb) w w4) := HT.out.trans t_
  clear HT
  have HT := HT_
  clear HT_
  have vR_ := vR.turn t_ (by omega)
  clear vR
  have vR := vR_
  clear vR_
  have hx3 := t_.size
  have HO2_ : Hid (OwV w4 (fun b => w2.heap.size ≤ b ∧ b < w3.heap.size) (.slice a2 l2 c2) (.bytes ts2)) := HO2.out.keep (t_.keeps (fun b hb hs => by omega))
  clear HO2
  have HO2 := HO2_
  clear HO2_
  have HC4 : Hid (CurV 100 pb zs v q3 w4) := hc_
  clear hc_ t_ H3 HC3
  go_wp2_with fail
  refine Calls.mono (H4.out _ HC4.out) ?_
  rintro e w5 ⟨a4, l4, c4, rfl, o4, hc_, t_⟩
  have HT_ : Hid (Turned (fun b => b = pb) w w5) := HT.out.trans t_
  clear HT
  have HT := HT_
  clear HT_
  have vR_ := vR.turn t_ (by omega)
  clear vR
  have vR := vR_
  clear vR_
  have hx4 := t_.size
  have HO2_ : Hid (OwV w5 (fun b => w2.heap.size ≤ b ∧ b < w3.heap.size) (.slice a2 l2 c2) (.bytes ts2)) := HO2.out.keep (t_.keeps (fun b hb hs => by omega))
  clear HO2
  have HO2 := HO2_
  clear HO2_
  have HO4 : Hid (OwV w5 (fun b => w4.heap.size ≤ b ∧ b < w5.heap.size) (.slice a4 l4 c4) (.bytes ts4)) := o4
  clear o4
  have HC5 : Hid (CurV 100 pb zs v q4 w5) := hc_
  clear hc_ t_ H4 HC4
  go_wp2_with fail
  refine Calls.mono (H5.out _ HC5.out) ?_
  rintro e w6 ⟨rfl, hc_, t_⟩
  have HT_ : Hid (Turned (fun b => b = pb) w w6) := HT.out.trans t_
  clear HT
  have HT := HT_
  clear HT_
  have vR_ := vR.turn t_ (by omega)
  clear vR
  have vR := vR_
  clear vR_
  have hx5 := t_.size
  have HO2_ : Hid (OwV w6 (fun b => w2.heap.size ≤ b ∧ b < w3.heap.size) (.slice a2 l2 c2) (.bytes ts2)) := HO2.out.keep (t_.keeps (fun b hb hs => by omega))
  clear HO2
  have HO2 := HO2_
  clear HO2_
  have HO4_ : Hid (OwV w6 (fun b => w4.heap.size ≤ b ∧ b < w5.heap.size) (.slice a4 l4 c4) (.bytes ts4)) := HO4.out.keep (t_.keeps (fun b hb hs => by omega))
  clear HO4
  have HO4 := HO4_
  clear HO4_
  have HC6 : Hid (CurV 100 pb zs v q5 w6) := hc_
  clear hc_ t_ H5 HC5
  dsimp only
  repeat (first | ((with_reducible refine guardStore (ty := 40) ?_); refine wpList_storeF vR rfl rfl (by kernel_rfl) rfl (of_decide_eq_true rfl) rfl ?_; intro w' vR_ t_) | go_values | go_skip | go_guarded | go_step | go_upon)
  have t1 : Turned (fun b => b = w.heap.size) w6 w' := t_
  have hC : CurV 100 pb zs v q5 w' := HC6.out.keep t1 (fun b hb => by omega)
  have hT : Turned (fun b => b = pb) w w' := HT.out.then t1 (fun i hi hs => by omega)
  have hsz := t1.size
  have HO2_ : OwV w' (fun b => w2.heap.size ≤ b ∧ b < w3.heap.size) (.slice a2 l2 c2) (.bytes ts2) := HO2.out.keep (t1.keeps (fun b hb hs => by omega))
  have HO4_ : OwV w' (fun b => w4.heap.size ≤ b ∧ b < w5.heap.size) (.slice a4 l4 c4) (.bytes ts4) := HO4.out.keep (t1.keeps (fun b hb hs => by omega))
  refine bodyPost_ret (results_cell_row Try.results94 _ _ _ _ _ _ _ rfl vR_ Try.underlying40 rfl (by kernel_rfl)) rfl ?_
  exact ⟨_, _, _, _, _, _, w3.heap.size, rfl, HO2_.mono (fun b hb => ⟨by omega, hb.2⟩), HO4_.mono (fun b hb => ⟨by omega, by omega⟩), by omega, by omega, hC, hT⟩
set_option maxHeartbeats 4000000 in
theorem implPartC (pb : Nat) (zs : List Int) (v : Value) (p : Int) (w : World) (h : CurV 100 pb zs v p w) (hl : zs.length ≤ 2000000) :
    Calls Try.prog 98 #[.pointer (some ⟨pb, 0, none⟩)] w fun e w' => ∃ a n c, e = .returned (ptV (rdPt zs p).1 (.slice a n c)) ∧ OwV w' (fun b => w.heap.size ≤ b ∧ b < w'.heap.size) (.slice a n c) (.bytes (rdPt zs p).1.asn) ∧ Gone 100 pb zs v (rdPt zs p).2 w w' := by
  have hz := RdV.zs h.2.1
  have hpl := h.lt
  obtain ⟨n0, q0, e0⟩ : ∃ x q, getNum zs p = (x, q) := ⟨_, _, rfl⟩
  have H0 : Hid (∀ W, CurV 100 pb zs v p W → _) := fun W hW => by have h_ := implNumC pb zs v p W hW hl; rw [e0] at h_; exact h_
  obtain ⟨⟨hs1, hi1, hd1⟩, q1, e1⟩ : ∃ x q, rdHd zs q0 = (x, q) := ⟨_, _, rfl⟩
  have H1 : Hid (∀ W, CurV 100 pb zs v q0 W → _) := fun W hW => by have h_ := implHandC pb zs v q0 W hW hl; rw [e1] at h_; exact h_
  obtain ⟨ts2, q2, e2⟩ : ∃ x q, getText zs q1 = (x, q) := ⟨_, _, rfl⟩
  have H2 : Hid (∀ W, CurV 100 pb zs v q1 W → _) := fun W hW => by have h_ := implTextC pb zs v q1 W hW hl; rw [e2] at h_; exact h_
  obtain ⟨⟨hs3, hi3, hd3⟩, q3, e3⟩ : ∃ x q, rdHd zs q2 = (x, q) := ⟨_, _, rfl⟩
  have H3 : Hid (∀ W, CurV 100 pb zs v q2 W → _) := fun W hW => by have h_ := implHandC pb zs v q2 W hW hl; rw [e3] at h_; exact h_
  have hR : rdPt zs p = (⟨n0, (hs1, hi1, hd1), ts2, (hs3, hi3, hd3)⟩, q3) := by simp [rdPt, e0, e1, e2, e3]
  rw [hR]
  clear hR e0 e1 e2 e3
  have HC0 : Hid (CurV 100 pb zs v p w) := h
  clear h
  dsimp only
  go_enter Try.func98, Try.ntmps98
  go_wp2_with fail
  refine Calls.mono (H0.out _ (HC0.out.alloc _)) ?_
  rintro e w1 ⟨rfl, hc_, t_⟩
  have HT : Hid (Turned (fun b => b = pb) w w1) := (Turned.ofBelow (Below.new1 (w := w) _)).trans t_
  have vR : VarA w1 w.heap.size 46 #[.int .i64 0, .int .i64 0, .int .i64 0, .bool false, .slice none 0 0, .int .i64 0, .int .i64 0, .bool false] := VarA.turn (VarA.new w _ _) t_ (by omega)
  have hx0 := t_.size
  simp at hx0
  have HC1 : Hid (CurV 100 pb zs v q0 w1) := hc_
  clear hc_ t_ H0 HC0
  go_wp2_with fail
  refine Calls.mono (H1.out _ HC1.out) ?_
  rintro e w2 ⟨rfl, hc_, t_⟩
  have HT_ : Hid (Turned (fun b => b = pb) w w2) := HT.out.trans t_
  clear HT
  have HT := HT_
  clear HT_
  have vR_ := vR.turn t_ (by omega)
  clear vR
  have vR := vR_
  clear vR_
  have hx1 := t_.size
  have HC2 : Hid (CurV 100 pb zs v q1 w2) := hc_
  clear hc_ t_ H1 HC1
  go_wp2_with fail
  refine Calls.mono (H2.out _ HC2.out) ?_
  rintro e w3 ⟨a2, l2, c2, rfl, o2, hc_, t_⟩
  have HT_ : Hid (Turned (fun b => b = pb) w w3) := HT.out.trans t_
  clear HT
  have HT := HT_
  clear HT_
  have vR_ := vR.turn t_ (by omega)
  clear vR
  have vR := vR_
  clear vR_
  have hx2 := t_.size
  have HO2 : Hid (OwV w3 (fun b => w2.heap.size ≤ b ∧ b < w3.heap.size) (.slice a2 l2 c2) (.bytes ts2)) := o2
  clear o2
  have HC3 : Hid (CurV 100 pb zs v q2 w3) := hc_
  clear hc_ t_ H2 HC2
  go_wp2_with fail
  refine Calls.mono (H3.out _ HC3.out) ?_
  rintro e w4 ⟨rfl, hc_, t_⟩
  have HT_ : Hid (Turned (fun b => b = pb) w w4) := HT.out.trans t_
  clear HT
  have HT := HT_
  clear HT_
  have vR_ := vR.turn t_ (by omega)
  clear vR
  have vR := vR_
  clear vR_
  have hx3 := t_.size
  have HO2_ : Hid (OwV w4 (fun b => w2.heap.size ≤ b ∧ b < w3.heap.size) (.slice a2 l2 c2) (.bytes ts2)) := HO2.out.keep (t_.keeps (fun b hb hs => by omega))
  clear HO2
  have HO2 := HO2_
  clear HO2_
  have HC4 : Hid (CurV 100 pb zs v q3 w4) := hc_
  clear hc_ t_ H3 HC3
  dsimp only
  repeat (first | ((with_reducible refine guardStore (ty := 46) ?_); refine wpList_storeF vR rfl rfl (by kernel_rfl) rfl (of_decide_eq_true rfl) rfl ?_; intro w' vR_ t_) | go_values | go_skip | go_guarded | go_step | go_upon)
  have t1 : Turned (fun b => b = w.heap.size) w4 w' := t_
  have hC : CurV 100 pb zs v q3 w' := HC4.out.keep t1 (fun b hb => by omega)
  have hT : Turned (fun b => b = pb) w w' := HT.out.then t1 (fun i hi hs => by omega)
  have hsz := t1.size
  have HO2_ : OwV w' (fun b => w2.heap.size ≤ b ∧ b < w3.heap.size) (.slice a2 l2 c2) (.bytes ts2) := HO2.out.keep (t1.keeps (fun b hb hs => by omega))
  refine bodyPost_ret (results_cell_row Try.results98 _ _ _ _ _ _ _ rfl vR_ Try.underlying46 rfl (by kernel_rfl)) rfl ?_
  exact ⟨_, _, _, rfl, HO2_.mono (fun b hb => ⟨by omega, by omega⟩), hC, hT⟩
end Go.Proofs.Ytmjfnmlfamikgaa
end
