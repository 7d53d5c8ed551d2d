/- Records, copied by the verifier's helpers. Condition: no more than 2^21 of all. -/
import Derived.Test.YtmjfnmlfamikgaaWTo
import Derived.Test.YtmjfnmlfamikgaaOps2
import Derived.Test.YtmjfnmlfamikgaaVarL
import Derived.Test.YtmjfnmlfamikgaaRec0
namespace Go.Proofs.Ytmjfnmlfamikgaa
open Go.RowKit
set_option linter.unusedVariables false
set_option linter.unusedSimpArgs false
set_option maxRecDepth 100000

theorem OwM.closeR {w w2 w' : World} {m : MsD} {x y z u : Value} {M B B' C D E : Nat} (hB : Below w.heap.size w w2) (t : Turned (fun b => w.heap.size ≤ b ∧ b < w.heap.size + 3) w2 w')
    (o1 : OwV w2 (fun b => w.heap.size + 3 ≤ b ∧ b < M) x (.bytes m.op.nm)) (o2 : OwV w2 (fun b => M ≤ b ∧ b < B) y (.bytes m.op.asn)) (o3 : OwV w2 (fun b => B' ≤ b ∧ b < C) z (ensDt m.rp.list)) (o4 : OwV w2 (fun b => D ≤ b ∧ b < E) u (.bytes m.pt.asn))
    (hM : w.heap.size + 3 ≤ M) (hBC : M ≤ B ∧ B ≤ B' ∧ B' ≤ C ∧ C ≤ D ∧ D ≤ E) (hE : E ≤ w2.heap.size) : OwM w' (fun b => w.heap.size ≤ b ∧ b < w'.heap.size) m x y z u := by
  have hs := t.size
  refine ⟨_, _, _, _, o1.keep (t.keeps (fun b hb hq => by omega)), o2.keep (t.keeps (fun b hb hq => by omega)), o3.keep (t.keeps (fun b hb hq => by omega)), o4.keep (t.keeps (fun b hb hq => by omega)), fun b hb => ?_, fun b hb => ⟨fun h => by omega, fun h => by omega, fun h => by omega⟩, fun b hb => ⟨fun h => by omega, fun h => by omega⟩, fun b hb h => by omega⟩
  rcases hb with hb | hb | hb | hb <;> exact ⟨by omega, by omega⟩

set_option maxHeartbeats 4000000 in
theorem toRecord_any (x y z u : Value) (m : MsD) (S : Nat → Prop) (w : World) (r : RdM w S m x y z u) (hl : szMs m ≤ 2097152) :
    Calls Try.prog 8 #[rcV m x y z u] w fun q w' => ∃ a1 n1 c1 a2 n2 c2 a3 n3 c3 a4 n4 c4, q = .returned (rcV m (.slice a1 n1 c1) (.slice a2 n2 c2) (.slice a3 n3 c3) (.slice a4 n4 c4)) ∧ OwM w' (fun b => w.heap.size ≤ b ∧ b < w'.heap.size) m (.slice a1 n1 c1) (.slice a2 n2 c2) (.slice a3 n3 c3) (.slice a4 n4 c4) ∧ Below w.heap.size w w' := by
  obtain ⟨r1, r2, r3, r4⟩ := r
  obtain ⟨a1, cap1, rfl⟩ := r1.sliceB
  obtain ⟨a2, cap2, rfl⟩ := r2.sliceB
  obtain ⟨a3, cap3, rfl, _⟩ := RdV.sliced r3
  obtain ⟨a4, cap4, rfl⟩ := r4.sliceB
  obtain ⟨kd, fr, to, rq, ⟨ok, ⟨op_, oq, od⟩, nm, ⟨tp, tq, td⟩, asn, ov⟩, ⟨rc, ⟨rp_, rq_, rd⟩, rv, es⟩, ⟨xs, xb, xn⟩, ⟨pk, ⟨pp, pq, pd⟩, pas, ⟨sp, sq, sd⟩⟩, cd, ⟨hp, hq, hd⟩⟩ := m
  unfold szMs at hl
  dsimp only at r1 r2 r3 r4 hl ⊢
  have HC1 : Hid (∀ W, Below w.heap.size w W → _) := fun W hW => toOp_b _ _ ⟨ok, (op_, oq, od), nm, (tp, tq, td), asn, ov⟩ S W (r1.step hW) (r2.step hW) (by dsimp only; omega) (by dsimp only; omega)
  have HC2 : Hid (∀ W, Below w.heap.size w W → _) := fun W hW => toReply_any _ ⟨rc, (rp_, rq_, rd), rv, es⟩ S W (r3.step hW) (by dsimp only; omega)
  have HC3 : Hid (∀ W, _) := fun W => toTx_any (xs, xb, xn) W
  have HC4 : Hid (∀ W, Below w.heap.size w W → _) := fun W hW => toPart_any _ ⟨pk, (pp, pq, pd), pas, (sp, sq, sd)⟩ S W (r4.step hW) (by dsimp only; omega)
  have HC5 : Hid (∀ W, _) := fun W => toHandle_any (hp, hq, hd) W
  clear r1 r2 r3 r4 hl
  try dsimp only at HC1 HC2 HC4 ⊢
  generalize nm.length = n1 at HC1 ⊢
  generalize asn.length = n2 at HC1 ⊢
  generalize es.length = n3 at HC2 ⊢
  generalize pas.length = n4 at HC4 ⊢
  go_enter Try.func8, Try.ntmps8
  repeat (first | ((with_reducible refine guardLoad (ty := 26) ?_); refine wpList_loadF (vs := [.int .i64 ok, .int .i64 op_, .int .i64 oq, .bool od, .slice a1 n1 cap1, .int .i64 tp, .int .i64 tq, .bool td, .slice a2 n2 cap2, .int .i64 ov]) (((VarA.new w _ _).alloc _).alloc _) rfl Try.underlying26 rfl (by kernel_rfl) rfl ?_) | go_values | go_skip | go_guarded | go_step)
  refine Calls.mono (HC1.out _ ((((Below.refl _ _).alloc (Nat.le_refl _) _).alloc (by simp) _).alloc (by simp; omega) _)) ?_
  rintro e w2 ⟨ua, un, uc, ya, yn, yc, M, rfl, o1, o2, hM1, hM2, b_⟩
  have hs2 := b_.size
  simp at hs2
  simp at hM1
  have vA : VarA w2 w.heap.size 35 #[.int .i64 kd, .int .i64 fr, .int .i64 rq, .int .i64 ok, .int .i64 op_, .int .i64 oq, .bool od, .slice a1 n1 cap1, .int .i64 tp, .int .i64 tq, .bool td, .slice a2 n2 cap2, .int .i64 ov, .int .i64 hp, .int .i64 hq, .bool hd, .int .i64 rc, .int .i64 rp_, .int .i64 rq_, .bool rd, .int .i64 rv, .slice a3 n3 cap3, .int .i64 xs, .int .i64 xb, .int .i64 xn, .int .i64 pk, .int .i64 pp, .int .i64 pq, .bool pd, .slice a4 n4 cap4, .int .i64 sp, .int .i64 sq, .bool sd, .int .i64 cd] := VarA.step (((VarA.new w _ _).alloc _).alloc _) b_
  have vR : VarA w2 (w.heap.size + 1) 48 #[.int .i64 0, .int .i64 0, .int .i64 0, .int .i64 0, .int .i64 0, .int .i64 0, .bool false, .slice none 0 0, .int .i64 0, .int .i64 0, .bool false, .slice none 0 0, .int .i64 0, .int .i64 0, .int .i64 0, .bool false, .int .i64 0, .int .i64 0, .int .i64 0, .bool false, .int .i64 0, .slice none 0 0, .int .i64 0, .int .i64 0, .int .i64 0, .int .i64 0, .int .i64 0, .int .i64 0, .bool false, .slice none 0 0, .int .i64 0, .int .i64 0, .bool false, .int .i64 0] := by
    have := VarA.step ((VarA.new (w.alloc _) _ _).alloc _) b_
    simpa using this
  have vO : VarA w2 (w.heap.size + 1 + 1) 48 #[.int .i64 kd, .int .i64 fr, .int .i64 rq, .int .i64 0, .int .i64 0, .int .i64 0, .bool false, .slice none 0 0, .int .i64 0, .int .i64 0, .bool false, .slice none 0 0, .int .i64 0, .int .i64 0, .int .i64 0, .bool false, .int .i64 0, .int .i64 0, .int .i64 0, .bool false, .int .i64 0, .slice none 0 0, .int .i64 0, .int .i64 0, .int .i64 0, .int .i64 0, .int .i64 0, .int .i64 0, .bool false, .slice none 0 0, .int .i64 0, .int .i64 0, .bool false, .int .i64 0] := by
    have := VarA.step (VarA.new ((w.alloc _).alloc _) _ _) b_
    simpa using this
  have HB : Hid (Below w.heap.size w w2) := ((((Below.refl _ _).alloc (Nat.le_refl _) _).alloc (by simp) _).alloc (by simp; omega) _).trans (b_.mono (by simp; omega))
  have hz : w.heap.size + 3 ≤ w2.heap.size := by omega
  have HO0 : Hid (OwV w2 (fun b => w.heap.size + 3 ≤ b ∧ b < M) (.slice ua un uc) (.bytes nm)) := o1.mono (fun b h => by simpa [Nat.add_assoc] using h)
  have HO1 : Hid (OwV w2 (fun b => M ≤ b ∧ b < w2.heap.size) (.slice ya yn yc) (.bytes asn)) := o2.mono (fun b h => by simpa [Nat.add_assoc] using h)
  clear hs2 b_ o1 o2
  have HT : Hid (Turned (fun b => w.heap.size ≤ b ∧ b < w.heap.size + 3) w2 w2) := Turned.refl _ _
  dsimp only
  repeat (first | ((with_reducible refine guardStore (ty := 40) ?_); refine wpList_storeF vO rfl rfl (by kernel_rfl) rfl (of_decide_eq_true rfl) rfl ?_; intro w' vO_ t_; have vA_ := vA.turn t_ (by omega); have vR_ := vR.turn t_ (by omega); have HT_ : Hid _ := HT.out.trans (t_.one (S := fun b => w.heap.size ≤ b ∧ b < w.heap.size + 3) (by omega)); have hz_ := Nat.le_trans hz t_.size; clear vA vR vO HT hz t_; have vA := vA_; have vR := vR_; have vO := vO_; have HT := HT_; have hz := hz_; clear vA_ vR_ vO_ HT_ hz_) | ((with_reducible refine guardLoad (ty := 23) ?_); refine wpList_loadF (vs := [.int .i64 hp, .int .i64 hq, .bool hd]) vA rfl Try.underlying23 rfl (by kernel_rfl) rfl ?_) | go_values | go_skip | go_guarded | go_step)
  refine Calls.mono (HC5.out _) ?_
  rintro e w3 ⟨rfl, b_⟩
  have vA_ := (vA).step b_
  have vR_ := (vR).step b_
  have vO_ : VarA w3 (w.heap.size + 1 + 1) 48 #[.int .i64 kd, .int .i64 fr, .int .i64 rq, .int .i64 ok, .int .i64 op_, .int .i64 oq, .bool od, .slice ua un uc, .int .i64 tp, .int .i64 tq, .bool td, .slice ya yn yc, .int .i64 ov, .int .i64 0, .int .i64 0, .bool false, .int .i64 0, .int .i64 0, .int .i64 0, .bool false, .int .i64 0, .slice none 0 0, .int .i64 0, .int .i64 0, .int .i64 0, .int .i64 0, .int .i64 0, .int .i64 0, .bool false, .slice none 0 0, .int .i64 0, .int .i64 0, .bool false, .int .i64 0] := (vO).step b_
  have t_ : Turned (fun b => w.heap.size ≤ b ∧ b < w.heap.size + 3) w2 w3 := (HT.out).andThen b_
  have HB_ : Hid (Below w.heap.size w w3) := Turned.below HB.out t_ HB.out.size (fun i hi => hi.1)
  have zs_ := t_.size
  have HO0_ : Hid (OwV w3 (fun b => _ ∧ b < _) (.slice ua un uc) (.bytes nm)) := HO0.out.keep (t_.keeps (fun b hb hs => by omega))
  have HO1_ : Hid (OwV w3 (fun b => _ ∧ b < _) (.slice ya yn yc) (.bytes asn)) := HO1.out.keep (t_.keeps (fun b hb hs => by omega))
  have hz_ := Nat.le_trans hz (Nat.le_trans (Nat.le_of_eq (by simp)) b_.size)
  clear vA vR vO HT HB b_ t_ hz HO0 HO1
  have vA := vA_
  have vR := vR_
  have vO := vO_
  have HB := HB_
  have hz := hz_
  have HO0 := HO0_
  have HO1 := HO1_
  clear vA_ vR_ vO_ HB_ hz_ HO0_ HO1_
  have HT : Hid (Turned (fun b => w.heap.size ≤ b ∧ b < w.heap.size + 3) w3 w3) := Turned.refl _ _
  dsimp only
  repeat (first | ((with_reducible refine guardStore (ty := 38) ?_); refine wpList_storeF vO rfl rfl (by kernel_rfl) rfl (of_decide_eq_true rfl) rfl ?_; intro w' vO_ t_; have vA_ := vA.turn t_ (by omega); have vR_ := vR.turn t_ (by omega); have HT_ : Hid _ := HT.out.trans (t_.one (S := fun b => w.heap.size ≤ b ∧ b < w.heap.size + 3) (by omega)); have hz_ := Nat.le_trans hz t_.size; clear vA vR vO HT hz t_; have vA := vA_; have vR := vR_; have vO := vO_; have HT := HT_; have hz := hz_; clear vA_ vR_ vO_ HT_ hz_) | ((with_reducible refine guardLoad (ty := 29) ?_); refine wpList_loadF (vs := [.int .i64 rc, .int .i64 rp_, .int .i64 rq_, .bool rd, .int .i64 rv, .slice a3 n3 cap3]) vA rfl Try.underlying29 rfl (by kernel_rfl) rfl ?_) | go_values | go_skip | go_guarded | go_step)
  refine Calls.mono (HC2.out _ (Turned.below HB.out (HT.out) HB.out.size (fun i hi => hi.1))) ?_
  rintro e w4 ⟨za, zn, zc, rfl, o_, b_⟩
  have vA_ := (vA).step b_
  have vR_ := (vR).step b_
  have vO_ : VarA w4 (w.heap.size + 1 + 1) 48 #[.int .i64 kd, .int .i64 fr, .int .i64 rq, .int .i64 ok, .int .i64 op_, .int .i64 oq, .bool od, .slice ua un uc, .int .i64 tp, .int .i64 tq, .bool td, .slice ya yn yc, .int .i64 ov, .int .i64 hp, .int .i64 hq, .bool hd, .int .i64 0, .int .i64 0, .int .i64 0, .bool false, .int .i64 0, .slice none 0 0, .int .i64 0, .int .i64 0, .int .i64 0, .int .i64 0, .int .i64 0, .int .i64 0, .bool false, .slice none 0 0, .int .i64 0, .int .i64 0, .bool false, .int .i64 0] := (vO).step b_
  have t_ : Turned (fun b => w.heap.size ≤ b ∧ b < w.heap.size + 3) w3 w4 := (HT.out).andThen b_
  have HB_ : Hid (Below w.heap.size w w4) := Turned.below HB.out t_ HB.out.size (fun i hi => hi.1)
  have zs_ := t_.size
  have HO0_ : Hid (OwV w4 (fun b => _ ∧ b < _) (.slice ua un uc) (.bytes nm)) := HO0.out.keep (t_.keeps (fun b hb hs => by omega))
  have HO1_ : Hid (OwV w4 (fun b => _ ∧ b < _) (.slice ya yn yc) (.bytes asn)) := HO1.out.keep (t_.keeps (fun b hb hs => by omega))
  have HO2 : Hid (OwV w4 (fun b => w3.heap.size ≤ b ∧ b < w4.heap.size) (.slice za zn zc) (ensDt es)) := o_.mono (fun b h => ⟨by have := HT.out.size; first | omega | (simp at h; omega), by omega⟩)
  have hz_ := Nat.le_trans hz (Nat.le_trans (Nat.le_of_eq (by simp)) b_.size)
  clear vA vR vO HT HB b_ t_ hz o_ HO0 HO1
  have vA := vA_
  have vR := vR_
  have vO := vO_
  have HB := HB_
  have hz := hz_
  have HO0 := HO0_
  have HO1 := HO1_
  clear vA_ vR_ vO_ HB_ hz_ HO0_ HO1_
  have HT : Hid (Turned (fun b => w.heap.size ≤ b ∧ b < w.heap.size + 3) w4 w4) := Turned.refl _ _
  dsimp only
  repeat (first | ((with_reducible refine guardStore (ty := 43) ?_); refine wpList_storeF vO rfl rfl (by kernel_rfl) rfl (of_decide_eq_true rfl) rfl ?_; intro w' vO_ t_; have vA_ := vA.turn t_ (by omega); have vR_ := vR.turn t_ (by omega); have HT_ : Hid _ := HT.out.trans (t_.one (S := fun b => w.heap.size ≤ b ∧ b < w.heap.size + 3) (by omega)); have hz_ := Nat.le_trans hz t_.size; clear vA vR vO HT hz t_; have vA := vA_; have vR := vR_; have vO := vO_; have HT := HT_; have hz := hz_; clear vA_ vR_ vO_ HT_ hz_) | ((with_reducible refine guardLoad (ty := 31) ?_); refine wpList_loadF (vs := [.int .i64 xs, .int .i64 xb, .int .i64 xn]) vA rfl Try.underlying31 rfl (by kernel_rfl) rfl ?_) | go_values | go_skip | go_guarded | go_step)
  refine Calls.mono (HC3.out _) ?_
  rintro e w5 ⟨rfl, b_⟩
  have vA_ := (vA).step b_
  have vR_ := (vR).step b_
  have vO_ : VarA w5 (w.heap.size + 1 + 1) 48 #[.int .i64 kd, .int .i64 fr, .int .i64 rq, .int .i64 ok, .int .i64 op_, .int .i64 oq, .bool od, .slice ua un uc, .int .i64 tp, .int .i64 tq, .bool td, .slice ya yn yc, .int .i64 ov, .int .i64 hp, .int .i64 hq, .bool hd, .int .i64 rc, .int .i64 rp_, .int .i64 rq_, .bool rd, .int .i64 rv, .slice za zn zc, .int .i64 0, .int .i64 0, .int .i64 0, .int .i64 0, .int .i64 0, .int .i64 0, .bool false, .slice none 0 0, .int .i64 0, .int .i64 0, .bool false, .int .i64 0] := (vO).step b_
  have t_ : Turned (fun b => w.heap.size ≤ b ∧ b < w.heap.size + 3) w4 w5 := (HT.out).andThen b_
  have HB_ : Hid (Below w.heap.size w w5) := Turned.below HB.out t_ HB.out.size (fun i hi => hi.1)
  have zs_ := t_.size
  have HO0_ : Hid (OwV w5 (fun b => _ ∧ b < _) (.slice ua un uc) (.bytes nm)) := HO0.out.keep (t_.keeps (fun b hb hs => by omega))
  have HO1_ : Hid (OwV w5 (fun b => _ ∧ b < _) (.slice ya yn yc) (.bytes asn)) := HO1.out.keep (t_.keeps (fun b hb hs => by omega))
  have HO2_ : Hid (OwV w5 (fun b => _ ∧ b < _) (.slice za zn zc) (ensDt es)) := HO2.out.keep (t_.keeps (fun b hb hs => by omega))
  have hz_ := Nat.le_trans hz (Nat.le_trans (Nat.le_of_eq (by simp)) b_.size)
  clear vA vR vO HT HB b_ t_ hz HO0 HO1 HO2
  have vA := vA_
  have vR := vR_
  have vO := vO_
  have HB := HB_
  have hz := hz_
  have HO0 := HO0_
  have HO1 := HO1_
  have HO2 := HO2_
  clear vA_ vR_ vO_ HB_ hz_ HO0_ HO1_ HO2_
  have HT : Hid (Turned (fun b => w.heap.size ≤ b ∧ b < w.heap.size + 3) w5 w5) := Turned.refl _ _
  dsimp only
  repeat (first | ((with_reducible refine guardStore (ty := 44) ?_); refine wpList_storeF vO rfl rfl (by kernel_rfl) rfl (of_decide_eq_true rfl) rfl ?_; intro w' vO_ t_; have vA_ := vA.turn t_ (by omega); have vR_ := vR.turn t_ (by omega); have HT_ : Hid _ := HT.out.trans (t_.one (S := fun b => w.heap.size ≤ b ∧ b < w.heap.size + 3) (by omega)); have hz_ := Nat.le_trans hz t_.size; clear vA vR vO HT hz t_; have vA := vA_; have vR := vR_; have vO := vO_; have HT := HT_; have hz := hz_; clear vA_ vR_ vO_ HT_ hz_) | ((with_reducible refine guardLoad (ty := 33) ?_); refine wpList_loadF (vs := [.int .i64 pk, .int .i64 pp, .int .i64 pq, .bool pd, .slice a4 n4 cap4, .int .i64 sp, .int .i64 sq, .bool sd]) vA rfl Try.underlying33 rfl (by kernel_rfl) rfl ?_) | go_values | go_skip | go_guarded | go_step)
  refine Calls.mono (HC4.out _ (Turned.below HB.out (HT.out) HB.out.size (fun i hi => hi.1))) ?_
  rintro e w6 ⟨va, vn, vc, rfl, o_, b_⟩
  have vA_ := (vA).step b_
  have vR_ := (vR).step b_
  have vO_ : VarA w6 (w.heap.size + 1 + 1) 48 #[.int .i64 kd, .int .i64 fr, .int .i64 rq, .int .i64 ok, .int .i64 op_, .int .i64 oq, .bool od, .slice ua un uc, .int .i64 tp, .int .i64 tq, .bool td, .slice ya yn yc, .int .i64 ov, .int .i64 hp, .int .i64 hq, .bool hd, .int .i64 rc, .int .i64 rp_, .int .i64 rq_, .bool rd, .int .i64 rv, .slice za zn zc, .int .i64 xs, .int .i64 xb, .int .i64 xn, .int .i64 0, .int .i64 0, .int .i64 0, .bool false, .slice none 0 0, .int .i64 0, .int .i64 0, .bool false, .int .i64 0] := (vO).step b_
  have t_ : Turned (fun b => w.heap.size ≤ b ∧ b < w.heap.size + 3) w5 w6 := (HT.out).andThen b_
  have HB_ : Hid (Below w.heap.size w w6) := Turned.below HB.out t_ HB.out.size (fun i hi => hi.1)
  have zs_ := t_.size
  have HO0_ : Hid (OwV w6 (fun b => _ ∧ b < _) (.slice ua un uc) (.bytes nm)) := HO0.out.keep (t_.keeps (fun b hb hs => by omega))
  have HO1_ : Hid (OwV w6 (fun b => _ ∧ b < _) (.slice ya yn yc) (.bytes asn)) := HO1.out.keep (t_.keeps (fun b hb hs => by omega))
  have HO2_ : Hid (OwV w6 (fun b => _ ∧ b < _) (.slice za zn zc) (ensDt es)) := HO2.out.keep (t_.keeps (fun b hb hs => by omega))
  have HO3 : Hid (OwV w6 (fun b => w5.heap.size ≤ b ∧ b < w6.heap.size) (.slice va vn vc) (.bytes pas)) := o_.mono (fun b h => ⟨by have := HT.out.size; first | omega | (simp at h; omega), by omega⟩)
  have hz_ := Nat.le_trans hz (Nat.le_trans (Nat.le_of_eq (by simp)) b_.size)
  clear vA vR vO HT HB b_ t_ hz o_ HO0 HO1 HO2
  have vA := vA_
  have vR := vR_
  have vO := vO_
  have HB := HB_
  have hz := hz_
  have HO0 := HO0_
  have HO1 := HO1_
  have HO2 := HO2_
  clear vA_ vR_ vO_ HB_ hz_ HO0_ HO1_ HO2_
  have HT : Hid (Turned (fun b => w.heap.size ≤ b ∧ b < w.heap.size + 3) w6 w6) := Turned.refl _ _
  dsimp only
  repeat (first | ((with_reducible refine guardStore (ty := 46) ?_); refine wpList_storeF vO rfl rfl (by kernel_rfl) rfl (of_decide_eq_true rfl) rfl ?_; intro w' vO_ t_; have vA_ := vA.turn t_ (by omega); have vR_ := vR.turn t_ (by omega); have HT_ : Hid _ := HT.out.trans (t_.one (S := fun b => w.heap.size ≤ b ∧ b < w.heap.size + 3) (by omega)); have hz_ := Nat.le_trans hz t_.size; clear vA vR vO HT hz t_; have vA := vA_; have vR := vR_; have vO := vO_; have HT := HT_; have hz := hz_; clear vA_ vR_ vO_ HT_ hz_; have a33_ := vA.c 33 rfl; have o33_ := vO.c 33 rfl; have fo_ := vO.fz) | ((with_reducible refine guardLoad (ty := 48) ?_); refine wpList_loadA (show VarA _ (w.heap.size + 1 + 1) 48 #[.int .i64 kd, .int .i64 fr, .int .i64 rq, .int .i64 ok, .int .i64 op_, .int .i64 oq, .bool od, .slice ua un uc, .int .i64 tp, .int .i64 tq, .bool td, .slice ya yn yc, .int .i64 ov, .int .i64 hp, .int .i64 hq, .bool hd, .int .i64 rc, .int .i64 rp_, .int .i64 rq_, .bool rd, .int .i64 rv, .slice za zn zc, .int .i64 xs, .int .i64 xb, .int .i64 xn, .int .i64 pk, .int .i64 pp, .int .i64 pq, .bool pd, .slice va vn vc, .int .i64 sp, .int .i64 sq, .bool sd, .int .i64 cd] from (vO |>.set 33 _)) rfl Try.underlying48 rfl (by kernel_rfl) ?_) | ((with_reducible refine guardStore (ty := 48) ?_); refine wpList_storeF (vR |>.aside (p := ⟨w.heap.size + 1 + 1, 33, none⟩) (by dsimp only; omega) _) rfl rfl (by kernel_rfl) rfl (of_decide_eq_true rfl) rfl ?_; intro w' vR_ t_; have HT_ : Hid _ := (HT.out |>.set _ _ (by simp <;> omega)).trans (t_.one (S := fun b => w.heap.size ≤ b ∧ b < w.heap.size + 3) (by omega)); clear vR HT t_; have vR := vR_; have HT := HT_; clear vR_ HT_) | go_values | go_skip | go_guarded | go_step)
  refine bodyPost_ret (results_cell_row Try.results8 _ _ _ _ _ _ _ rfl vR Try.underlying48 rfl (by kernel_rfl)) rfl ?_
  exact ⟨_, _, _, _, _, _, _, _, _, _, _, _, rfl, OwM.closeR HB.out HT.out HO0.out HO1.out HO2.out HO3.out (by omega) (by omega) (by omega), Turned.below HB.out HT.out HB.out.size (fun i hi => hi.1)⟩

end Go.Proofs.Ytmjfnmlfamikgaa
