/- Actions, copied by the verifier's helpers. Condition: no more than 2^21 of all. -/
import Derived.Test.YthpcmgbienfgoaaActs0
import Derived.Test.YthpcmgbienfgoaaWTo
import Derived.Test.YthpcmgbienfgoaaOps2
import Derived.Test.YthpcmgbienfgoaaVarL
namespace Go.Proofs.Ythpcmgbienfgoaa
open Go.RowKit
set_option linter.unusedVariables false
set_option linter.unusedSimpArgs false
set_option maxRecDepth 100000

theorem RdA.close {w w2 w' : World} {a : AcD} {x y z : Value} {M B C D : Nat} (hB : Below w.heap.size w w2) (t : Turned (fun b => w.heap.size ≤ b ∧ b < w.heap.size + 3) w2 w')
    (o1 : OwV w2 (fun b => w.heap.size + 3 ≤ b ∧ b < M) x (.bytes a.op.nm)) (o2 : OwV w2 (fun b => M ≤ b ∧ b < B) y (.bytes a.op.asn)) (o3 : OwV w2 (fun b => C ≤ b ∧ b < D) z (flsDt a.keep))
    (hM : w.heap.size + 3 ≤ M) (hBC : M ≤ B ∧ B ≤ C ∧ C ≤ D) (hE : D ≤ w2.heap.size) : RdA w' (fun b => w.heap.size ≤ b ∧ b < w'.heap.size) a x y z ∧ Below w.heap.size w w' := by
  have hs := t.size
  exact ⟨⟨RdV.mono (fun b hb => ⟨by omega, by omega⟩) (OwV.rd (o1.keep (t.keeps (fun b hb hq => by omega)))), RdV.mono (fun b hb => ⟨by omega, by omega⟩) (OwV.rd (o2.keep (t.keeps (fun b hb hq => by omega)))), RdV.mono (fun b hb => ⟨by omega, by omega⟩) (OwV.rd (o3.keep (t.keeps (fun b hb hq => by omega))))⟩, Turned.below hB t hB.size (fun i hi => hi.1)⟩

set_option maxHeartbeats 4000000 in
theorem toAction_any (x y z : Value) (a : AcD) (S : Nat → Prop) (w : World) (r : RdA w S a x y z) (hl : szAc a ≤ 2097152) :
    Calls Try.prog 10 #[acV a x y z] w fun q w' => ∃ a1 n1 c1 a2 n2 c2 a3 n3 c3, q = .returned (acV a (.slice a1 n1 c1) (.slice a2 n2 c2) (.slice a3 n3 c3)) ∧ RdA w' (fun b => w.heap.size ≤ b ∧ b < w'.heap.size) a (.slice a1 n1 c1) (.slice a2 n2 c2) (.slice a3 n3 c3) ∧ Below w.heap.size w w' := by
  obtain ⟨r1, r2, r3⟩ := r
  obtain ⟨a1, cap1, rfl⟩ := r1.sliceB
  obtain ⟨a2, cap2, rfl⟩ := r2.sliceB
  obtain ⟨a3, cap3, rfl, _⟩ := RdV.sliced r3
  obtain ⟨kd, nd, ii, ⟨ok, ⟨op_, oq, od⟩, nm, ⟨tp, tq, td⟩, asn, ov⟩, kp, tn⟩ := a
  unfold szAc at hl
  dsimp only at r1 r2 r3 hl ⊢
  have HC1 : Hid (∀ W, Below w.heap.size w W → _) := fun W hW => toOp_b _ _ ⟨ok, (op_, oq, od), nm, (tp, tq, td), asn, ov⟩ S W (r1.step hW) (r2.step hW) (by dsimp only; omega) (by dsimp only; omega)
  have HC2 : Hid (∀ W, Below w.heap.size w W → _) := fun W hW => toBoolS_d _ kp S W (r3.step hW) (by omega)
  clear r1 r2 r3 hl
  try dsimp only at HC1 HC2 ⊢
  generalize nm.length = n1 at HC1 ⊢
  generalize asn.length = n2 at HC1 ⊢
  generalize kp.length = n3 at HC2 ⊢
  go_enter Try.func10, Try.ntmps10
  repeat (first | ((with_reducible refine guardLoad (ty := 32) ?_); refine wpList_loadF (vs := [.int .i64 ok, .int .i64 op_, .int .i64 oq, .bool od, .slice a1 n1 cap1, .int .i64 tp, .int .i64 tq, .bool td, .slice a2 n2 cap2, .int .i64 ov]) (((VarA.new w _ _).alloc _).alloc _) rfl Try.underlying32 rfl (by kernel_rfl) rfl ?_) | go_values | go_skip | go_guarded | go_step)
  refine Calls.mono (HC1.out _ ((((Below.refl _ _).alloc (Nat.le_refl _) _).alloc (by simp) _).alloc (by simp; omega) _)) ?_
  rintro e w2 ⟨ua, un, uc, ya, yn, yc, M, rfl, o1, o2, hM1, hM2, b_⟩
  have hs2 := b_.size
  simp at hs2
  simp at hM1
  have vA : VarA w2 w.heap.size 35 #[.int .i64 kd, .int .i64 nd, .int .i64 ii, .int .i64 ok, .int .i64 op_, .int .i64 oq, .bool od, .slice a1 n1 cap1, .int .i64 tp, .int .i64 tq, .bool td, .slice a2 n2 cap2, .int .i64 ov, .slice a3 n3 cap3, .int .i64 tn] := VarA.step (((VarA.new w _ _).alloc _).alloc _) b_
  have vR : VarA w2 (w.heap.size + 1) 42 #[.int .i64 0, .int .i64 0, .int .i64 0, .int .i64 0, .int .i64 0, .int .i64 0, .bool false, .slice none 0 0, .int .i64 0, .int .i64 0, .bool false, .slice none 0 0, .int .i64 0, .slice none 0 0, .int .i64 0] := by
    have := VarA.step ((VarA.new (w.alloc _) _ _).alloc _) b_
    simpa using this
  have vO : VarA w2 (w.heap.size + 1 + 1) 42 #[.int .i64 kd, .int .i64 nd, .int .i64 ii, .int .i64 0, .int .i64 0, .int .i64 0, .bool false, .slice none 0 0, .int .i64 0, .int .i64 0, .bool false, .slice none 0 0, .int .i64 0, .slice none 0 0, .int .i64 0] := by
    have := VarA.step (VarA.new ((w.alloc _).alloc _) _ _) b_
    simpa using this
  have HB : Hid (Below w.heap.size w w2) := ((((Below.refl _ _).alloc (Nat.le_refl _) _).alloc (by simp) _).alloc (by simp; omega) _).trans (b_.mono (by simp; omega))
  have hz : w.heap.size + 3 ≤ w2.heap.size := by omega
  have HO0 : Hid (OwV w2 (fun b => w.heap.size + 3 ≤ b ∧ b < M) (.slice ua un uc) (.bytes nm)) := o1.mono (fun b h => by simpa [Nat.add_assoc] using h)
  have HO1 : Hid (OwV w2 (fun b => M ≤ b ∧ b < w2.heap.size) (.slice ya yn yc) (.bytes asn)) := o2.mono (fun b h => by simpa [Nat.add_assoc] using h)
  clear hs2 b_ o1 o2
  have HT : Hid (Turned (fun b => w.heap.size ≤ b ∧ b < w.heap.size + 3) w2 w2) := Turned.refl _ _
  dsimp only
  repeat (first | ((with_reducible refine guardStore (ty := 40) ?_); refine wpList_storeF vO rfl rfl (by kernel_rfl) rfl (of_decide_eq_true rfl) rfl ?_; intro w' vO_ t_; have vA_ := vA.turn t_ (by omega); have vR_ := vR.turn t_ (by omega); have HT_ : Hid _ := HT.out.trans (t_.one (S := fun b => w.heap.size ≤ b ∧ b < w.heap.size + 3) (by omega)); have hz_ := Nat.le_trans hz t_.size; clear vA vR vO HT hz t_; have vA := vA_; have vR := vR_; have vO := vO_; have HT := HT_; have hz := hz_; clear vA_ vR_ vO_ HT_ hz_; have a13_ := vA.c 13 rfl) | fail | go_values | go_skip | go_guarded | go_step)
  refine Calls.mono (HC2.out _ (Turned.below HB.out (HT.out) HB.out.size (fun i hi => hi.1))) ?_
  rintro e w3 ⟨za, zn, zc, rfl, o_, b_⟩
  have vA_ := (vA).step b_
  have vR_ := (vR).step b_
  have vO_ : VarA w3 (w.heap.size + 1 + 1) 42 #[.int .i64 kd, .int .i64 nd, .int .i64 ii, .int .i64 ok, .int .i64 op_, .int .i64 oq, .bool od, .slice ua un uc, .int .i64 tp, .int .i64 tq, .bool td, .slice ya yn yc, .int .i64 ov, .slice none 0 0, .int .i64 0] := (vO).step b_
  have t_ : Turned (fun b => w.heap.size ≤ b ∧ b < w.heap.size + 3) w2 w3 := (HT.out).andThen b_
  have HB_ : Hid (Below w.heap.size w w3) := Turned.below HB.out t_ HB.out.size (fun i hi => hi.1)
  have zs_ := t_.size
  have HO0_ : Hid (OwV w3 (fun b => _ ∧ b < _) (.slice ua un uc) (.bytes nm)) := HO0.out.keep (t_.keeps (fun b hb hs => by omega))
  have HO1_ : Hid (OwV w3 (fun b => _ ∧ b < _) (.slice ya yn yc) (.bytes asn)) := HO1.out.keep (t_.keeps (fun b hb hs => by omega))
  have HO2 : Hid (OwV w3 (fun b => w2.heap.size ≤ b ∧ b < w3.heap.size) (.slice za zn zc) (flsDt kp)) := o_.mono (fun b h => ⟨by have := HT.out.size; first | omega | (simp at h; omega), by omega⟩)
  have hz_ := Nat.le_trans hz (Nat.le_trans (Nat.le_of_eq (by simp)) b_.size)
  clear vA vR vO HT HB b_ t_ hz o_ HO0 HO1
  have vA := vA_
  have vR := vR_
  have vO := vO_
  have HB := HB_
  have hz := hz_
  have HO0 := HO0_
  have HO1 := HO1_
  clear vA_ vR_ vO_ HB_ hz_ HO0_ HO1_
  have HT : Hid (Turned (fun b => w.heap.size ≤ b ∧ b < w.heap.size + 3) w3 w3) := Turned.refl _ _
  dsimp only
  have a13_ := vA.c 13 rfl
  have o13_ := vO.c 13 rfl
  have a14_ := vA.c 14 rfl
  have o14_ := vO.c 14 rfl
  have fo_ := vO.fz
  repeat (first | fail | ((with_reducible refine guardLoad (ty := 42) ?_); refine wpList_loadA (show VarA _ (w.heap.size + 1 + 1) 42 #[.int .i64 kd, .int .i64 nd, .int .i64 ii, .int .i64 ok, .int .i64 op_, .int .i64 oq, .bool od, .slice ua un uc, .int .i64 tp, .int .i64 tq, .bool td, .slice ya yn yc, .int .i64 ov, .slice za zn zc, .int .i64 tn] from (vO |>.set 13 _ |>.set 14 _)) rfl Try.underlying42 rfl (by kernel_rfl) ?_) | ((with_reducible refine guardStore (ty := 42) ?_); refine wpList_storeF (vR |>.aside (p := ⟨w.heap.size + 1 + 1, 13, none⟩) (by dsimp only; omega) _ |>.aside (p := ⟨w.heap.size + 1 + 1, 14, none⟩) (by dsimp only; omega) _) rfl rfl (by kernel_rfl) rfl (of_decide_eq_true rfl) rfl ?_; intro w' vR_ t_; have HT_ : Hid _ := (HT.out |>.set _ _ (by simp <;> omega) |>.set _ _ (by simp <;> omega)).trans (t_.one (S := fun b => w.heap.size ≤ b ∧ b < w.heap.size + 3) (by omega)); clear vR HT t_; have vR := vR_; have HT := HT_; clear vR_ HT_) | go_values | go_skip | go_guarded | go_step)
  refine bodyPost_ret (results_cell_row Try.results10 _ _ _ _ _ _ _ rfl vR Try.underlying42 rfl (by kernel_rfl)) rfl ?_
  exact ⟨_, _, _, _, _, _, _, _, _, rfl, RdA.close HB.out HT.out HO0.out HO1.out HO2.out (by omega) (by omega) (by omega)⟩

end Go.Proofs.Ythpcmgbienfgoaa
