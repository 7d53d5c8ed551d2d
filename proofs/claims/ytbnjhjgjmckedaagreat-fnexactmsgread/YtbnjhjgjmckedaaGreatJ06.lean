/- Joined: RdS. -/
import Derived.Test.YtbnjhjgjmckedaaGreatJ04
import Derived.Test.YtbnjhjgjmckedaaGreatJ05

section
/- The specification reads transactions' numbers, operations, parts. Condition: at most 2,000,000 bytes. -/
namespace Go.Proofs.YtbnjhjgjmckedaaGreat
open Go.RowKit
set_option linter.unusedVariables false
set_option linter.unusedSimpArgs false
set_option maxRecDepth 100000

set_option maxHeartbeats 4000000 in
theorem specHandC (pb : Nat) (zs : List Int) (v : Value) (p : Int) (w : World) (h : CurV 77 pb zs v p w) (hl : zs.length ≤ 2000000) :
    Calls Tryz.prog 51 #[.pointer (some ⟨pb, 0, none⟩)] w fun e w' => e = .returned (Hd.v (rdHd zs p).1) ∧ Gone 77 pb zs v (rdHd zs p).2 w w' := by
  have hz := RdV.zs h.2.1
  have hpl := h.lt
  obtain ⟨n0, q0, e0⟩ : ∃ x q, getNum zs p = (x, q) := ⟨_, _, rfl⟩
  have H0 : Hid (∀ W, CurV 77 pb zs v p W → _) := fun W hW => by have h_ := specNumC pb zs v p W hW hl; rw [e0] at h_; exact h_
  obtain ⟨n1, q1, e1⟩ : ∃ x q, getNum zs q0 = (x, q) := ⟨_, _, rfl⟩
  have H1 : Hid (∀ W, CurV 77 pb zs v q0 W → _) := fun W hW => by have h_ := specNumC pb zs v q0 W hW hl; rw [e1] at h_; exact h_
  obtain ⟨bf, qf, ef⟩ : ∃ x q, rdFlag zs q1 = (x, q) := ⟨_, _, rfl⟩
  have hR : rdHd zs p = ((n0, n1, bf), qf) := by simp [rdHd, e0, e1, ef]
  have EF : Hid _ := ef
  clear ef
  rw [hR]
  clear hR e0 e1
  have HC0 : Hid (CurV 77 pb zs v p w) := h
  clear h
  dsimp only
  go_enter Tryz.func51, Tryz.ntmps51
  go_wp2_with fail
  refine Calls.mono (H0.out _ (HC0.out.alloc _)) ?_
  rintro e w1 ⟨rfl, hc_, t_⟩
  have HT : Hid (Turned (fun b => b = pb) w w1) := (Turned.ofBelow (Below.new1 (w := w) _)).trans t_
  have vR : VarA w1 w.heap.size 24 #[.int .i64 0, .int .i64 0, .bool false] := VarA.turn (VarA.new w _ _) t_ (by omega)
  have hx0 := t_.size
  simp at hx0
  have HC1 : Hid (CurV 77 pb zs v q0 w1) := hc_
  clear hc_ t_ H0 HC0
  dsimp only
  repeat (first | ((with_reducible refine guardStore (ty := 24) ?_); refine wpList_storeF (VarA.new w1 _ _) rfl rfl (by kernel_rfl) rfl (of_decide_eq_true rfl) rfl ?_; intro w1' vO t_) | go_values | go_skip | go_guarded | go_step | go_upon)
  have vO_ : VarA w1' w1.heap.size 24 #[.int .i64 n0, .int .i64 0, .bool false] := vO
  clear vO
  have t1 : Turned (fun b => b = w1.heap.size) w1 w1' := (Turned.ofBelow (Below.new1 (w := w1) _)).trans t_
  clear t_
  have HC1' : Hid (CurV 77 pb zs v q0 w1') := HC1.out.keep t1 (fun b hb => by omega)
  have vR1 := vR.turn t1 (by omega)
  have HT1 : Hid (Turned (fun b => b = pb) w w1') := HT.out.then t1 (fun i hi hs => by omega)
  have hy1 := t1.size
  have hob := VarA.lt vO_
  clear t1 HC1 vR HT
  refine Calls.mono (H1.out _ HC1'.out) ?_
  rintro e w2 ⟨rfl, hc_, t_⟩
  have HT2 : Hid (Turned (fun b => b = pb) w w2) := HT1.out.trans t_
  have vR2 := vR1.turn t_ (by omega)
  have vO2 := vO_.turn t_ (by omega)
  have hx1 := t_.size
  have HC2 : Hid (CurV 77 pb zs v q1 w2) := hc_
  clear hc_ t_ H1 HC1' HT1 vR1 vO_
  dsimp only
  repeat (first | ((with_reducible refine guardStore (ty := 3) ?_); refine wpList_storeG vO2 rfl rfl rfl (by kernel_rfl) rfl (of_decide_eq_true rfl) rfl ?_; intro w3 vO_ t_) | go_values | go_skip | go_guarded | go_step | go_upon)
  have vO : VarA w3 w1.heap.size 24 #[.int .i64 n0, .int .i64 n1, .bool false] := vO_
  have t1 : Turned (fun b => b = w1.heap.size) w2 w3 := t_
  have HC3 : Hid (CurV 77 pb zs v q1 w3) := HC2.out.keep t1 (fun b hb => by omega)
  have vR := vR2.turn t1 (by omega)
  have HT3 : Hid (Turned (fun b => b = pb) w w3) := HT2.out.then t1 (fun i hi hs => by omega)
  have hx2 := t1.size
  clear vO_ t_ t1 HC2 HT2 vR2 vO2
  have hrg := HC3.out.2.2
  obtain ⟨c0, c1⟩ := VarA.l2 HC3.out.1
  have hfz := VarA.fz HC3.out.1
  have hlt_ := HC3.out.lt
  obtain ⟨_, ra, rlen, rcap, hv_, hlen, hhd, hrd⟩ := RdV.b HC3.out.2.1
  subst hv_
  subst hlen
  haveI : Nonempty (Cls w3) := Cls.ne w3
  have k0_ := Cls.cell hlt_ c0
  have k1_ := Cls.cell hlt_ c1
  simp only [Act.put]
  by_cases hno : q1 < 0 ∨ (zs.length : Int) ≤ q1 ∨ 1 < zs[q1.toNat]?.getD 0
  case pos =>
    obtain ⟨rfl, rfl⟩ : bf = false ∧ qf = -1 := by
      have hF : rdFlag zs q1 = (false, -1) := by unfold rdFlag; exact if_pos hno
      have h_ := hF.symm.trans EF.out
      simp only [Prod.mk.injEq] at h_
      exact ⟨h_.1.symm, h_.2.symm⟩
    clear EF
    rcases (show q1 < 0 ∨ (0 ≤ q1 ∧ (zs.length : Int) ≤ q1) ∨ (0 ≤ q1 ∧ q1 < zs.length ∧ 1 < zs[q1.toNat]?.getD 0) by omega) with h1 | ⟨h1, h2⟩ | ⟨h1, h2, h3⟩
    · have d1 : decide (q1 < 0) = true := by simpa using h1
      refine wp_region_cls (by kernel_rfl) (by kernel_rfl) ?_
      repeat (go_big_quiet_step (fail))
      refine wpQuiet_nil ?_
      rintro w' ⟨⟨w', b_⟩, rfl⟩
      have HCz : Hid (CurV 77 pb zs _ _ w') := HC3.out.step b_
      obtain ⟨c0, c1⟩ := VarA.l2 HCz.out.1
      have hfz := VarA.fz HCz.out.1
      have HC9 : Hid (CurV 77 pb zs _ (-1) (w'.setCell ⟨pb, 1, none⟩ (.int .i64 (-1)))) := CurV.put HCz.out (-1) (by omega) (by omega)
      have HT9 : Hid (Turned (fun b => b = pb) w (w'.setCell ⟨pb, 1, none⟩ (.int .i64 (-1)))) := (HT3.out.andThen b_).set _ _ rfl
      have vO9 := (vO.step b_).aside (p := ⟨pb, 1, none⟩) (by dsimp only; omega) (.int .i64 (-1))
      have vR9 := (vR.step b_).aside (p := ⟨pb, 1, none⟩) (by dsimp only; omega) (.int .i64 (-1))
      have hs9 : w3.heap.size ≤ w'.heap.size := b_.size
      clear vO vR HC3 HT3 b_ HCz
      repeat (first | ((with_reducible refine guardLoad (ty := 24) ?_); refine wpList_loadA vO9 rfl Tryz.underlying24 rfl (by kernel_rfl) ?_) | ((with_reducible refine guardStore (ty := 24) ?_); refine wpList_storeF vR9 rfl rfl (by kernel_rfl) rfl (of_decide_eq_true rfl) rfl ?_; intro wq vR_ t_) | go_values | go_skip | go_guarded | go_step | go_upon)
      refine bodyPost_ret (results_cell_row Tryz.results51 _ _ _ _ _ _ _ rfl vR_ Tryz.underlying24 rfl (by kernel_rfl)) rfl ⟨rfl, ?_, ?_⟩
      · exact HC9.out.keep t_ (fun b hb => by omega)
      · exact HT9.out.then t_ (fun i hi hs => by omega)
    · have d1 : decide (q1 < 0) = false := by simp; omega
      have d2 : decide ((zs.length : Int) ≤ q1) = true := by simpa using h2
      refine wp_region_cls (by kernel_rfl) (by kernel_rfl) ?_
      repeat (go_big_quiet_step (fail))
      refine wpQuiet_nil ?_
      rintro w' ⟨⟨w', b_⟩, rfl⟩
      have HCz : Hid (CurV 77 pb zs _ _ w') := HC3.out.step b_
      obtain ⟨c0, c1⟩ := VarA.l2 HCz.out.1
      have hfz := VarA.fz HCz.out.1
      have HC9 : Hid (CurV 77 pb zs _ (-1) (w'.setCell ⟨pb, 1, none⟩ (.int .i64 (-1)))) := CurV.put HCz.out (-1) (by omega) (by omega)
      have HT9 : Hid (Turned (fun b => b = pb) w (w'.setCell ⟨pb, 1, none⟩ (.int .i64 (-1)))) := (HT3.out.andThen b_).set _ _ rfl
      have vO9 := (vO.step b_).aside (p := ⟨pb, 1, none⟩) (by dsimp only; omega) (.int .i64 (-1))
      have vR9 := (vR.step b_).aside (p := ⟨pb, 1, none⟩) (by dsimp only; omega) (.int .i64 (-1))
      have hs9 : w3.heap.size ≤ w'.heap.size := b_.size
      clear vO vR HC3 HT3 b_ HCz
      repeat (first | ((with_reducible refine guardLoad (ty := 24) ?_); refine wpList_loadA vO9 rfl Tryz.underlying24 rfl (by kernel_rfl) ?_) | ((with_reducible refine guardStore (ty := 24) ?_); refine wpList_storeF vR9 rfl rfl (by kernel_rfl) rfl (of_decide_eq_true rfl) rfl ?_; intro wq vR_ t_) | go_values | go_skip | go_guarded | go_step | go_upon)
      refine bodyPost_ret (results_cell_row Tryz.results51 _ _ _ _ _ _ _ rfl vR_ Tryz.underlying24 rfl (by kernel_rfl)) rfl ⟨rfl, ?_, ?_⟩
      · exact HC9.out.keep t_ (fun b hb => by omega)
      · exact HT9.out.then t_ (fun i hi hs => by omega)
    · obtain ⟨Q, rfl⟩ : ∃ Q : Nat, q1 = (Q : Int) := ⟨q1.toNat, by omega⟩
      simp only [Int.toNat_natCast] at h3
      obtain h0 | ⟨b, off, rfl, hbp, hbl, hcl⟩ := hrd
      · subst h0; simp at h2; omega
      have hx := hcl Q (by omega)
      generalize zs[Q]?.getD 0 = x at hx h3
      have d1 : decide ((Q : Int) < 0) = false := by simp
      have d2 : decide ((zs.length : Int) ≤ (Q : Int)) = false := by simp; omega
      have d2' : decide (zs.length ≤ Q) = false := by simp; omega
      have d2n : ¬ zs.length ≤ Q := by omega
      have d3 : decide (1 < x) = true := by simpa using h3
      have k2_ := Cls.cell hbl hx
      have hQl : Q < zs.length := by omega
      clear hcl
      refine wp_region_cls (by kernel_rfl) (by kernel_rfl) ?_
      repeat (go_big_quiet_step (fail))
      refine wpQuiet_nil ?_
      rintro w' ⟨⟨w', b_⟩, rfl⟩
      have HCz : Hid (CurV 77 pb zs _ _ w') := HC3.out.step b_
      obtain ⟨c0, c1⟩ := VarA.l2 HCz.out.1
      have hfz := VarA.fz HCz.out.1
      have HC9 : Hid (CurV 77 pb zs _ (-1) (w'.setCell ⟨pb, 1, none⟩ (.int .i64 (-1)))) := CurV.put HCz.out (-1) (by omega) (by omega)
      have HT9 : Hid (Turned (fun b => b = pb) w (w'.setCell ⟨pb, 1, none⟩ (.int .i64 (-1)))) := (HT3.out.andThen b_).set _ _ rfl
      have vO9 := (vO.step b_).aside (p := ⟨pb, 1, none⟩) (by dsimp only; omega) (.int .i64 (-1))
      have vR9 := (vR.step b_).aside (p := ⟨pb, 1, none⟩) (by dsimp only; omega) (.int .i64 (-1))
      have hs9 : w3.heap.size ≤ w'.heap.size := b_.size
      clear vO vR HC3 HT3 b_ HCz
      repeat (first | ((with_reducible refine guardLoad (ty := 24) ?_); refine wpList_loadA vO9 rfl Tryz.underlying24 rfl (by kernel_rfl) ?_) | ((with_reducible refine guardStore (ty := 24) ?_); refine wpList_storeF vR9 rfl rfl (by kernel_rfl) rfl (of_decide_eq_true rfl) rfl ?_; intro wq vR_ t_) | go_values | go_skip | go_guarded | go_step | go_upon)
      refine bodyPost_ret (results_cell_row Tryz.results51 _ _ _ _ _ _ _ rfl vR_ Tryz.underlying24 rfl (by kernel_rfl)) rfl ⟨rfl, ?_, ?_⟩
      · exact HC9.out.keep t_ (fun b hb => by omega)
      · exact HT9.out.then t_ (fun i hi hs => by omega)
  · have h1 : 0 ≤ q1 := by omega
    have h2 : q1 < zs.length := by omega
    have h3 : ¬ 1 < zs[q1.toNat]?.getD 0 := by omega
    have hxn : 0 ≤ zs[q1.toNat]?.getD 0 := (hz q1.toNat).1
    obtain ⟨Q, rfl⟩ : ∃ Q : Nat, q1 = (Q : Int) := ⟨q1.toNat, by omega⟩
    have hF : rdFlag zs (Q : Int) = (zs[Q]?.getD 0 == 1, (Q : Int) + 1) := by unfold rdFlag; rw [if_neg hno]; simp
    have h_ := hF.symm.trans EF.out
    simp only [Prod.mk.injEq] at h_
    obtain ⟨hb1, rfl⟩ := h_
    simp only [Int.toNat_natCast] at h3 hxn
    obtain h0 | ⟨b, off, rfl, hbp, hbl, hcl⟩ := hrd
    · subst h0; simp at h2; omega
    have hx := hcl Q (by omega)
    generalize zs[Q]?.getD 0 = x at hx h3 hxn hb1
    have d1 : decide ((Q : Int) < 0) = false := by simp
    have d2 : decide ((zs.length : Int) ≤ (Q : Int)) = false := by simp; omega
    have d2' : decide (zs.length ≤ Q) = false := by simp; omega
    have d2n : ¬ zs.length ≤ Q := by omega
    have d3 : decide (1 < x) = false := by simpa using h3
    have k2_ := Cls.cell hbl hx
    have hQl : Q < zs.length := by omega
    clear hcl EF hF hno
    refine wp_region_cls (by kernel_rfl) (by kernel_rfl) ?_
    repeat (go_big_quiet_step (fail))
    refine wpQuiet_nil ?_
    rintro w' ⟨⟨w', b_⟩, rfl⟩
    have HCz : Hid (CurV 77 pb zs _ _ w') := HC3.out.step b_
    have hbl9 : b < w'.heap.size := Nat.lt_of_lt_of_le hbl b_.size
    have hx9 : w'.cell? ⟨b, off + Q, none⟩ = some (.int .u8 x) := (b_.cell (p := ⟨b, off + Q, none⟩) hbl).trans hx
    clear c0 c1 hfz hx k0_ k1_ k2_ this
    obtain ⟨c0, c1⟩ := VarA.l2 HCz.out.1
    have hfz := VarA.fz HCz.out.1
    have vO9 := vO.step b_
    have vR9 := vR.step b_
    obtain ⟨o0, o1, o2⟩ := VarA.l3 vO9
    have fo := VarA.fz vO9
    have HT9 : Hid (Turned (fun b => b = pb) w w') := HT3.out.andThen b_
    have hs9 : w3.heap.size ≤ w'.heap.size := b_.size
    have hne : pb ≠ w1.heap.size := by omega
    have hne' : w1.heap.size ≠ pb := by omega
    have hne2 : b ≠ w1.heap.size := by omega
    have hne3 : w1.heap.size ≠ b := by omega
    clear vO vR HC3 HT3 b_
    have vO10 : VarA ((w'.setCell ⟨w1.heap.size, 2, none⟩ (.bool bf)).drew.setCell ⟨pb, 1, none⟩ (.int .i64 ((Q : Int) + 1))) w1.heap.size 24 #[.int .i64 n0, .int .i64 n1, .bool bf] := (VarA.dr (VarA.set vO9 2 (.bool bf))).aside (p := ⟨pb, 1, none⟩) (by dsimp only; omega) _
    have vR10 : VarA ((w'.setCell ⟨w1.heap.size, 2, none⟩ (.bool bf)).drew.setCell ⟨pb, 1, none⟩ (.int .i64 ((Q : Int) + 1))) w.heap.size 24 #[.int .i64 0, .int .i64 0, .bool false] := (VarA.dr (VarA.aside vR9 (p := ⟨w1.heap.size, 2, none⟩) (by dsimp only; omega) _)).aside (p := ⟨pb, 1, none⟩) (by dsimp only; omega) _
    have HC10 : Hid (CurV 77 pb zs _ ((Q : Int) + 1) ((w'.setCell ⟨w1.heap.size, 2, none⟩ (.bool bf)).drew.setCell ⟨pb, 1, none⟩ (.int .i64 ((Q : Int) + 1)))) := CurV.put (CurV.dr (CurV.keep HCz.out ((Turned.refl (fun b => b = w1.heap.size) _).set ⟨w1.heap.size, 2, none⟩ (.bool bf) rfl) (fun b hb => by omega))) _ (by omega) (by omega)
    have HT10 : Hid (Turned (fun b => b = pb) w ((w'.setCell ⟨w1.heap.size, 2, none⟩ (.bool bf)).drew.setCell ⟨pb, 1, none⟩ (.int .i64 ((Q : Int) + 1)))) := ((HT9.out.then ((Turned.refl (fun b => b = w1.heap.size) _).set ⟨w1.heap.size, 2, none⟩ (.bool bf) rfl) (fun i hi hs => by omega)).trans (Turned.drew1 _ _)).set _ _ rfl
    have hx1 : (x == 1) = bf := hb1
    have hw : (Q : Int) + 1 ≤ 9223372036854775807 := by omega
    clear HCz HT9 vR9
    go_wp2_with fail
    go_region_held3 (fun w' => w'.cell? ⟨pb, 0, none⟩ = some (.slice (some ⟨b, off, none⟩) zs.length rcap) ∧ w'.cell? ⟨pb, 1, none⟩ = some (.int .i64 (Q : Int)) ∧ w'.cell? ⟨b, off + Q, none⟩ = some (.int .u8 x)) (first | go_keep | (refine ⟨?_, ?_, ?_⟩ <;> assumption)) (first | fail)
    all_goals
      repeat (first | ((with_reducible refine guardLoad (ty := 24) ?_); refine wpList_loadA vO10 rfl Tryz.underlying24 rfl (by kernel_rfl) ?_) | ((with_reducible refine guardStore (ty := 24) ?_); refine wpList_storeF vR10 rfl rfl (by kernel_rfl) rfl (of_decide_eq_true rfl) rfl ?_; intro wq vR_ t_) | go_values | go_skip | go_guarded | go_step | go_upon)
      refine bodyPost_ret (results_cell_row Tryz.results51 _ _ _ _ _ _ _ rfl vR_ Tryz.underlying24 rfl (by kernel_rfl)) rfl ⟨rfl, ?_, ?_⟩
      · exact HC10.out.keep t_ (fun b hb => by omega)
      · exact HT10.out.then t_ (fun i hi hs => by omega)
set_option maxHeartbeats 4000000 in
theorem specTxC (pb : Nat) (zs : List Int) (v : Value) (p : Int) (w : World) (h : CurV 77 pb zs v p w) (hl : zs.length ≤ 2000000) :
    Calls Tryz.prog 49 #[.pointer (some ⟨pb, 0, none⟩)] w fun e w' => e = .returned (txV (rdTx zs p).1) ∧ Gone 77 pb zs v (rdTx zs p).2 w w' := by
  have hz := RdV.zs h.2.1
  have hpl := h.lt
  obtain ⟨n0, q0, e0⟩ : ∃ x q, getNum zs p = (x, q) := ⟨_, _, rfl⟩
  have H0 : Hid (∀ W, CurV 77 pb zs v p W → _) := fun W hW => by have h_ := specNumC pb zs v p W hW hl; rw [e0] at h_; exact h_
  obtain ⟨n1, q1, e1⟩ : ∃ x q, getNum zs q0 = (x, q) := ⟨_, _, rfl⟩
  have H1 : Hid (∀ W, CurV 77 pb zs v q0 W → _) := fun W hW => by have h_ := specNumC pb zs v q0 W hW hl; rw [e1] at h_; exact h_
  obtain ⟨n2, q2, e2⟩ : ∃ x q, getNum zs q1 = (x, q) := ⟨_, _, rfl⟩
  have H2 : Hid (∀ W, CurV 77 pb zs v q1 W → _) := fun W hW => by have h_ := specNumC pb zs v q1 W hW hl; rw [e2] at h_; exact h_
  have hR : rdTx zs p = ((n0, n1, n2), q2) := by simp [rdTx, e0, e1, e2]
  rw [hR]
  clear hR e0 e1 e2
  have HC0 : Hid (CurV 77 pb zs v p w) := h
  clear h
  dsimp only
  go_enter Tryz.func49, Tryz.ntmps49
  go_wp2_with fail
  refine Calls.mono (H0.out _ (HC0.out.alloc _)) ?_
  rintro e w1 ⟨rfl, hc_, t_⟩
  have HT : Hid (Turned (fun b => b = pb) w w1) := (Turned.ofBelow (Below.new1 (w := w) _)).trans t_
  have vR : VarA w1 w.heap.size 31 #[.int .i64 0, .int .i64 0, .int .i64 0] := VarA.turn (VarA.new w _ _) t_ (by omega)
  have hx0 := t_.size
  simp at hx0
  have HC1 : Hid (CurV 77 pb zs v q0 w1) := hc_
  clear hc_ t_ H0 HC0
  dsimp only
  repeat (first | ((with_reducible refine guardStore (ty := 31) ?_); refine wpList_storeF (VarA.new w1 _ _) rfl rfl (by kernel_rfl) rfl (of_decide_eq_true rfl) rfl ?_; intro w1' vO t_) | go_values | go_skip | go_guarded | go_step | go_upon)
  have vO_ : VarA w1' w1.heap.size 31 #[.int .i64 n0, .int .i64 0, .int .i64 0] := vO
  clear vO
  have t1 : Turned (fun b => b = w1.heap.size) w1 w1' := (Turned.ofBelow (Below.new1 (w := w1) _)).trans t_
  clear t_
  have vO := vO_
  clear vO_
  have HC1' : Hid (CurV 77 pb zs v q0 w1') := HC1.out.keep t1 (fun b hb => by omega)
  have vR_ := vR.turn t1 (by omega)
  clear vR
  have vR := vR_
  clear vR_
  have HT_ : Hid (Turned (fun b => b = pb) w w1') := HT.out.then t1 (fun i hi hs => by omega)
  clear HT
  have HT := HT_
  clear HT_
  have hy1 := t1.size
  have hob := VarA.lt vO
  clear t1 HC1
  have HC1 := HC1'
  clear HC1'
  refine Calls.mono (H1.out _ HC1.out) ?_
  rintro e w2 ⟨rfl, hc_, t_⟩
  have HT_ : Hid (Turned (fun b => b = pb) w w2) := HT.out.trans t_
  clear HT
  have HT := HT_
  clear HT_
  have vR_ := vR.turn t_ (by omega)
  clear vR
  have vR := vR_
  clear vR_
  have hx1 := t_.size
  have vO_ := vO.turn t_ (by omega)
  clear vO
  have vO := vO_
  clear vO_
  have HC2 : Hid (CurV 77 pb zs v q1 w2) := hc_
  clear hc_ t_ H1 HC1
  dsimp only
  repeat (first | ((with_reducible refine guardStore (ty := 3) ?_); refine wpList_storeG vO rfl rfl rfl (by kernel_rfl) rfl (of_decide_eq_true rfl) rfl ?_; intro w2' vO_ t_) | go_values | go_skip | go_guarded | go_step | go_upon)
  have vO1 : VarA w2' w1.heap.size 31 #[.int .i64 n0, .int .i64 n1, .int .i64 0] := vO_
  clear vO_ vO
  have vO_ := vO1
  clear vO1
  have t1 : Turned (fun b => b = w1.heap.size) w2 w2' := t_
  clear t_
  have vO := vO_
  clear vO_
  have HC2' : Hid (CurV 77 pb zs v q1 w2') := HC2.out.keep t1 (fun b hb => by omega)
  have vR_ := vR.turn t1 (by omega)
  clear vR
  have vR := vR_
  clear vR_
  have HT_ : Hid (Turned (fun b => b = pb) w w2') := HT.out.then t1 (fun i hi hs => by omega)
  clear HT
  have HT := HT_
  clear HT_
  have hy2 := t1.size
  clear t1 HC2
  have HC2 := HC2'
  clear HC2'
  refine Calls.mono (H2.out _ HC2.out) ?_
  rintro e w3 ⟨rfl, hc_, t_⟩
  have HT_ : Hid (Turned (fun b => b = pb) w w3) := HT.out.trans t_
  clear HT
  have HT := HT_
  clear HT_
  have vR_ := vR.turn t_ (by omega)
  clear vR
  have vR := vR_
  clear vR_
  have hx2 := t_.size
  have vO_ := vO.turn t_ (by omega)
  clear vO
  have vO := vO_
  clear vO_
  have HC3 : Hid (CurV 77 pb zs v q2 w3) := hc_
  clear hc_ t_ H2 HC2
  dsimp only
  repeat (first | ((with_reducible refine guardStore (ty := 3) ?_); refine wpList_storeG vO rfl rfl rfl (by kernel_rfl) rfl (of_decide_eq_true rfl) rfl ?_; intro wz vO_ tz; have vRz := vR.turn tz (by omega); have vOz : VarA wz w1.heap.size 31 #[.int .i64 n0, .int .i64 n1, .int .i64 n2] := vO_) | ((with_reducible refine guardLoad (ty := 31) ?_); refine wpList_loadA vOz rfl Tryz.underlying31 rfl (by kernel_rfl) ?_) | ((with_reducible refine guardStore (ty := 31) ?_); refine wpList_storeF vRz rfl rfl (by kernel_rfl) rfl (of_decide_eq_true rfl) rfl ?_; intro w' vR_ t_) | go_values | go_skip | go_guarded | go_step | go_upon)
  have t1 : Turned (fun b => b = w.heap.size ∨ b = w1.heap.size) w3 w' := (tz.one (S := fun b => b = w.heap.size ∨ b = w1.heap.size) (.inr rfl)).trans (t_.one (S := fun b => b = w.heap.size ∨ b = w1.heap.size) (.inl rfl))
  have hC : CurV 77 pb zs v q2 w' := HC3.out.keep t1 (fun b hb => by omega)
  have hT : Turned (fun b => b = pb) w w' := HT.out.then t1 (fun i hi hs => by omega)
  have hsz := t1.size
  refine bodyPost_ret (results_cell_row Tryz.results49 _ _ _ _ _ _ _ rfl vR_ Tryz.underlying31 rfl (by kernel_rfl)) rfl ?_
  exact ⟨rfl, hC, hT⟩
set_option maxHeartbeats 4000000 in
theorem specOpC (pb : Nat) (zs : List Int) (v : Value) (p : Int) (w : World) (h : CurV 77 pb zs v p w) (hl : zs.length ≤ 2000000) :
    Calls Tryz.prog 47 #[.pointer (some ⟨pb, 0, none⟩)] w fun e w' => ∃ a n c a2 n2 c2 M, e = .returned (opV (rdOp zs p).1 (.slice a n c) (.slice a2 n2 c2)) ∧ OwV w' (fun b => w.heap.size ≤ b ∧ b < M) (.slice a n c) (.bytes (rdOp zs p).1.nm) ∧ OwV w' (fun b => M ≤ b ∧ b < w'.heap.size) (.slice a2 n2 c2) (.bytes (rdOp zs p).1.asn) ∧ w.heap.size ≤ M ∧ M ≤ w'.heap.size ∧ Gone 77 pb zs v (rdOp zs p).2 w w' := by
  have hz := RdV.zs h.2.1
  have hpl := h.lt
  obtain ⟨n0, q0, e0⟩ : ∃ x q, getNum zs p = (x, q) := ⟨_, _, rfl⟩
  have H0 : Hid (∀ W, CurV 77 pb zs v p W → _) := fun W hW => by have h_ := specNumC pb zs v p W hW hl; rw [e0] at h_; exact h_
  obtain ⟨⟨hs1, hi1, hd1⟩, q1, e1⟩ : ∃ x q, rdHd zs q0 = (x, q) := ⟨_, _, rfl⟩
  have H1 : Hid (∀ W, CurV 77 pb zs v q0 W → _) := fun W hW => by have h_ := specHandC pb zs v q0 W hW hl; rw [e1] at h_; exact h_
  obtain ⟨ts2, q2, e2⟩ : ∃ x q, getText zs q1 = (x, q) := ⟨_, _, rfl⟩
  have H2 : Hid (∀ W, CurV 77 pb zs v q1 W → _) := fun W hW => by have h_ := specTextC pb zs v q1 W hW hl; rw [e2] at h_; exact h_
  obtain ⟨⟨hs3, hi3, hd3⟩, q3, e3⟩ : ∃ x q, rdHd zs q2 = (x, q) := ⟨_, _, rfl⟩
  have H3 : Hid (∀ W, CurV 77 pb zs v q2 W → _) := fun W hW => by have h_ := specHandC pb zs v q2 W hW hl; rw [e3] at h_; exact h_
  obtain ⟨ts4, q4, e4⟩ : ∃ x q, getText zs q3 = (x, q) := ⟨_, _, rfl⟩
  have H4 : Hid (∀ W, CurV 77 pb zs v q3 W → _) := fun W hW => by have h_ := specTextC pb zs v q3 W hW hl; rw [e4] at h_; exact h_
  obtain ⟨n5, q5, e5⟩ : ∃ x q, getNum zs q4 = (x, q) := ⟨_, _, rfl⟩
  have H5 : Hid (∀ W, CurV 77 pb zs v q4 W → _) := fun W hW => by have h_ := specNumC pb zs v q4 W hW hl; rw [e5] at h_; exact h_
  have hR : rdOp zs p = (⟨n0, (hs1, hi1, hd1), ts2, (hs3, hi3, hd3), ts4, n5⟩, q5) := by simp [rdOp, e0, e1, e2, e3, e4, e5]
  rw [hR]
  clear hR e0 e1 e2 e3 e4 e5
  have HC0 : Hid (CurV 77 pb zs v p w) := h
  clear h
  dsimp only
  go_enter Tryz.func47, Tryz.ntmps47
  go_wp2_with fail
  refine Calls.mono (H0.out _ (HC0.out.alloc _)) ?_
  rintro e w1 ⟨rfl, hc_, t_⟩
  have HT : Hid (Turned (fun b => b = pb) w w1) := (Turned.ofBelow (Below.new1 (w := w) _)).trans t_
  have vR : VarA w1 w.heap.size 26 #[.int .i64 0, .int .i64 0, .int .i64 0, .bool false, .slice none 0 0, .int .i64 0, .int .i64 0, .bool false, .slice none 0 0, .int .i64 0] := VarA.turn (VarA.new w _ _) t_ (by omega)
  have hx0 := t_.size
  simp at hx0
  have HC1 : Hid (CurV 77 pb zs v q0 w1) := hc_
  clear hc_ t_ H0 HC0
  dsimp only
  repeat (first | ((with_reducible refine guardStore (ty := 26) ?_); refine wpList_storeF (VarA.new w1 _ _) rfl rfl (by kernel_rfl) rfl (of_decide_eq_true rfl) rfl ?_; intro w1' vO t_) | go_values | go_skip | go_guarded | go_step | go_upon)
  have vO_ : VarA w1' w1.heap.size 26 #[.int .i64 n0, .int .i64 0, .int .i64 0, .bool false, .slice none 0 0, .int .i64 0, .int .i64 0, .bool false, .slice none 0 0, .int .i64 0] := vO
  clear vO
  have t1 : Turned (fun b => b = w1.heap.size) w1 w1' := (Turned.ofBelow (Below.new1 (w := w1) _)).trans t_
  clear t_
  have vO := vO_
  clear vO_
  have HC1' : Hid (CurV 77 pb zs v q0 w1') := HC1.out.keep t1 (fun b hb => by omega)
  have vR_ := vR.turn t1 (by omega)
  clear vR
  have vR := vR_
  clear vR_
  have HT_ : Hid (Turned (fun b => b = pb) w w1') := HT.out.then t1 (fun i hi hs => by omega)
  clear HT
  have HT := HT_
  clear HT_
  have hy1 := t1.size
  have hob := VarA.lt vO
  clear t1 HC1
  have HC1 := HC1'
  clear HC1'
  refine Calls.mono (H1.out _ HC1.out) ?_
  rintro e w2 ⟨rfl, hc_, t_⟩
  have HT_ : Hid (Turned (fun b => b = pb) w w2) := HT.out.trans t_
  clear HT
  have HT := HT_
  clear HT_
  have vR_ := vR.turn t_ (by omega)
  clear vR
  have vR := vR_
  clear vR_
  have hx1 := t_.size
  have vO_ := vO.turn t_ (by omega)
  clear vO
  have vO := vO_
  clear vO_
  have HC2 : Hid (CurV 77 pb zs v q1 w2) := hc_
  clear hc_ t_ H1 HC1
  dsimp only
  repeat (first | ((with_reducible refine guardStore (ty := 24) ?_); refine wpList_storeG vO rfl rfl rfl (by kernel_rfl) rfl (of_decide_eq_true rfl) rfl ?_; intro w2' vO_ t_) | go_values | go_skip | go_guarded | go_step | go_upon)
  have vO1 : VarA w2' w1.heap.size 26 #[.int .i64 n0, .int .i64 hs1, .int .i64 hi1, .bool hd1, .slice none 0 0, .int .i64 0, .int .i64 0, .bool false, .slice none 0 0, .int .i64 0] := vO_
  clear vO_ vO
  have vO_ := vO1
  clear vO1
  have t1 : Turned (fun b => b = w1.heap.size) w2 w2' := t_
  clear t_
  have vO := vO_
  clear vO_
  have HC2' : Hid (CurV 77 pb zs v q1 w2') := HC2.out.keep t1 (fun b hb => by omega)
  have vR_ := vR.turn t1 (by omega)
  clear vR
  have vR := vR_
  clear vR_
  have HT_ : Hid (Turned (fun b => b = pb) w w2') := HT.out.then t1 (fun i hi hs => by omega)
  clear HT
  have HT := HT_
  clear HT_
  have hy2 := t1.size
  clear t1 HC2
  have HC2 := HC2'
  clear HC2'
  refine Calls.mono (H2.out _ HC2.out) ?_
  rintro e w3 ⟨a2, l2, c2, rfl, o2, hc_, t_⟩
  have HT_ : Hid (Turned (fun b => b = pb) w w3) := HT.out.trans t_
  clear HT
  have HT := HT_
  clear HT_
  have vR_ := vR.turn t_ (by omega)
  clear vR
  have vR := vR_
  clear vR_
  have hx2 := t_.size
  have vO_ := vO.turn t_ (by omega)
  clear vO
  have vO := vO_
  clear vO_
  have HO2 : Hid (OwV w3 (fun b => w2'.heap.size ≤ b ∧ b < w3.heap.size) (.slice a2 l2 c2) (.bytes ts2)) := o2
  clear o2
  have HC3 : Hid (CurV 77 pb zs v q2 w3) := hc_
  clear hc_ t_ H2 HC2
  dsimp only
  repeat (first | ((with_reducible refine guardStore (ty := 22) ?_); refine wpList_storeG vO rfl rfl rfl (by kernel_rfl) rfl (of_decide_eq_true rfl) rfl ?_; intro w3' vO_ t_) | go_values | go_skip | go_guarded | go_step | go_upon)
  have vO1 : VarA w3' w1.heap.size 26 #[.int .i64 n0, .int .i64 hs1, .int .i64 hi1, .bool hd1, .slice a2 l2 c2, .int .i64 0, .int .i64 0, .bool false, .slice none 0 0, .int .i64 0] := vO_
  clear vO_ vO
  have vO_ := vO1
  clear vO1
  have t1 : Turned (fun b => b = w1.heap.size) w3 w3' := t_
  clear t_
  have vO := vO_
  clear vO_
  have HC3' : Hid (CurV 77 pb zs v q2 w3') := HC3.out.keep t1 (fun b hb => by omega)
  have vR_ := vR.turn t1 (by omega)
  clear vR
  have vR := vR_
  clear vR_
  have HT_ : Hid (Turned (fun b => b = pb) w w3') := HT.out.then t1 (fun i hi hs => by omega)
  clear HT
  have HT := HT_
  clear HT_
  have hy3 := t1.size
  have HO2_ : Hid (OwV w3' (fun b => w2'.heap.size ≤ b ∧ b < w3.heap.size) (.slice a2 l2 c2) (.bytes ts2)) := HO2.out.keep (t1.keeps (fun b hb hs => by omega))
  clear HO2
  have HO2 := HO2_
  clear HO2_
  clear t1 HC3
  have HC3 := HC3'
  clear HC3'
  refine Calls.mono (H3.out _ HC3.out) ?_
  rintro e w4 ⟨rfl, hc_, t_⟩
  have HT_ : Hid (Turned (fun b => b = pb) w w4) := HT.out.trans t_
  clear HT
  have HT := HT_
  clear HT_
  have vR_ := vR.turn t_ (by omega)
  clear vR
  have vR := vR_
  clear vR_
  have hx3 := t_.size
  have vO_ := vO.turn t_ (by omega)
  clear vO
  have vO := vO_
  clear vO_
  have HO2_ : Hid (OwV w4 (fun b => w2'.heap.size ≤ b ∧ b < w3.heap.size) (.slice a2 l2 c2) (.bytes ts2)) := HO2.out.keep (t_.keeps (fun b hb hs => by omega))
  clear HO2
  have HO2 := HO2_
  clear HO2_
  have HC4 : Hid (CurV 77 pb zs v q3 w4) := hc_
  clear hc_ t_ H3 HC3
  dsimp only
  repeat (first | ((with_reducible refine guardStore (ty := 24) ?_); refine wpList_storeG vO rfl rfl rfl (by kernel_rfl) rfl (of_decide_eq_true rfl) rfl ?_; intro w4' vO_ t_) | go_values | go_skip | go_guarded | go_step | go_upon)
  have vO1 : VarA w4' w1.heap.size 26 #[.int .i64 n0, .int .i64 hs1, .int .i64 hi1, .bool hd1, .slice a2 l2 c2, .int .i64 hs3, .int .i64 hi3, .bool hd3, .slice none 0 0, .int .i64 0] := vO_
  clear vO_ vO
  have vO_ := vO1
  clear vO1
  have t1 : Turned (fun b => b = w1.heap.size) w4 w4' := t_
  clear t_
  have vO := vO_
  clear vO_
  have HC4' : Hid (CurV 77 pb zs v q3 w4') := HC4.out.keep t1 (fun b hb => by omega)
  have vR_ := vR.turn t1 (by omega)
  clear vR
  have vR := vR_
  clear vR_
  have HT_ : Hid (Turned (fun b => b = pb) w w4') := HT.out.then t1 (fun i hi hs => by omega)
  clear HT
  have HT := HT_
  clear HT_
  have hy4 := t1.size
  have HO2_ : Hid (OwV w4' (fun b => w2'.heap.size ≤ b ∧ b < w3.heap.size) (.slice a2 l2 c2) (.bytes ts2)) := HO2.out.keep (t1.keeps (fun b hb hs => by omega))
  clear HO2
  have HO2 := HO2_
  clear HO2_
  clear t1 HC4
  have HC4 := HC4'
  clear HC4'
  refine Calls.mono (H4.out _ HC4.out) ?_
  rintro e w5 ⟨a4, l4, c4, rfl, o4, hc_, t_⟩
  have HT_ : Hid (Turned (fun b => b = pb) w w5) := HT.out.trans t_
  clear HT
  have HT := HT_
  clear HT_
  have vR_ := vR.turn t_ (by omega)
  clear vR
  have vR := vR_
  clear vR_
  have hx4 := t_.size
  have vO_ := vO.turn t_ (by omega)
  clear vO
  have vO := vO_
  clear vO_
  have HO2_ : Hid (OwV w5 (fun b => w2'.heap.size ≤ b ∧ b < w3.heap.size) (.slice a2 l2 c2) (.bytes ts2)) := HO2.out.keep (t_.keeps (fun b hb hs => by omega))
  clear HO2
  have HO2 := HO2_
  clear HO2_
  have HO4 : Hid (OwV w5 (fun b => w4'.heap.size ≤ b ∧ b < w5.heap.size) (.slice a4 l4 c4) (.bytes ts4)) := o4
  clear o4
  have HC5 : Hid (CurV 77 pb zs v q4 w5) := hc_
  clear hc_ t_ H4 HC4
  dsimp only
  repeat (first | ((with_reducible refine guardStore (ty := 22) ?_); refine wpList_storeG vO rfl rfl rfl (by kernel_rfl) rfl (of_decide_eq_true rfl) rfl ?_; intro w5' vO_ t_) | go_values | go_skip | go_guarded | go_step | go_upon)
  have vO1 : VarA w5' w1.heap.size 26 #[.int .i64 n0, .int .i64 hs1, .int .i64 hi1, .bool hd1, .slice a2 l2 c2, .int .i64 hs3, .int .i64 hi3, .bool hd3, .slice a4 l4 c4, .int .i64 0] := vO_
  clear vO_ vO
  have vO_ := vO1
  clear vO1
  have t1 : Turned (fun b => b = w1.heap.size) w5 w5' := t_
  clear t_
  have vO := vO_
  clear vO_
  have HC5' : Hid (CurV 77 pb zs v q4 w5') := HC5.out.keep t1 (fun b hb => by omega)
  have vR_ := vR.turn t1 (by omega)
  clear vR
  have vR := vR_
  clear vR_
  have HT_ : Hid (Turned (fun b => b = pb) w w5') := HT.out.then t1 (fun i hi hs => by omega)
  clear HT
  have HT := HT_
  clear HT_
  have hy5 := t1.size
  have HO2_ : Hid (OwV w5' (fun b => w2'.heap.size ≤ b ∧ b < w3.heap.size) (.slice a2 l2 c2) (.bytes ts2)) := HO2.out.keep (t1.keeps (fun b hb hs => by omega))
  clear HO2
  have HO2 := HO2_
  clear HO2_
  have HO4_ : Hid (OwV w5' (fun b => w4'.heap.size ≤ b ∧ b < w5.heap.size) (.slice a4 l4 c4) (.bytes ts4)) := HO4.out.keep (t1.keeps (fun b hb hs => by omega))
  clear HO4
  have HO4 := HO4_
  clear HO4_
  clear t1 HC5
  have HC5 := HC5'
  clear HC5'
  refine Calls.mono (H5.out _ HC5.out) ?_
  rintro e w6 ⟨rfl, hc_, t_⟩
  have HT_ : Hid (Turned (fun b => b = pb) w w6) := HT.out.trans t_
  clear HT
  have HT := HT_
  clear HT_
  have vR_ := vR.turn t_ (by omega)
  clear vR
  have vR := vR_
  clear vR_
  have hx5 := t_.size
  have vO_ := vO.turn t_ (by omega)
  clear vO
  have vO := vO_
  clear vO_
  have HO2_ : Hid (OwV w6 (fun b => w2'.heap.size ≤ b ∧ b < w3.heap.size) (.slice a2 l2 c2) (.bytes ts2)) := HO2.out.keep (t_.keeps (fun b hb hs => by omega))
  clear HO2
  have HO2 := HO2_
  clear HO2_
  have HO4_ : Hid (OwV w6 (fun b => w4'.heap.size ≤ b ∧ b < w5.heap.size) (.slice a4 l4 c4) (.bytes ts4)) := HO4.out.keep (t_.keeps (fun b hb hs => by omega))
  clear HO4
  have HO4 := HO4_
  clear HO4_
  have HC6 : Hid (CurV 77 pb zs v q5 w6) := hc_
  clear hc_ t_ H5 HC5
  dsimp only
  repeat (first | ((with_reducible refine guardStore (ty := 3) ?_); refine wpList_storeG vO rfl rfl rfl (by kernel_rfl) rfl (of_decide_eq_true rfl) rfl ?_; intro wz vO_ tz; have vRz := vR.turn tz (by omega); have vOz : VarA wz w1.heap.size 26 #[.int .i64 n0, .int .i64 hs1, .int .i64 hi1, .bool hd1, .slice a2 l2 c2, .int .i64 hs3, .int .i64 hi3, .bool hd3, .slice a4 l4 c4, .int .i64 n5] := vO_) | ((with_reducible refine guardLoad (ty := 26) ?_); refine wpList_loadA vOz rfl Tryz.underlying26 rfl (by kernel_rfl) ?_) | ((with_reducible refine guardStore (ty := 26) ?_); refine wpList_storeF vRz rfl rfl (by kernel_rfl) rfl (of_decide_eq_true rfl) rfl ?_; intro w' vR_ t_) | go_values | go_skip | go_guarded | go_step | go_upon)
  have t1 : Turned (fun b => b = w.heap.size ∨ b = w1.heap.size) w6 w' := (tz.one (S := fun b => b = w.heap.size ∨ b = w1.heap.size) (.inr rfl)).trans (t_.one (S := fun b => b = w.heap.size ∨ b = w1.heap.size) (.inl rfl))
  have hC : CurV 77 pb zs v q5 w' := HC6.out.keep t1 (fun b hb => by omega)
  have hT : Turned (fun b => b = pb) w w' := HT.out.then t1 (fun i hi hs => by omega)
  have hsz := t1.size
  have HO2_ : OwV w' (fun b => w2'.heap.size ≤ b ∧ b < w3.heap.size) (.slice a2 l2 c2) (.bytes ts2) := HO2.out.keep (t1.keeps (fun b hb hs => by omega))
  have HO4_ : OwV w' (fun b => w4'.heap.size ≤ b ∧ b < w5.heap.size) (.slice a4 l4 c4) (.bytes ts4) := HO4.out.keep (t1.keeps (fun b hb hs => by omega))
  refine bodyPost_ret (results_cell_row Tryz.results47 _ _ _ _ _ _ _ rfl vR_ Tryz.underlying26 rfl (by kernel_rfl)) rfl ?_
  exact ⟨_, _, _, _, _, _, w3.heap.size, rfl, HO2_.mono (fun b hb => ⟨by omega, hb.2⟩), HO4_.mono (fun b hb => ⟨by omega, by omega⟩), by omega, by omega, hC, hT⟩
set_option maxHeartbeats 4000000 in
theorem specPartC (pb : Nat) (zs : List Int) (v : Value) (p : Int) (w : World) (h : CurV 77 pb zs v p w) (hl : zs.length ≤ 2000000) :
    Calls Tryz.prog 50 #[.pointer (some ⟨pb, 0, none⟩)] w fun e w' => ∃ a n c, e = .returned (ptV (rdPt zs p).1 (.slice a n c)) ∧ OwV w' (fun b => w.heap.size ≤ b ∧ b < w'.heap.size) (.slice a n c) (.bytes (rdPt zs p).1.asn) ∧ Gone 77 pb zs v (rdPt zs p).2 w w' := by
  have hz := RdV.zs h.2.1
  have hpl := h.lt
  obtain ⟨n0, q0, e0⟩ : ∃ x q, getNum zs p = (x, q) := ⟨_, _, rfl⟩
  have H0 : Hid (∀ W, CurV 77 pb zs v p W → _) := fun W hW => by have h_ := specNumC pb zs v p W hW hl; rw [e0] at h_; exact h_
  obtain ⟨⟨hs1, hi1, hd1⟩, q1, e1⟩ : ∃ x q, rdHd zs q0 = (x, q) := ⟨_, _, rfl⟩
  have H1 : Hid (∀ W, CurV 77 pb zs v q0 W → _) := fun W hW => by have h_ := specHandC pb zs v q0 W hW hl; rw [e1] at h_; exact h_
  obtain ⟨ts2, q2, e2⟩ : ∃ x q, getText zs q1 = (x, q) := ⟨_, _, rfl⟩
  have H2 : Hid (∀ W, CurV 77 pb zs v q1 W → _) := fun W hW => by have h_ := specTextC pb zs v q1 W hW hl; rw [e2] at h_; exact h_
  obtain ⟨⟨hs3, hi3, hd3⟩, q3, e3⟩ : ∃ x q, rdHd zs q2 = (x, q) := ⟨_, _, rfl⟩
  have H3 : Hid (∀ W, CurV 77 pb zs v q2 W → _) := fun W hW => by have h_ := specHandC pb zs v q2 W hW hl; rw [e3] at h_; exact h_
  have hR : rdPt zs p = (⟨n0, (hs1, hi1, hd1), ts2, (hs3, hi3, hd3)⟩, q3) := by simp [rdPt, e0, e1, e2, e3]
  rw [hR]
  clear hR e0 e1 e2 e3
  have HC0 : Hid (CurV 77 pb zs v p w) := h
  clear h
  dsimp only
  go_enter Tryz.func50, Tryz.ntmps50
  go_wp2_with fail
  refine Calls.mono (H0.out _ (HC0.out.alloc _)) ?_
  rintro e w1 ⟨rfl, hc_, t_⟩
  have HT : Hid (Turned (fun b => b = pb) w w1) := (Turned.ofBelow (Below.new1 (w := w) _)).trans t_
  have vR : VarA w1 w.heap.size 33 #[.int .i64 0, .int .i64 0, .int .i64 0, .bool false, .slice none 0 0, .int .i64 0, .int .i64 0, .bool false] := VarA.turn (VarA.new w _ _) t_ (by omega)
  have hx0 := t_.size
  simp at hx0
  have HC1 : Hid (CurV 77 pb zs v q0 w1) := hc_
  clear hc_ t_ H0 HC0
  dsimp only
  repeat (first | ((with_reducible refine guardStore (ty := 33) ?_); refine wpList_storeF (VarA.new w1 _ _) rfl rfl (by kernel_rfl) rfl (of_decide_eq_true rfl) rfl ?_; intro w1' vO t_) | go_values | go_skip | go_guarded | go_step | go_upon)
  have vO_ : VarA w1' w1.heap.size 33 #[.int .i64 n0, .int .i64 0, .int .i64 0, .bool false, .slice none 0 0, .int .i64 0, .int .i64 0, .bool false] := vO
  clear vO
  have t1 : Turned (fun b => b = w1.heap.size) w1 w1' := (Turned.ofBelow (Below.new1 (w := w1) _)).trans t_
  clear t_
  have vO := vO_
  clear vO_
  have HC1' : Hid (CurV 77 pb zs v q0 w1') := HC1.out.keep t1 (fun b hb => by omega)
  have vR_ := vR.turn t1 (by omega)
  clear vR
  have vR := vR_
  clear vR_
  have HT_ : Hid (Turned (fun b => b = pb) w w1') := HT.out.then t1 (fun i hi hs => by omega)
  clear HT
  have HT := HT_
  clear HT_
  have hy1 := t1.size
  have hob := VarA.lt vO
  clear t1 HC1
  have HC1 := HC1'
  clear HC1'
  refine Calls.mono (H1.out _ HC1.out) ?_
  rintro e w2 ⟨rfl, hc_, t_⟩
  have HT_ : Hid (Turned (fun b => b = pb) w w2) := HT.out.trans t_
  clear HT
  have HT := HT_
  clear HT_
  have vR_ := vR.turn t_ (by omega)
  clear vR
  have vR := vR_
  clear vR_
  have hx1 := t_.size
  have vO_ := vO.turn t_ (by omega)
  clear vO
  have vO := vO_
  clear vO_
  have HC2 : Hid (CurV 77 pb zs v q1 w2) := hc_
  clear hc_ t_ H1 HC1
  dsimp only
  repeat (first | ((with_reducible refine guardStore (ty := 24) ?_); refine wpList_storeG vO rfl rfl rfl (by kernel_rfl) rfl (of_decide_eq_true rfl) rfl ?_; intro w2' vO_ t_) | go_values | go_skip | go_guarded | go_step | go_upon)
  have vO1 : VarA w2' w1.heap.size 33 #[.int .i64 n0, .int .i64 hs1, .int .i64 hi1, .bool hd1, .slice none 0 0, .int .i64 0, .int .i64 0, .bool false] := vO_
  clear vO_ vO
  have vO_ := vO1
  clear vO1
  have t1 : Turned (fun b => b = w1.heap.size) w2 w2' := t_
  clear t_
  have vO := vO_
  clear vO_
  have HC2' : Hid (CurV 77 pb zs v q1 w2') := HC2.out.keep t1 (fun b hb => by omega)
  have vR_ := vR.turn t1 (by omega)
  clear vR
  have vR := vR_
  clear vR_
  have HT_ : Hid (Turned (fun b => b = pb) w w2') := HT.out.then t1 (fun i hi hs => by omega)
  clear HT
  have HT := HT_
  clear HT_
  have hy2 := t1.size
  clear t1 HC2
  have HC2 := HC2'
  clear HC2'
  refine Calls.mono (H2.out _ HC2.out) ?_
  rintro e w3 ⟨a2, l2, c2, rfl, o2, hc_, t_⟩
  have HT_ : Hid (Turned (fun b => b = pb) w w3) := HT.out.trans t_
  clear HT
  have HT := HT_
  clear HT_
  have vR_ := vR.turn t_ (by omega)
  clear vR
  have vR := vR_
  clear vR_
  have hx2 := t_.size
  have vO_ := vO.turn t_ (by omega)
  clear vO
  have vO := vO_
  clear vO_
  have HO2 : Hid (OwV w3 (fun b => w2'.heap.size ≤ b ∧ b < w3.heap.size) (.slice a2 l2 c2) (.bytes ts2)) := o2
  clear o2
  have HC3 : Hid (CurV 77 pb zs v q2 w3) := hc_
  clear hc_ t_ H2 HC2
  dsimp only
  repeat (first | ((with_reducible refine guardStore (ty := 22) ?_); refine wpList_storeG vO rfl rfl rfl (by kernel_rfl) rfl (of_decide_eq_true rfl) rfl ?_; intro w3' vO_ t_) | go_values | go_skip | go_guarded | go_step | go_upon)
  have vO1 : VarA w3' w1.heap.size 33 #[.int .i64 n0, .int .i64 hs1, .int .i64 hi1, .bool hd1, .slice a2 l2 c2, .int .i64 0, .int .i64 0, .bool false] := vO_
  clear vO_ vO
  have vO_ := vO1
  clear vO1
  have t1 : Turned (fun b => b = w1.heap.size) w3 w3' := t_
  clear t_
  have vO := vO_
  clear vO_
  have HC3' : Hid (CurV 77 pb zs v q2 w3') := HC3.out.keep t1 (fun b hb => by omega)
  have vR_ := vR.turn t1 (by omega)
  clear vR
  have vR := vR_
  clear vR_
  have HT_ : Hid (Turned (fun b => b = pb) w w3') := HT.out.then t1 (fun i hi hs => by omega)
  clear HT
  have HT := HT_
  clear HT_
  have hy3 := t1.size
  have HO2_ : Hid (OwV w3' (fun b => w2'.heap.size ≤ b ∧ b < w3.heap.size) (.slice a2 l2 c2) (.bytes ts2)) := HO2.out.keep (t1.keeps (fun b hb hs => by omega))
  clear HO2
  have HO2 := HO2_
  clear HO2_
  clear t1 HC3
  have HC3 := HC3'
  clear HC3'
  refine Calls.mono (H3.out _ HC3.out) ?_
  rintro e w4 ⟨rfl, hc_, t_⟩
  have HT_ : Hid (Turned (fun b => b = pb) w w4) := HT.out.trans t_
  clear HT
  have HT := HT_
  clear HT_
  have vR_ := vR.turn t_ (by omega)
  clear vR
  have vR := vR_
  clear vR_
  have hx3 := t_.size
  have vO_ := vO.turn t_ (by omega)
  clear vO
  have vO := vO_
  clear vO_
  have HO2_ : Hid (OwV w4 (fun b => w2'.heap.size ≤ b ∧ b < w3.heap.size) (.slice a2 l2 c2) (.bytes ts2)) := HO2.out.keep (t_.keeps (fun b hb hs => by omega))
  clear HO2
  have HO2 := HO2_
  clear HO2_
  have HC4 : Hid (CurV 77 pb zs v q3 w4) := hc_
  clear hc_ t_ H3 HC3
  dsimp only
  repeat (first | ((with_reducible refine guardStore (ty := 24) ?_); refine wpList_storeG vO rfl rfl rfl (by kernel_rfl) rfl (of_decide_eq_true rfl) rfl ?_; intro wz vO_ tz; have vRz := vR.turn tz (by omega); have vOz : VarA wz w1.heap.size 33 #[.int .i64 n0, .int .i64 hs1, .int .i64 hi1, .bool hd1, .slice a2 l2 c2, .int .i64 hs3, .int .i64 hi3, .bool hd3] := vO_) | ((with_reducible refine guardLoad (ty := 33) ?_); refine wpList_loadA vOz rfl Tryz.underlying33 rfl (by kernel_rfl) ?_) | ((with_reducible refine guardStore (ty := 33) ?_); refine wpList_storeF vRz rfl rfl (by kernel_rfl) rfl (of_decide_eq_true rfl) rfl ?_; intro w' vR_ t_) | go_values | go_skip | go_guarded | go_step | go_upon)
  have t1 : Turned (fun b => b = w.heap.size ∨ b = w1.heap.size) w4 w' := (tz.one (S := fun b => b = w.heap.size ∨ b = w1.heap.size) (.inr rfl)).trans (t_.one (S := fun b => b = w.heap.size ∨ b = w1.heap.size) (.inl rfl))
  have hC : CurV 77 pb zs v q3 w' := HC4.out.keep t1 (fun b hb => by omega)
  have hT : Turned (fun b => b = pb) w w' := HT.out.then t1 (fun i hi hs => by omega)
  have hsz := t1.size
  have HO2_ : OwV w' (fun b => w2'.heap.size ≤ b ∧ b < w3.heap.size) (.slice a2 l2 c2) (.bytes ts2) := HO2.out.keep (t1.keeps (fun b hb hs => by omega))
  refine bodyPost_ret (results_cell_row Tryz.results50 _ _ _ _ _ _ _ rfl vR_ Tryz.underlying33 rfl (by kernel_rfl)) rfl ?_
  exact ⟨_, _, _, rfl, HO2_.mono (fun b hb => ⟨by omega, by omega⟩), hC, hT⟩
end Go.Proofs.YtbnjhjgjmckedaaGreat
end
