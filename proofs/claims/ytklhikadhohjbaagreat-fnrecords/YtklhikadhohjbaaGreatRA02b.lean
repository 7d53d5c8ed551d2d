/- Joined: RdI RdI2. -/
import Derived.Test.YtklhikadhohjbaaGreatRA02

namespace Go.Proofs.YtklhikadhohjbaaGreat
open Go.RowKit
set_option linter.unusedVariables false
set_option linter.unusedSimpArgs false
set_option maxRecDepth 100000
section
set_option maxHeartbeats 2000000 in
theorem implFlagC (pb : Nat) (zs : List Int) (v : Value) (p : Int) (w : World) (h : CurV 108 pb zs v p w) (hl : zs.length ≤ 2000000) :
  Calls Tryz.prog 218 #[.pointer (some ⟨pb, 0, none⟩)] w fun e w' => e = .returned (.bool (rdFlag zs p).1) ∧ Gone 108 pb zs v (rdFlag zs p).2 w w' := by
 have hz := RdV.zs h.2.1
 rw [← flag_num p hz]
 have HN : Hid _ := implNumC pb zs v p w h hl
 have HA : Hid _ := getNum_at hz p
 clear h
 generalize getNum zs p = g at HN HA ⊢
 obtain ⟨n, nx⟩ := g
 dsimp only at HN HA ⊢
 have HF : Hid (∀ W, Calls Tryz.prog 164 #[.int .i64 n] W fun e w' => e = .returned (.bool (decide (n = 0) || decide (n = 1))) ∧ w' = W) := fun W => by
  go_enter Tryz.func164, Tryz.ntmps164
  go_wp2
  all_goals (go_ret; exact ⟨by first | rfl | (simp_all; done) | (simp_all; omega) | (simp_all; rw [Bool.eq_iff_iff]; simp; done), rfl⟩)
 have hbq : (n == 1) = decide (n = 1) := by simp [BEq.beq]
 by_cases hn : n = 0 ∨ n = 1
 ·have hb : (decide (n = 0) || decide (n = 1)) = true := by simpa using hn
  rw [hb] at HF
  rw [if_pos hn]
  go_enter Tryz.func218, Tryz.ntmps218
  go_wp2_with fail
  refine Calls.mono HN.out ?_
  rintro e w2 ⟨rfl, hc, ht⟩
  have HC : Hid _ := hc
  have HT : Hid _ := ht
  clear hc ht HN
  go_wp2_with (go_at_call 164; refine Calls.mono (HF.out _) ?_; rintro e w' ⟨rfl, rfl⟩)
  all_goals (go_ret; exact ⟨by first | rfl | simp [hbq] | simp_all, HC.out, HT.out⟩)
 ·have hb : (decide (n = 0) || decide (n = 1)) = false := by simp only [Bool.or_eq_false_iff, decide_eq_false_iff_not]; omega
  rw [hb] at HF
  rw [if_neg hn]
  go_enter Tryz.func218, Tryz.ntmps218
  go_wp2_with fail
  refine Calls.mono HN.out ?_
  rintro e w2 ⟨rfl, hc, ht⟩
  obtain ⟨c0, c1⟩ := VarA.l2 hc.1
  have hf := VarA.fz hc.1
  have HC : Hid (CurV 108 pb zs v (-1) (w2.setCell ⟨pb, 1, none⟩ (.int .i64 (-1)))) := CurV.put hc (-1) (by omega) (by omega)
  have HT : Hid (Turned (fun b => b = pb) w (w2.setCell ⟨pb, 1, none⟩ (.int .i64 (-1)))) := ht.set _ _ rfl
  clear hc ht HN
  go_wp2_with (go_at_call 164; refine Calls.mono (HF.out _) ?_; rintro e w' ⟨rfl, rfl⟩)
  all_goals (go_ret; exact ⟨by first | rfl | simp [hbq] | simp_all, HC.out, HT.out⟩)
set_option maxHeartbeats 4000000 in
theorem implHandC (pb : Nat) (zs : List Int) (v : Value) (p : Int) (w : World) (h : CurV 108 pb zs v p w) (hl : zs.length ≤ 2000000) :
  Calls Tryz.prog 156 #[.pointer (some ⟨pb, 0, none⟩)] w fun e w' => e = .returned (Hd.v (rdHd zs p).1) ∧ Gone 108 pb zs v (rdHd zs p).2 w w' := by
 have hz := RdV.zs h.2.1
 have hpl := h.lt
 obtain ⟨n0, q0, e0⟩ : ∃ x q, getNum zs p = (x, q) := ⟨_, _, rfl⟩
 have H0 : Hid (∀ W, CurV 108 pb zs v p W → _) := fun W hW => by have h_ := implNumC pb zs v p W hW hl; rw [e0] at h_; exact h_
 obtain ⟨n1, q1, e1⟩ : ∃ x q, getNum zs q0 = (x, q) := ⟨_, _, rfl⟩
 have H1 : Hid (∀ W, CurV 108 pb zs v q0 W → _) := fun W hW => by have h_ := implNumC pb zs v q0 W hW hl; rw [e1] at h_; exact h_
 obtain ⟨b2, q2, e2⟩ : ∃ x q, rdFlag zs q1 = (x, q) := ⟨_, _, rfl⟩
 have H2 : Hid (∀ W, CurV 108 pb zs v q1 W → _) := fun W hW => by have h_ := implFlagC pb zs v q1 W hW hl; rw [e2] at h_; exact h_
 have hR : rdHd zs p = ((n0, n1, b2), q2) := by simp [rdHd, e0, e1, e2]
 rw [hR]
 clear hR e0 e1 e2
 have HC0 : Hid (CurV 108 pb zs v p w) := h
 clear h
 dsimp only
 go_enter Tryz.func156, Tryz.ntmps156
 go_wp2_with fail
 refine Calls.mono (H0.out _ (HC0.out.alloc _)) ?_
 rintro e w1 ⟨rfl, hc_, t_⟩
 have HT : Hid (Turned (fun b => b = pb) w w1) := (Turned.ofBelow (Below.new1 (w := w) _)).trans t_
 have vR : VarA w1 w.heap.size 24 #[.int .i64 0, .int .i64 0, .bool false] := VarA.turn (VarA.new w _ _) t_ (by omega)
 have hx0 := t_.size
 simp at hx0
 have HC1 : Hid (CurV 108 pb zs v q0 w1) := hc_
 clear hc_ t_ H0 HC0
 go_wp2_with fail
 refine Calls.mono (H1.out _ HC1.out) ?_
 rintro e w2 ⟨rfl, hc_, t_⟩
 have HT_ : Hid (Turned (fun b => b = pb) w w2) := HT.out.trans t_
 clear HT
 have HT := HT_
 clear HT_
 have vR_ := vR.turn t_ (by omega)
 clear vR
 have vR := vR_
 clear vR_
 have hx1 := t_.size
 have HC2 : Hid (CurV 108 pb zs v q1 w2) := hc_
 clear hc_ t_ H1 HC1
 go_wp2_with fail
 refine Calls.mono (H2.out _ HC2.out) ?_
 rintro e w3 ⟨rfl, hc_, t_⟩
 have HT_ : Hid (Turned (fun b => b = pb) w w3) := HT.out.trans t_
 clear HT
 have HT := HT_
 clear HT_
 have vR_ := vR.turn t_ (by omega)
 clear vR
 have vR := vR_
 clear vR_
 have hx2 := t_.size
 have HC3 : Hid (CurV 108 pb zs v q2 w3) := hc_
 clear hc_ t_ H2 HC2
 dsimp only
 repeat (first | ((with_reducible refine guardStore (ty := 24) ?_); refine wpList_storeF vR rfl rfl (by kernel_rfl) rfl (of_decide_eq_true rfl) rfl ?_; intro w' vR_ t_) | go_values | go_skip | go_guarded | go_step | go_upon)
 have t1 : Turned (fun b => b = w.heap.size) w3 w' := t_
 have hC : CurV 108 pb zs v q2 w' := HC3.out.keep t1 (fun b hb => by omega)
 have hT : Turned (fun b => b = pb) w w' := HT.out.then t1 (fun i hi hs => by omega)
 have hsz := t1.size
 refine bodyPost_ret (results_cell_row Tryz.results156 _ _ _ _ _ _ _ rfl vR_ Tryz.underlying24 rfl (by kernel_rfl)) rfl ?_
 exact ⟨rfl, hC, hT⟩
set_option maxHeartbeats 4000000 in
theorem implTxC (pb : Nat) (zs : List Int) (v : Value) (p : Int) (w : World) (h : CurV 108 pb zs v p w) (hl : zs.length ≤ 2000000) :
  Calls Tryz.prog 154 #[.pointer (some ⟨pb, 0, none⟩)] w fun e w' => e = .returned (txV (rdTx zs p).1) ∧ Gone 108 pb zs v (rdTx zs p).2 w w' := by
 have hz := RdV.zs h.2.1
 have hpl := h.lt
 obtain ⟨n0, q0, e0⟩ : ∃ x q, getNum zs p = (x, q) := ⟨_, _, rfl⟩
 have H0 : Hid (∀ W, CurV 108 pb zs v p W → _) := fun W hW => by have h_ := implNumC pb zs v p W hW hl; rw [e0] at h_; exact h_
 obtain ⟨n1, q1, e1⟩ : ∃ x q, getNum zs q0 = (x, q) := ⟨_, _, rfl⟩
 have H1 : Hid (∀ W, CurV 108 pb zs v q0 W → _) := fun W hW => by have h_ := implNumC pb zs v q0 W hW hl; rw [e1] at h_; exact h_
 obtain ⟨n2, q2, e2⟩ : ∃ x q, getNum zs q1 = (x, q) := ⟨_, _, rfl⟩
 have H2 : Hid (∀ W, CurV 108 pb zs v q1 W → _) := fun W hW => by have h_ := implNumC pb zs v q1 W hW hl; rw [e2] at h_; exact h_
 have hR : rdTx zs p = ((n0, n1, n2), q2) := by simp [rdTx, e0, e1, e2]
 rw [hR]
 clear hR e0 e1 e2
 have HC0 : Hid (CurV 108 pb zs v p w) := h
 clear h
 dsimp only
 go_enter Tryz.func154, Tryz.ntmps154
 go_wp2_with fail
 refine Calls.mono (H0.out _ (HC0.out.alloc _)) ?_
 rintro e w1 ⟨rfl, hc_, t_⟩
 have HT : Hid (Turned (fun b => b = pb) w w1) := (Turned.ofBelow (Below.new1 (w := w) _)).trans t_
 have vR : VarA w1 w.heap.size 31 #[.int .i64 0, .int .i64 0, .int .i64 0] := VarA.turn (VarA.new w _ _) t_ (by omega)
 have hx0 := t_.size
 simp at hx0
 have HC1 : Hid (CurV 108 pb zs v q0 w1) := hc_
 clear hc_ t_ H0 HC0
 go_wp2_with fail
 refine Calls.mono (H1.out _ HC1.out) ?_
 rintro e w2 ⟨rfl, hc_, t_⟩
 have HT_ : Hid (Turned (fun b => b = pb) w w2) := HT.out.trans t_
 clear HT
 have HT := HT_
 clear HT_
 have vR_ := vR.turn t_ (by omega)
 clear vR
 have vR := vR_
 clear vR_
 have hx1 := t_.size
 have HC2 : Hid (CurV 108 pb zs v q1 w2) := hc_
 clear hc_ t_ H1 HC1
 go_wp2_with fail
 refine Calls.mono (H2.out _ HC2.out) ?_
 rintro e w3 ⟨rfl, hc_, t_⟩
 have HT_ : Hid (Turned (fun b => b = pb) w w3) := HT.out.trans t_
 clear HT
 have HT := HT_
 clear HT_
 have vR_ := vR.turn t_ (by omega)
 clear vR
 have vR := vR_
 clear vR_
 have hx2 := t_.size
 have HC3 : Hid (CurV 108 pb zs v q2 w3) := hc_
 clear hc_ t_ H2 HC2
 dsimp only
 repeat (first | ((with_reducible refine guardStore (ty := 31) ?_); refine wpList_storeF vR rfl rfl (by kernel_rfl) rfl (of_decide_eq_true rfl) rfl ?_; intro w' vR_ t_) | go_values | go_skip | go_guarded | go_step | go_upon)
 have t1 : Turned (fun b => b = w.heap.size) w3 w' := t_
 have hC : CurV 108 pb zs v q2 w' := HC3.out.keep t1 (fun b hb => by omega)
 have hT : Turned (fun b => b = pb) w w' := HT.out.then t1 (fun i hi hs => by omega)
 have hsz := t1.size
 refine bodyPost_ret (results_cell_row Tryz.results154 _ _ _ _ _ _ _ rfl vR_ Tryz.underlying31 rfl (by kernel_rfl)) rfl ?_
 exact ⟨rfl, hC, hT⟩
set_option maxHeartbeats 4000000 in
theorem implOpC (pb : Nat) (zs : List Int) (v : Value) (p : Int) (w : World) (h : CurV 108 pb zs v p w) (hl : zs.length ≤ 2000000) :
  Calls Tryz.prog 152 #[.pointer (some ⟨pb, 0, none⟩)] w fun e w' => ∃ a n c a2 n2 c2 M, e = .returned (opV (rdOp zs p).1 (.slice a n c) (.slice a2 n2 c2)) ∧ OwV w' (fun b => w.heap.size ≤ b ∧ b < M) (.slice a n c) (.bytes (rdOp zs p).1.nm) ∧ OwV w' (fun b => M ≤ b ∧ b < w'.heap.size) (.slice a2 n2 c2) (.bytes (rdOp zs p).1.asn) ∧ w.heap.size ≤ M ∧ M ≤ w'.heap.size ∧ Gone 108 pb zs v (rdOp zs p).2 w w' := by
 have hz := RdV.zs h.2.1
 have hpl := h.lt
 obtain ⟨n0, q0, e0⟩ : ∃ x q, getNum zs p = (x, q) := ⟨_, _, rfl⟩
 have H0 : Hid (∀ W, CurV 108 pb zs v p W → _) := fun W hW => by have h_ := implNumC pb zs v p W hW hl; rw [e0] at h_; exact h_
 obtain ⟨⟨hs1, hi1, hd1⟩, q1, e1⟩ : ∃ x q, rdHd zs q0 = (x, q) := ⟨_, _, rfl⟩
 have H1 : Hid (∀ W, CurV 108 pb zs v q0 W → _) := fun W hW => by have h_ := implHandC pb zs v q0 W hW hl; rw [e1] at h_; exact h_
 obtain ⟨ts2, q2, e2⟩ : ∃ x q, getText zs q1 = (x, q) := ⟨_, _, rfl⟩
 have H2 : Hid (∀ W, CurV 108 pb zs v q1 W → _) := fun W hW => by have h_ := implTextC pb zs v q1 W hW hl; rw [e2] at h_; exact h_
 obtain ⟨⟨hs3, hi3, hd3⟩, q3, e3⟩ : ∃ x q, rdHd zs q2 = (x, q) := ⟨_, _, rfl⟩
 have H3 : Hid (∀ W, CurV 108 pb zs v q2 W → _) := fun W hW => by have h_ := implHandC pb zs v q2 W hW hl; rw [e3] at h_; exact h_
 obtain ⟨ts4, q4, e4⟩ : ∃ x q, getText zs q3 = (x, q) := ⟨_, _, rfl⟩
 have H4 : Hid (∀ W, CurV 108 pb zs v q3 W → _) := fun W hW => by have h_ := implTextC pb zs v q3 W hW hl; rw [e4] at h_; exact h_
 obtain ⟨n5, q5, e5⟩ : ∃ x q, getNum zs q4 = (x, q) := ⟨_, _, rfl⟩
 have H5 : Hid (∀ W, CurV 108 pb zs v q4 W → _) := fun W hW => by have h_ := implNumC pb zs v q4 W hW hl; rw [e5] at h_; exact h_
 have hR : rdOp zs p = (⟨n0, (hs1, hi1, hd1), ts2, (hs3, hi3, hd3), ts4, n5⟩, q5) := by simp [rdOp, e0, e1, e2, e3, e4, e5]
 rw [hR]
 clear hR e0 e1 e2 e3 e4 e5
 have HC0 : Hid (CurV 108 pb zs v p w) := h
 clear h
 dsimp only
 go_enter Tryz.func152, Tryz.ntmps152
 go_wp2_with fail
 refine Calls.mono (H0.out _ (HC0.out.alloc _)) ?_
 rintro e w1 ⟨rfl, hc_, t_⟩
 have HT : Hid (Turned (fun b => b = pb) w w1) := (Turned.ofBelow (Below.new1 (w := w) _)).trans t_
 have vR : VarA w1 w.heap.size 26 #[.int .i64 0, .int .i64 0, .int .i64 0, .bool false, .slice none 0 0, .int .i64 0, .int .i64 0, .bool false, .slice none 0 0, .int .i64 0] := VarA.turn (VarA.new w _ _) t_ (by omega)
 have hx0 := t_.size
 simp at hx0
 have HC1 : Hid (CurV 108 pb zs v q0 w1) := hc_
 clear hc_ t_ H0 HC0
 go_wp2_with fail
 refine Calls.mono (H1.out _ HC1.out) ?_
 rintro e w2 ⟨rfl, hc_, t_⟩
 have HT_ : Hid (Turned (fun b => b = pb) w w2) := HT.out.trans t_
 clear HT
 have HT := HT_
 clear HT_
 have vR_ := vR.turn t_ (by omega)
 clear vR
 have vR := vR_
 clear vR_
 have hx1 := t_.size
 have HC2 : Hid (CurV 108 pb zs v q1 w2) := hc_
 clear hc_ t_ H1 HC1
 go_wp2_with fail
 refine Calls.mono (H2.out _ HC2.out) ?_
 rintro e w3 ⟨a2, l2, c2, rfl, o2, hc_, t_⟩
 have HT_ : Hid (Turned (fun b => b = pb) w w3) := HT.out.trans t_
 clear HT
 have HT := HT_
 clear HT_
 have vR_ := vR.turn t_ (by omega)
 clear vR
 have vR := vR_
 clear vR_
 have hx2 := t_.size
 have HO2 : Hid (OwV w3 (fun b => w2.heap.size ≤ b ∧ b < w3.heap.size) (.slice a2 l2 c2) (.bytes ts2)) := o2
 clear o2
 have HC3 : Hid (CurV 108 pb zs v q2 w3) := hc_
 clear hc_ t_ H2 HC2
 go_wp2_with fail
 refine Calls.mono (H3.out _ HC3.out) ?_
 rintro e w4 ⟨rfl, hc_, t_⟩
 have HT_ : Hid (Turned (fun b => b = pb) w w4) := HT.out.trans t_
 clear HT
 have HT := HT_
 clear HT_
 have vR_ := vR.turn t_ (by omega)
 clear vR
 have vR := vR_
 clear vR_
 have hx3 := t_.size
 have HO2_ : Hid (OwV w4 (fun b => w2.heap.size ≤ b ∧ b < w3.heap.size) (.slice a2 l2 c2) (.bytes ts2)) := HO2.out.keep (t_.keeps (fun b hb hs => by omega))
 clear HO2
 have HO2 := HO2_
 clear HO2_
 have HC4 : Hid (CurV 108 pb zs v q3 w4) := hc_
 clear hc_ t_ H3 HC3
 go_wp2_with fail
 refine Calls.mono (H4.out _ HC4.out) ?_
 rintro e w5 ⟨a4, l4, c4, rfl, o4, hc_, t_⟩
 have HT_ : Hid (Turned (fun b => b = pb) w w5) := HT.out.trans t_
 clear HT
 have HT := HT_
 clear HT_
 have vR_ := vR.turn t_ (by omega)
 clear vR
 have vR := vR_
 clear vR_
 have hx4 := t_.size
 have HO2_ : Hid (OwV w5 (fun b => w2.heap.size ≤ b ∧ b < w3.heap.size) (.slice a2 l2 c2) (.bytes ts2)) := HO2.out.keep (t_.keeps (fun b hb hs => by omega))
 clear HO2
 have HO2 := HO2_
 clear HO2_
 have HO4 : Hid (OwV w5 (fun b => w4.heap.size ≤ b ∧ b < w5.heap.size) (.slice a4 l4 c4) (.bytes ts4)) := o4
 clear o4
 have HC5 : Hid (CurV 108 pb zs v q4 w5) := hc_
 clear hc_ t_ H4 HC4
 go_wp2_with fail
 refine Calls.mono (H5.out _ HC5.out) ?_
 rintro e w6 ⟨rfl, hc_, t_⟩
 have HT_ : Hid (Turned (fun b => b = pb) w w6) := HT.out.trans t_
 clear HT
 have HT := HT_
 clear HT_
 have vR_ := vR.turn t_ (by omega)
 clear vR
 have vR := vR_
 clear vR_
 have hx5 := t_.size
 have HO2_ : Hid (OwV w6 (fun b => w2.heap.size ≤ b ∧ b < w3.heap.size) (.slice a2 l2 c2) (.bytes ts2)) := HO2.out.keep (t_.keeps (fun b hb hs => by omega))
 clear HO2
 have HO2 := HO2_
 clear HO2_
 have HO4_ : Hid (OwV w6 (fun b => w4.heap.size ≤ b ∧ b < w5.heap.size) (.slice a4 l4 c4) (.bytes ts4)) := HO4.out.keep (t_.keeps (fun b hb hs => by omega))
 clear HO4
 have HO4 := HO4_
 clear HO4_
 have HC6 : Hid (CurV 108 pb zs v q5 w6) := hc_
 clear hc_ t_ H5 HC5
 dsimp only
 repeat (first | ((with_reducible refine guardStore (ty := 26) ?_); refine wpList_storeF vR rfl rfl (by kernel_rfl) rfl (of_decide_eq_true rfl) rfl ?_; intro w' vR_ t_) | go_values | go_skip | go_guarded | go_step | go_upon)
 have t1 : Turned (fun b => b = w.heap.size) w6 w' := t_
 have hC : CurV 108 pb zs v q5 w' := HC6.out.keep t1 (fun b hb => by omega)
 have hT : Turned (fun b => b = pb) w w' := HT.out.then t1 (fun i hi hs => by omega)
 have hsz := t1.size
 have HO2_ : OwV w' (fun b => w2.heap.size ≤ b ∧ b < w3.heap.size) (.slice a2 l2 c2) (.bytes ts2) := HO2.out.keep (t1.keeps (fun b hb hs => by omega))
 have HO4_ : OwV w' (fun b => w4.heap.size ≤ b ∧ b < w5.heap.size) (.slice a4 l4 c4) (.bytes ts4) := HO4.out.keep (t1.keeps (fun b hb hs => by omega))
 refine bodyPost_ret (results_cell_row Tryz.results152 _ _ _ _ _ _ _ rfl vR_ Tryz.underlying26 rfl (by kernel_rfl)) rfl ?_
 exact ⟨_, _, _, _, _, _, w3.heap.size, rfl, HO2_.mono (fun b hb => ⟨by omega, hb.2⟩), HO4_.mono (fun b hb => ⟨by omega, by omega⟩), by omega, by omega, hC, hT⟩
set_option maxHeartbeats 4000000 in
theorem implPartC (pb : Nat) (zs : List Int) (v : Value) (p : Int) (w : World) (h : CurV 108 pb zs v p w) (hl : zs.length ≤ 2000000) :
  Calls Tryz.prog 155 #[.pointer (some ⟨pb, 0, none⟩)] w fun e w' => ∃ a n c, e = .returned (ptV (rdPt zs p).1 (.slice a n c)) ∧ OwV w' (fun b => w.heap.size ≤ b ∧ b < w'.heap.size) (.slice a n c) (.bytes (rdPt zs p).1.asn) ∧ Gone 108 pb zs v (rdPt zs p).2 w w' := by
 have hz := RdV.zs h.2.1
 have hpl := h.lt
 obtain ⟨n0, q0, e0⟩ : ∃ x q, getNum zs p = (x, q) := ⟨_, _, rfl⟩
 have H0 : Hid (∀ W, CurV 108 pb zs v p W → _) := fun W hW => by have h_ := implNumC pb zs v p W hW hl; rw [e0] at h_; exact h_
 obtain ⟨⟨hs1, hi1, hd1⟩, q1, e1⟩ : ∃ x q, rdHd zs q0 = (x, q) := ⟨_, _, rfl⟩
 have H1 : Hid (∀ W, CurV 108 pb zs v q0 W → _) := fun W hW => by have h_ := implHandC pb zs v q0 W hW hl; rw [e1] at h_; exact h_
 obtain ⟨ts2, q2, e2⟩ : ∃ x q, getText zs q1 = (x, q) := ⟨_, _, rfl⟩
 have H2 : Hid (∀ W, CurV 108 pb zs v q1 W → _) := fun W hW => by have h_ := implTextC pb zs v q1 W hW hl; rw [e2] at h_; exact h_
 obtain ⟨⟨hs3, hi3, hd3⟩, q3, e3⟩ : ∃ x q, rdHd zs q2 = (x, q) := ⟨_, _, rfl⟩
 have H3 : Hid (∀ W, CurV 108 pb zs v q2 W → _) := fun W hW => by have h_ := implHandC pb zs v q2 W hW hl; rw [e3] at h_; exact h_
 have hR : rdPt zs p = (⟨n0, (hs1, hi1, hd1), ts2, (hs3, hi3, hd3)⟩, q3) := by simp [rdPt, e0, e1, e2, e3]
 rw [hR]
 clear hR e0 e1 e2 e3
 have HC0 : Hid (CurV 108 pb zs v p w) := h
 clear h
 dsimp only
 go_enter Tryz.func155, Tryz.ntmps155
 go_wp2_with fail
 refine Calls.mono (H0.out _ (HC0.out.alloc _)) ?_
 rintro e w1 ⟨rfl, hc_, t_⟩
 have HT : Hid (Turned (fun b => b = pb) w w1) := (Turned.ofBelow (Below.new1 (w := w) _)).trans t_
 have vR : VarA w1 w.heap.size 33 #[.int .i64 0, .int .i64 0, .int .i64 0, .bool false, .slice none 0 0, .int .i64 0, .int .i64 0, .bool false] := VarA.turn (VarA.new w _ _) t_ (by omega)
 have hx0 := t_.size
 simp at hx0
 have HC1 : Hid (CurV 108 pb zs v q0 w1) := hc_
 clear hc_ t_ H0 HC0
 go_wp2_with fail
 refine Calls.mono (H1.out _ HC1.out) ?_
 rintro e w2 ⟨rfl, hc_, t_⟩
 have HT_ : Hid (Turned (fun b => b = pb) w w2) := HT.out.trans t_
 clear HT
 have HT := HT_
 clear HT_
 have vR_ := vR.turn t_ (by omega)
 clear vR
 have vR := vR_
 clear vR_
 have hx1 := t_.size
 have HC2 : Hid (CurV 108 pb zs v q1 w2) := hc_
 clear hc_ t_ H1 HC1
 go_wp2_with fail
 refine Calls.mono (H2.out _ HC2.out) ?_
 rintro e w3 ⟨a2, l2, c2, rfl, o2, hc_, t_⟩
 have HT_ : Hid (Turned (fun b => b = pb) w w3) := HT.out.trans t_
 clear HT
 have HT := HT_
 clear HT_
 have vR_ := vR.turn t_ (by omega)
 clear vR
 have vR := vR_
 clear vR_
 have hx2 := t_.size
 have HO2 : Hid (OwV w3 (fun b => w2.heap.size ≤ b ∧ b < w3.heap.size) (.slice a2 l2 c2) (.bytes ts2)) := o2
 clear o2
 have HC3 : Hid (CurV 108 pb zs v q2 w3) := hc_
 clear hc_ t_ H2 HC2
 go_wp2_with fail
 refine Calls.mono (H3.out _ HC3.out) ?_
 rintro e w4 ⟨rfl, hc_, t_⟩
 have HT_ : Hid (Turned (fun b => b = pb) w w4) := HT.out.trans t_
 clear HT
 have HT := HT_
 clear HT_
 have vR_ := vR.turn t_ (by omega)
 clear vR
 have vR := vR_
 clear vR_
 have hx3 := t_.size
 have HO2_ : Hid (OwV w4 (fun b => w2.heap.size ≤ b ∧ b < w3.heap.size) (.slice a2 l2 c2) (.bytes ts2)) := HO2.out.keep (t_.keeps (fun b hb hs => by omega))
 clear HO2
 have HO2 := HO2_
 clear HO2_
 have HC4 : Hid (CurV 108 pb zs v q3 w4) := hc_
 clear hc_ t_ H3 HC3
 dsimp only
 repeat (first | ((with_reducible refine guardStore (ty := 33) ?_); refine wpList_storeF vR rfl rfl (by kernel_rfl) rfl (of_decide_eq_true rfl) rfl ?_; intro w' vR_ t_) | go_values | go_skip | go_guarded | go_step | go_upon)
 have t1 : Turned (fun b => b = w.heap.size) w4 w' := t_
 have hC : CurV 108 pb zs v q3 w' := HC4.out.keep t1 (fun b hb => by omega)
 have hT : Turned (fun b => b = pb) w w' := HT.out.then t1 (fun i hi hs => by omega)
 have hsz := t1.size
 have HO2_ : OwV w' (fun b => w2.heap.size ≤ b ∧ b < w3.heap.size) (.slice a2 l2 c2) (.bytes ts2) := HO2.out.keep (t1.keeps (fun b hb hs => by omega))
 refine bodyPost_ret (results_cell_row Tryz.results155 _ _ _ _ _ _ _ rfl vR_ Tryz.underlying33 rfl (by kernel_rfl)) rfl ?_
 exact ⟨_, _, _, rfl, HO2_.mono (fun b hb => ⟨by omega, by omega⟩), hC, hT⟩
end
section
set_option maxHeartbeats 4000000 in
theorem implEntsC (pb : Nat) (zs : List Int) (v : Value) (p : Int) (w : World) (h : CurV 108 pb zs v p w) (hl : zs.length ≤ 2000000) :
  Calls Tryz.prog 217 #[.pointer (some ⟨pb, 0, none⟩)] w fun e w' => ∃ a n c, e = .returned (.slice a n c) ∧ OwV w' (fun b => w.heap.size ≤ b ∧ b < w'.heap.size) (.slice a n c) (ensDt (rdEnP zs p).1) ∧ Gone 108 pb zs v (rdEnP zs p).2 w w' := by
 have hz := RdV.zs h.2.1
 have hpl := h.lt
 obtain ⟨n, nx, e0⟩ : ∃ n nx, getNum zs p = (n, nx) := ⟨_, _, rfl⟩
 have hf := getNum_fits hz e0
 have h_ := implNumC pb zs v p w h hl
 rw [e0] at h_
 have HN : Hid _ := h_
 clear h_
 have hn0 : 0 ≤ n := by omega
 by_cases h12 : 12 < n
 ·have hR : rdEnP zs p = ([], -1) := by unfold rdEnP; rw [e0]; exact if_pos h12
  rw [hR]
  clear hf hR e0 h
  go_enter Tryz.func217, Tryz.ntmps217
  go_wp2_with fail
  refine Calls.mono HN.out ?_
  rintro e w2 ⟨rfl, hc, ht⟩
  obtain ⟨c0, c1⟩ := VarA.l2 hc.1
  have hfz := VarA.fz hc.1
  have HC : Hid (CurV 108 pb zs v (-1) (w2.setCell ⟨pb, 1, none⟩ (.int .i64 (-1)))) := CurV.put hc (-1) (by omega) (by omega)
  have HT : Hid (Turned (fun b => b = pb) w (w2.setCell ⟨pb, 1, none⟩ (.int .i64 (-1)))) := ht.set _ _ rfl
  clear hc ht HN
  go_wp2
  go_ret
  exact ⟨_, _, _, rfl, OwV.nilR _ _ _ _ _, HC.out, HT.out⟩
 obtain ⟨N, rfl⟩ : ∃ N : Nat, n = (N : Int) := ⟨n.toNat, by omega⟩
 have hR : rdEnP zs p = rdEnsP zs N nx := by unfold rdEnP; rw [e0]; dsimp only; rw [if_neg h12]; simp
 rw [hR]
 have HTX : Hid (∀ P W, CurV 108 pb zs v P W → _) := fun P W hW => implTextC pb zs v P W hW hl
 have HHD : Hid (∀ P W, CurV 108 pb zs v P W → _) := fun P W hW => implHandC pb zs v P W hW hl
 clear hf hR e0 h
 go_enter Tryz.func217, Tryz.ntmps217
 go_wp2_with fail
 refine Calls.mono HN.out ?_
 rintro e w2 ⟨rfl, hc, ht⟩
 have HC : Hid (CurV 108 pb zs v nx w2) := hc
 have HT : Hid (Turned (fun b => b = pb) w w2) := ht
 have hsz2 := ht.size
 clear hc ht HN
 go_wp2
 go_loopw [4, 13] (fun q' i wr => ∃ (k : Nat) (ua : Option Addr) (un uc : Nat), k ≤ N ∧ i = .int .i64 k ∧ q' = .slice ua un uc ∧ Hid (OwV wr (fun b => w.heap.size ≤ b ∧ b < wr.heap.size) (.slice ua un uc) (ensDt (rdEnsP zs k nx).1)) ∧ Hid (CurV 108 pb zs v (rdEnsP zs k nx).2 wr) ∧ Hid (Turned (fun b => b = pb) w wr)) (fun _ i _ => N - (intOf i).toNat)
 case atStart => exact ⟨0, none, 0, 0, Nat.zero_le _, rfl, rfl, OwV.nilR _ _ _ _ _, HC, HT⟩
 case round =>
  clear HC HT hsz2
  obtain ⟨k, ua, un, uc, hk, rfl, rfl, HO, HC, HT⟩ := hrel
  have hszr := HT.out.size
  by_cases hlt : k < N
  case neg =>
   have he : k = N := by omega
   subst he
   go_wp2
   go_ret
   exact ⟨_, _, _, rfl, HO.out, HC.out, HT.out⟩
  obtain ⟨ts, q1, e1⟩ : ∃ x q, getText zs (rdEnsP zs k nx).2 = (x, q) := ⟨_, _, rfl⟩
  obtain ⟨⟨hs, hi, hd⟩, q2, e2⟩ : ∃ x q, rdHd zs q1 = (x, q) := ⟨_, _, rfl⟩
  have hS : rdEnsP zs (k + 1) nx = ((rdEnsP zs k nx).1 ++ [⟨ts, (hs, hi, hd)⟩], q2) := by rw [ensP_snoc, e1]; dsimp only; rw [e2]
  have HSN : Hid _ := hS
  have HLN : Hid _ := ensP_len zs k nx
  have h_ := HTX.out _ wr HC.out
  rw [e1] at h_
  have H1 : Hid _ := h_
  clear h_
  have H2 : Hid (∀ W, CurV 108 pb zs v q1 W → _) := fun W hW => by have h_ := HHD.out q1 W hW; rw [e2] at h_; exact h_
  clear e1 e2 hS HTX HHD
  generalize rdEnsP zs k nx = r0 at HSN HLN HC HO H1
  obtain ⟨l0, p0⟩ := r0
  dsimp only at HSN HLN HC HO H1
  go_wp2_with fail
  refine Calls.mono H1.out ?_
  rintro e w3 ⟨ta, tl, tc, rfl, o1, hc, t1⟩
  have hs3 := t1.size
  have HO3 : Hid (OwV w3 (fun b => w.heap.size ≤ b ∧ b < wr.heap.size) (.slice ua un uc) (ensDt l0)) := HO.out.keep (t1.keeps (fun b hb hs => by omega))
  have HU3 : Hid (OwV w3 (fun b => wr.heap.size ≤ b ∧ b < w3.heap.size) (.slice ta tl tc) (.bytes ts)) := o1
  have HC3 : Hid (CurV 108 pb zs v q1 w3) := hc
  have HT3 : Hid (Turned (fun b => b = pb) w w3) := HT.out.trans t1
  clear HO HC HT o1 hc t1 H1
  go_wp2_with fail
  refine Calls.mono (H2.out _ HC3.out) ?_
  rintro e w4 ⟨rfl, hc, t1⟩
  have hs4 := t1.size
  have HO4 : Hid (OwV w4 (fun b => w.heap.size ≤ b ∧ b < wr.heap.size) (.slice ua un uc) (ensDt l0)) := HO3.out.keep (t1.keeps (fun b hb hs => by omega))
  have HU4 : Hid (OwV w4 (fun b => wr.heap.size ≤ b ∧ b < w3.heap.size) (.slice ta tl tc) (.bytes ts)) := HU3.out.keep (t1.keeps (fun b hb hs => by omega))
  have HC4 : Hid (CurV 108 pb zs v q2 w4) := hc
  have HT4 : Hid (Turned (fun b => b = pb) w w4) := HT3.out.trans t1
  clear HO3 HU3 HC3 HT3 hc t1 H2
  go_wp2_with (at_builtin; go_must (refine wpList_appEn _ rfl (.tmp 15) (.tmp 21) rfl _ rfl l0 ⟨ts, (hs, hi, hd)⟩ (.slice ta tl tc) w.heap.size wr.heap.size w3.heap.size w4.heap.size rfl rfl (0, 0) (heap_alloc_new _ _) (OwV.step HO4.out (Below.new1 _)) (OwV.step HU4.out (Below.new1 _)) (by simp; omega) hs3 hszr (by rw [HLN.out]; omega) ?_; intro ga gn gc w5 ho5 t5))
  have HO5 : Hid (OwV w5 (fun b => w.heap.size ≤ b ∧ b < w5.heap.size) (.slice ga gn gc) (ensDt (rdEnsP zs (k + 1) nx).1)) := by rw [HSN.out]; exact ho5
  have HC5 : Hid (CurV 108 pb zs v (rdEnsP zs (k + 1) nx).2 w5) := by rw [HSN.out]; exact (HC4.out.alloc _).keep t5 (fun b hb => by omega)
  have HT5 : Hid (Turned (fun b => b = pb) w w5) := (HT4.out.alloc _).then t5 (fun i hi hs => by omega)
  clear HO4 HU4 HC4 HT4 ho5 t5 HSN
  go_wp2
  refine ⟨?_, ?_⟩
  ·exact ⟨k + 1, ga, gn, gc, by omega, by go_num, rfl, HO5, HC5, HT5⟩
  ·simp [intOf]; omega
set_option maxHeartbeats 4000000 in
theorem implReplyC (pb : Nat) (zs : List Int) (v : Value) (p : Int) (w : World) (h : CurV 108 pb zs v p w) (hl : zs.length ≤ 2000000) :
  Calls Tryz.prog 153 #[.pointer (some ⟨pb, 0, none⟩)] w fun e w' => ∃ a n c, e = .returned (rpV (rdRp (rdEnP zs) zs p).1 (.slice a n c)) ∧ OwV w' (fun b => w.heap.size ≤ b ∧ b < w'.heap.size) (.slice a n c) (ensDt (rdRp (rdEnP zs) zs p).1.list) ∧ Gone 108 pb zs v (rdRp (rdEnP zs) zs p).2 w w' := by
 have hz := RdV.zs h.2.1
 have hpl := h.lt
 obtain ⟨n0, q0, e0⟩ : ∃ x q, getNum zs p = (x, q) := ⟨_, _, rfl⟩
 have H0 : Hid (∀ W, CurV 108 pb zs v p W → _) := fun W hW => by have h_ := implNumC pb zs v p W hW hl; rw [e0] at h_; exact h_
 obtain ⟨⟨hs1, hi1, hd1⟩, q1, e1⟩ : ∃ x q, rdHd zs q0 = (x, q) := ⟨_, _, rfl⟩
 have H1 : Hid (∀ W, CurV 108 pb zs v q0 W → _) := fun W hW => by have h_ := implHandC pb zs v q0 W hW hl; rw [e1] at h_; exact h_
 obtain ⟨n2, q2, e2⟩ : ∃ x q, getNum zs q1 = (x, q) := ⟨_, _, rfl⟩
 have H2 : Hid (∀ W, CurV 108 pb zs v q1 W → _) := fun W hW => by have h_ := implNumC pb zs v q1 W hW hl; rw [e2] at h_; exact h_
 obtain ⟨es3, q3, e3⟩ : ∃ x q, rdEnP zs q2 = (x, q) := ⟨_, _, rfl⟩
 have H3 : Hid (∀ W, CurV 108 pb zs v q2 W → _) := fun W hW => by have h_ := implEntsC pb zs v q2 W hW hl; rw [e3] at h_; exact h_
 have hR : rdRp (rdEnP zs) zs p = (⟨n0, (hs1, hi1, hd1), n2, es3⟩, q3) := by simp [rdRp, e0, e1, e2, e3]
 rw [hR]
 clear hR e0 e1 e2 e3
 have HC0 : Hid (CurV 108 pb zs v p w) := h
 clear h
 dsimp only
 go_enter Tryz.func153, Tryz.ntmps153
 go_wp2_with fail
 refine Calls.mono (H0.out _ (HC0.out.alloc _)) ?_
 rintro e w1 ⟨rfl, hc_, t_⟩
 have HT : Hid (Turned (fun b => b = pb) w w1) := (Turned.ofBelow (Below.new1 (w := w) _)).trans t_
 have vR : VarA w1 w.heap.size 29 #[.int .i64 0, .int .i64 0, .int .i64 0, .bool false, .int .i64 0, .slice none 0 0] := VarA.turn (VarA.new w _ _) t_ (by omega)
 have hx0 := t_.size
 simp at hx0
 have HC1 : Hid (CurV 108 pb zs v q0 w1) := hc_
 clear hc_ t_ H0 HC0
 go_wp2_with fail
 refine Calls.mono (H1.out _ HC1.out) ?_
 rintro e w2 ⟨rfl, hc_, t_⟩
 have HT_ : Hid (Turned (fun b => b = pb) w w2) := HT.out.trans t_
 clear HT
 have HT := HT_
 clear HT_
 have vR_ := vR.turn t_ (by omega)
 clear vR
 have vR := vR_
 clear vR_
 have hx1 := t_.size
 have HC2 : Hid (CurV 108 pb zs v q1 w2) := hc_
 clear hc_ t_ H1 HC1
 go_wp2_with fail
 refine Calls.mono (H2.out _ HC2.out) ?_
 rintro e w3 ⟨rfl, hc_, t_⟩
 have HT_ : Hid (Turned (fun b => b = pb) w w3) := HT.out.trans t_
 clear HT
 have HT := HT_
 clear HT_
 have vR_ := vR.turn t_ (by omega)
 clear vR
 have vR := vR_
 clear vR_
 have hx2 := t_.size
 have HC3 : Hid (CurV 108 pb zs v q2 w3) := hc_
 clear hc_ t_ H2 HC2
 go_wp2_with fail
 refine Calls.mono (H3.out _ HC3.out) ?_
 rintro e w4 ⟨a3, l3, c3, rfl, o3, hc_, t_⟩
 have HT_ : Hid (Turned (fun b => b = pb) w w4) := HT.out.trans t_
 clear HT
 have HT := HT_
 clear HT_
 have vR_ := vR.turn t_ (by omega)
 clear vR
 have vR := vR_
 clear vR_
 have hx3 := t_.size
 have HO3 : Hid (OwV w4 (fun b => w3.heap.size ≤ b ∧ b < w4.heap.size) (.slice a3 l3 c3) (ensDt es3)) := o3
 clear o3
 have HC4 : Hid (CurV 108 pb zs v q3 w4) := hc_
 clear hc_ t_ H3 HC3
 dsimp only
 repeat (first | ((with_reducible refine guardStore (ty := 29) ?_); refine wpList_storeF vR rfl rfl (by kernel_rfl) rfl (of_decide_eq_true rfl) rfl ?_; intro w' vR_ t_) | go_values | go_skip | go_guarded | go_step | go_upon)
 have t1 : Turned (fun b => b = w.heap.size) w4 w' := t_
 have hC : CurV 108 pb zs v q3 w' := HC4.out.keep t1 (fun b hb => by omega)
 have hT : Turned (fun b => b = pb) w w' := HT.out.then t1 (fun i hi hs => by omega)
 have hsz := t1.size
 have HO3_ : OwV w' (fun b => w3.heap.size ≤ b ∧ b < w4.heap.size) (.slice a3 l3 c3) (ensDt es3) := HO3.out.keep (t1.keeps (fun b hb hs => by omega))
 refine bodyPost_ret (results_cell_row Tryz.results153 _ _ _ _ _ _ _ rfl vR_ Tryz.underlying29 rfl (by kernel_rfl)) rfl ?_
 exact ⟨_, _, _, rfl, HO3_.mono (fun b hb => ⟨by omega, by omega⟩), hC, hT⟩
end
end Go.Proofs.YtklhikadhohjbaaGreat
