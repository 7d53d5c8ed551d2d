/- Joined: RdI Ents2 RdE RdI2 Cls. -/
import Derived.Test.YtbnjhjgjmckedaaGreatJ04
import Derived.Test.YtbnjhjgjmckedaaGreatJ02
import Derived.Deep.AppendLies
import Derived.BigQuiet

section
/- The program reads flags, handles, transactions' numbers, operations, parts. Condition: at most 2,000,000 bytes. -/
namespace Go.Proofs.YtbnjhjgjmckedaaGreat
open Go.RowKit
set_option linter.unusedVariables false
set_option linter.unusedSimpArgs false
set_option maxRecDepth 100000

set_option maxHeartbeats 2000000 in
theorem implFlagC (pb : Nat) (zs : List Int) (v : Value) (p : Int) (w : World) (h : CurV 69 pb zs v p w) (hl : zs.length ≤ 2000000) :
    Calls Tryz.prog 115 #[.pointer (some ⟨pb, 0, none⟩)] w fun e w' => e = .returned (.bool (rdFlag zs p).1) ∧ Gone 69 pb zs v (rdFlag zs p).2 w w' := by
  have hz := RdV.zs h.2.1
  rw [← flag_num p hz]
  have HN : Hid _ := implNumC pb zs v p w h hl
  have HA : Hid _ := getNum_at hz p
  clear h
  generalize getNum zs p = g at HN HA ⊢
  obtain ⟨n, nx⟩ := g
  dsimp only at HN HA ⊢
  have HF : Hid (∀ W, Calls Tryz.prog 124 #[.int .i64 n] W fun e w' => e = .returned (.bool (decide (n = 0) || decide (n = 1))) ∧ w' = W) := fun W => by
    go_enter Tryz.func124, Tryz.ntmps124
    go_wp2
    all_goals (go_ret; exact ⟨by first | rfl | (simp_all; done) | (simp_all; omega) | (simp_all; rw [Bool.eq_iff_iff]; simp; done), rfl⟩)
  have hbq : (n == 1) = decide (n = 1) := by simp [BEq.beq]
  by_cases hn : n = 0 ∨ n = 1
  · have hb : (decide (n = 0) || decide (n = 1)) = true := by simpa using hn
    rw [hb] at HF
    rw [if_pos hn]
    go_enter Tryz.func115, Tryz.ntmps115
    go_wp2_with fail
    refine Calls.mono HN.out ?_
    rintro e w2 ⟨rfl, hc, ht⟩
    have HC : Hid _ := hc
    have HT : Hid _ := ht
    clear hc ht HN
    go_wp2_with (go_at_call 124; refine Calls.mono (HF.out _) ?_; rintro e w' ⟨rfl, rfl⟩)
    all_goals (go_ret; exact ⟨by first | rfl | simp [hbq] | simp_all, HC.out, HT.out⟩)
  · have hb : (decide (n = 0) || decide (n = 1)) = false := by simp only [Bool.or_eq_false_iff, decide_eq_false_iff_not]; omega
    rw [hb] at HF
    rw [if_neg hn]
    go_enter Tryz.func115, Tryz.ntmps115
    go_wp2_with fail
    refine Calls.mono HN.out ?_
    rintro e w2 ⟨rfl, hc, ht⟩
    obtain ⟨c0, c1⟩ := VarA.l2 hc.1
    have hf := VarA.fz hc.1
    have HC : Hid (CurV 69 pb zs v (-1) (w2.setCell ⟨pb, 1, none⟩ (.int .i64 (-1)))) := CurV.put hc (-1) (by omega) (by omega)
    have HT : Hid (Turned (fun b => b = pb) w (w2.setCell ⟨pb, 1, none⟩ (.int .i64 (-1)))) := ht.set _ _ rfl
    clear hc ht HN
    go_wp2_with (go_at_call 124; refine Calls.mono (HF.out _) ?_; rintro e w' ⟨rfl, rfl⟩)
    all_goals (go_ret; exact ⟨by first | rfl | simp [hbq] | simp_all, HC.out, HT.out⟩)
set_option maxHeartbeats 4000000 in
theorem implHandC (pb : Nat) (zs : List Int) (v : Value) (p : Int) (w : World) (h : CurV 69 pb zs v p w) (hl : zs.length ≤ 2000000) :
    Calls Tryz.prog 90 #[.pointer (some ⟨pb, 0, none⟩)] w fun e w' => e = .returned (Hd.v (rdHd zs p).1) ∧ Gone 69 pb zs v (rdHd zs p).2 w w' := by
  have hz := RdV.zs h.2.1
  have hpl := h.lt
  obtain ⟨n0, q0, e0⟩ : ∃ x q, getNum zs p = (x, q) := ⟨_, _, rfl⟩
  have H0 : Hid (∀ W, CurV 69 pb zs v p W → _) := fun W hW => by have h_ := implNumC pb zs v p W hW hl; rw [e0] at h_; exact h_
  obtain ⟨n1, q1, e1⟩ : ∃ x q, getNum zs q0 = (x, q) := ⟨_, _, rfl⟩
  have H1 : Hid (∀ W, CurV 69 pb zs v q0 W → _) := fun W hW => by have h_ := implNumC pb zs v q0 W hW hl; rw [e1] at h_; exact h_
  obtain ⟨b2, q2, e2⟩ : ∃ x q, rdFlag zs q1 = (x, q) := ⟨_, _, rfl⟩
  have H2 : Hid (∀ W, CurV 69 pb zs v q1 W → _) := fun W hW => by have h_ := implFlagC pb zs v q1 W hW hl; rw [e2] at h_; exact h_
  have hR : rdHd zs p = ((n0, n1, b2), q2) := by simp [rdHd, e0, e1, e2]
  rw [hR]
  clear hR e0 e1 e2
  have HC0 : Hid (CurV 69 pb zs v p w) := h
  clear h
  dsimp only
  go_enter Tryz.func90, Tryz.ntmps90
  go_wp2_with fail
  refine Calls.mono (H0.out _ (HC0.out.alloc _)) ?_
  rintro e w1 ⟨rfl, hc_, t_⟩
  have HT : Hid (Turned (fun b => b = pb) w w1) := (Turned.ofBelow (Below.new1 (w := w) _)).trans t_
  have vR : VarA w1 w.heap.size 24 #[.int .i64 0, .int .i64 0, .bool false] := VarA.turn (VarA.new w _ _) t_ (by omega)
  have hx0 := t_.size
  simp at hx0
  have HC1 : Hid (CurV 69 pb zs v q0 w1) := hc_
  clear hc_ t_ H0 HC0
  go_wp2_with fail
  refine Calls.mono (H1.out _ HC1.out) ?_
  rintro e w2 ⟨rfl, hc_, t_⟩
  have HT_ : Hid (Turned (fun b => b = pb) w w2) := HT.out.trans t_
  clear HT
  have HT := HT_
  clear HT_
  have vR_ := vR.turn t_ (by omega)
  clear vR
  have vR := vR_
  clear vR_
  have hx1 := t_.size
  have HC2 : Hid (CurV 69 pb zs v q1 w2) := hc_
  clear hc_ t_ H1 HC1
  go_wp2_with fail
  refine Calls.mono (H2.out _ HC2.out) ?_
  rintro e w3 ⟨rfl, hc_, t_⟩
  have HT_ : Hid (Turned (fun b => b = pb) w w3) := HT.out.trans t_
  clear HT
  have HT := HT_
  clear HT_
  have vR_ := vR.turn t_ (by omega)
  clear vR
  have vR := vR_
  clear vR_
  have hx2 := t_.size
  have HC3 : Hid (CurV 69 pb zs v q2 w3) := hc_
  clear hc_ t_ H2 HC2
  dsimp only
  repeat (first | ((with_reducible refine guardStore (ty := 24) ?_); refine wpList_storeF vR rfl rfl (by kernel_rfl) rfl (of_decide_eq_true rfl) rfl ?_; intro w' vR_ t_) | go_values | go_skip | go_guarded | go_step | go_upon)
  have t1 : Turned (fun b => b = w.heap.size) w3 w' := t_
  have hC : CurV 69 pb zs v q2 w' := HC3.out.keep t1 (fun b hb => by omega)
  have hT : Turned (fun b => b = pb) w w' := HT.out.then t1 (fun i hi hs => by omega)
  have hsz := t1.size
  refine bodyPost_ret (results_cell_row Tryz.results90 _ _ _ _ _ _ _ rfl vR_ Tryz.underlying24 rfl (by kernel_rfl)) rfl ?_
  exact ⟨rfl, hC, hT⟩
set_option maxHeartbeats 4000000 in
theorem implTxC (pb : Nat) (zs : List Int) (v : Value) (p : Int) (w : World) (h : CurV 69 pb zs v p w) (hl : zs.length ≤ 2000000) :
    Calls Tryz.prog 88 #[.pointer (some ⟨pb, 0, none⟩)] w fun e w' => e = .returned (txV (rdTx zs p).1) ∧ Gone 69 pb zs v (rdTx zs p).2 w w' := by
  have hz := RdV.zs h.2.1
  have hpl := h.lt
  obtain ⟨n0, q0, e0⟩ : ∃ x q, getNum zs p = (x, q) := ⟨_, _, rfl⟩
  have H0 : Hid (∀ W, CurV 69 pb zs v p W → _) := fun W hW => by have h_ := implNumC pb zs v p W hW hl; rw [e0] at h_; exact h_
  obtain ⟨n1, q1, e1⟩ : ∃ x q, getNum zs q0 = (x, q) := ⟨_, _, rfl⟩
  have H1 : Hid (∀ W, CurV 69 pb zs v q0 W → _) := fun W hW => by have h_ := implNumC pb zs v q0 W hW hl; rw [e1] at h_; exact h_
  obtain ⟨n2, q2, e2⟩ : ∃ x q, getNum zs q1 = (x, q) := ⟨_, _, rfl⟩
  have H2 : Hid (∀ W, CurV 69 pb zs v q1 W → _) := fun W hW => by have h_ := implNumC pb zs v q1 W hW hl; rw [e2] at h_; exact h_
  have hR : rdTx zs p = ((n0, n1, n2), q2) := by simp [rdTx, e0, e1, e2]
  rw [hR]
  clear hR e0 e1 e2
  have HC0 : Hid (CurV 69 pb zs v p w) := h
  clear h
  dsimp only
  go_enter Tryz.func88, Tryz.ntmps88
  go_wp2_with fail
  refine Calls.mono (H0.out _ (HC0.out.alloc _)) ?_
  rintro e w1 ⟨rfl, hc_, t_⟩
  have HT : Hid (Turned (fun b => b = pb) w w1) := (Turned.ofBelow (Below.new1 (w := w) _)).trans t_
  have vR : VarA w1 w.heap.size 31 #[.int .i64 0, .int .i64 0, .int .i64 0] := VarA.turn (VarA.new w _ _) t_ (by omega)
  have hx0 := t_.size
  simp at hx0
  have HC1 : Hid (CurV 69 pb zs v q0 w1) := hc_
  clear hc_ t_ H0 HC0
  go_wp2_with fail
  refine Calls.mono (H1.out _ HC1.out) ?_
  rintro e w2 ⟨rfl, hc_, t_⟩
  have HT_ : Hid (Turned (fun b => b = pb) w w2) := HT.out.trans t_
  clear HT
  have HT := HT_
  clear HT_
  have vR_ := vR.turn t_ (by omega)
  clear vR
  have vR := vR_
  clear vR_
  have hx1 := t_.size
  have HC2 : Hid (CurV 69 pb zs v q1 w2) := hc_
  clear hc_ t_ H1 HC1
  go_wp2_with fail
  refine Calls.mono (H2.out _ HC2.out) ?_
  rintro e w3 ⟨rfl, hc_, t_⟩
  have HT_ : Hid (Turned (fun b => b = pb) w w3) := HT.out.trans t_
  clear HT
  have HT := HT_
  clear HT_
  have vR_ := vR.turn t_ (by omega)
  clear vR
  have vR := vR_
  clear vR_
  have hx2 := t_.size
  have HC3 : Hid (CurV 69 pb zs v q2 w3) := hc_
  clear hc_ t_ H2 HC2
  dsimp only
  repeat (first | ((with_reducible refine guardStore (ty := 31) ?_); refine wpList_storeF vR rfl rfl (by kernel_rfl) rfl (of_decide_eq_true rfl) rfl ?_; intro w' vR_ t_) | go_values | go_skip | go_guarded | go_step | go_upon)
  have t1 : Turned (fun b => b = w.heap.size) w3 w' := t_
  have hC : CurV 69 pb zs v q2 w' := HC3.out.keep t1 (fun b hb => by omega)
  have hT : Turned (fun b => b = pb) w w' := HT.out.then t1 (fun i hi hs => by omega)
  have hsz := t1.size
  refine bodyPost_ret (results_cell_row Tryz.results88 _ _ _ _ _ _ _ rfl vR_ Tryz.underlying31 rfl (by kernel_rfl)) rfl ?_
  exact ⟨rfl, hC, hT⟩
set_option maxHeartbeats 4000000 in
theorem implOpC (pb : Nat) (zs : List Int) (v : Value) (p : Int) (w : World) (h : CurV 69 pb zs v p w) (hl : zs.length ≤ 2000000) :
    Calls Tryz.prog 86 #[.pointer (some ⟨pb, 0, none⟩)] w fun e w' => ∃ a n c a2 n2 c2 M, e = .returned (opV (rdOp zs p).1 (.slice a n c) (.slice a2 n2 c2)) ∧ OwV w' (fun b => w.heap.size ≤ b ∧ b < M) (.slice a n c) (.bytes (rdOp zs p).1.nm) ∧ OwV w' (fun b => M ≤ b ∧ b < w'.heap.size) (.slice a2 n2 c2) (.bytes (rdOp zs p).1.asn) ∧ w.heap.size ≤ M ∧ M ≤ w'.heap.size ∧ Gone 69 pb zs v (rdOp zs p).2 w w' := by
  have hz := RdV.zs h.2.1
  have hpl := h.lt
  obtain ⟨n0, q0, e0⟩ : ∃ x q, getNum zs p = (x, q) := ⟨_, _, rfl⟩
  have H0 : Hid (∀ W, CurV 69 pb zs v p W → _) := fun W hW => by have h_ := implNumC pb zs v p W hW hl; rw [e0] at h_; exact h_
  obtain ⟨⟨hs1, hi1, hd1⟩, q1, e1⟩ : ∃ x q, rdHd zs q0 = (x, q) := ⟨_, _, rfl⟩
  have H1 : Hid (∀ W, CurV 69 pb zs v q0 W → _) := fun W hW => by have h_ := implHandC pb zs v q0 W hW hl; rw [e1] at h_; exact h_
  obtain ⟨ts2, q2, e2⟩ : ∃ x q, getText zs q1 = (x, q) := ⟨_, _, rfl⟩
  have H2 : Hid (∀ W, CurV 69 pb zs v q1 W → _) := fun W hW => by have h_ := implTextC pb zs v q1 W hW hl; rw [e2] at h_; exact h_
  obtain ⟨⟨hs3, hi3, hd3⟩, q3, e3⟩ : ∃ x q, rdHd zs q2 = (x, q) := ⟨_, _, rfl⟩
  have H3 : Hid (∀ W, CurV 69 pb zs v q2 W → _) := fun W hW => by have h_ := implHandC pb zs v q2 W hW hl; rw [e3] at h_; exact h_
  obtain ⟨ts4, q4, e4⟩ : ∃ x q, getText zs q3 = (x, q) := ⟨_, _, rfl⟩
  have H4 : Hid (∀ W, CurV 69 pb zs v q3 W → _) := fun W hW => by have h_ := implTextC pb zs v q3 W hW hl; rw [e4] at h_; exact h_
  obtain ⟨n5, q5, e5⟩ : ∃ x q, getNum zs q4 = (x, q) := ⟨_, _, rfl⟩
  have H5 : Hid (∀ W, CurV 69 pb zs v q4 W → _) := fun W hW => by have h_ := implNumC pb zs v q4 W hW hl; rw [e5] at h_; exact h_
  have hR : rdOp zs p = (⟨n0, (hs1, hi1, hd1), ts2, (hs3, hi3, hd3), ts4, n5⟩, q5) := by simp [rdOp, e0, e1, e2, e3, e4, e5]
  rw [hR]
  clear hR e0 e1 e2 e3 e4 e5
  have HC0 : Hid (CurV 69 pb zs v p w) := h
  clear h
  dsimp only
  go_enter Tryz.func86, Tryz.ntmps86
  go_wp2_with fail
  refine Calls.mono (H0.out _ (HC0.out.alloc _)) ?_
  rintro e w1 ⟨rfl, hc_, t_⟩
  have HT : Hid (Turned (fun b => b = pb) w w1) := (Turned.ofBelow (Below.new1 (w := w) _)).trans t_
  have vR : VarA w1 w.heap.size 26 #[.int .i64 0, .int .i64 0, .int .i64 0, .bool false, .slice none 0 0, .int .i64 0, .int .i64 0, .bool false, .slice none 0 0, .int .i64 0] := VarA.turn (VarA.new w _ _) t_ (by omega)
  have hx0 := t_.size
  simp at hx0
  have HC1 : Hid (CurV 69 pb zs v q0 w1) := hc_
  clear hc_ t_ H0 HC0
  go_wp2_with fail
  refine Calls.mono (H1.out _ HC1.out) ?_
  rintro e w2 ⟨rfl, hc_, t_⟩
  have HT_ : Hid (Turned (fun b => b = pb) w w2) := HT.out.trans t_
  clear HT
  have HT := HT_
  clear HT_
  have vR_ := vR.turn t_ (by omega)
  clear vR
  have vR := vR_
  clear vR_
  have hx1 := t_.size
  have HC2 : Hid (CurV 69 pb zs v q1 w2) := hc_
  clear hc_ t_ H1 HC1
  go_wp2_with fail
  refine Calls.mono (H2.out _ HC2.out) ?_
  rintro e w3 ⟨a2, l2, c2, rfl, o2, hc_, t_⟩
  have HT_ : Hid (Turned (fun b => b = pb) w w3) := HT.out.trans t_
  clear HT
  have HT := HT_
  clear HT_
  have vR_ := vR.turn t_ (by omega)
  clear vR
  have vR := vR_
  clear vR_
  have hx2 := t_.size
  have HO2 : Hid (OwV w3 (fun b => w2.heap.size ≤ b ∧ b < w3.heap.size) (.slice a2 l2 c2) (.bytes ts2)) := o2
  clear o2
  have HC3 : Hid (CurV 69 pb zs v q2 w3) := hc_
  clear hc_ t_ H2 HC2
  go_wp2_with fail
  refine Calls.mono (H3.out _ HC3.out) ?_
  rintro e w4 ⟨rfl, hc_, t_⟩
  have HT_ : Hid (Turned (fun b => b = pb) w w4) := HT.out.trans t_
  clear HT
  have HT := HT_
  clear HT_
  have vR_ := vR.turn t_ (by omega)
  clear vR
  have vR := vR_
  clear vR_
  have hx3 := t_.size
  have HO2_ : Hid (OwV w4 (fun b => w2.heap.size ≤ b ∧ b < w3.heap.size) (.slice a2 l2 c2) (.bytes ts2)) := HO2.out.keep (t_.keeps (fun b hb hs => by omega))
  clear HO2
  have HO2 := HO2_
  clear HO2_
  have HC4 : Hid (CurV 69 pb zs v q3 w4) := hc_
  clear hc_ t_ H3 HC3
  go_wp2_with fail
  refine Calls.mono (H4.out _ HC4.out) ?_
  rintro e w5 ⟨a4, l4, c4, rfl, o4, hc_, t_⟩
  have HT_ : Hid (Turned (fun b => b = pb) w w5) := HT.out.trans t_
  clear HT
  have HT := HT_
  clear HT_
  have vR_ := vR.turn t_ (by omega)
  clear vR
  have vR := vR_
  clear vR_
  have hx4 := t_.size
  have HO2_ : Hid (OwV w5 (fun b => w2.heap.size ≤ b ∧ b < w3.heap.size) (.slice a2 l2 c2) (.bytes ts2)) := HO2.out.keep (t_.keeps (fun b hb hs => by omega))
  clear HO2
  have HO2 := HO2_
  clear HO2_
  have HO4 : Hid (OwV w5 (fun b => w4.heap.size ≤ b ∧ b < w5.heap.size) (.slice a4 l4 c4) (.bytes ts4)) := o4
  clear o4
  have HC5 : Hid (CurV 69 pb zs v q4 w5) := hc_
  clear hc_ t_ H4 HC4
  go_wp2_with fail
  refine Calls.mono (H5.out _ HC5.out) ?_
  rintro e w6 ⟨rfl, hc_, t_⟩
  have HT_ : Hid (Turned (fun b => b = pb) w w6) := HT.out.trans t_
  clear HT
  have HT := HT_
  clear HT_
  have vR_ := vR.turn t_ (by omega)
  clear vR
  have vR := vR_
  clear vR_
  have hx5 := t_.size
  have HO2_ : Hid (OwV w6 (fun b => w2.heap.size ≤ b ∧ b < w3.heap.size) (.slice a2 l2 c2) (.bytes ts2)) := HO2.out.keep (t_.keeps (fun b hb hs => by omega))
  clear HO2
  have HO2 := HO2_
  clear HO2_
  have HO4_ : Hid (OwV w6 (fun b => w4.heap.size ≤ b ∧ b < w5.heap.size) (.slice a4 l4 c4) (.bytes ts4)) := HO4.out.keep (t_.keeps (fun b hb hs => by omega))
  clear HO4
  have HO4 := HO4_
  clear HO4_
  have HC6 : Hid (CurV 69 pb zs v q5 w6) := hc_
  clear hc_ t_ H5 HC5
  dsimp only
  repeat (first | ((with_reducible refine guardStore (ty := 26) ?_); refine wpList_storeF vR rfl rfl (by kernel_rfl) rfl (of_decide_eq_true rfl) rfl ?_; intro w' vR_ t_) | go_values | go_skip | go_guarded | go_step | go_upon)
  have t1 : Turned (fun b => b = w.heap.size) w6 w' := t_
  have hC : CurV 69 pb zs v q5 w' := HC6.out.keep t1 (fun b hb => by omega)
  have hT : Turned (fun b => b = pb) w w' := HT.out.then t1 (fun i hi hs => by omega)
  have hsz := t1.size
  have HO2_ : OwV w' (fun b => w2.heap.size ≤ b ∧ b < w3.heap.size) (.slice a2 l2 c2) (.bytes ts2) := HO2.out.keep (t1.keeps (fun b hb hs => by omega))
  have HO4_ : OwV w' (fun b => w4.heap.size ≤ b ∧ b < w5.heap.size) (.slice a4 l4 c4) (.bytes ts4) := HO4.out.keep (t1.keeps (fun b hb hs => by omega))
  refine bodyPost_ret (results_cell_row Tryz.results86 _ _ _ _ _ _ _ rfl vR_ Tryz.underlying26 rfl (by kernel_rfl)) rfl ?_
  exact ⟨_, _, _, _, _, _, w3.heap.size, rfl, HO2_.mono (fun b hb => ⟨by omega, hb.2⟩), HO4_.mono (fun b hb => ⟨by omega, by omega⟩), by omega, by omega, hC, hT⟩
set_option maxHeartbeats 4000000 in
theorem implPartC (pb : Nat) (zs : List Int) (v : Value) (p : Int) (w : World) (h : CurV 69 pb zs v p w) (hl : zs.length ≤ 2000000) :
    Calls Tryz.prog 89 #[.pointer (some ⟨pb, 0, none⟩)] w fun e w' => ∃ a n c, e = .returned (ptV (rdPt zs p).1 (.slice a n c)) ∧ OwV w' (fun b => w.heap.size ≤ b ∧ b < w'.heap.size) (.slice a n c) (.bytes (rdPt zs p).1.asn) ∧ Gone 69 pb zs v (rdPt zs p).2 w w' := by
  have hz := RdV.zs h.2.1
  have hpl := h.lt
  obtain ⟨n0, q0, e0⟩ : ∃ x q, getNum zs p = (x, q) := ⟨_, _, rfl⟩
  have H0 : Hid (∀ W, CurV 69 pb zs v p W → _) := fun W hW => by have h_ := implNumC pb zs v p W hW hl; rw [e0] at h_; exact h_
  obtain ⟨⟨hs1, hi1, hd1⟩, q1, e1⟩ : ∃ x q, rdHd zs q0 = (x, q) := ⟨_, _, rfl⟩
  have H1 : Hid (∀ W, CurV 69 pb zs v q0 W → _) := fun W hW => by have h_ := implHandC pb zs v q0 W hW hl; rw [e1] at h_; exact h_
  obtain ⟨ts2, q2, e2⟩ : ∃ x q, getText zs q1 = (x, q) := ⟨_, _, rfl⟩
  have H2 : Hid (∀ W, CurV 69 pb zs v q1 W → _) := fun W hW => by have h_ := implTextC pb zs v q1 W hW hl; rw [e2] at h_; exact h_
  obtain ⟨⟨hs3, hi3, hd3⟩, q3, e3⟩ : ∃ x q, rdHd zs q2 = (x, q) := ⟨_, _, rfl⟩
  have H3 : Hid (∀ W, CurV 69 pb zs v q2 W → _) := fun W hW => by have h_ := implHandC pb zs v q2 W hW hl; rw [e3] at h_; exact h_
  have hR : rdPt zs p = (⟨n0, (hs1, hi1, hd1), ts2, (hs3, hi3, hd3)⟩, q3) := by simp [rdPt, e0, e1, e2, e3]
  rw [hR]
  clear hR e0 e1 e2 e3
  have HC0 : Hid (CurV 69 pb zs v p w) := h
  clear h
  dsimp only
  go_enter Tryz.func89, Tryz.ntmps89
  go_wp2_with fail
  refine Calls.mono (H0.out _ (HC0.out.alloc _)) ?_
  rintro e w1 ⟨rfl, hc_, t_⟩
  have HT : Hid (Turned (fun b => b = pb) w w1) := (Turned.ofBelow (Below.new1 (w := w) _)).trans t_
  have vR : VarA w1 w.heap.size 33 #[.int .i64 0, .int .i64 0, .int .i64 0, .bool false, .slice none 0 0, .int .i64 0, .int .i64 0, .bool false] := VarA.turn (VarA.new w _ _) t_ (by omega)
  have hx0 := t_.size
  simp at hx0
  have HC1 : Hid (CurV 69 pb zs v q0 w1) := hc_
  clear hc_ t_ H0 HC0
  go_wp2_with fail
  refine Calls.mono (H1.out _ HC1.out) ?_
  rintro e w2 ⟨rfl, hc_, t_⟩
  have HT_ : Hid (Turned (fun b => b = pb) w w2) := HT.out.trans t_
  clear HT
  have HT := HT_
  clear HT_
  have vR_ := vR.turn t_ (by omega)
  clear vR
  have vR := vR_
  clear vR_
  have hx1 := t_.size
  have HC2 : Hid (CurV 69 pb zs v q1 w2) := hc_
  clear hc_ t_ H1 HC1
  go_wp2_with fail
  refine Calls.mono (H2.out _ HC2.out) ?_
  rintro e w3 ⟨a2, l2, c2, rfl, o2, hc_, t_⟩
  have HT_ : Hid (Turned (fun b => b = pb) w w3) := HT.out.trans t_
  clear HT
  have HT := HT_
  clear HT_
  have vR_ := vR.turn t_ (by omega)
  clear vR
  have vR := vR_
  clear vR_
  have hx2 := t_.size
  have HO2 : Hid (OwV w3 (fun b => w2.heap.size ≤ b ∧ b < w3.heap.size) (.slice a2 l2 c2) (.bytes ts2)) := o2
  clear o2
  have HC3 : Hid (CurV 69 pb zs v q2 w3) := hc_
  clear hc_ t_ H2 HC2
  go_wp2_with fail
  refine Calls.mono (H3.out _ HC3.out) ?_
  rintro e w4 ⟨rfl, hc_, t_⟩
  have HT_ : Hid (Turned (fun b => b = pb) w w4) := HT.out.trans t_
  clear HT
  have HT := HT_
  clear HT_
  have vR_ := vR.turn t_ (by omega)
  clear vR
  have vR := vR_
  clear vR_
  have hx3 := t_.size
  have HO2_ : Hid (OwV w4 (fun b => w2.heap.size ≤ b ∧ b < w3.heap.size) (.slice a2 l2 c2) (.bytes ts2)) := HO2.out.keep (t_.keeps (fun b hb hs => by omega))
  clear HO2
  have HO2 := HO2_
  clear HO2_
  have HC4 : Hid (CurV 69 pb zs v q3 w4) := hc_
  clear hc_ t_ H3 HC3
  dsimp only
  repeat (first | ((with_reducible refine guardStore (ty := 33) ?_); refine wpList_storeF vR rfl rfl (by kernel_rfl) rfl (of_decide_eq_true rfl) rfl ?_; intro w' vR_ t_) | go_values | go_skip | go_guarded | go_step | go_upon)
  have t1 : Turned (fun b => b = w.heap.size) w4 w' := t_
  have hC : CurV 69 pb zs v q3 w' := HC4.out.keep t1 (fun b hb => by omega)
  have hT : Turned (fun b => b = pb) w w' := HT.out.then t1 (fun i hi hs => by omega)
  have hsz := t1.size
  have HO2_ : OwV w' (fun b => w2.heap.size ≤ b ∧ b < w3.heap.size) (.slice a2 l2 c2) (.bytes ts2) := HO2.out.keep (t1.keeps (fun b hb hs => by omega))
  refine bodyPost_ret (results_cell_row Tryz.results89 _ _ _ _ _ _ _ rfl vR_ Tryz.underlying33 rfl (by kernel_rfl)) rfl ?_
  exact ⟨_, _, _, rfl, HO2_.mono (fun b hb => ⟨by omega, by omega⟩), hC, hT⟩
end Go.Proofs.YtbnjhjgjmckedaaGreat
end

section
/- Entries, copied by the verifier's helpers. Condition: at most 2^21 of them, of at most 2^21 bytes each. -/
namespace Go.Proofs.YtbnjhjgjmckedaaGreat
open Go.RowKit
set_option linter.unusedVariables false

theorem toByteS_d (v : Value) (zs : List Int) (S : Nat → Prop) (w : World) (r : RdV w S v (.bytes zs)) (hl : zs.length ≤ 2097152) :
    Calls Tryz.prog 14 #[v] w fun e w' => ∃ a n c, e = .returned (.slice a n c) ∧ OwV w' (fun b => w.heap.size ≤ b ∧ b < w'.heap.size) (.slice a n c) (.bytes zs) ∧ Below w.heap.size w w' := by
  obtain ⟨a, cap, rfl, hh, hr⟩ := r.b.reads
  refine (toByteS_v a zs zs.length cap w hr rfl hl).mono ?_
  rintro e w' ⟨u, rfl, ho, hb⟩
  obtain ⟨a', c', rfl, _, _⟩ := ho.shape
  exact ⟨_, _, _, rfl, OwV.ofOwns hr.1 ho, hb⟩

theorem Tryz.infoEn : (Tryz.prog.info? 132).map (fun i => (i.zero, i.size, i.bytes)) = some (some (.agg #[.slice none 0 0, .int .i64 0, .int .i64 0, .bool false]), 4, 48) := by kernel_rfl
/-- The first k of n are copied. -/
def PrtEn (l : List En) (B n k : Nat) (w : World) : Prop := OwV w (fun b => B ≤ b ∧ b < w.heap.size) (.slice (some ⟨B, 0, none⟩) n n) (.rows 132 4 n (fun i j => if i < k then enCell (l[i]?.getD en0) j else enCell en0 j))
theorem PrtEn.next {l : List En} {B n k : Nat} {w w2 : World} {u : Value} {e : En} (h : PrtEn l B n k w) (hk : k < n) (hB : B ≤ w.heap.size) (hb : Below w.heap.size w w2) (he : l[k]?.getD en0 = e)
    (o : OwV w2 (fun b => w.heap.size ≤ b ∧ b < w2.heap.size) u (.bytes e.nm)) : PrtEn l B n (k + 1) ((((w2.setCell ⟨B, k * 4, none⟩ u).setCell ⟨B, k * 4 + 1, none⟩ (.int .i64 e.h.sh)).setCell ⟨B, k * 4 + 2, none⟩ (.int .i64 e.h.ino)).setCell ⟨B, k * 4 + 3, none⟩ (.bool e.h.dir)) := by
  have hs := hb.size
  have h2 := OwV.step h hb
  have p0 := OwV.put h2 hk (j := 0) (by omega) o (fun b hb hs => by omega)
  have p1 := OwV.put0 p0 hk (j := 1) (by omega) (u := .int .i64 e.h.sh) (d := .int e.h.sh) rfl
  have p2 := OwV.put0 p1 hk (j := 2) (by omega) (u := .int .i64 e.h.ino) (d := .int e.h.ino) rfl
  have p3 := OwV.put0 p2 hk (j := 3) (by omega) (u := .bool e.h.dir) (d := .bool e.h.dir) rfl
  refine OwV.mono (fun b hb => ?_) (OwV.congr p3 (fun i j hi hj => ?_))
  · have hz : ((((w2.setCell ⟨B, k * 4, none⟩ u).setCell ⟨B, k * 4 + 1, none⟩ (.int .i64 e.h.sh)).setCell ⟨B, k * 4 + 2, none⟩ (.int .i64 e.h.ino)).setCell ⟨B, k * 4 + 3, none⟩ (.bool e.h.dir)).heap.size = w2.heap.size := by simp
    show B ≤ b ∧ b < ((((w2.setCell ⟨B, k * 4, none⟩ u).setCell ⟨B, k * 4 + 1, none⟩ (.int .i64 e.h.sh)).setCell ⟨B, k * 4 + 2, none⟩ (.int .i64 e.h.ino)).setCell ⟨B, k * 4 + 3, none⟩ (.bool e.h.dir)).heap.size
    rw [hz]
    rcases hb with hb | hb <;> omega
  · by_cases hik : i = k
    · subst hik
      rw [if_pos (by omega), he]
      match j, hj with
      | 0, _ => simp [upd]; rfl
      | 1, _ => simp [upd]; rfl
      | 2, _ => simp [upd]; rfl
      | 3, _ => simp [upd]; rfl
    · have e1 : (i < k + 1) = (i < k) := by simp; omega
      simp only [upd, hik, false_and, if_false, e1]

end Go.Proofs.YtbnjhjgjmckedaaGreat
end

section
/- An entry put behind entries of the call's own, by append; the entries that were read, one by one. Condition: at most 4,000 of them. -/
namespace Go.Proofs.YtbnjhjgjmckedaaGreat
open Go.RowKit
set_option linter.unusedVariables false
set_option linter.unusedSimpArgs false
set_option maxRecDepth 100000

def enVal (e : En) (u : Value) : Nat → Value
  | 0 => u
  | 1 => .int .i64 e.h.sh
  | 2 => .int .i64 e.h.ino
  | _ => .bool e.h.dir
theorem OwV.snocEn {w w' : World} {lo hi hi2 g cap : Nat} {v u : Value} {l : List En} {e : En} (hown : OwV w (fun b => lo ≤ b ∧ b < hi) v (ensDt l)) (hu : OwV w (fun b => hi ≤ b ∧ b < hi2) u (.bytes e.nm)) (h2 : hi2 ≤ w.heap.size) (hh2 : hi ≤ hi2) (hlh : lo ≤ hi)
    (C : List Value) (hC : w.ownsRow 0 132 4 v l.length C) (V : Nat → Nat → Value) (Q : Nat → Nat → Nat → Prop) (hS : ∀ b, v.ownBlock = some b → lo ≤ b ∧ b < hi) (hV : ∀ i j, i < l.length → j < 4 → C[i * 4 + j]? = some (V i j)) (hQ : ∀ i j, i < l.length → j < 4 → OwV w (Q i j) (V i j) (enCell (l[i]?.getD en0) j))
    (hq1 : ∀ i j b, i < l.length → j < 4 → Q i j b → (lo ≤ b ∧ b < hi) ∧ v.ownBlock ≠ some b) (hq2 : ∀ i j i' j' b, i < l.length → j < 4 → i' < l.length → j' < 4 → Q i j b → Q i' j' b → i = i' ∧ j = j')
    (ho : w'.ownsRow 0 132 4 (.slice (some ⟨g, 0, none⟩) (l.length + 1) cap) (l.length + 1) (C ++ [u, .int .i64 e.h.sh, .int .i64 e.h.ino, .bool e.h.dir])) (hg : w.grownBy w' v.ownBlock) (hgg : v.ownBlock = some g ∨ g = w.heap.size) (hgl : g < w'.heap.size) :
    OwV w' (fun b => lo ≤ b ∧ b < w'.heap.size) (.slice (some ⟨g, 0, none⟩) (l.length + 1) cap) (ensDt (l ++ [e])) := by
  have hsz := hg.size
  have hCl : C.length = l.length * 4 := hC.1
  have hkeep : ∀ (R : Nat → Prop), (∀ b, R b → v.ownBlock ≠ some b) → Keeps R w w' := fun R hR => ⟨hsz, fun b hb hlt => hg.block b hlt (fun h => hR b hb h.symm)⟩
  have hln : (l ++ [e]).length = l.length + 1 := by simp
  unfold ensDt
  rw [hln]
  refine OwV.mkRows ⟨fun i j => if i < l.length then V i j else enVal e u j, _, fun i j => if i < l.length then Q i j else if j = 0 then (fun b => hi ≤ b ∧ b < hi2) else (fun _ => False), ho, ?_, ?_, ?_, ?_, ?_⟩
  · intro b hb
    obtain rfl : g = b := by simpa [Value.ownBlock] using hb
    rcases hgg with h | h
    · exact ⟨(hS _ h).1, hgl⟩
    · exact ⟨by omega, hgl⟩
  · intro i j hi' hj
    by_cases hlt : i < l.length
    · simp only [hlt, if_true]
      rw [List.getElem?_append_left (by rw [hCl]; exact place_lt hlt hj)]
      exact hV i j hlt hj
    · obtain rfl : i = l.length := by omega
      simp only [Nat.lt_irrefl, if_false]
      rw [List.getElem?_append_right (by omega), hCl, show l.length * 4 + j - l.length * 4 = j by omega]
      match j, hj with
      | 0, _ => rfl
      | 1, _ => rfl
      | 2, _ => rfl
      | 3, _ => rfl
  · intro i j hi' hj
    by_cases hlt : i < l.length
    · simp only [hlt, if_true]
      rw [show (l ++ [e])[i]?.getD en0 = l[i]?.getD en0 by rw [List.getElem?_append_left hlt]]
      exact OwV.keep (hkeep _ (fun b hb => (hq1 i j b hlt hj hb).2)) (hQ i j hlt hj)
    · obtain rfl : i = l.length := by omega
      simp only [Nat.lt_irrefl, if_false]
      rw [show (l ++ [e])[l.length]?.getD en0 = e by simp]
      match j, hj with
      | 0, _ => exact OwV.keep (hkeep (fun b => hi ≤ b ∧ b < hi2) (fun b hb h => by have := hS b h; omega)) hu
      | 1, _ => rfl
      | 2, _ => rfl
      | 3, _ => rfl
  · intro i j b hi' hj hb
    by_cases hlt : i < l.length
    · simp only [hlt, if_true] at hb
      have h1 := hq1 i j b hlt hj hb
      refine ⟨⟨h1.1.1, by omega⟩, ?_⟩
      intro h
      obtain rfl : g = b := by simpa [Value.ownBlock] using h
      rcases hgg with h3 | h3
      · exact h1.2 h3
      · omega
    · simp only [hlt, if_false] at hb
      by_cases hj0 : j = 0
      · simp only [hj0, if_true] at hb
        refine ⟨⟨by omega, by omega⟩, ?_⟩
        intro h
        obtain rfl : g = b := by simpa [Value.ownBlock] using h
        rcases hgg with h3 | h3
        · have := hS _ h3; omega
        · omega
      · simp only [hj0, if_false] at hb
  · intro i j i' j' b hi' hj hi2' hj' hb hb'
    by_cases hlt : i < l.length <;> by_cases hlt' : i' < l.length
    · simp only [hlt, hlt', if_true] at hb hb'
      exact hq2 i j i' j' b hlt hj hlt' hj' hb hb'
    · simp only [hlt, hlt', if_true, if_false] at hb hb'
      have h1 := hq1 i j b hlt hj hb
      by_cases hj0 : j' = 0
      · simp only [hj0, if_true] at hb'; omega
      · simp only [hj0, if_false] at hb'
    · simp only [hlt, hlt', if_true, if_false] at hb hb'
      have h1 := hq1 i' j' b hlt' hj' hb'
      by_cases hj0 : j = 0
      · simp only [hj0, if_true] at hb; omega
      · simp only [hj0, if_false] at hb
    · simp only [hlt, hlt', if_false] at hb hb'
      by_cases hj0 : j = 0 <;> by_cases hj0' : j' = 0
      · exact ⟨by omega, by omega⟩
      · simp only [hj0', if_false] at hb'
      · simp only [hj0, if_false] at hb
      · simp only [hj0, if_false] at hb
/-- append(v, e), v the call's own entries, e laid in the block q. -/
theorem wpList_appEn {ops : Array Oper} {rest : List Oper} {o : Oper} {a : Act} {Q : Exit → Act → World → Prop} (w : World) (hgd : o.guard = none) (s x : Operand)
    (ho : o.op = .call { callee := .builtin .append, args := #[s, x], argTypes := #[27, 27] })
    (v : Value) (hs : a.eval s = v) (l : List En) (e : En) (u : Value) (lo hi hi2 q : Nat) (hx : a.eval x = .slice (some ⟨q, 0, none⟩) 1 1) (hone : u.oneCell' = true) (fr : Nat × Nat) (hq : w.heap[q]? = some (.cells #[u, .int .i64 e.h.sh, .int .i64 e.h.ino, .bool e.h.dir] 132 fr))
    (hown : OwV w (fun b => lo ≤ b ∧ b < hi) v (ensDt l)) (hu : OwV w (fun b => hi ≤ b ∧ b < hi2) u (.bytes e.nm)) (h2 : hi2 ≤ w.heap.size) (hh2 : hi ≤ hi2) (hlh : lo ≤ hi) (hl : l.length ≤ 4000)
    (h : ∀ g n cap w', OwV w' (fun b => lo ≤ b ∧ b < w'.heap.size) (.slice g n cap) (ensDt (l ++ [e])) → Turned (fun b => lo ≤ b ∧ b < hi) w w' → wpList Tryz.prog ops Q rest (a.put o.dst (.slice g n cap)) w') : wpList Tryz.prog ops Q (o :: rest) a w := by
  obtain ⟨i0, hi0, hz0, hz1, hz2⟩ := info_parts Tryz.infoEn
  have hown' := hown
  unfold ensDt at hown'
  obtain ⟨V, C, Qs, h1, hS, h3, h4, h5, h6⟩ := OwV.inv hown'
  refine wpList_append_lies w hgd s x 27 ho 0 132 i0 (.agg #[.slice none 0 0, .int .i64 0, .int .i64 0, .bool false]) 4 48 Tryz.underlying27 hi0 hz0 hz1 hz2 rfl (by decide) v l.length C hs h1 ⟨q, 0, none⟩ 1 1 [u, .int .i64 e.h.sh, .int .i64 e.h.ino, .bool e.h.dir] hx rfl (World.news_of_block hq) (fun y hy => ?_) (by decide) (by unfold maxLen; omega) (by omega) (Nat.zero_le _) w.heap.size rfl ?_
  · simp only [List.mem_cons, List.not_mem_nil, or_false] at hy
    rcases hy with rfl | rfl | rfl | rfl
    · exact hone
    · rfl
    · rfl
    · rfl
  intro g cap w' ho' hg hgg hgl
  exact h _ _ _ w' (OwV.snocEn hown hu h2 hh2 hlh C h1 V Qs hS h3 h4 h5 h6 ho' hg hgg hgl) (Turned.ofGrown hg (fun k hk => hS k hk))
theorem ensP_snoc (zs : List Int) (k : Nat) : ∀ p : Int, rdEnsP zs (k + 1) p = ((rdEnsP zs k p).1 ++ [⟨(getText zs (rdEnsP zs k p).2).1, (rdHd zs (getText zs (rdEnsP zs k p).2).2).1⟩], (rdHd zs (getText zs (rdEnsP zs k p).2).2).2) := by
  induction k with
  | zero => intro p; rfl
  | succ k ih => intro p; rw [rdEnsP, ih]; rfl
theorem ensP_len (zs : List Int) (k : Nat) : ∀ p : Int, (rdEnsP zs k p).1.length = k := by
  induction k with
  | zero => intro p; rfl
  | succ k ih => intro p; rw [rdEnsP]; simp [ih]
/-- The specification's entries, one more: if the place is still one. -/
theorem ens_snoc (zs : List Int) (k : Nat) : ∀ p : Int, 0 ≤ (rdEns zs k p).2 → rdEns zs (k + 1) p = ((rdEns zs k p).1 ++ [⟨(getText zs (rdEns zs k p).2).1, (rdHd zs (getText zs (rdEns zs k p).2).2).1⟩], (rdHd zs (getText zs (rdEns zs k p).2).2).2) := by
  induction k with
  | zero =>
    intro p h
    have hp : ¬ p < 0 := by simpa [rdEns] using h
    rw [show rdEns zs (0 + 1) p = (if p < 0 then ([], p) else (⟨(getText zs p).1, (rdHd zs (getText zs p).2).1⟩ :: [], (rdHd zs (getText zs p).2).2)) from rfl, if_neg hp]
    rfl
  | succ k ih =>
    intro p h
    have h0 := ens_neg _ h
    rw [rdEns, if_neg (by omega)] at h ⊢
    dsimp only at h
    have e1 : rdEns zs (k + 1) p = (⟨(getText zs p).1, (rdHd zs (getText zs p).2).1⟩ :: (rdEns zs k (rdHd zs (getText zs p).2).2).1, (rdEns zs k (rdHd zs (getText zs p).2).2).2) := by rw [rdEns, if_neg (by omega)]
    rw [ih _ h, e1]
    rfl
theorem ens_stop (zs : List Int) (k : Nat) : ∀ p : Int, (rdEns zs k p).2 < 0 → ∀ j, rdEns zs (k + j) p = rdEns zs k p := by
  induction k with
  | zero => intro p h j; have h' : p < 0 := h; cases j with
    | zero => rfl
    | succ j =>
      rw [Nat.zero_add, show rdEns zs (j + 1) p = (if p < 0 then ([], p) else (⟨(getText zs p).1, (rdHd zs (getText zs p).2).1⟩ :: (rdEns zs j (rdHd zs (getText zs p).2).2).1, (rdEns zs j (rdHd zs (getText zs p).2).2).2)) from rfl, if_pos h']
      rfl
  | succ k ih =>
    intro p h j
    by_cases hp : p < 0
    · rw [show k + 1 + j = (k + j) + 1 by omega, rdEns, if_pos hp, rdEns, if_pos hp]
    · rw [rdEns, if_neg hp] at h
      dsimp only at h
      have := ih _ h j
      rw [show k + 1 + j = (k + j) + 1 by omega, rdEns, if_neg hp, rdEns, if_neg hp, this]
theorem ens_lenle (zs : List Int) (k : Nat) : ∀ p : Int, (rdEns zs k p).1.length ≤ k := by
  induction k with
  | zero => intro p; simp [rdEns]
  | succ k ih =>
    intro p
    rw [rdEns]
    split
    · simp
    · have := ih (rdHd zs (getText zs p).2).2; simp; omega
end Go.Proofs.YtbnjhjgjmckedaaGreat
end

section
/- The program reads entries and replies. Condition: at most 2,000,000 bytes. -/
namespace Go.Proofs.YtbnjhjgjmckedaaGreat
open Go.RowKit
set_option linter.unusedVariables false
set_option linter.unusedSimpArgs false
set_option maxRecDepth 100000

set_option maxHeartbeats 4000000 in
theorem implEntsC (pb : Nat) (zs : List Int) (v : Value) (p : Int) (w : World) (h : CurV 69 pb zs v p w) (hl : zs.length ≤ 2000000) :
    Calls Tryz.prog 114 #[.pointer (some ⟨pb, 0, none⟩)] w fun e w' => ∃ a n c, e = .returned (.slice a n c) ∧ OwV w' (fun b => w.heap.size ≤ b ∧ b < w'.heap.size) (.slice a n c) (ensDt (rdEnP zs p).1) ∧ Gone 69 pb zs v (rdEnP zs p).2 w w' := by
  have hz := RdV.zs h.2.1
  have hpl := h.lt
  obtain ⟨n, nx, e0⟩ : ∃ n nx, getNum zs p = (n, nx) := ⟨_, _, rfl⟩
  have hf := getNum_fits hz e0
  have h_ := implNumC pb zs v p w h hl
  rw [e0] at h_
  have HN : Hid _ := h_
  clear h_
  have hn0 : 0 ≤ n := by omega
  by_cases h12 : 12 < n
  · have hR : rdEnP zs p = ([], -1) := by unfold rdEnP; rw [e0]; exact if_pos h12
    rw [hR]
    clear hf hR e0 h
    go_enter Tryz.func114, Tryz.ntmps114
    go_wp2_with fail
    refine Calls.mono HN.out ?_
    rintro e w2 ⟨rfl, hc, ht⟩
    obtain ⟨c0, c1⟩ := VarA.l2 hc.1
    have hfz := VarA.fz hc.1
    have HC : Hid (CurV 69 pb zs v (-1) (w2.setCell ⟨pb, 1, none⟩ (.int .i64 (-1)))) := CurV.put hc (-1) (by omega) (by omega)
    have HT : Hid (Turned (fun b => b = pb) w (w2.setCell ⟨pb, 1, none⟩ (.int .i64 (-1)))) := ht.set _ _ rfl
    clear hc ht HN
    go_wp2
    go_ret
    exact ⟨_, _, _, rfl, OwV.nilR _ _ _ _ _, HC.out, HT.out⟩
  obtain ⟨N, rfl⟩ : ∃ N : Nat, n = (N : Int) := ⟨n.toNat, by omega⟩
  have hR : rdEnP zs p = rdEnsP zs N nx := by unfold rdEnP; rw [e0]; dsimp only; rw [if_neg h12]; simp
  rw [hR]
  have HTX : Hid (∀ P W, CurV 69 pb zs v P W → _) := fun P W hW => implTextC pb zs v P W hW hl
  have HHD : Hid (∀ P W, CurV 69 pb zs v P W → _) := fun P W hW => implHandC pb zs v P W hW hl
  clear hf hR e0 h
  go_enter Tryz.func114, Tryz.ntmps114
  go_wp2_with fail
  refine Calls.mono HN.out ?_
  rintro e w2 ⟨rfl, hc, ht⟩
  have HC : Hid (CurV 69 pb zs v nx w2) := hc
  have HT : Hid (Turned (fun b => b = pb) w w2) := ht
  have hsz2 := ht.size
  clear hc ht HN
  go_wp2
  go_loopw [4, 13] (fun q' i wr => ∃ (k : Nat) (ua : Option Addr) (un uc : Nat), k ≤ N ∧ i = .int .i64 k ∧ q' = .slice ua un uc ∧ Hid (OwV wr (fun b => w.heap.size ≤ b ∧ b < wr.heap.size) (.slice ua un uc) (ensDt (rdEnsP zs k nx).1)) ∧ Hid (CurV 69 pb zs v (rdEnsP zs k nx).2 wr) ∧ Hid (Turned (fun b => b = pb) w wr)) (fun _ i _ => N - (intOf i).toNat)
  case atStart => exact ⟨0, none, 0, 0, Nat.zero_le _, rfl, rfl, OwV.nilR _ _ _ _ _, HC, HT⟩
  case round =>
    clear HC HT hsz2
    obtain ⟨k, ua, un, uc, hk, rfl, rfl, HO, HC, HT⟩ := hrel
    have hszr := HT.out.size
    by_cases hlt : k < N
    case neg =>
      have he : k = N := by omega
      subst he
      go_wp2
      go_ret
      exact ⟨_, _, _, rfl, HO.out, HC.out, HT.out⟩
    obtain ⟨ts, q1, e1⟩ : ∃ x q, getText zs (rdEnsP zs k nx).2 = (x, q) := ⟨_, _, rfl⟩
    obtain ⟨⟨hs, hi, hd⟩, q2, e2⟩ : ∃ x q, rdHd zs q1 = (x, q) := ⟨_, _, rfl⟩
    have hS : rdEnsP zs (k + 1) nx = ((rdEnsP zs k nx).1 ++ [⟨ts, (hs, hi, hd)⟩], q2) := by rw [ensP_snoc, e1]; dsimp only; rw [e2]
    have HSN : Hid _ := hS
    have HLN : Hid _ := ensP_len zs k nx
    have h_ := HTX.out _ wr HC.out
    rw [e1] at h_
    have H1 : Hid _ := h_
    clear h_
    have H2 : Hid (∀ W, CurV 69 pb zs v q1 W → _) := fun W hW => by have h_ := HHD.out q1 W hW; rw [e2] at h_; exact h_
    clear e1 e2 hS HTX HHD
    generalize rdEnsP zs k nx = r0 at HSN HLN HC HO H1
    obtain ⟨l0, p0⟩ := r0
    dsimp only at HSN HLN HC HO H1
    go_wp2_with fail
    refine Calls.mono H1.out ?_
    rintro e w3 ⟨ta, tl, tc, rfl, o1, hc, t1⟩
    have hs3 := t1.size
    have HO3 : Hid (OwV w3 (fun b => w.heap.size ≤ b ∧ b < wr.heap.size) (.slice ua un uc) (ensDt l0)) := HO.out.keep (t1.keeps (fun b hb hs => by omega))
    have HU3 : Hid (OwV w3 (fun b => wr.heap.size ≤ b ∧ b < w3.heap.size) (.slice ta tl tc) (.bytes ts)) := o1
    have HC3 : Hid (CurV 69 pb zs v q1 w3) := hc
    have HT3 : Hid (Turned (fun b => b = pb) w w3) := HT.out.trans t1
    clear HO HC HT o1 hc t1 H1
    go_wp2_with fail
    refine Calls.mono (H2.out _ HC3.out) ?_
    rintro e w4 ⟨rfl, hc, t1⟩
    have hs4 := t1.size
    have HO4 : Hid (OwV w4 (fun b => w.heap.size ≤ b ∧ b < wr.heap.size) (.slice ua un uc) (ensDt l0)) := HO3.out.keep (t1.keeps (fun b hb hs => by omega))
    have HU4 : Hid (OwV w4 (fun b => wr.heap.size ≤ b ∧ b < w3.heap.size) (.slice ta tl tc) (.bytes ts)) := HU3.out.keep (t1.keeps (fun b hb hs => by omega))
    have HC4 : Hid (CurV 69 pb zs v q2 w4) := hc
    have HT4 : Hid (Turned (fun b => b = pb) w w4) := HT3.out.trans t1
    clear HO3 HU3 HC3 HT3 hc t1 H2
    go_wp2_with (at_builtin; go_must (refine wpList_appEn _ rfl (.tmp 15) (.tmp 21) rfl _ rfl l0 ⟨ts, (hs, hi, hd)⟩ (.slice ta tl tc) w.heap.size wr.heap.size w3.heap.size w4.heap.size rfl rfl (0, 0) (heap_alloc_new _ _) (OwV.step HO4.out (Below.new1 _)) (OwV.step HU4.out (Below.new1 _)) (by simp; omega) hs3 hszr (by rw [HLN.out]; omega) ?_; intro ga gn gc w5 ho5 t5))
    have HO5 : Hid (OwV w5 (fun b => w.heap.size ≤ b ∧ b < w5.heap.size) (.slice ga gn gc) (ensDt (rdEnsP zs (k + 1) nx).1)) := by rw [HSN.out]; exact ho5
    have HC5 : Hid (CurV 69 pb zs v (rdEnsP zs (k + 1) nx).2 w5) := by rw [HSN.out]; exact (HC4.out.alloc _).keep t5 (fun b hb => by omega)
    have HT5 : Hid (Turned (fun b => b = pb) w w5) := (HT4.out.alloc _).then t5 (fun i hi hs => by omega)
    clear HO4 HU4 HC4 HT4 ho5 t5 HSN
    go_wp2
    refine ⟨?_, ?_⟩
    · exact ⟨k + 1, ga, gn, gc, by omega, by go_num, rfl, HO5, HC5, HT5⟩
    · simp [intOf]; omega
set_option maxHeartbeats 4000000 in
theorem implReplyC (pb : Nat) (zs : List Int) (v : Value) (p : Int) (w : World) (h : CurV 69 pb zs v p w) (hl : zs.length ≤ 2000000) :
    Calls Tryz.prog 87 #[.pointer (some ⟨pb, 0, none⟩)] w fun e w' => ∃ a n c, e = .returned (rpV (rdRp (rdEnP zs) zs p).1 (.slice a n c)) ∧ OwV w' (fun b => w.heap.size ≤ b ∧ b < w'.heap.size) (.slice a n c) (ensDt (rdRp (rdEnP zs) zs p).1.list) ∧ Gone 69 pb zs v (rdRp (rdEnP zs) zs p).2 w w' := by
  have hz := RdV.zs h.2.1
  have hpl := h.lt
  obtain ⟨n0, q0, e0⟩ : ∃ x q, getNum zs p = (x, q) := ⟨_, _, rfl⟩
  have H0 : Hid (∀ W, CurV 69 pb zs v p W → _) := fun W hW => by have h_ := implNumC pb zs v p W hW hl; rw [e0] at h_; exact h_
  obtain ⟨⟨hs1, hi1, hd1⟩, q1, e1⟩ : ∃ x q, rdHd zs q0 = (x, q) := ⟨_, _, rfl⟩
  have H1 : Hid (∀ W, CurV 69 pb zs v q0 W → _) := fun W hW => by have h_ := implHandC pb zs v q0 W hW hl; rw [e1] at h_; exact h_
  obtain ⟨n2, q2, e2⟩ : ∃ x q, getNum zs q1 = (x, q) := ⟨_, _, rfl⟩
  have H2 : Hid (∀ W, CurV 69 pb zs v q1 W → _) := fun W hW => by have h_ := implNumC pb zs v q1 W hW hl; rw [e2] at h_; exact h_
  obtain ⟨es3, q3, e3⟩ : ∃ x q, rdEnP zs q2 = (x, q) := ⟨_, _, rfl⟩
  have H3 : Hid (∀ W, CurV 69 pb zs v q2 W → _) := fun W hW => by have h_ := implEntsC pb zs v q2 W hW hl; rw [e3] at h_; exact h_
  have hR : rdRp (rdEnP zs) zs p = (⟨n0, (hs1, hi1, hd1), n2, es3⟩, q3) := by simp [rdRp, e0, e1, e2, e3]
  rw [hR]
  clear hR e0 e1 e2 e3
  have HC0 : Hid (CurV 69 pb zs v p w) := h
  clear h
  dsimp only
  go_enter Tryz.func87, Tryz.ntmps87
  go_wp2_with fail
  refine Calls.mono (H0.out _ (HC0.out.alloc _)) ?_
  rintro e w1 ⟨rfl, hc_, t_⟩
  have HT : Hid (Turned (fun b => b = pb) w w1) := (Turned.ofBelow (Below.new1 (w := w) _)).trans t_
  have vR : VarA w1 w.heap.size 29 #[.int .i64 0, .int .i64 0, .int .i64 0, .bool false, .int .i64 0, .slice none 0 0] := VarA.turn (VarA.new w _ _) t_ (by omega)
  have hx0 := t_.size
  simp at hx0
  have HC1 : Hid (CurV 69 pb zs v q0 w1) := hc_
  clear hc_ t_ H0 HC0
  go_wp2_with fail
  refine Calls.mono (H1.out _ HC1.out) ?_
  rintro e w2 ⟨rfl, hc_, t_⟩
  have HT_ : Hid (Turned (fun b => b = pb) w w2) := HT.out.trans t_
  clear HT
  have HT := HT_
  clear HT_
  have vR_ := vR.turn t_ (by omega)
  clear vR
  have vR := vR_
  clear vR_
  have hx1 := t_.size
  have HC2 : Hid (CurV 69 pb zs v q1 w2) := hc_
  clear hc_ t_ H1 HC1
  go_wp2_with fail
  refine Calls.mono (H2.out _ HC2.out) ?_
  rintro e w3 ⟨rfl, hc_, t_⟩
  have HT_ : Hid (Turned (fun b => b = pb) w w3) := HT.out.trans t_
  clear HT
  have HT := HT_
  clear HT_
  have vR_ := vR.turn t_ (by omega)
  clear vR
  have vR := vR_
  clear vR_
  have hx2 := t_.size
  have HC3 : Hid (CurV 69 pb zs v q2 w3) := hc_
  clear hc_ t_ H2 HC2
  go_wp2_with fail
  refine Calls.mono (H3.out _ HC3.out) ?_
  rintro e w4 ⟨a3, l3, c3, rfl, o3, hc_, t_⟩
  have HT_ : Hid (Turned (fun b => b = pb) w w4) := HT.out.trans t_
  clear HT
  have HT := HT_
  clear HT_
  have vR_ := vR.turn t_ (by omega)
  clear vR
  have vR := vR_
  clear vR_
  have hx3 := t_.size
  have HO3 : Hid (OwV w4 (fun b => w3.heap.size ≤ b ∧ b < w4.heap.size) (.slice a3 l3 c3) (ensDt es3)) := o3
  clear o3
  have HC4 : Hid (CurV 69 pb zs v q3 w4) := hc_
  clear hc_ t_ H3 HC3
  dsimp only
  repeat (first | ((with_reducible refine guardStore (ty := 29) ?_); refine wpList_storeF vR rfl rfl (by kernel_rfl) rfl (of_decide_eq_true rfl) rfl ?_; intro w' vR_ t_) | go_values | go_skip | go_guarded | go_step | go_upon)
  have t1 : Turned (fun b => b = w.heap.size) w4 w' := t_
  have hC : CurV 69 pb zs v q3 w' := HC4.out.keep t1 (fun b hb => by omega)
  have hT : Turned (fun b => b = pb) w w' := HT.out.then t1 (fun i hi hs => by omega)
  have hsz := t1.size
  have HO3_ : OwV w' (fun b => w3.heap.size ≤ b ∧ b < w4.heap.size) (.slice a3 l3 c3) (ensDt es3) := HO3.out.keep (t1.keeps (fun b hb hs => by omega))
  refine bodyPost_ret (results_cell_row Tryz.results87 _ _ _ _ _ _ _ rfl vR_ Tryz.underlying29 rfl (by kernel_rfl)) rfl ?_
  exact ⟨_, _, _, rfl, HO3_.mono (fun b hb => ⟨by omega, by omega⟩), hC, hT⟩
end Go.Proofs.YtbnjhjgjmckedaaGreat
end

section
/- A region that draws its order, whose operations only read, and whose callees leave all that was there: one walk, in the text's order; no condition. -/
namespace Go.Proofs.YtbnjhjgjmckedaaGreat
open Go.RowKit
set_option linter.unusedVariables false

/-- The worlds in which all that w holds is as it was. -/
structure Cls (w : World) where
  W : World
  h : Below w.heap.size w W
theorem Cls.ne (w : World) : Nonempty (Cls w) := ⟨⟨w, Below.refl _ _⟩⟩
theorem wp_region_cls {P : Program} {id : Nat} {Q : Exit → Act → World → Prop} {a : Act} {w : World} {l : List Oper} (hm : P.follows .mixedOrders = true) (hB : Region.lexB .any l.toArray = true)
    (h : wpQuiet P l.toArray (fun w' => ∃ i : Cls w, w' = i.W) (fun a' => ∀ w', (∃ i : Cls w, w' = i.W) → Q .normal a' w') l a) : (Code.region id l.toArray true).wp P Q a w :=
  wp_region_quiet (C := fun w' => ∃ i : Cls w, w' = i.W) hm hB ⟨⟨{ w with drawn := w.drawn + 1 }, ⟨rfl, rfl, rfl, Nat.le_refl _, fun _ _ => rfl⟩⟩, rfl⟩ (by simpa using h)
theorem Calls.cls {P : Program} {f : FuncId} {args : Array Value} {w : World} {i : Cls w} {v : Value} (h : Calls P f args i.W fun e w' => e = .returned v ∧ Below i.W.heap.size i.W w') :
    Calls P f args i.W fun e w'' => e = .returned v ∧ ∃ j : Cls w, w'' = j.W :=
  h.mono fun _ w' ⟨he, hb⟩ => ⟨he, ⟨w', i.h.trans (hb.mono i.h.size)⟩, rfl⟩
theorem Calls.cls_same {P : Program} {f : FuncId} {args : Array Value} {w : World} {i : Cls w} {v : Value} (h : Calls P f args i.W fun e w' => e = .returned v ∧ w' = i.W) :
    Calls P f args i.W fun e w'' => e = .returned v ∧ ∃ j : Cls w, w'' = j.W :=
  h.mono fun _ w' ⟨he, hb⟩ => ⟨he, i, hb⟩
theorem Calls.cls_new {P : Program} {f : FuncId} {args : Array Value} {w : World} {i : Cls w} {v : Value} {o : Obj} (h : Calls P f args i.W fun e w' => e = .returned v ∧ w' = i.W.alloc o) :
    Calls P f args i.W fun e w'' => e = .returned v ∧ ∃ j : Cls w, w'' = j.W :=
  h.mono fun _ w' ⟨he, hb⟩ => ⟨he, ⟨w', by rw [hb]; exact i.h.alloc i.h.size _⟩, rfl⟩
theorem Cls.cell {w : World} {b o : Nat} {u : Value} (hb : b < w.heap.size) (h : w.cell? ⟨b, o, none⟩ = some u) : ∀ i : Cls w, i.W.cell? ⟨b, o, none⟩ = some u := fun i => (i.h.cell (p := ⟨b, o, none⟩) hb).trans h
theorem VarA.set9 {w : World} {b : Nat} {T : TypeId} {x0 x1 x2 x3 x4 x5 x6 x7 x8 y0 y1 y2 y3 y4 y5 y6 y7 y8 : Value} (h : VarA w b T #[x0, x1, x2, x3, x4, x5, x6, x7, x8]) : VarA (((((((((w.setCell ⟨b, 0, none⟩ y0).setCell ⟨b, 1, none⟩ y1).setCell ⟨b, 2, none⟩ y2).setCell ⟨b, 3, none⟩ y3).setCell ⟨b, 4, none⟩ y4).setCell ⟨b, 5, none⟩ y5).setCell ⟨b, 6, none⟩ y6).setCell ⟨b, 7, none⟩ y7).setCell ⟨b, 8, none⟩ y8) b T #[y0, y1, y2, y3, y4, y5, y6, y7, y8] := by
  have h2 := (((((((((h.set 0 y0).set 1 y1).set 2 y2).set 3 y3).set 4 y4).set 5 y5).set 6 y6).set 7 y7).set 8 y8)
  simpa using h2
theorem VarA.aside9 {w : World} {b c : Nat} {T : TypeId} {cs : Array Value} {y0 y1 y2 y3 y4 y5 y6 y7 y8 : Value} (h : VarA w b T cs) (hc : b ≠ c) : VarA (((((((((w.setCell ⟨c, 0, none⟩ y0).setCell ⟨c, 1, none⟩ y1).setCell ⟨c, 2, none⟩ y2).setCell ⟨c, 3, none⟩ y3).setCell ⟨c, 4, none⟩ y4).setCell ⟨c, 5, none⟩ y5).setCell ⟨c, 6, none⟩ y6).setCell ⟨c, 7, none⟩ y7).setCell ⟨c, 8, none⟩ y8) b T cs := (((((((((h.aside (p := ⟨c, 0, none⟩) hc y0).aside (p := ⟨c, 1, none⟩) hc y1).aside (p := ⟨c, 2, none⟩) hc y2).aside (p := ⟨c, 3, none⟩) hc y3).aside (p := ⟨c, 4, none⟩) hc y4).aside (p := ⟨c, 5, none⟩) hc y5).aside (p := ⟨c, 6, none⟩) hc y6).aside (p := ⟨c, 7, none⟩) hc y7).aside (p := ⟨c, 8, none⟩) hc y8)
theorem Below.set9 {B : Nat} {a w : World} {c : Nat} {y0 y1 y2 y3 y4 y5 y6 y7 y8 : Value} (h : Below B a w) (hc : B ≤ c) : Below B a (((((((((w.setCell ⟨c, 0, none⟩ y0).setCell ⟨c, 1, none⟩ y1).setCell ⟨c, 2, none⟩ y2).setCell ⟨c, 3, none⟩ y3).setCell ⟨c, 4, none⟩ y4).setCell ⟨c, 5, none⟩ y5).setCell ⟨c, 6, none⟩ y6).setCell ⟨c, 7, none⟩ y7).setCell ⟨c, 8, none⟩ y8) := (((((((((h.setCell (p := ⟨c, 0, none⟩) hc y0).setCell (p := ⟨c, 1, none⟩) hc y1).setCell (p := ⟨c, 2, none⟩) hc y2).setCell (p := ⟨c, 3, none⟩) hc y3).setCell (p := ⟨c, 4, none⟩) hc y4).setCell (p := ⟨c, 5, none⟩) hc y5).setCell (p := ⟨c, 6, none⟩) hc y6).setCell (p := ⟨c, 7, none⟩) hc y7).setCell (p := ⟨c, 8, none⟩) hc y8)
end Go.Proofs.YtbnjhjgjmckedaaGreat
end
