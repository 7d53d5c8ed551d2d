/- Joined: RdS2 WBy1 Szs WBy2. -/
import Derived.Test.YtbnjhjgjmckedaaGreatJ06
import Derived.Test.YtbnjhjgjmckedaaGreatJ05
import Derived.Test.YtbnjhjgjmckedaaGreatJ03
import Derived.Test.YtbnjhjgjmckedaaGreatJ04
import Derived.Test.YtbnjhjgjmckedaaGreatJ02

section
/- The specification reads replies. Condition: at most 2,000,000 bytes. -/
namespace Go.Proofs.YtbnjhjgjmckedaaGreat
open Go.RowKit
set_option linter.unusedVariables false
set_option linter.unusedSimpArgs false
set_option maxRecDepth 100000

set_option maxHeartbeats 4000000 in
theorem specReplyC (pb : Nat) (zs : List Int) (v : Value) (p : Int) (w : World) (h : CurV 77 pb zs v p w) (hl : zs.length ≤ 2000000) :
    Calls Tryz.prog 48 #[.pointer (some ⟨pb, 0, none⟩)] w fun e w' => ∃ a n c, e = .returned (rpV (rdRp (rdEnS zs) zs p).1 (.slice a n c)) ∧ OwV w' (fun b => w.heap.size ≤ b ∧ b < w'.heap.size) (.slice a n c) (ensDt (rdRp (rdEnS zs) zs p).1.list) ∧ Gone 77 pb zs v (rdRp (rdEnS zs) zs p).2 w w' := by
  have hz := RdV.zs h.2.1
  have hpl := h.lt
  obtain ⟨n0, q0, e0⟩ : ∃ x q, getNum zs p = (x, q) := ⟨_, _, rfl⟩
  have H0 : Hid (∀ W, CurV 77 pb zs v p W → _) := fun W hW => by have h_ := specNumC pb zs v p W hW hl; rw [e0] at h_; exact h_
  obtain ⟨⟨hs1, hi1, hd1⟩, q1, e1⟩ : ∃ x q, rdHd zs q0 = (x, q) := ⟨_, _, rfl⟩
  have H1 : Hid (∀ W, CurV 77 pb zs v q0 W → _) := fun W hW => by have h_ := specHandC pb zs v q0 W hW hl; rw [e1] at h_; exact h_
  obtain ⟨n2, q2, e2⟩ : ∃ x q, getNum zs q1 = (x, q) := ⟨_, _, rfl⟩
  have H2 : Hid (∀ W, CurV 77 pb zs v q1 W → _) := fun W hW => by have h_ := specNumC pb zs v q1 W hW hl; rw [e2] at h_; exact h_
  obtain ⟨n3, q3, e3⟩ : ∃ x q, getNum zs q2 = (x, q) := ⟨_, _, rfl⟩
  have H3 : Hid (∀ W, CurV 77 pb zs v q2 W → _) := fun W hW => by have h_ := specNumC pb zs v q2 W hW hl; rw [e3] at h_; exact h_
  have hf3 := getNum_fits hz e3
  have hn3 : 0 ≤ n3 := by omega
  obtain ⟨N3, rfl⟩ : ∃ N : Nat, n3 = (N : Int) := ⟨n3.toNat, by omega⟩
  have hR : rdRp (rdEnS zs) zs p = (⟨n0, (hs1, hi1, hd1), n2, (rdEns zs (min N3 13) q3).1⟩, (rdEns zs (min N3 13) q3).2) := by simp [rdRp, rdEnS, e0, e1, e2, e3]
  have hq3 : -1 ≤ q3 ∧ q3 ≤ zs.length := by omega
  have HTX : Hid (∀ P W, CurV 77 pb zs v P W → _) := fun P W hW => specTextC pb zs v P W hW hl
  have HHD : Hid (∀ P W, CurV 77 pb zs v P W → _) := fun P W hW => specHandC pb zs v P W hW hl
  clear hf3
  rw [hR]
  clear hR e0 e1 e2 e3
  have HC0 : Hid (CurV 77 pb zs v p w) := h
  clear h
  dsimp only
  go_enter Tryz.func48, Tryz.ntmps48
  go_wp2_with fail
  refine Calls.mono (H0.out _ (HC0.out.alloc _)) ?_
  rintro e w1 ⟨rfl, hc_, t_⟩
  have HT : Hid (Turned (fun b => b = pb) w w1) := (Turned.ofBelow (Below.new1 (w := w) _)).trans t_
  have vR : VarA w1 w.heap.size 29 #[.int .i64 0, .int .i64 0, .int .i64 0, .bool false, .int .i64 0, .slice none 0 0] := VarA.turn (VarA.new w _ _) t_ (by omega)
  have hx0 := t_.size
  simp at hx0
  have HC1 : Hid (CurV 77 pb zs v q0 w1) := hc_
  clear hc_ t_ H0 HC0
  dsimp only
  repeat (first | ((with_reducible refine guardStore (ty := 29) ?_); refine wpList_storeF (VarA.new w1 _ _) rfl rfl (by kernel_rfl) rfl (of_decide_eq_true rfl) rfl ?_; intro w1' vO t_) | go_values | go_skip | go_guarded | go_step | go_upon)
  have vO_ : VarA w1' w1.heap.size 29 #[.int .i64 n0, .int .i64 0, .int .i64 0, .bool false, .int .i64 0, .slice none 0 0] := vO
  clear vO
  have t1 : Turned (fun b => b = w1.heap.size) w1 w1' := (Turned.ofBelow (Below.new1 (w := w1) _)).trans t_
  clear t_
  have vO := vO_
  clear vO_
  have HC1' : Hid (CurV 77 pb zs v q0 w1') := HC1.out.keep t1 (fun b hb => by omega)
  have vR_ := vR.turn t1 (by omega)
  clear vR
  have vR := vR_
  clear vR_
  have HT_ : Hid (Turned (fun b => b = pb) w w1') := HT.out.then t1 (fun i hi hs => by omega)
  clear HT
  have HT := HT_
  clear HT_
  have hy1 := t1.size
  have hob := VarA.lt vO
  clear t1 HC1
  have HC1 := HC1'
  clear HC1'
  refine Calls.mono (H1.out _ HC1.out) ?_
  rintro e w2 ⟨rfl, hc_, t_⟩
  have HT_ : Hid (Turned (fun b => b = pb) w w2) := HT.out.trans t_
  clear HT
  have HT := HT_
  clear HT_
  have vR_ := vR.turn t_ (by omega)
  clear vR
  have vR := vR_
  clear vR_
  have hx1 := t_.size
  have vO_ := vO.turn t_ (by omega)
  clear vO
  have vO := vO_
  clear vO_
  have HC2 : Hid (CurV 77 pb zs v q1 w2) := hc_
  clear hc_ t_ H1 HC1
  dsimp only
  repeat (first | ((with_reducible refine guardStore (ty := 24) ?_); refine wpList_storeG vO rfl rfl rfl (by kernel_rfl) rfl (of_decide_eq_true rfl) rfl ?_; intro w2' vO_ t_) | go_values | go_skip | go_guarded | go_step | go_upon)
  have vO1 : VarA w2' w1.heap.size 29 #[.int .i64 n0, .int .i64 hs1, .int .i64 hi1, .bool hd1, .int .i64 0, .slice none 0 0] := vO_
  clear vO_ vO
  have vO_ := vO1
  clear vO1
  have t1 : Turned (fun b => b = w1.heap.size) w2 w2' := t_
  clear t_
  have vO := vO_
  clear vO_
  have HC2' : Hid (CurV 77 pb zs v q1 w2') := HC2.out.keep t1 (fun b hb => by omega)
  have vR_ := vR.turn t1 (by omega)
  clear vR
  have vR := vR_
  clear vR_
  have HT_ : Hid (Turned (fun b => b = pb) w w2') := HT.out.then t1 (fun i hi hs => by omega)
  clear HT
  have HT := HT_
  clear HT_
  have hy2 := t1.size
  clear t1 HC2
  have HC2 := HC2'
  clear HC2'
  refine Calls.mono (H2.out _ HC2.out) ?_
  rintro e w3 ⟨rfl, hc_, t_⟩
  have HT_ : Hid (Turned (fun b => b = pb) w w3) := HT.out.trans t_
  clear HT
  have HT := HT_
  clear HT_
  have vR_ := vR.turn t_ (by omega)
  clear vR
  have vR := vR_
  clear vR_
  have hx2 := t_.size
  have vO_ := vO.turn t_ (by omega)
  clear vO
  have vO := vO_
  clear vO_
  have HC3 : Hid (CurV 77 pb zs v q2 w3) := hc_
  clear hc_ t_ H2 HC2
  dsimp only
  repeat (first | ((with_reducible refine guardStore (ty := 3) ?_); refine wpList_storeG vO rfl rfl rfl (by kernel_rfl) rfl (of_decide_eq_true rfl) rfl ?_; intro w3' vO_ t_) | go_values | go_skip | go_guarded | go_step | go_upon)
  have vO1 : VarA w3' w1.heap.size 29 #[.int .i64 n0, .int .i64 hs1, .int .i64 hi1, .bool hd1, .int .i64 n2, .slice none 0 0] := vO_
  clear vO_ vO
  have vO_ := vO1
  clear vO1
  have t1 : Turned (fun b => b = w1.heap.size) w3 w3' := t_
  clear t_
  have vO := vO_
  clear vO_
  have HC3' : Hid (CurV 77 pb zs v q2 w3') := HC3.out.keep t1 (fun b hb => by omega)
  have vR_ := vR.turn t1 (by omega)
  clear vR
  have vR := vR_
  clear vR_
  have HT_ : Hid (Turned (fun b => b = pb) w w3') := HT.out.then t1 (fun i hi hs => by omega)
  clear HT
  have HT := HT_
  clear HT_
  have hy3 := t1.size
  clear t1 HC3
  have HC3 := HC3'
  clear HC3'
  refine Calls.mono (H3.out _ HC3.out) ?_
  rintro e w4 ⟨rfl, hc_, t_⟩
  have HT_ : Hid (Turned (fun b => b = pb) w w4) := HT.out.trans t_
  clear HT
  have HT := HT_
  clear HT_
  have vR_ := vR.turn t_ (by omega)
  clear vR
  have vR := vR_
  clear vR_
  have hx3 := t_.size
  have vO_ := vO.turn t_ (by omega)
  clear vO
  have vO := vO_
  clear vO_
  have HC4 : Hid (CurV 77 pb zs v q3 w4) := hc_
  clear hc_ t_ H3 HC3
  have hM13 : min N3 13 ≤ 13 := Nat.min_le_right _ _
  have hw4 : w1.heap.size < w4.heap.size := by omega
  dsimp only
  go_wp2
  go_loopw [5] (fun i wr => ∃ (k : Nat) (ua : Option Addr) (un uc : Nat), k ≤ min N3 13 ∧ i = .int .i64 k ∧ VarA wr w1.heap.size 29 #[.int .i64 n0, .int .i64 hs1, .int .i64 hi1, .bool hd1, .int .i64 n2, .slice ua un uc] ∧ VarA wr w.heap.size 29 #[.int .i64 0, .int .i64 0, .int .i64 0, .bool false, .int .i64 0, .slice none 0 0] ∧ Hid (OwV wr (fun b => w4.heap.size ≤ b ∧ b < wr.heap.size) (.slice ua un uc) (ensDt (rdEns zs k q3).1)) ∧ Hid (CurV 77 pb zs v (rdEns zs k q3).2 wr) ∧ Hid (Turned (fun b => b = pb) w wr) ∧ w4.heap.size ≤ wr.heap.size) (fun i _ => min N3 13 - (intOf i).toNat)
  case atStart => exact ⟨0, none, 0, 0, Nat.zero_le _, rfl, vO, vR, OwV.nilR _ _ _ _ _, HC4, HT, Nat.le_refl _⟩
  case round =>
    clear vO vR HC4 HT
    obtain ⟨k, ua, un, uc, hk, rfl, vO, vR, HO, HC, HT, hws⟩ := hrel
    obtain ⟨c0, c1⟩ := VarA.l2 HC.out.1
    by_cases hlt : k < min N3 13 ∧ 0 ≤ (rdEns zs k q3).2
    case neg =>
      have HM : Hid (rdEns zs (min N3 13) q3 = rdEns zs k q3) := by
        show _ = _
        by_cases hkm : k = min N3 13
        · rw [hkm]
        · have := ens_stop zs k q3 (by omega) (min N3 13 - k)
          rw [← this]; congr 1; omega
      generalize rdEns zs k q3 = rr at HM HO HC hlt c1
      obtain ⟨l0, p0⟩ := rr
      dsimp only at HO HC hlt c1
      rcases (show N3 ≤ k ∨ (k < N3 ∧ 13 ≤ k) ∨ (k < N3 ∧ k ≤ 12 ∧ p0 < 0) by omega) with h1 | ⟨h1, h2⟩ | ⟨h1, h2, h3⟩
      · have d1 : decide ((k : Int) < (N3 : Int)) = false := by simp; omega
        have d1' : decide (k < N3) = false := by simp; omega
        have d1n : ¬ k < N3 := by omega
        repeat (first | ((with_reducible refine guardLoad (ty := 29) ?_); refine wpList_loadA vO rfl Tryz.underlying29 rfl (by kernel_rfl) ?_) | ((with_reducible refine guardStore (ty := 29) ?_); refine wpList_storeF vR rfl rfl (by kernel_rfl) rfl (of_decide_eq_true rfl) rfl ?_; intro w' vR_ t_) | go_values | go_skip | go_guarded | go_step | go_upon)
        have t1 : Turned (fun b => b = w.heap.size) wr w' := t_
        have hC : CurV 77 pb zs v _ w' := HC.out.keep t1 (fun b hb => by omega)
        have hT : Turned (fun b => b = pb) w w' := HT.out.then t1 (fun i hi hs => by omega)
        have hsz := t1.size
        have hO : OwV w' (fun b => w4.heap.size ≤ b ∧ b < wr.heap.size) (.slice ua un uc) _ := HO.out.keep (t1.keeps (fun b hb hs => by omega))
        refine bodyPost_ret (results_cell_row Tryz.results48 _ _ _ _ _ _ _ rfl vR_ Tryz.underlying29 rfl (by kernel_rfl)) rfl ?_
        exact ⟨_, _, _, rfl, by rw [HM.out]; exact hO.mono (fun b hb => ⟨by omega, by omega⟩), by rw [HM.out]; exact hC, hT⟩
      · have d1 : decide ((k : Int) < (N3 : Int)) = true := by simp; omega
        have d1' : decide (k < N3) = true := by simp; omega
        have d2 : decide ((k : Int) ≤ 12) = false := by simp; omega
        repeat (first | ((with_reducible refine guardLoad (ty := 29) ?_); refine wpList_loadA vO rfl Tryz.underlying29 rfl (by kernel_rfl) ?_) | ((with_reducible refine guardStore (ty := 29) ?_); refine wpList_storeF vR rfl rfl (by kernel_rfl) rfl (of_decide_eq_true rfl) rfl ?_; intro w' vR_ t_) | go_values | go_skip | go_guarded | go_step | go_upon)
        have t1 : Turned (fun b => b = w.heap.size) wr w' := t_
        have hC : CurV 77 pb zs v _ w' := HC.out.keep t1 (fun b hb => by omega)
        have hT : Turned (fun b => b = pb) w w' := HT.out.then t1 (fun i hi hs => by omega)
        have hsz := t1.size
        have hO : OwV w' (fun b => w4.heap.size ≤ b ∧ b < wr.heap.size) (.slice ua un uc) _ := HO.out.keep (t1.keeps (fun b hb hs => by omega))
        refine bodyPost_ret (results_cell_row Tryz.results48 _ _ _ _ _ _ _ rfl vR_ Tryz.underlying29 rfl (by kernel_rfl)) rfl ?_
        exact ⟨_, _, _, rfl, by rw [HM.out]; exact hO.mono (fun b hb => ⟨by omega, by omega⟩), by rw [HM.out]; exact hC, hT⟩
      · have d1 : decide ((k : Int) < (N3 : Int)) = true := by simp; omega
        have d1' : decide (k < N3) = true := by simp; omega
        have d2 : decide ((k : Int) ≤ 12) = true := by simp; omega
        have d3 : decide (0 ≤ p0) = false := by simp; omega
        repeat (first | ((with_reducible refine guardLoad (ty := 29) ?_); refine wpList_loadA vO rfl Tryz.underlying29 rfl (by kernel_rfl) ?_) | ((with_reducible refine guardStore (ty := 29) ?_); refine wpList_storeF vR rfl rfl (by kernel_rfl) rfl (of_decide_eq_true rfl) rfl ?_; intro w' vR_ t_) | go_values | go_skip | go_guarded | go_step | go_upon)
        have t1 : Turned (fun b => b = w.heap.size) wr w' := t_
        have hC : CurV 77 pb zs v _ w' := HC.out.keep t1 (fun b hb => by omega)
        have hT : Turned (fun b => b = pb) w w' := HT.out.then t1 (fun i hi hs => by omega)
        have hsz := t1.size
        have hO : OwV w' (fun b => w4.heap.size ≤ b ∧ b < wr.heap.size) (.slice ua un uc) _ := HO.out.keep (t1.keeps (fun b hb hs => by omega))
        refine bodyPost_ret (results_cell_row Tryz.results48 _ _ _ _ _ _ _ rfl vR_ Tryz.underlying29 rfl (by kernel_rfl)) rfl ?_
        exact ⟨_, _, _, rfl, by rw [HM.out]; exact hO.mono (fun b hb => ⟨by omega, by omega⟩), by rw [HM.out]; exact hC, hT⟩
    obtain ⟨hlt, hp0⟩ := hlt
    obtain ⟨ts, q4, e1⟩ : ∃ x q, getText zs (rdEns zs k q3).2 = (x, q) := ⟨_, _, rfl⟩
    obtain ⟨⟨hs, hi, hd⟩, q5, e2⟩ : ∃ x q, rdHd zs q4 = (x, q) := ⟨_, _, rfl⟩
    have hS : rdEns zs (k + 1) q3 = ((rdEns zs k q3).1 ++ [⟨ts, (hs, hi, hd)⟩], q5) := by rw [ens_snoc zs k q3 hp0, e1]; dsimp only; rw [e2]
    have HSN : Hid _ := hS
    have HLN : Hid _ := ens_lenle zs k q3
    have h_ := HTX.out _ wr HC.out
    rw [e1] at h_
    have H1 : Hid _ := h_
    have H2 : Hid (∀ W, CurV 77 pb zs v q4 W → _) := fun W hW => by have h_ := HHD.out q4 W hW; rw [e2] at h_; exact h_
    clear e1 e2 hS HTX HHD h_
    generalize rdEns zs k q3 = r0 at HSN HLN HC HO H1 hp0 c1
    obtain ⟨l0, p0⟩ := r0
    dsimp only at HSN HLN HC HO H1 hp0 c1
    have d1 : decide ((k : Int) < (N3 : Int)) = true := by simp; omega
    have d1' : decide (k < N3) = true := by simp; omega
    have d2 : decide ((k : Int) ≤ 12) = true := by simp; omega
    have d3 : decide (0 ≤ p0) = true := by simp; omega
    have hln : l0.length ≤ 4000 := by have := HLN.out; omega
    go_wp2_with fail
    refine Calls.mono H1.out ?_
    rintro e w5 ⟨ta, tl, tc, rfl, o1, hc, t1⟩
    have hs5 := t1.size
    have HO5 : Hid (OwV w5 (fun b => w4.heap.size ≤ b ∧ b < wr.heap.size) (.slice ua un uc) (ensDt l0)) := HO.out.keep (t1.keeps (fun b hb hs => by omega))
    have HU5 : Hid (OwV w5 (fun b => wr.heap.size ≤ b ∧ b < w5.heap.size) (.slice ta tl tc) (.bytes ts)) := o1
    have HC5 : Hid (CurV 77 pb zs v q4 w5) := hc
    have HT5 : Hid (Turned (fun b => b = pb) w w5) := HT.out.trans t1
    have vO5 := vO.turn t1 (by omega)
    have vR5 := vR.turn t1 (by omega)
    clear HO HC HT o1 hc t1 H1 vO vR c0 c1 d1 d1' d2 d3
    dsimp only
    repeat (first | ((with_reducible refine guardStore (ty := 132) ?_); refine wpList_storeF (VarA.new w5 _ _) rfl rfl (by kernel_rfl) rfl (of_decide_eq_true rfl) rfl ?_; intro w6 vE_ t_) | go_values | go_skip | go_guarded | go_step | go_upon)
    have vE : VarA w6 w5.heap.size 132 #[.slice ta tl tc, .int .i64 0, .int .i64 0, .bool false] := vE_
    have t1 : Turned (fun b => b = w5.heap.size) w5 w6 := (Turned.ofBelow (Below.new1 (w := w5) _)).trans t_
    have hs6 := t1.size
    have HO6 : Hid (OwV w6 (fun b => w4.heap.size ≤ b ∧ b < wr.heap.size) (.slice ua un uc) (ensDt l0)) := HO5.out.keep (t1.keeps (fun b hb hs => by omega))
    have HU6 : Hid (OwV w6 (fun b => wr.heap.size ≤ b ∧ b < w5.heap.size) (.slice ta tl tc) (.bytes ts)) := HU5.out.keep (t1.keeps (fun b hb hs => by omega))
    have HC6 : Hid (CurV 77 pb zs v q4 w6) := HC5.out.keep t1 (fun b hb => by omega)
    have HT6 : Hid (Turned (fun b => b = pb) w w6) := HT5.out.then t1 (fun i hi hs => by omega)
    have vO6 := vO5.turn t1 (by omega)
    have vR6 := vR5.turn t1 (by omega)
    have hlE := VarA.lt vE
    clear HO5 HU5 HC5 HT5 vO5 vR5 vE_ t_ t1
    refine Calls.mono (H2.out _ HC6.out) ?_
    rintro e w7 ⟨rfl, hc, t1⟩
    have hs7 := t1.size
    have HO7 : Hid (OwV w7 (fun b => w4.heap.size ≤ b ∧ b < wr.heap.size) (.slice ua un uc) (ensDt l0)) := HO6.out.keep (t1.keeps (fun b hb hs => by omega))
    have HU7 : Hid (OwV w7 (fun b => wr.heap.size ≤ b ∧ b < w5.heap.size) (.slice ta tl tc) (.bytes ts)) := HU6.out.keep (t1.keeps (fun b hb hs => by omega))
    have HC7 : Hid (CurV 77 pb zs v q5 w7) := hc
    have HT7 : Hid (Turned (fun b => b = pb) w w7) := HT6.out.trans t1
    have vO7 := vO6.turn t1 (by omega)
    have vR7 := vR6.turn t1 (by omega)
    have vE7 := vE.turn t1 (by omega)
    clear HO6 HU6 HC6 HT6 vO6 vR6 vE hc t1 H2
    dsimp only
    repeat (first
      | ((with_reducible refine guardStore (ty := 24) ?_); refine wpList_storeG vE7 rfl rfl rfl (by kernel_rfl) rfl (of_decide_eq_true rfl) rfl ?_; intro w8 vE_ t_; have vE8 : VarA w8 w5.heap.size 132 #[.slice ta tl tc, .int .i64 hs, .int .i64 hi, .bool hd] := vE_; have hs8 := t_.size; have HO8 : Hid (OwV w8 (fun b => w4.heap.size ≤ b ∧ b < wr.heap.size) (.slice ua un uc) (ensDt l0)) := HO7.out.keep (t_.keeps (fun b hb hs => by omega)); have HU8 : Hid (OwV w8 (fun b => wr.heap.size ≤ b ∧ b < w5.heap.size) (.slice ta tl tc) (.bytes ts)) := HU7.out.keep (t_.keeps (fun b hb hs => by omega)); have HC8 : Hid (CurV 77 pb zs v q5 w8) := HC7.out.keep t_ (fun b hb => by omega); have HT8 : Hid (Turned (fun b => b = pb) w w8) := HT7.out.then t_ (fun i hi hs => by omega); have vO8 := vO7.turn t_ (by omega); have vR8 := vR7.turn t_ (by omega); clear HO7 HU7 HC7 HT7 vO7 vR7 vE7 vE_ t_; have o5_ := vO8.c 5 rfl)
      | ((with_reducible refine guardLoad (ty := 132) ?_); refine wpList_loadA vE8 rfl Tryz.underlying132 rfl (by kernel_rfl) ?_)
      | (at_builtin; go_must (refine wpList_appEn _ rfl (.tmp 41) (.tmp 43) rfl _ rfl l0 ⟨ts, (hs, hi, hd)⟩ (.slice ta tl tc) w4.heap.size wr.heap.size w5.heap.size w8.heap.size rfl rfl (0, 0) (heap_alloc_new _ _) (OwV.step HO8.out (Below.new1 _)) (OwV.step HU8.out (Below.new1 _)) (by simp; omega) hs5 hws hln ?_; intro ga gn gc w9 ho9 t9); have hs9 := t9.size; simp at hs9; have HO9 : Hid (OwV w9 (fun b => w4.heap.size ≤ b ∧ b < w9.heap.size) (.slice ga gn gc) (ensDt (l0 ++ [⟨ts, (hs, hi, hd)⟩]))) := ho9; have HC9 : Hid (CurV 77 pb zs v q5 w9) := (HC8.out.alloc _).keep t9 (fun b hb => by omega); have HT9 : Hid (Turned (fun b => b = pb) w w9) := (HT8.out.alloc _).then t9 (fun i hi hs => by omega); have vO9 := (vO8.alloc _).turn t9 (by omega); have vR9 := (vR8.alloc _).turn t9 (by omega); clear HO8 HU8 HC8 HT8 vO8 vR8 vE8 ho9 t9 o5_)
      | ((with_reducible refine guardStore (ty := 27) ?_); refine wpList_storeG vO9 rfl rfl rfl (by kernel_rfl) rfl (of_decide_eq_true rfl) rfl ?_; intro w10 vO_ t_)
      | go_values | go_skip | go_guarded | go_step | go_upon)
    have vO10 : VarA w10 w1.heap.size 29 #[.int .i64 n0, .int .i64 hs1, .int .i64 hi1, .bool hd1, .int .i64 n2, .slice ga gn gc] := vO_
    have hs10 := t_.size
    have HO10 : Hid (OwV w10 (fun b => w4.heap.size ≤ b ∧ b < w10.heap.size) (.slice ga gn gc) (ensDt (rdEns zs (k + 1) q3).1)) := by rw [HSN.out]; exact (HO9.out.keep (t_.keeps (fun b hb hs => by omega))).mono (fun b hb => ⟨hb.1, by omega⟩)
    have HC10 : Hid (CurV 77 pb zs v (rdEns zs (k + 1) q3).2 w10) := by rw [HSN.out]; exact HC9.out.keep t_ (fun b hb => by omega)
    have HT10 : Hid (Turned (fun b => b = pb) w w10) := HT9.out.then t_ (fun i hi hs => by omega)
    have vR10 := vR9.turn t_ (by omega)
    clear HO9 HC9 HT9 vO9 vR9 vO_ t_ HSN
    refine ⟨?_, ?_⟩
    · exact ⟨k + 1, ga, gn, gc, by omega, by go_num, vO10, vR10, HO10, HC10, HT10, by omega⟩
    · simp [intOf]; omega
end Go.Proofs.YtbnjhjgjmckedaaGreat
end

section
/- The specification writes handles, operations, transactions' numbers and parts. Condition: no more than 2^20 bytes ahead of them. -/
namespace Go.Proofs.YtbnjhjgjmckedaaGreat
open Go.RowKit
set_option linter.unusedVariables false
set_option linter.unusedSimpArgs false
set_option maxRecDepth 100000

set_option maxHeartbeats 8000000 in
theorem specHandF (v : Value) (xs : List Int) (p q : Int) (S S2 : Nat → Prop) (w : World) (r : RdV w S v (.bytes xs)) (hl : xs.length ≤ 1900000) : Ap 99 #[v, Hd.v (p, q, false)] w (xs ++ hdB (p, q, false)) := by
  have h1 := putB_len p
  have h2 := putB_len q
  have HR : Hid (∀ W, Below w.heap.size w W → _) := r.old
  clear r
  go_enter Tryz.func99, Tryz.ntmps99
  go_wp2
  go_region_held3 (fun w' => w'.cell? ⟨w.heap.size, 0, none⟩ = some (.int .i64 p) ∧ w'.cell? ⟨w.heap.size, 1, none⟩ = some (.int .i64 q) ∧ w'.cell? ⟨w.heap.size, 2, none⟩ = some (.bool false)) (first | go_keep | (refine ⟨?_, ?_, ?_⟩ <;> assumption)) (first
    | (go_at_call 94; (with_reducible refine Calls.mono (specPutR v xs p _ _ (HR.out _ (by repeat (first | exact Below.refl _ _ | refine Below.al2 ?_ _ | refine Below.drew ?_ | refine below_drewN2 ?_ _))) (by omega)) ?_); rintro e w2 ⟨v1, rfl, z1, o1, b_⟩; have HB1 : Hid (Below w.heap.size w w2) := Below.trans (by repeat (first | exact Below.refl _ _ | refine Below.al2 ?_ _ | refine Below.drew ?_ | refine below_drewN2 ?_ _)) (b_.mono (by simp [World.drew] <;> omega)); have vA1 : VarA w2 w.heap.size 24 #[.int .i64 p, .int .i64 q, .bool false] := VarA.step (VarA.dr (VarA.new w _ _)) b_; clear b_; obtain ⟨c1_0, c1_1, c1_2⟩ := vA1.l3)
    | (go_at_call 94; (with_reducible refine Calls.mono (specPutR v1 (xs ++ putB p) q _ _ ((Owns.step o1 (by repeat (first | exact Below.refl _ _ | refine Below.al2 ?_ _ | refine Below.drew ?_ | refine below_drewN2 ?_ _))).rdT z1) (by simp only [List.length_append]; omega)) ?_); rintro e w3 ⟨v2, rfl, z2, o2, b_⟩; have HB2 : Hid (Below w.heap.size w w3) := HB1.out.trans (Below.mono (Below.trans (by repeat (first | exact Below.refl _ _ | refine Below.al2 ?_ _ | refine Below.drew ?_ | refine below_drewN2 ?_ _)) b_) HB1.out.size); have vA2 : VarA w3 w.heap.size 24 #[.int .i64 p, .int .i64 q, .bool false] := VarA.step vA1 (Below.trans (by repeat (first | exact Below.refl _ _ | refine Below.al2 ?_ _ | refine Below.drew ?_ | refine below_drewN2 ?_ _)) b_); clear b_; obtain ⟨c2_0, c2_1, c2_2⟩ := vA2.l3))
  all_goals
    have hsz := HB1.out.size
    have hs3 := HB2.out.size
    have HO : Hid (Owns w3 w.heap.size v2 (xs ++ putB p ++ putB q)) := o2.base (b' := w.heap.size) (by omega)
    have HZ : Hid _ := z2
    obtain ⟨a0_, a1_, a2_⟩ := vA2.l3
    clear o1 o2 z1 z2 vA1 vA2
    go_wp2_with (at_builtin; go_must (refine wpList_app _ rfl (.tmp 17) (.tmp 18) rfl w.heap.size v2 (xs ++ putB p ++ putB q) [0] rfl (HO.out.alloc _) _ 1 1 rfl rfl (one_new _ 0 (by omega) (by omega)) (by simp only [List.length_append]; omega) (by simp) (by simp; omega) (fun h => by cases h) ?_; intro v3 w4 ho hg))
    go_ret
    exact ⟨v3, rfl, by simpa [hdB, flagB, List.append_assoc] using isBytes_append HZ.out (flagB_bytes false), by simpa [hdB, flagB, List.append_assoc] using ho, (HB2.out.alloc hs3 _).grown hg (by simp; omega) (fun k hk => (HO.out.lt k hk).1)⟩
set_option maxHeartbeats 8000000 in
theorem specHandD (v : Value) (xs : List Int) (p q : Int) (S S2 : Nat → Prop) (w : World) (r : RdV w S v (.bytes xs)) (hl : xs.length ≤ 1900000) : Ap 99 #[v, Hd.v (p, q, true)] w (xs ++ hdB (p, q, true)) := by
  have h1 := putB_len p
  have h2 := putB_len q
  have HR : Hid (∀ W, Below w.heap.size w W → _) := r.old
  clear r
  go_enter Tryz.func99, Tryz.ntmps99
  go_wp2
  go_region_held3 (fun w' => w'.cell? ⟨w.heap.size, 0, none⟩ = some (.int .i64 p) ∧ w'.cell? ⟨w.heap.size, 1, none⟩ = some (.int .i64 q) ∧ w'.cell? ⟨w.heap.size, 2, none⟩ = some (.bool true)) (first | go_keep | (refine ⟨?_, ?_, ?_⟩ <;> assumption)) (first
    | (go_at_call 94; (with_reducible refine Calls.mono (specPutR v xs p _ _ (HR.out _ (by repeat (first | exact Below.refl _ _ | refine Below.al2 ?_ _ | refine Below.drew ?_ | refine below_drewN2 ?_ _))) (by omega)) ?_); rintro e w2 ⟨v1, rfl, z1, o1, b_⟩; have HB1 : Hid (Below w.heap.size w w2) := Below.trans (by repeat (first | exact Below.refl _ _ | refine Below.al2 ?_ _ | refine Below.drew ?_ | refine below_drewN2 ?_ _)) (b_.mono (by simp [World.drew] <;> omega)); have vA1 : VarA w2 w.heap.size 24 #[.int .i64 p, .int .i64 q, .bool true] := VarA.step (VarA.dr (VarA.new w _ _)) b_; clear b_; obtain ⟨c1_0, c1_1, c1_2⟩ := vA1.l3)
    | (go_at_call 94; (with_reducible refine Calls.mono (specPutR v1 (xs ++ putB p) q _ _ ((Owns.step o1 (by repeat (first | exact Below.refl _ _ | refine Below.al2 ?_ _ | refine Below.drew ?_ | refine below_drewN2 ?_ _))).rdT z1) (by simp only [List.length_append]; omega)) ?_); rintro e w3 ⟨v2, rfl, z2, o2, b_⟩; have HB2 : Hid (Below w.heap.size w w3) := HB1.out.trans (Below.mono (Below.trans (by repeat (first | exact Below.refl _ _ | refine Below.al2 ?_ _ | refine Below.drew ?_ | refine below_drewN2 ?_ _)) b_) HB1.out.size); have vA2 : VarA w3 w.heap.size 24 #[.int .i64 p, .int .i64 q, .bool true] := VarA.step vA1 (Below.trans (by repeat (first | exact Below.refl _ _ | refine Below.al2 ?_ _ | refine Below.drew ?_ | refine below_drewN2 ?_ _)) b_); clear b_; obtain ⟨c2_0, c2_1, c2_2⟩ := vA2.l3))
  all_goals
    have hsz := HB1.out.size
    have hs3 := HB2.out.size
    have HO : Hid (Owns w3 w.heap.size v2 (xs ++ putB p ++ putB q)) := o2.base (b' := w.heap.size) (by omega)
    have HZ : Hid _ := z2
    obtain ⟨a0_, a1_, a2_⟩ := vA2.l3
    clear o1 o2 z1 z2 vA1 vA2
    go_wp2_with (at_builtin; go_must (refine wpList_app _ rfl (.tmp 14) (.tmp 15) rfl w.heap.size v2 (xs ++ putB p ++ putB q) [1] rfl (HO.out.alloc _) _ 1 1 rfl rfl (one_new _ 1 (by omega) (by omega)) (by simp only [List.length_append]; omega) (by simp) (by simp; omega) (fun h => by cases h) ?_; intro v3 w4 ho hg))
    go_ret
    exact ⟨v3, rfl, by simpa [hdB, flagB, List.append_assoc] using isBytes_append HZ.out (flagB_bytes true), by simpa [hdB, flagB, List.append_assoc] using ho, (HB2.out.alloc hs3 _).grown hg (by simp; omega) (fun k hk => (HO.out.lt k hk).1)⟩
theorem specHandR (v : Value) (xs : List Int) (h : Hd) (S : Nat → Prop) (w : World) (r : RdV w S v (.bytes xs)) (hl : xs.length ≤ 1900000) : Ap 99 #[v, h.v] w (xs ++ hdB h) := by
  obtain ⟨p, q, d⟩ := h
  cases d
  · exact specHandF v xs p q S S w r hl
  · exact specHandD v xs p q S S w r hl
theorem specHandX (v : Value) (xs : List Int) (p q : Int) (d : Bool) (S : Nat → Prop) (w : World) (r : RdV w S v (.bytes xs)) (hl : xs.length ≤ 1900000) : Ap 99 #[v, .agg #[.int .i64 p, .int .i64 q, .bool d]] w (xs ++ hdB (p, q, d)) := specHandR v xs (p, q, d) S w r hl
set_option maxHeartbeats 8000000 in
theorem specTxR (v : Value) (xs : List Int) (t : TxD) (S S2 : Nat → Prop) (w : World) (r : RdV w S v (.bytes xs)) (hl : xs.length ≤ 1800000) : Ap 97 #[v, txV t] w (xs ++ txB t) := by
  obtain ⟨p, q, s⟩ := t
  have h1 := putB_len p
  have h2 := putB_len q
  have h3 := putB_len s
  have HR : Hid (∀ W, Below w.heap.size w W → _) := r.old
  clear r
  go_enter Tryz.func97, Tryz.ntmps97
  go_wp2
  go_region_held3 (fun w' => w'.cell? ⟨w.heap.size, 0, none⟩ = some (.int .i64 p) ∧ w'.cell? ⟨w.heap.size, 1, none⟩ = some (.int .i64 q) ∧ w'.cell? ⟨w.heap.size, 2, none⟩ = some (.int .i64 s)) (first | go_keep | (refine ⟨?_, ?_, ?_⟩ <;> assumption)) (first
    | (go_at_call 94; (with_reducible refine Calls.mono (specPutR v xs p _ _ (HR.out _ (by repeat (first | exact Below.refl _ _ | refine Below.al2 ?_ _ | refine Below.drew ?_ | refine below_drewN2 ?_ _))) (by omega)) ?_); rintro e w2 ⟨v1, rfl, z1, o1, b_⟩; have HB1 : Hid (Below w.heap.size w w2) := Below.trans (by repeat (first | exact Below.refl _ _ | refine Below.al2 ?_ _ | refine Below.drew ?_ | refine below_drewN2 ?_ _)) (b_.mono (by simp [World.drew] <;> omega)); have vA1 : VarA w2 w.heap.size 31 #[.int .i64 p, .int .i64 q, .int .i64 s] := VarA.step (VarA.dr (VarA.new w _ _)) b_; clear b_; obtain ⟨c1_0, c1_1, c1_2⟩ := vA1.l3)
    | (go_at_call 94; (with_reducible refine Calls.mono (specPutR v1 (xs ++ putB p) q _ _ ((Owns.step o1 (by repeat (first | exact Below.refl _ _ | refine Below.al2 ?_ _ | refine Below.drew ?_ | refine below_drewN2 ?_ _))).rdT z1) (by simp only [List.length_append]; omega)) ?_); rintro e w3 ⟨v2, rfl, z2, o2, b_⟩; have HB2 : Hid (Below w.heap.size w w3) := HB1.out.trans (Below.mono (Below.trans (by repeat (first | exact Below.refl _ _ | refine Below.al2 ?_ _ | refine Below.drew ?_ | refine below_drewN2 ?_ _)) b_) HB1.out.size); have vA2 : VarA w3 w.heap.size 31 #[.int .i64 p, .int .i64 q, .int .i64 s] := VarA.step vA1 (Below.trans (by repeat (first | exact Below.refl _ _ | refine Below.al2 ?_ _ | refine Below.drew ?_ | refine below_drewN2 ?_ _)) b_); clear b_; obtain ⟨c2_0, c2_1, c2_2⟩ := vA2.l3)
    | (go_at_call 94; (with_reducible refine Calls.mono (specPutR v2 (xs ++ putB p ++ putB q) s _ _ ((Owns.step o2 (by repeat (first | exact Below.refl _ _ | refine Below.al2 ?_ _ | refine Below.drew ?_ | refine below_drewN2 ?_ _))).rdT z2) (by simp only [List.length_append]; omega)) ?_); rintro e w4 ⟨v3, rfl, z3, o3, b_⟩; have HB3 : Hid (Below w.heap.size w w4) := HB2.out.trans (Below.mono (Below.trans (by repeat (first | exact Below.refl _ _ | refine Below.al2 ?_ _ | refine Below.drew ?_ | refine below_drewN2 ?_ _)) b_) HB2.out.size); have vA3 : VarA w4 w.heap.size 31 #[.int .i64 p, .int .i64 q, .int .i64 s] := VarA.step vA2 (Below.trans (by repeat (first | exact Below.refl _ _ | refine Below.al2 ?_ _ | refine Below.drew ?_ | refine below_drewN2 ?_ _)) b_); clear b_; obtain ⟨c3_0, c3_1, c3_2⟩ := vA3.l3))
  all_goals
    go_wp2
    go_ret
    refine ⟨_, rfl, ?_, ?_, HB3.out⟩
    · simpa [txB, List.append_assoc] using z3
    · have o_ := o3.base (b' := w.heap.size) (by first | exact HB2.out.size | omega)
      simpa [txB, List.append_assoc] using o_
set_option maxHeartbeats 8000000 in
theorem specOpR (v : Value) (xs : List Int) (o : OpD) (x y : Value) (S S2 : Nat → Prop) (w : World) (r : RdV w S v (.bytes xs)) (hl : xs.length ≤ 1800000) (q1 : RdV w S2 x (.bytes o.nm)) (q2 : RdV w S2 y (.bytes o.asn)) (hn : o.nm.length ≤ 1048576) (hm : o.asn.length ≤ 1048576) : Ap 95 #[v, opV o x y] w (xs ++ opB o) := by
  obtain ⟨kd, ⟨p, q, d⟩, nm, ⟨p2, q2_, d2⟩, asn, vl⟩ := o
  dsimp only at q1 q2 hn hm ⊢
  have h1 := putB_len kd
  have h2 := hdB_len (p, q, d)
  have h3 := textB_len nm
  have h4 := hdB_len (p2, q2_, d2)
  have h5 := textB_len asn
  have h6 := putB_len vl
  have HX : Hid (∀ W, Below w.heap.size w W → _) := q1.old
  have HY : Hid (∀ W, Below w.heap.size w W → _) := q2.old
  clear q1 q2
  have HR : Hid (∀ W, Below w.heap.size w W → _) := r.old
  clear r
  go_enter Tryz.func95, Tryz.ntmps95
  go_wp2
  go_region_held3 (fun w' => w'.cell? ⟨w.heap.size, 0, none⟩ = some (.int .i64 kd) ∧ w'.cell? ⟨w.heap.size, 1, none⟩ = some (.int .i64 p) ∧ w'.cell? ⟨w.heap.size, 2, none⟩ = some (.int .i64 q) ∧ w'.cell? ⟨w.heap.size, 3, none⟩ = some (.bool d) ∧ w'.cell? ⟨w.heap.size, 4, none⟩ = some (x) ∧ w'.cell? ⟨w.heap.size, 5, none⟩ = some (.int .i64 p2) ∧ w'.cell? ⟨w.heap.size, 6, none⟩ = some (.int .i64 q2_) ∧ w'.cell? ⟨w.heap.size, 7, none⟩ = some (.bool d2) ∧ w'.cell? ⟨w.heap.size, 8, none⟩ = some (y) ∧ w'.cell? ⟨w.heap.size, 9, none⟩ = some (.int .i64 vl)) (first | go_keep | (refine ⟨?_, ?_, ?_, ?_, ?_, ?_, ?_, ?_, ?_, ?_⟩ <;> assumption)) (first
    | (go_at_call 94; (with_reducible refine Calls.mono (specPutR v xs kd _ _ (HR.out _ (by repeat (first | exact Below.refl _ _ | refine Below.al2 ?_ _ | refine Below.drew ?_ | refine below_drewN2 ?_ _))) (by omega)) ?_); rintro e w2 ⟨v1, rfl, z1, o1, b_⟩; have HB1 : Hid (Below w.heap.size w w2) := Below.trans (by repeat (first | exact Below.refl _ _ | refine Below.al2 ?_ _ | refine Below.drew ?_ | refine below_drewN2 ?_ _)) (b_.mono (by simp [World.drew] <;> omega)); have vA1 : VarA w2 w.heap.size 26 #[.int .i64 kd, .int .i64 p, .int .i64 q, .bool d, x, .int .i64 p2, .int .i64 q2_, .bool d2, y, .int .i64 vl] := VarA.step (VarA.dr (VarA.new w _ _)) b_; clear b_; obtain ⟨c1_0, c1_1, c1_2, c1_3, c1_4, c1_5, c1_6, c1_7, c1_8, c1_9⟩ := vA1.l10)
    | (go_at_call 99; (with_reducible refine Calls.mono (specHandX v1 (xs ++ putB kd) p q d _ _ ((Owns.step o1 (by repeat (first | exact Below.refl _ _ | refine Below.al2 ?_ _ | refine Below.drew ?_ | refine below_drewN2 ?_ _))).rdT z1) (by simp only [List.length_append]; omega)) ?_); rintro e w3 ⟨v2, rfl, z2, o2, b_⟩; have HB2 : Hid (Below w.heap.size w w3) := HB1.out.trans (Below.mono (Below.trans (by repeat (first | exact Below.refl _ _ | refine Below.al2 ?_ _ | refine Below.drew ?_ | refine below_drewN2 ?_ _)) b_) HB1.out.size); have vA2 : VarA w3 w.heap.size 26 #[.int .i64 kd, .int .i64 p, .int .i64 q, .bool d, x, .int .i64 p2, .int .i64 q2_, .bool d2, y, .int .i64 vl] := VarA.step vA1 (Below.trans (by repeat (first | exact Below.refl _ _ | refine Below.al2 ?_ _ | refine Below.drew ?_ | refine below_drewN2 ?_ _)) b_); clear b_; obtain ⟨c2_0, c2_1, c2_2, c2_3, c2_4, c2_5, c2_6, c2_7, c2_8, c2_9⟩ := vA2.l10)
    | (go_at_call 117; (with_reducible refine Calls.mono (specTextR v2 _ (xs ++ putB kd ++ hdB (p, q, d)) nm _ S2 _ ((Owns.step o2 (by repeat (first | exact Below.refl _ _ | refine Below.al2 ?_ _ | refine Below.drew ?_ | refine below_drewN2 ?_ _))).rdT z2) (HX.out _ (HB2.out.trans (Below.mono (by repeat (first | exact Below.refl _ _ | refine Below.al2 ?_ _ | refine Below.drew ?_ | refine below_drewN2 ?_ _)) HB2.out.size))) (by simp only [List.length_append]; omega) (by omega)) ?_); rintro e w4 ⟨v3, rfl, z3, o3, b_⟩; have HB3 : Hid (Below w.heap.size w w4) := HB2.out.trans (Below.mono (Below.trans (by repeat (first | exact Below.refl _ _ | refine Below.al2 ?_ _ | refine Below.drew ?_ | refine below_drewN2 ?_ _)) b_) HB2.out.size); have vA3 : VarA w4 w.heap.size 26 #[.int .i64 kd, .int .i64 p, .int .i64 q, .bool d, x, .int .i64 p2, .int .i64 q2_, .bool d2, y, .int .i64 vl] := VarA.step vA2 (Below.trans (by repeat (first | exact Below.refl _ _ | refine Below.al2 ?_ _ | refine Below.drew ?_ | refine below_drewN2 ?_ _)) b_); clear b_; obtain ⟨c3_0, c3_1, c3_2, c3_3, c3_4, c3_5, c3_6, c3_7, c3_8, c3_9⟩ := vA3.l10))
  go_wp2
  go_region_held3 (fun w' => w'.cell? ⟨w.heap.size, 0, none⟩ = some (.int .i64 kd) ∧ w'.cell? ⟨w.heap.size, 1, none⟩ = some (.int .i64 p) ∧ w'.cell? ⟨w.heap.size, 2, none⟩ = some (.int .i64 q) ∧ w'.cell? ⟨w.heap.size, 3, none⟩ = some (.bool d) ∧ w'.cell? ⟨w.heap.size, 4, none⟩ = some (x) ∧ w'.cell? ⟨w.heap.size, 5, none⟩ = some (.int .i64 p2) ∧ w'.cell? ⟨w.heap.size, 6, none⟩ = some (.int .i64 q2_) ∧ w'.cell? ⟨w.heap.size, 7, none⟩ = some (.bool d2) ∧ w'.cell? ⟨w.heap.size, 8, none⟩ = some (y) ∧ w'.cell? ⟨w.heap.size, 9, none⟩ = some (.int .i64 vl)) (first | go_keep | (refine ⟨?_, ?_, ?_, ?_, ?_, ?_, ?_, ?_, ?_, ?_⟩ <;> assumption)) (first
    | (go_at_call 99; (with_reducible refine Calls.mono (specHandX v3 (xs ++ putB kd ++ hdB (p, q, d) ++ textB nm) p2 q2_ d2 _ _ ((Owns.step o3 (by repeat (first | exact Below.refl _ _ | refine Below.al2 ?_ _ | refine Below.drew ?_ | refine below_drewN2 ?_ _))).rdT z3) (by simp only [List.length_append]; omega)) ?_); rintro e w5 ⟨v4, rfl, z4, o4, b_⟩; have HB4 : Hid (Below w.heap.size w w5) := HB3.out.trans (Below.mono (Below.trans (by repeat (first | exact Below.refl _ _ | refine Below.al2 ?_ _ | refine Below.drew ?_ | refine below_drewN2 ?_ _)) b_) HB3.out.size); have vA4 : VarA w5 w.heap.size 26 #[.int .i64 kd, .int .i64 p, .int .i64 q, .bool d, x, .int .i64 p2, .int .i64 q2_, .bool d2, y, .int .i64 vl] := VarA.step vA3 (Below.trans (by repeat (first | exact Below.refl _ _ | refine Below.al2 ?_ _ | refine Below.drew ?_ | refine below_drewN2 ?_ _)) b_); clear b_; obtain ⟨c4_0, c4_1, c4_2, c4_3, c4_4, c4_5, c4_6, c4_7, c4_8, c4_9⟩ := vA4.l10)
    | (go_at_call 117; (with_reducible refine Calls.mono (specTextR v4 _ (xs ++ putB kd ++ hdB (p, q, d) ++ textB nm ++ hdB (p2, q2_, d2)) asn _ S2 _ ((Owns.step o4 (by repeat (first | exact Below.refl _ _ | refine Below.al2 ?_ _ | refine Below.drew ?_ | refine below_drewN2 ?_ _))).rdT z4) (HY.out _ (HB4.out.trans (Below.mono (by repeat (first | exact Below.refl _ _ | refine Below.al2 ?_ _ | refine Below.drew ?_ | refine below_drewN2 ?_ _)) HB4.out.size))) (by simp only [List.length_append]; omega) (by omega)) ?_); rintro e w6 ⟨v5, rfl, z5, o5, b_⟩; have HB5 : Hid (Below w.heap.size w w6) := HB4.out.trans (Below.mono (Below.trans (by repeat (first | exact Below.refl _ _ | refine Below.al2 ?_ _ | refine Below.drew ?_ | refine below_drewN2 ?_ _)) b_) HB4.out.size); have vA5 : VarA w6 w.heap.size 26 #[.int .i64 kd, .int .i64 p, .int .i64 q, .bool d, x, .int .i64 p2, .int .i64 q2_, .bool d2, y, .int .i64 vl] := VarA.step vA4 (Below.trans (by repeat (first | exact Below.refl _ _ | refine Below.al2 ?_ _ | refine Below.drew ?_ | refine below_drewN2 ?_ _)) b_); clear b_; obtain ⟨c5_0, c5_1, c5_2, c5_3, c5_4, c5_5, c5_6, c5_7, c5_8, c5_9⟩ := vA5.l10)
    | (go_at_call 94; (with_reducible refine Calls.mono (specPutR v5 (xs ++ putB kd ++ hdB (p, q, d) ++ textB nm ++ hdB (p2, q2_, d2) ++ textB asn) vl _ _ ((Owns.step o5 (by repeat (first | exact Below.refl _ _ | refine Below.al2 ?_ _ | refine Below.drew ?_ | refine below_drewN2 ?_ _))).rdT z5) (by simp only [List.length_append]; omega)) ?_); rintro e w7 ⟨v6, rfl, z6, o6, b_⟩; have HB6 : Hid (Below w.heap.size w w7) := HB5.out.trans (Below.mono (Below.trans (by repeat (first | exact Below.refl _ _ | refine Below.al2 ?_ _ | refine Below.drew ?_ | refine below_drewN2 ?_ _)) b_) HB5.out.size); have vA6 : VarA w7 w.heap.size 26 #[.int .i64 kd, .int .i64 p, .int .i64 q, .bool d, x, .int .i64 p2, .int .i64 q2_, .bool d2, y, .int .i64 vl] := VarA.step vA5 (Below.trans (by repeat (first | exact Below.refl _ _ | refine Below.al2 ?_ _ | refine Below.drew ?_ | refine below_drewN2 ?_ _)) b_); clear b_; obtain ⟨c6_0, c6_1, c6_2, c6_3, c6_4, c6_5, c6_6, c6_7, c6_8, c6_9⟩ := vA6.l10))
  all_goals
    go_wp2
    go_ret
    refine ⟨_, rfl, ?_, ?_, HB6.out⟩
    · simpa [opB, List.append_assoc] using z6
    · have o_ := o6.base (b' := w.heap.size) (by first | exact HB5.out.size | omega)
      simpa [opB, List.append_assoc] using o_
set_option maxHeartbeats 8000000 in
theorem specPartR (v : Value) (xs : List Int) (o : PtD) (x : Value) (S S2 : Nat → Prop) (w : World) (r : RdV w S v (.bytes xs)) (hl : xs.length ≤ 1800000) (q1 : RdV w S2 x (.bytes o.asn)) (hn : o.asn.length ≤ 1048576) : Ap 98 #[v, ptV o x] w (xs ++ ptB o) := by
  obtain ⟨kd, ⟨p, q, d⟩, nm, ⟨p2, q2_, d2⟩⟩ := o
  dsimp only at q1 hn ⊢
  have h1 := putB_len kd
  have h2 := hdB_len (p, q, d)
  have h3 := textB_len nm
  have h4 := hdB_len (p2, q2_, d2)
  have HX : Hid (∀ W, Below w.heap.size w W → _) := q1.old
  clear q1
  have HR : Hid (∀ W, Below w.heap.size w W → _) := r.old
  clear r
  go_enter Tryz.func98, Tryz.ntmps98
  go_wp2
  go_region_held3 (fun w' => w'.cell? ⟨w.heap.size, 0, none⟩ = some (.int .i64 kd) ∧ w'.cell? ⟨w.heap.size, 1, none⟩ = some (.int .i64 p) ∧ w'.cell? ⟨w.heap.size, 2, none⟩ = some (.int .i64 q) ∧ w'.cell? ⟨w.heap.size, 3, none⟩ = some (.bool d) ∧ w'.cell? ⟨w.heap.size, 4, none⟩ = some (x) ∧ w'.cell? ⟨w.heap.size, 5, none⟩ = some (.int .i64 p2) ∧ w'.cell? ⟨w.heap.size, 6, none⟩ = some (.int .i64 q2_) ∧ w'.cell? ⟨w.heap.size, 7, none⟩ = some (.bool d2)) (first | go_keep | (refine ⟨?_, ?_, ?_, ?_, ?_, ?_, ?_, ?_⟩ <;> assumption)) (first
    | (go_at_call 94; (with_reducible refine Calls.mono (specPutR v xs kd _ _ (HR.out _ (by repeat (first | exact Below.refl _ _ | refine Below.al2 ?_ _ | refine Below.drew ?_ | refine below_drewN2 ?_ _))) (by omega)) ?_); rintro e w2 ⟨v1, rfl, z1, o1, b_⟩; have HB1 : Hid (Below w.heap.size w w2) := Below.trans (by repeat (first | exact Below.refl _ _ | refine Below.al2 ?_ _ | refine Below.drew ?_ | refine below_drewN2 ?_ _)) (b_.mono (by simp [World.drew] <;> omega)); have vA1 : VarA w2 w.heap.size 33 #[.int .i64 kd, .int .i64 p, .int .i64 q, .bool d, x, .int .i64 p2, .int .i64 q2_, .bool d2] := VarA.step (VarA.dr (VarA.new w _ _)) b_; clear b_; obtain ⟨c1_0, c1_1, c1_2, c1_3, c1_4, c1_5, c1_6, c1_7⟩ := vA1.l8)
    | (go_at_call 99; (with_reducible refine Calls.mono (specHandX v1 (xs ++ putB kd) p q d _ _ ((Owns.step o1 (by repeat (first | exact Below.refl _ _ | refine Below.al2 ?_ _ | refine Below.drew ?_ | refine below_drewN2 ?_ _))).rdT z1) (by simp only [List.length_append]; omega)) ?_); rintro e w3 ⟨v2, rfl, z2, o2, b_⟩; have HB2 : Hid (Below w.heap.size w w3) := HB1.out.trans (Below.mono (Below.trans (by repeat (first | exact Below.refl _ _ | refine Below.al2 ?_ _ | refine Below.drew ?_ | refine below_drewN2 ?_ _)) b_) HB1.out.size); have vA2 : VarA w3 w.heap.size 33 #[.int .i64 kd, .int .i64 p, .int .i64 q, .bool d, x, .int .i64 p2, .int .i64 q2_, .bool d2] := VarA.step vA1 (Below.trans (by repeat (first | exact Below.refl _ _ | refine Below.al2 ?_ _ | refine Below.drew ?_ | refine below_drewN2 ?_ _)) b_); clear b_; obtain ⟨c2_0, c2_1, c2_2, c2_3, c2_4, c2_5, c2_6, c2_7⟩ := vA2.l8)
    | (go_at_call 117; (with_reducible refine Calls.mono (specTextR v2 _ (xs ++ putB kd ++ hdB (p, q, d)) nm _ S2 _ ((Owns.step o2 (by repeat (first | exact Below.refl _ _ | refine Below.al2 ?_ _ | refine Below.drew ?_ | refine below_drewN2 ?_ _))).rdT z2) (HX.out _ (HB2.out.trans (Below.mono (by repeat (first | exact Below.refl _ _ | refine Below.al2 ?_ _ | refine Below.drew ?_ | refine below_drewN2 ?_ _)) HB2.out.size))) (by simp only [List.length_append]; omega) (by omega)) ?_); rintro e w4 ⟨v3, rfl, z3, o3, b_⟩; have HB3 : Hid (Below w.heap.size w w4) := HB2.out.trans (Below.mono (Below.trans (by repeat (first | exact Below.refl _ _ | refine Below.al2 ?_ _ | refine Below.drew ?_ | refine below_drewN2 ?_ _)) b_) HB2.out.size); have vA3 : VarA w4 w.heap.size 33 #[.int .i64 kd, .int .i64 p, .int .i64 q, .bool d, x, .int .i64 p2, .int .i64 q2_, .bool d2] := VarA.step vA2 (Below.trans (by repeat (first | exact Below.refl _ _ | refine Below.al2 ?_ _ | refine Below.drew ?_ | refine below_drewN2 ?_ _)) b_); clear b_; obtain ⟨c3_0, c3_1, c3_2, c3_3, c3_4, c3_5, c3_6, c3_7⟩ := vA3.l8)
    | (go_at_call 99; (with_reducible refine Calls.mono (specHandX v3 (xs ++ putB kd ++ hdB (p, q, d) ++ textB nm) p2 q2_ d2 _ _ ((Owns.step o3 (by repeat (first | exact Below.refl _ _ | refine Below.al2 ?_ _ | refine Below.drew ?_ | refine below_drewN2 ?_ _))).rdT z3) (by simp only [List.length_append]; omega)) ?_); rintro e w5 ⟨v4, rfl, z4, o4, b_⟩; have HB4 : Hid (Below w.heap.size w w5) := HB3.out.trans (Below.mono (Below.trans (by repeat (first | exact Below.refl _ _ | refine Below.al2 ?_ _ | refine Below.drew ?_ | refine below_drewN2 ?_ _)) b_) HB3.out.size); have vA4 : VarA w5 w.heap.size 33 #[.int .i64 kd, .int .i64 p, .int .i64 q, .bool d, x, .int .i64 p2, .int .i64 q2_, .bool d2] := VarA.step vA3 (Below.trans (by repeat (first | exact Below.refl _ _ | refine Below.al2 ?_ _ | refine Below.drew ?_ | refine below_drewN2 ?_ _)) b_); clear b_; obtain ⟨c4_0, c4_1, c4_2, c4_3, c4_4, c4_5, c4_6, c4_7⟩ := vA4.l8))
  all_goals
    go_wp2
    go_ret
    refine ⟨_, rfl, ?_, ?_, HB4.out⟩
    · simpa [ptB, List.append_assoc] using z4
    · have o_ := o4.base (b' := w.heap.size) (by first | exact HB3.out.size | omega)
      simpa [ptB, List.append_assoc] using o_
end Go.Proofs.YtbnjhjgjmckedaaGreat
end

section
/- What the verifier's counting of entries, nodes, trees and operations answers; no condition on them. -/
namespace Go.Proofs.YtbnjhjgjmckedaaGreat
open Go.RowKit
set_option linter.unusedVariables false

def leftT (n s : Nat) : Int := if n ≤ s then (s : Int) - n else -1

/-- f, summed up over the first j. -/
def psum {α : Type} (f : α → Nat) (l : List α) (j : Nat) : Nat := ((l.take j).map f).sum
theorem psum_zero {α : Type} (f : α → Nat) (l : List α) : psum f l 0 = 0 := by simp [psum]
theorem psum_all {α : Type} (f : α → Nat) (l : List α) : psum f l l.length = (l.map f).sum := by simp [psum]
theorem psum_next {α : Type} (f : α → Nat) (l : List α) (d : α) (j : Nat) (h : j < l.length) : psum f l (j + 1) = psum f l j + f (l[j]?.getD d) := by
  unfold psum
  rw [List.take_succ_eq_append_getElem h, List.map_append, List.sum_append]
  simp [h]
theorem psum_le {α : Type} (f : α → Nat) (l : List α) (j : Nat) : psum f l j ≤ (l.map f).sum := by
  have : (l.map f).sum = ((l.take j).map f).sum + ((l.drop j).map f).sum := by rw [← List.sum_append, ← List.map_append, List.take_append_drop]
  unfold psum
  omega

end Go.Proofs.YtbnjhjgjmckedaaGreat
end

section
/- The specification writes replies. Condition: at most 12 entries, no more than 2^20 bytes ahead of them. -/
namespace Go.Proofs.YtbnjhjgjmckedaaGreat
open Go.RowKit
set_option linter.unusedVariables false
set_option linter.unusedSimpArgs false
set_option maxRecDepth 100000

theorem ensB_next (l : List En) (k : Nat) (h : k < l.length) : ensB (l.take (k + 1)) = ensB (l.take k) ++ enB (l[k]?.getD en0) := by
  unfold ensB
  rw [← List.take_append_getElem h, List.flatMap_append, List.getElem?_eq_getElem h]; simp
set_option maxHeartbeats 8000000 in
theorem specReplyR (v : Value) (xs : List Int) (o : RpD) (x : Value) (S S2 : Nat → Prop) (w : World) (r : RdV w S v (.bytes xs)) (hl : xs.length ≤ 1700000) (q1 : RdV w S2 x (ensDt o.list)) (hn : szEns o.list ≤ 1048576) (h12 : o.list.length ≤ 12) : Ap 96 #[v, rpV o x] w (xs ++ rpB o) := by
  obtain ⟨a, cap, rfl, _⟩ := RdV.sliced q1
  obtain ⟨kd, ⟨p, q, d⟩, vl, es⟩ := o
  dsimp only at q1 hn h12 ⊢
  have HR2 : Hid (∀ W, Below w.heap.size w W → RdV W S2 (.slice a es.length cap) (.rows 132 4 es.length (fun i j => enCell (es[i]?.getD en0) j))) := RdV.old q1
  have HL : Hid _ := hn
  have HN : Hid (∀ k, k < es.length → ensB (es.take (k + 1)) = ensB (es.take k) ++ enB (es[k]?.getD en0)) := fun k hk => ensB_next es k hk
  have HEL : Hid (∀ k, k ≤ es.length → (ensB (es.take k)).length ≤ 56 * 12) := fun k hk => by have := ensB_len (es.take k); rw [List.length_take] at this; omega
  have HEA : Hid (ensB (es.take es.length) = ensB es) := by show _ = _; rw [List.take_length]
  obtain ⟨m, hm⟩ : ∃ m, es.length = m := ⟨_, rfl⟩
  have HF : Hid (rpB ⟨kd, (p, q, d), vl, es⟩ = putB kd ++ (hdB (p, q, d) ++ (putB vl ++ (putB (m : Int) ++ ensB es)))) := by show _ = _; rw [← hm]; rfl
  rw [HF.out]
  rw [hm] at HR2 HN HEL HEA h12 ⊢
  clear q1 hn hm HF
  have h1 := putB_len kd
  have h2 := hdB_len (p, q, d)
  have h3 := putB_len vl
  have h4 := putB_len (m : Int)
  have HR : Hid (∀ W, Below w.heap.size w W → _) := r.old
  clear r
  go_enter Tryz.func96, Tryz.ntmps96
  go_wp2
  go_region_held3 (fun w' => w'.cell? ⟨w.heap.size, 0, none⟩ = some (.int .i64 kd) ∧ w'.cell? ⟨w.heap.size, 1, none⟩ = some (.int .i64 p) ∧ w'.cell? ⟨w.heap.size, 2, none⟩ = some (.int .i64 q) ∧ w'.cell? ⟨w.heap.size, 3, none⟩ = some (.bool d) ∧ w'.cell? ⟨w.heap.size, 4, none⟩ = some (.int .i64 vl) ∧ w'.cell? ⟨w.heap.size, 5, none⟩ = some (.slice a m cap)) (first | go_keep | (refine ⟨?_, ?_, ?_, ?_, ?_, ?_⟩ <;> assumption)) (first
    | (go_at_call 94; (with_reducible refine Calls.mono (specPutR v xs kd _ _ (HR.out _ (by repeat (first | exact Below.refl _ _ | refine Below.al2 ?_ _ | refine Below.drew ?_ | refine below_drewN2 ?_ _))) (by omega)) ?_); rintro e w2 ⟨v1, rfl, z1, o1, b_⟩; have HB1 : Hid (Below w.heap.size w w2) := Below.trans (by repeat (first | exact Below.refl _ _ | refine Below.al2 ?_ _ | refine Below.drew ?_ | refine below_drewN2 ?_ _)) (b_.mono (by simp [World.drew] <;> omega)); have vA1 : VarA w2 w.heap.size 29 #[.int .i64 kd, .int .i64 p, .int .i64 q, .bool d, .int .i64 vl, .slice a m cap] := VarA.step (VarA.dr (VarA.new w _ _)) b_; clear b_; obtain ⟨c1_0, c1_1, c1_2, c1_3, c1_4, c1_5⟩ := vA1.l6)
    | (go_at_call 99; (with_reducible refine Calls.mono (specHandX v1 (xs ++ putB kd) p q d _ _ ((Owns.step o1 (by repeat (first | exact Below.refl _ _ | refine Below.al2 ?_ _ | refine Below.drew ?_ | refine below_drewN2 ?_ _))).rdT z1) (by simp only [List.length_append]; omega)) ?_); rintro e w3 ⟨v2, rfl, z2, o2, b_⟩; have HB2 : Hid (Below w.heap.size w w3) := HB1.out.trans (Below.mono (Below.trans (by repeat (first | exact Below.refl _ _ | refine Below.al2 ?_ _ | refine Below.drew ?_ | refine below_drewN2 ?_ _)) b_) HB1.out.size); have vA2 : VarA w3 w.heap.size 29 #[.int .i64 kd, .int .i64 p, .int .i64 q, .bool d, .int .i64 vl, .slice a m cap] := VarA.step vA1 (Below.trans (by repeat (first | exact Below.refl _ _ | refine Below.al2 ?_ _ | refine Below.drew ?_ | refine below_drewN2 ?_ _)) b_); clear b_; obtain ⟨c2_0, c2_1, c2_2, c2_3, c2_4, c2_5⟩ := vA2.l6)
    | (go_at_call 94; (with_reducible refine Calls.mono (specPutR v2 (xs ++ putB kd ++ hdB (p, q, d)) vl _ _ ((Owns.step o2 (by repeat (first | exact Below.refl _ _ | refine Below.al2 ?_ _ | refine Below.drew ?_ | refine below_drewN2 ?_ _))).rdT z2) (by simp only [List.length_append]; omega)) ?_); rintro e w4 ⟨v3, rfl, z3, o3, b_⟩; have HB3 : Hid (Below w.heap.size w w4) := HB2.out.trans (Below.mono (Below.trans (by repeat (first | exact Below.refl _ _ | refine Below.al2 ?_ _ | refine Below.drew ?_ | refine below_drewN2 ?_ _)) b_) HB2.out.size); have vA3 : VarA w4 w.heap.size 29 #[.int .i64 kd, .int .i64 p, .int .i64 q, .bool d, .int .i64 vl, .slice a m cap] := VarA.step vA2 (Below.trans (by repeat (first | exact Below.refl _ _ | refine Below.al2 ?_ _ | refine Below.drew ?_ | refine below_drewN2 ?_ _)) b_); clear b_; obtain ⟨c3_0, c3_1, c3_2, c3_3, c3_4, c3_5⟩ := vA3.l6)
    | (go_at_call 94; (with_reducible refine Calls.mono (specPutR v3 (xs ++ putB kd ++ hdB (p, q, d) ++ putB vl) (m : Int) _ _ ((Owns.step o3 (by repeat (first | exact Below.refl _ _ | refine Below.al2 ?_ _ | refine Below.drew ?_ | refine below_drewN2 ?_ _))).rdT z3) (by simp only [List.length_append]; omega)) ?_); rintro e w5 ⟨v4, rfl, z4, o4, b_⟩; have HB4 : Hid (Below w.heap.size w w5) := HB3.out.trans (Below.mono (Below.trans (by repeat (first | exact Below.refl _ _ | refine Below.al2 ?_ _ | refine Below.drew ?_ | refine below_drewN2 ?_ _)) b_) HB3.out.size); have vA4 : VarA w5 w.heap.size 29 #[.int .i64 kd, .int .i64 p, .int .i64 q, .bool d, .int .i64 vl, .slice a m cap] := VarA.step vA3 (Below.trans (by repeat (first | exact Below.refl _ _ | refine Below.al2 ?_ _ | refine Below.drew ?_ | refine below_drewN2 ?_ _)) b_); clear b_; obtain ⟨c4_0, c4_1, c4_2, c4_3, c4_4, c4_5⟩ := vA4.l6))
  all_goals
    have hsz := HB3.out.size
    have HO0 : Hid (Owns w5 w.heap.size v4 (xs ++ putB kd ++ hdB (p, q, d) ++ putB vl ++ putB (m : Int))) := o4.base (b' := w.heap.size) hsz
    have HZ0 : Hid _ := z4
    have HBB := HB4
    have vA := vA4
    clear o1 o2 o3 o4 z1 z2 z3 z4 vA1 vA2 vA3 vA4 c1_0 c1_1 c1_2 c1_3 c1_4 c1_5 c2_0 c2_1 c2_2 c2_3 c2_4 c2_5 c3_0 c3_1 c3_2 c3_3 c3_4 c3_5 c4_0 c4_1 c4_2 c4_3 c4_4 c4_5 HB1 HB2 HB3 HB4
    obtain ⟨ys, hys⟩ : ∃ ys, xs ++ putB kd ++ hdB (p, q, d) ++ putB vl ++ putB (m : Int) = ys := ⟨_, rfl⟩
    have hyl : ys.length ≤ 1700100 := by rw [← hys]; simp only [List.length_append]; omega
    have HGO : Hid (xs ++ (putB kd ++ (hdB (p, q, d) ++ (putB vl ++ (putB (m : Int) ++ ensB es)))) = ys ++ ensB es) := by show _ = _; rw [← hys]; simp [List.append_assoc]
    rw [hys] at HO0 HZ0
    clear hys h1 h2 h3 h4 hsz hl HR
    obtain ⟨a0_, a1_, a2_, a3_, a4_, a5_⟩ := vA.l6
    go_wp2
    go_loopw [0, 5] (fun q' i wr => ∃ (k : Nat) (u : Value), k ≤ m ∧ i = .int .i64 k ∧ u = q' ∧ Hid (isBytes (ys ++ ensB (es.take k))) ∧ Hid (Owns wr w.heap.size u (ys ++ ensB (es.take k))) ∧ Hid (Below w.heap.size w wr) ∧ VarA wr w.heap.size 29 #[.int .i64 kd, .int .i64 p, .int .i64 q, .bool d, .int .i64 vl, .slice a m cap]) (fun _ i _ => m - (intOf i).toNat)
    case atStart => exact ⟨0, v4, Nat.zero_le _, rfl, rfl, by show isBytes _; rw [List.take_zero]; simp only [ensB, List.flatMap_nil, List.append_nil]; exact HZ0.out, by show Owns _ _ _ _; simpa [ensB] using HO0.out, HBB, vA⟩
    case round =>
      clear HO0 HZ0 HBB vA a0_ a1_ a2_ a3_ a4_ a5_
      obtain ⟨k, u, hk, rfl, rfl, HZ, HO, hbel, vA⟩ := hrel
      obtain ⟨a0_, a1_, a2_, a3_, a4_, a5_⟩ := vA.l6
      have hvl_ := vA.lt
      by_cases hlt : k < m
      case neg =>
        have he : k = m := by omega
        subst he
        go_wp2
        go_ret
        exact ⟨_, rfl, by rw [HGO.out, ← HEA.out]; exact HZ.out, by rw [HGO.out, ← HEA.out]; exact HO.out, hbel.out⟩
      obtain ⟨b, off, rfl, hbl, _, hx⟩ := RdV.at (HR2.out wr hbel.out) hlt
      obtain ⟨e, he⟩ : ∃ e, es[k]?.getD en0 = e := ⟨_, rfl⟩
      obtain ⟨x0, c0, r0⟩ := hx 0 (by omega)
      obtain ⟨x1, c1, r1⟩ := hx 1 (by omega)
      obtain ⟨x2, c2, r2⟩ := hx 2 (by omega)
      obtain ⟨x3, c3, r3⟩ := hx 3 (by omega)
      rw [he] at r0 r1 r2 r3
      have HNX : Hid (ensB (es.take (k + 1)) = ensB (es.take k) ++ enB e) := by rw [HN.out k hlt, he]; rfl
      have hnz : e.nm.length ≤ 1048576 := by have h1 := szEns_at es k; rw [he] at h1; have h2 := HL.out; omega
      clear hx he
      obtain ⟨nm, ⟨s, ino, dd⟩⟩ := e
      obtain rfl : x1 = .int .i64 s := r1
      obtain rfl : x2 = .int .i64 ino := r2
      obtain rfl : x3 = .bool dd := r3
      simp only [Nat.add_zero] at c0
      dsimp only at hnz HNX
      have RB : Hid (∀ W, Below wr.heap.size wr W → RdV W S2 x0 (.bytes nm)) := fun W hW => RdV.step (show RdV wr S2 x0 (.bytes nm) from r0) hW
      clear r0
      have hkl := HEL.out k hk
      have h5 := textB_len nm
      have hws := hbel.out.size
      go_wp2
      go_region_held3 (fun w' => w'.cell? ⟨w.heap.size, 5, none⟩ = some (.slice (some ⟨b, off, none⟩) m cap) ∧ w'.cell? ⟨b, off + k * 4, none⟩ = some x0 ∧ w'.cell? ⟨b, off + k * 4 + 1, none⟩ = some (.int .i64 s) ∧ w'.cell? ⟨b, off + k * 4 + 2, none⟩ = some (.int .i64 ino) ∧ w'.cell? ⟨b, off + k * 4 + 3, none⟩ = some (.bool dd)) (first | go_keep | (refine ⟨?_, ?_, ?_, ?_, ?_⟩ <;> assumption)) (first
        | (go_at_call 117; (with_reducible refine Calls.mono (specTextR u x0 (ys ++ ensB (es.take k)) nm _ S2 _ ((Owns.step HO.out (by repeat (first | exact Below.refl _ _ | refine Below.al2 ?_ _ | refine Below.drew ?_ | refine below_drewN2 ?_ _))).rdT HZ.out) (RB.out _ (by repeat (first | exact Below.refl _ _ | refine Below.al2 ?_ _ | refine Below.drew ?_ | refine below_drewN2 ?_ _))) (by simp only [List.length_append]; omega) (by omega)) ?_); rintro e w2 ⟨v1, rfl, z1, o1, b_⟩; have b1 : Below wr.heap.size wr w2 := Below.trans (by repeat (first | exact Below.refl _ _ | refine Below.al2 ?_ _ | refine Below.drew ?_ | refine below_drewN2 ?_ _)) b_; clear b_; have d5 := (b1.cell (p := ⟨w.heap.size, 5, none⟩) hvl_).trans a5_; have e0 := (b1.cell (p := ⟨b, off + k * 4, none⟩) hbl).trans c0; have e1 := (b1.cell (p := ⟨b, off + k * 4 + 1, none⟩) hbl).trans c1; have e2 := (b1.cell (p := ⟨b, off + k * 4 + 2, none⟩) hbl).trans c2; have e3 := (b1.cell (p := ⟨b, off + k * 4 + 3, none⟩) hbl).trans c3)
        | (go_at_call 99; (with_reducible refine Calls.mono (specHandX v1 (ys ++ ensB (es.take k) ++ textB nm) s ino dd _ _ ((Owns.step o1 (by repeat (first | exact Below.refl _ _ | refine Below.al2 ?_ _ | refine Below.drew ?_ | refine below_drewN2 ?_ _))).rdT z1) (by simp only [List.length_append]; omega)) ?_); rintro e w3 ⟨v2, rfl, z2, o2, b_⟩; have b2 : Below wr.heap.size wr w3 := b1.trans (b_.mono b1.size); clear b_; have f5 := (b2.cell (p := ⟨w.heap.size, 5, none⟩) hvl_).trans a5_; have g0 := (b2.cell (p := ⟨b, off + k * 4, none⟩) hbl).trans c0; have g1 := (b2.cell (p := ⟨b, off + k * 4 + 1, none⟩) hbl).trans c1; have g2 := (b2.cell (p := ⟨b, off + k * 4 + 2, none⟩) hbl).trans c2; have g3 := (b2.cell (p := ⟨b, off + k * 4 + 3, none⟩) hbl).trans c3))
      all_goals
        have HZ2 : Hid (isBytes (ys ++ ensB (es.take (k + 1)))) := by show isBytes _; rw [HNX.out]; simpa [enB, List.append_assoc] using z2
        have HO2 : Hid (Owns w3 w.heap.size v2 (ys ++ ensB (es.take (k + 1)))) := by
          have o_ := o2.base (b' := w.heap.size) (Nat.le_trans hws b1.size)
          show Owns _ _ _ _
          rw [HNX.out]; simpa [enB, List.append_assoc] using o_
        have HB2 : Hid (Below w.heap.size w w3) := hbel.out.trans (b2.mono hws)
        have vA2 := vA.step b2
        clear HZ HO hbel z1 z2 o1 o2
        go_wp2
        refine ⟨?_, ?_⟩
        · exact ⟨k + 1, v2, by omega, by go_num, rfl, HZ2, HO2, HB2, vA2⟩
        · simp [intOf]; omega
end Go.Proofs.YtbnjhjgjmckedaaGreat
end
