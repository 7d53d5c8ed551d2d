/- Joined: RdI2 RdR RdRR RdTh RdT0. -/
import Derived.Test.YtmjfnmlfamikgaaL03
import Derived.Test.YtmjfnmlfamikgaaL02
import Derived.Test.YtmjfnmlfamikgaaRec0
import Derived.Test.YtmjfnmlfamikgaaRIm
import Derived.Laws.ResultCell
import Derived.Test.YtmjfnmlfamikgaaRSp
import Derived.Test.YtmjfnmlfamikgaaSame

section
/- The program reads entries and replies. Condition: at most 2,000,000 bytes. -/
namespace Go.Proofs.Ytmjfnmlfamikgaa
open Go.RowKit
set_option linter.unusedVariables false
set_option linter.unusedSimpArgs false
set_option maxRecDepth 100000

set_option maxHeartbeats 4000000 in
theorem implEntsC (pb : Nat) (zs : List Int) (v : Value) (p : Int) (w : World) (h : CurV 100 pb zs v p w) (hl : zs.length ≤ 2000000) :
    Calls Try.prog 119 #[.pointer (some ⟨pb, 0, none⟩)] w fun e w' => ∃ a n c, e = .returned (.slice a n c) ∧ OwV w' (fun b => w.heap.size ≤ b ∧ b < w'.heap.size) (.slice a n c) (ensDt (rdEnP zs p).1) ∧ Gone 100 pb zs v (rdEnP zs p).2 w w' := by
  have hz := RdV.zs h.2.1
  have hpl := h.lt
  obtain ⟨n, nx, e0⟩ : ∃ n nx, getNum zs p = (n, nx) := ⟨_, _, rfl⟩
  have hf := getNum_fits hz e0
  have h_ := implNumC pb zs v p w h hl
  rw [e0] at h_
  have HN : Hid _ := h_
  clear h_
  have hn0 : 0 ≤ n := by omega
  by_cases h12 : 12 < n
  · have hR : rdEnP zs p = ([], -1) := by unfold rdEnP; rw [e0]; exact if_pos h12
    rw [hR]
    clear hf hR e0 h
    go_enter Try.func119, Try.ntmps119
    go_wp2_with fail
    refine Calls.mono HN.out ?_
    rintro e w2 ⟨rfl, hc, ht⟩
    obtain ⟨c0, c1⟩ := VarA.l2 hc.1
    have hfz := VarA.fz hc.1
    have HC : Hid (CurV 100 pb zs v (-1) (w2.setCell ⟨pb, 1, none⟩ (.int .i64 (-1)))) := CurV.put hc (-1) (by omega) (by omega)
    have HT : Hid (Turned (fun b => b = pb) w (w2.setCell ⟨pb, 1, none⟩ (.int .i64 (-1)))) := ht.set _ _ rfl
    clear hc ht HN
    go_wp2
    go_ret
    exact ⟨_, _, _, rfl, OwV.nilR _ _ _ _ _, HC.out, HT.out⟩
  obtain ⟨N, rfl⟩ : ∃ N : Nat, n = (N : Int) := ⟨n.toNat, by omega⟩
  have hR : rdEnP zs p = rdEnsP zs N nx := by unfold rdEnP; rw [e0]; dsimp only; rw [if_neg h12]; simp
  rw [hR]
  have HTX : Hid (∀ P W, CurV 100 pb zs v P W → _) := fun P W hW => implTextC pb zs v P W hW hl
  have HHD : Hid (∀ P W, CurV 100 pb zs v P W → _) := fun P W hW => implHandC pb zs v P W hW hl
  clear hf hR e0 h
  go_enter Try.func119, Try.ntmps119
  go_wp2_with fail
  refine Calls.mono HN.out ?_
  rintro e w2 ⟨rfl, hc, ht⟩
  have HC : Hid (CurV 100 pb zs v nx w2) := hc
  have HT : Hid (Turned (fun b => b = pb) w w2) := ht
  have hsz2 := ht.size
  clear hc ht HN
  go_wp2
  go_loopw [4, 13] (fun q' i wr => ∃ (k : Nat) (ua : Option Addr) (un uc : Nat), k ≤ N ∧ i = .int .i64 k ∧ q' = .slice ua un uc ∧ Hid (OwV wr (fun b => w.heap.size ≤ b ∧ b < wr.heap.size) (.slice ua un uc) (ensDt (rdEnsP zs k nx).1)) ∧ Hid (CurV 100 pb zs v (rdEnsP zs k nx).2 wr) ∧ Hid (Turned (fun b => b = pb) w wr)) (fun _ i _ => N - (intOf i).toNat)
  case atStart => exact ⟨0, none, 0, 0, Nat.zero_le _, rfl, rfl, OwV.nilR _ _ _ _ _, HC, HT⟩
  case round =>
    clear HC HT hsz2
    obtain ⟨k, ua, un, uc, hk, rfl, rfl, HO, HC, HT⟩ := hrel
    have hszr := HT.out.size
    by_cases hlt : k < N
    case neg =>
      have he : k = N := by omega
      subst he
      go_wp2
      go_ret
      exact ⟨_, _, _, rfl, HO.out, HC.out, HT.out⟩
    obtain ⟨ts, q1, e1⟩ : ∃ x q, getText zs (rdEnsP zs k nx).2 = (x, q) := ⟨_, _, rfl⟩
    obtain ⟨⟨hs, hi, hd⟩, q2, e2⟩ : ∃ x q, rdHd zs q1 = (x, q) := ⟨_, _, rfl⟩
    have hS : rdEnsP zs (k + 1) nx = ((rdEnsP zs k nx).1 ++ [⟨ts, (hs, hi, hd)⟩], q2) := by rw [ensP_snoc, e1]; dsimp only; rw [e2]
    have HSN : Hid _ := hS
    have HLN : Hid _ := ensP_len zs k nx
    have h_ := HTX.out _ wr HC.out
    rw [e1] at h_
    have H1 : Hid _ := h_
    clear h_
    have H2 : Hid (∀ W, CurV 100 pb zs v q1 W → _) := fun W hW => by have h_ := HHD.out q1 W hW; rw [e2] at h_; exact h_
    clear e1 e2 hS HTX HHD
    generalize rdEnsP zs k nx = r0 at HSN HLN HC HO H1
    obtain ⟨l0, p0⟩ := r0
    dsimp only at HSN HLN HC HO H1
    go_wp2_with fail
    refine Calls.mono H1.out ?_
    rintro e w3 ⟨ta, tl, tc, rfl, o1, hc, t1⟩
    have hs3 := t1.size
    have HO3 : Hid (OwV w3 (fun b => w.heap.size ≤ b ∧ b < wr.heap.size) (.slice ua un uc) (ensDt l0)) := HO.out.keep (t1.keeps (fun b hb hs => by omega))
    have HU3 : Hid (OwV w3 (fun b => wr.heap.size ≤ b ∧ b < w3.heap.size) (.slice ta tl tc) (.bytes ts)) := o1
    have HC3 : Hid (CurV 100 pb zs v q1 w3) := hc
    have HT3 : Hid (Turned (fun b => b = pb) w w3) := HT.out.trans t1
    clear HO HC HT o1 hc t1 H1
    go_wp2_with fail
    refine Calls.mono (H2.out _ HC3.out) ?_
    rintro e w4 ⟨rfl, hc, t1⟩
    have hs4 := t1.size
    have HO4 : Hid (OwV w4 (fun b => w.heap.size ≤ b ∧ b < wr.heap.size) (.slice ua un uc) (ensDt l0)) := HO3.out.keep (t1.keeps (fun b hb hs => by omega))
    have HU4 : Hid (OwV w4 (fun b => wr.heap.size ≤ b ∧ b < w3.heap.size) (.slice ta tl tc) (.bytes ts)) := HU3.out.keep (t1.keeps (fun b hb hs => by omega))
    have HC4 : Hid (CurV 100 pb zs v q2 w4) := hc
    have HT4 : Hid (Turned (fun b => b = pb) w w4) := HT3.out.trans t1
    clear HO3 HU3 HC3 HT3 hc t1 H2
    go_wp2_with (at_builtin; go_must (refine wpList_appEn _ rfl (.tmp 15) (.tmp 21) rfl _ rfl l0 ⟨ts, (hs, hi, hd)⟩ (.slice ta tl tc) w.heap.size wr.heap.size w3.heap.size w4.heap.size rfl rfl (0, 0) (heap_alloc_new _ _) (OwV.step HO4.out (Below.new1 _)) (OwV.step HU4.out (Below.new1 _)) (by simp; omega) hs3 hszr (by rw [HLN.out]; omega) ?_; intro ga gn gc w5 ho5 t5))
    have HO5 : Hid (OwV w5 (fun b => w.heap.size ≤ b ∧ b < w5.heap.size) (.slice ga gn gc) (ensDt (rdEnsP zs (k + 1) nx).1)) := by rw [HSN.out]; exact ho5
    have HC5 : Hid (CurV 100 pb zs v (rdEnsP zs (k + 1) nx).2 w5) := by rw [HSN.out]; exact (HC4.out.alloc _).keep t5 (fun b hb => by omega)
    have HT5 : Hid (Turned (fun b => b = pb) w w5) := (HT4.out.alloc _).then t5 (fun i hi hs => by omega)
    clear HO4 HU4 HC4 HT4 ho5 t5 HSN
    go_wp2
    refine ⟨?_, ?_⟩
    · exact ⟨k + 1, ga, gn, gc, by omega, by go_num, rfl, HO5, HC5, HT5⟩
    · simp [intOf]; omega
set_option maxHeartbeats 4000000 in
theorem implReplyC (pb : Nat) (zs : List Int) (v : Value) (p : Int) (w : World) (h : CurV 100 pb zs v p w) (hl : zs.length ≤ 2000000) :
    Calls Try.prog 96 #[.pointer (some ⟨pb, 0, none⟩)] w fun e w' => ∃ a n c, e = .returned (rpV (rdRp (rdEnP zs) zs p).1 (.slice a n c)) ∧ OwV w' (fun b => w.heap.size ≤ b ∧ b < w'.heap.size) (.slice a n c) (ensDt (rdRp (rdEnP zs) zs p).1.list) ∧ Gone 100 pb zs v (rdRp (rdEnP zs) zs p).2 w w' := by
  have hz := RdV.zs h.2.1
  have hpl := h.lt
  obtain ⟨n0, q0, e0⟩ : ∃ x q, getNum zs p = (x, q) := ⟨_, _, rfl⟩
  have H0 : Hid (∀ W, CurV 100 pb zs v p W → _) := fun W hW => by have h_ := implNumC pb zs v p W hW hl; rw [e0] at h_; exact h_
  obtain ⟨⟨hs1, hi1, hd1⟩, q1, e1⟩ : ∃ x q, rdHd zs q0 = (x, q) := ⟨_, _, rfl⟩
  have H1 : Hid (∀ W, CurV 100 pb zs v q0 W → _) := fun W hW => by have h_ := implHandC pb zs v q0 W hW hl; rw [e1] at h_; exact h_
  obtain ⟨n2, q2, e2⟩ : ∃ x q, getNum zs q1 = (x, q) := ⟨_, _, rfl⟩
  have H2 : Hid (∀ W, CurV 100 pb zs v q1 W → _) := fun W hW => by have h_ := implNumC pb zs v q1 W hW hl; rw [e2] at h_; exact h_
  obtain ⟨es3, q3, e3⟩ : ∃ x q, rdEnP zs q2 = (x, q) := ⟨_, _, rfl⟩
  have H3 : Hid (∀ W, CurV 100 pb zs v q2 W → _) := fun W hW => by have h_ := implEntsC pb zs v q2 W hW hl; rw [e3] at h_; exact h_
  have hR : rdRp (rdEnP zs) zs p = (⟨n0, (hs1, hi1, hd1), n2, es3⟩, q3) := by simp [rdRp, e0, e1, e2, e3]
  rw [hR]
  clear hR e0 e1 e2 e3
  have HC0 : Hid (CurV 100 pb zs v p w) := h
  clear h
  dsimp only
  go_enter Try.func96, Try.ntmps96
  go_wp2_with fail
  refine Calls.mono (H0.out _ (HC0.out.alloc _)) ?_
  rintro e w1 ⟨rfl, hc_, t_⟩
  have HT : Hid (Turned (fun b => b = pb) w w1) := (Turned.ofBelow (Below.new1 (w := w) _)).trans t_
  have vR : VarA w1 w.heap.size 43 #[.int .i64 0, .int .i64 0, .int .i64 0, .bool false, .int .i64 0, .slice none 0 0] := VarA.turn (VarA.new w _ _) t_ (by omega)
  have hx0 := t_.size
  simp at hx0
  have HC1 : Hid (CurV 100 pb zs v q0 w1) := hc_
  clear hc_ t_ H0 HC0
  go_wp2_with fail
  refine Calls.mono (H1.out _ HC1.out) ?_
  rintro e w2 ⟨rfl, hc_, t_⟩
  have HT_ : Hid (Turned (fun b => b = pb) w w2) := HT.out.trans t_
  clear HT
  have HT := HT_
  clear HT_
  have vR_ := vR.turn t_ (by omega)
  clear vR
  have vR := vR_
  clear vR_
  have hx1 := t_.size
  have HC2 : Hid (CurV 100 pb zs v q1 w2) := hc_
  clear hc_ t_ H1 HC1
  go_wp2_with fail
  refine Calls.mono (H2.out _ HC2.out) ?_
  rintro e w3 ⟨rfl, hc_, t_⟩
  have HT_ : Hid (Turned (fun b => b = pb) w w3) := HT.out.trans t_
  clear HT
  have HT := HT_
  clear HT_
  have vR_ := vR.turn t_ (by omega)
  clear vR
  have vR := vR_
  clear vR_
  have hx2 := t_.size
  have HC3 : Hid (CurV 100 pb zs v q2 w3) := hc_
  clear hc_ t_ H2 HC2
  go_wp2_with fail
  refine Calls.mono (H3.out _ HC3.out) ?_
  rintro e w4 ⟨a3, l3, c3, rfl, o3, hc_, t_⟩
  have HT_ : Hid (Turned (fun b => b = pb) w w4) := HT.out.trans t_
  clear HT
  have HT := HT_
  clear HT_
  have vR_ := vR.turn t_ (by omega)
  clear vR
  have vR := vR_
  clear vR_
  have hx3 := t_.size
  have HO3 : Hid (OwV w4 (fun b => w3.heap.size ≤ b ∧ b < w4.heap.size) (.slice a3 l3 c3) (ensDt es3)) := o3
  clear o3
  have HC4 : Hid (CurV 100 pb zs v q3 w4) := hc_
  clear hc_ t_ H3 HC3
  dsimp only
  repeat (first | ((with_reducible refine guardStore (ty := 43) ?_); refine wpList_storeF vR rfl rfl (by kernel_rfl) rfl (of_decide_eq_true rfl) rfl ?_; intro w' vR_ t_) | go_values | go_skip | go_guarded | go_step | go_upon)
  have t1 : Turned (fun b => b = w.heap.size) w4 w' := t_
  have hC : CurV 100 pb zs v q3 w' := HC4.out.keep t1 (fun b hb => by omega)
  have hT : Turned (fun b => b = pb) w w' := HT.out.then t1 (fun i hi hs => by omega)
  have hsz := t1.size
  have HO3_ : OwV w' (fun b => w3.heap.size ≤ b ∧ b < w4.heap.size) (.slice a3 l3 c3) (ensDt es3) := HO3.out.keep (t1.keeps (fun b hb hs => by omega))
  refine bodyPost_ret (results_cell_row Try.results96 _ _ _ _ _ _ _ rfl vR_ Try.underlying43 rfl (by kernel_rfl)) rfl ?_
  exact ⟨_, _, _, rfl, HO3_.mono (fun b hb => ⟨by omega, by omega⟩), hC, hT⟩
end Go.Proofs.Ytmjfnmlfamikgaa
end

section
/- The program reads a record, kind by kind. Condition: at most 2,000,000 bytes. -/
namespace Go.Proofs.Ytmjfnmlfamikgaa
open Go.RowKit
set_option linter.unusedVariables false
set_option linter.unusedSimpArgs false
set_option maxRecDepth 100000

set_option maxHeartbeats 8000000 in
theorem implRecC0 (pb : Nat) (zs : List Int) (v : Value) (w : World) (h : CurV 100 pb zs v 0 w) (hl : zs.length ≤ 2000000) (hk : (getNum zs 0).1 < 1 ∨ 4 < (getNum zs 0).1) :
    Calls Try.prog 59 #[.pointer (some ⟨pb, 0, none⟩)] w fun e w' => ∃ a1 n1 c1 a2 n2 c2 a3 n3 c3 a4 n4 c4, e = .returned (rcV (rdRc (rdEnP zs) zs).1 (.slice a1 n1 c1) (.slice a2 n2 c2) (.slice a3 n3 c3) (.slice a4 n4 c4)) ∧ OwM w' (fun b => w.heap.size ≤ b ∧ b < w'.heap.size) (rdRc (rdEnP zs) zs).1 (.slice a1 n1 c1) (.slice a2 n2 c2) (.slice a3 n3 c3) (.slice a4 n4 c4) ∧ Gone 100 pb zs v (rdRc (rdEnP zs) zs).2 w w' := by
  have hz := RdV.zs h.2.1
  have hpl := h.lt
  obtain ⟨n0, q0, e0⟩ : ∃ x q, getNum zs 0 = (x, q) := ⟨_, _, rfl⟩
  have H0 : Hid (∀ W, CurV 100 pb zs v 0 W → _) := fun W hW => by have h_ := implNumC pb zs v 0 W hW hl; rw [e0] at h_; exact h_
  rw [e0] at hk
  dsimp only at hk
  have hR : rdRc (rdEnP zs) zs = (⟨n0, 0, 0, 0, op0, rp0, tx0, pt0, 0, hd0⟩, q0) := by simp [rdRc, e0, show ¬ (n0 = 1) by omega, show ¬ (n0 = 2) by omega, show ¬ (n0 = 3) by omega, show ¬ (n0 = 4) by omega]
  rw [hR]
  clear hR e0
  have HC0 : Hid (CurV 100 pb zs v 0 w) := h
  clear h
  dsimp only
  simp only [op0, rp0, tx0, pt0, hd0]
  go_enter Try.func59, Try.ntmps59
  go_wp2_with fail
  refine Calls.mono (H0.out _ (HC0.out.alloc _)) ?_
  rintro e w1 ⟨rfl, hc_, t_⟩
  have HT : Hid (Turned (fun b => b = pb) w w1) := (Turned.ofBelow (Below.new1 (w := w) _)).trans t_
  have vR : VarA w1 w.heap.size 48 #[.int .i64 0, .int .i64 0, .int .i64 0, .int .i64 0, .int .i64 0, .int .i64 0, .bool false, .slice none 0 0, .int .i64 0, .int .i64 0, .bool false, .slice none 0 0, .int .i64 0, .int .i64 0, .int .i64 0, .bool false, .int .i64 0, .int .i64 0, .int .i64 0, .bool false, .int .i64 0, .slice none 0 0, .int .i64 0, .int .i64 0, .int .i64 0, .int .i64 0, .int .i64 0, .int .i64 0, .bool false, .slice none 0 0, .int .i64 0, .int .i64 0, .bool false, .int .i64 0] := VarA.turn (VarA.new w _ _) t_ (by omega)
  have hx0 := t_.size
  simp at hx0
  have HC1 : Hid (CurV 100 pb zs v q0 w1) := hc_
  clear hc_ t_ H0 HC0
  have d1 : (n0 == 1) = false := by simp; omega
  have d2 : (n0 == 2) = false := by simp; omega
  have d3 : (n0 == 3) = false := by simp; omega
  have d4 : (n0 == 4) = false := by simp; omega
  dsimp only
  repeat (first | ((with_reducible refine guardStore (ty := 48) ?_); refine wpList_storeF vR rfl rfl (by kernel_rfl) rfl (of_decide_eq_true rfl) rfl ?_; intro w' vR_ t_) | go_values | go_skip | go_guarded | go_step | go_upon)
  have t1 : Turned (fun b => b = w.heap.size) w1 w' := t_
  have hC : CurV 100 pb zs v q0 w' := HC1.out.keep t1 (fun b hb => by omega)
  have hT : Turned (fun b => b = pb) w w' := HT.out.then t1 (fun i hi hs => by omega)
  have hsz := t1.size
  refine bodyPost_ret (results_cell_row Try.results59 _ _ _ _ _ _ _ rfl vR_ Try.underlying48 rfl (by kernel_rfl)) rfl ?_
  refine ⟨_, _, _, _, _, _, _, _, _, _, _, _, rfl, ⟨fun _ => False, fun _ => False, fun _ => False, fun _ => False, OwV.nilB _ _, OwV.nilB _ _, OwV.nilR _ _ _ _ _, OwV.nilB _ _, ?_, ?_, ?_, ?_⟩, hC, hT⟩
  · intro b hb
    rcases hb with hb | hb | hb | hb <;> first | exact hb.elim | exact ⟨by omega, by omega⟩
  · intro b hb
    refine ⟨fun h => ?_, fun h => ?_, fun h => ?_⟩ <;> first | exact hb.elim | exact h.elim | omega
  · intro b hb
    refine ⟨fun h => ?_, fun h => ?_⟩ <;> first | exact hb.elim | exact h.elim | omega
  · intro b hb h
    first | exact hb.elim | exact h.elim | omega
set_option maxHeartbeats 8000000 in
theorem implRecC1 (pb : Nat) (zs : List Int) (v : Value) (w : World) (h : CurV 100 pb zs v 0 w) (hl : zs.length ≤ 2000000) (hk : (getNum zs 0).1 = 1) :
    Calls Try.prog 59 #[.pointer (some ⟨pb, 0, none⟩)] w fun e w' => ∃ a1 n1 c1 a2 n2 c2 a3 n3 c3 a4 n4 c4, e = .returned (rcV (rdRc (rdEnP zs) zs).1 (.slice a1 n1 c1) (.slice a2 n2 c2) (.slice a3 n3 c3) (.slice a4 n4 c4)) ∧ OwM w' (fun b => w.heap.size ≤ b ∧ b < w'.heap.size) (rdRc (rdEnP zs) zs).1 (.slice a1 n1 c1) (.slice a2 n2 c2) (.slice a3 n3 c3) (.slice a4 n4 c4) ∧ Gone 100 pb zs v (rdRc (rdEnP zs) zs).2 w w' := by
  have hz := RdV.zs h.2.1
  have hpl := h.lt
  obtain ⟨n0, q0, e0⟩ : ∃ x q, getNum zs 0 = (x, q) := ⟨_, _, rfl⟩
  have H0 : Hid (∀ W, CurV 100 pb zs v 0 W → _) := fun W hW => by have h_ := implNumC pb zs v 0 W hW hl; rw [e0] at h_; exact h_
  obtain ⟨n1, q1, e1⟩ : ∃ x q, getNum zs q0 = (x, q) := ⟨_, _, rfl⟩
  have H1 : Hid (∀ W, CurV 100 pb zs v q0 W → _) := fun W hW => by have h_ := implNumC pb zs v q0 W hW hl; rw [e1] at h_; exact h_
  obtain ⟨n2, q2, e2⟩ : ∃ x q, getNum zs q1 = (x, q) := ⟨_, _, rfl⟩
  have H2 : Hid (∀ W, CurV 100 pb zs v q1 W → _) := fun W hW => by have h_ := implNumC pb zs v q1 W hW hl; rw [e2] at h_; exact h_
  obtain ⟨⟨ok3, ⟨op3, oq3, od3⟩, nm3, ⟨tp3, tq3, td3⟩, asn3, ov3⟩, q3, e3⟩ : ∃ x q, rdOp zs q2 = (x, q) := ⟨_, _, rfl⟩
  have H3 : Hid (∀ W, CurV 100 pb zs v q2 W → _) := fun W hW => by have h_ := implOpC pb zs v q2 W hW hl; rw [e3] at h_; exact h_
  obtain ⟨⟨hs4, hi4, hd4⟩, q4, e4⟩ : ∃ x q, rdHd zs q3 = (x, q) := ⟨_, _, rfl⟩
  have H4 : Hid (∀ W, CurV 100 pb zs v q3 W → _) := fun W hW => by have h_ := implHandC pb zs v q3 W hW hl; rw [e4] at h_; exact h_
  obtain ⟨⟨rc5, ⟨rp5, rq5, rd5⟩, rv5, es5⟩, q5, e5⟩ : ∃ x q, rdRp (rdEnP zs) zs q4 = (x, q) := ⟨_, _, rfl⟩
  have H5 : Hid (∀ W, CurV 100 pb zs v q4 W → _) := fun W hW => by have h_ := implReplyC pb zs v q4 W hW hl; rw [e5] at h_; exact h_
  rw [e0] at hk
  dsimp only at hk
  subst hk
  have hR : rdRc (rdEnP zs) zs = (⟨1, n1, 0, n2, ⟨ok3, (op3, oq3, od3), nm3, (tp3, tq3, td3), asn3, ov3⟩, ⟨rc5, (rp5, rq5, rd5), rv5, es5⟩, tx0, pt0, 0, (hs4, hi4, hd4)⟩, q5) := by simp [rdRc, e0, e1, e2, e3, e4, e5]
  rw [hR]
  clear hR e0 e1 e2 e3 e4 e5
  have HC0 : Hid (CurV 100 pb zs v 0 w) := h
  clear h
  dsimp only
  simp only [op0, rp0, tx0, pt0, hd0]
  go_enter Try.func59, Try.ntmps59
  go_wp2_with fail
  refine Calls.mono (H0.out _ (HC0.out.alloc _)) ?_
  rintro e w1 ⟨rfl, hc_, t_⟩
  have HT : Hid (Turned (fun b => b = pb) w w1) := (Turned.ofBelow (Below.new1 (w := w) _)).trans t_
  have vR : VarA w1 w.heap.size 48 #[.int .i64 0, .int .i64 0, .int .i64 0, .int .i64 0, .int .i64 0, .int .i64 0, .bool false, .slice none 0 0, .int .i64 0, .int .i64 0, .bool false, .slice none 0 0, .int .i64 0, .int .i64 0, .int .i64 0, .bool false, .int .i64 0, .int .i64 0, .int .i64 0, .bool false, .int .i64 0, .slice none 0 0, .int .i64 0, .int .i64 0, .int .i64 0, .int .i64 0, .int .i64 0, .int .i64 0, .bool false, .slice none 0 0, .int .i64 0, .int .i64 0, .bool false, .int .i64 0] := VarA.turn (VarA.new w _ _) t_ (by omega)
  have hx0 := t_.size
  simp at hx0
  have HC1 : Hid (CurV 100 pb zs v q0 w1) := hc_
  clear hc_ t_ H0 HC0
  go_wp2_with fail
  refine Calls.mono (H1.out _ HC1.out) ?_
  rintro e w2 ⟨rfl, hc_, t_⟩
  have HT_ : Hid (Turned (fun b => b = pb) w w2) := HT.out.trans t_
  clear HT
  have HT := HT_
  clear HT_
  have vR_ := vR.turn t_ (by omega)
  clear vR
  have vR := vR_
  clear vR_
  have hx1 := t_.size
  have HC2 : Hid (CurV 100 pb zs v q1 w2) := hc_
  clear hc_ t_ H1 HC1
  go_wp2_with fail
  refine Calls.mono (H2.out _ HC2.out) ?_
  rintro e w3 ⟨rfl, hc_, t_⟩
  have HT_ : Hid (Turned (fun b => b = pb) w w3) := HT.out.trans t_
  clear HT
  have HT := HT_
  clear HT_
  have vR_ := vR.turn t_ (by omega)
  clear vR
  have vR := vR_
  clear vR_
  have hx2 := t_.size
  have HC3 : Hid (CurV 100 pb zs v q2 w3) := hc_
  clear hc_ t_ H2 HC2
  go_wp2_with fail
  refine Calls.mono (H3.out _ HC3.out) ?_
  rintro e w4 ⟨a3, l3, c3, a3y, l3y, c3y, M3, rfl, o3, o3y, hM3, hN3, hc_, t_⟩
  have HT_ : Hid (Turned (fun b => b = pb) w w4) := HT.out.trans t_
  clear HT
  have HT := HT_
  clear HT_
  have vR_ := vR.turn t_ (by omega)
  clear vR
  have vR := vR_
  clear vR_
  have hx3 := t_.size
  have HO3 : Hid (OwV w4 (fun b => w3.heap.size ≤ b ∧ b < M3) (.slice a3 l3 c3) (.bytes nm3)) := o3
  clear o3
  have HO3y : Hid (OwV w4 (fun b => M3 ≤ b ∧ b < w4.heap.size) (.slice a3y l3y c3y) (.bytes asn3)) := o3y
  clear o3y
  have HC4 : Hid (CurV 100 pb zs v q3 w4) := hc_
  clear hc_ t_ H3 HC3
  go_wp2_with fail
  refine Calls.mono (H4.out _ HC4.out) ?_
  rintro e w5 ⟨rfl, hc_, t_⟩
  have HT_ : Hid (Turned (fun b => b = pb) w w5) := HT.out.trans t_
  clear HT
  have HT := HT_
  clear HT_
  have vR_ := vR.turn t_ (by omega)
  clear vR
  have vR := vR_
  clear vR_
  have hx4 := t_.size
  have HO3_ : Hid (OwV w5 (fun b => w3.heap.size ≤ b ∧ b < M3) (.slice a3 l3 c3) (.bytes nm3)) := HO3.out.keep (t_.keeps (fun b hb hs => by omega))
  clear HO3
  have HO3 := HO3_
  clear HO3_
  have HO3y_ : Hid (OwV w5 (fun b => M3 ≤ b ∧ b < w4.heap.size) (.slice a3y l3y c3y) (.bytes asn3)) := HO3y.out.keep (t_.keeps (fun b hb hs => by omega))
  clear HO3y
  have HO3y := HO3y_
  clear HO3y_
  have HC5 : Hid (CurV 100 pb zs v q4 w5) := hc_
  clear hc_ t_ H4 HC4
  go_wp2_with fail
  refine Calls.mono (H5.out _ HC5.out) ?_
  rintro e w6 ⟨a5, l5, c5, rfl, o5, hc_, t_⟩
  have HT_ : Hid (Turned (fun b => b = pb) w w6) := HT.out.trans t_
  clear HT
  have HT := HT_
  clear HT_
  have vR_ := vR.turn t_ (by omega)
  clear vR
  have vR := vR_
  clear vR_
  have hx5 := t_.size
  have HO3_ : Hid (OwV w6 (fun b => w3.heap.size ≤ b ∧ b < M3) (.slice a3 l3 c3) (.bytes nm3)) := HO3.out.keep (t_.keeps (fun b hb hs => by omega))
  clear HO3
  have HO3 := HO3_
  clear HO3_
  have HO3y_ : Hid (OwV w6 (fun b => M3 ≤ b ∧ b < w4.heap.size) (.slice a3y l3y c3y) (.bytes asn3)) := HO3y.out.keep (t_.keeps (fun b hb hs => by omega))
  clear HO3y
  have HO3y := HO3y_
  clear HO3y_
  have HO5 : Hid (OwV w6 (fun b => w5.heap.size ≤ b ∧ b < w6.heap.size) (.slice a5 l5 c5) (ensDt es5)) := o5
  clear o5
  have HC6 : Hid (CurV 100 pb zs v q5 w6) := hc_
  clear hc_ t_ H5 HC5
  dsimp only
  repeat (first | ((with_reducible refine guardStore (ty := 48) ?_); refine wpList_storeF vR rfl rfl (by kernel_rfl) rfl (of_decide_eq_true rfl) rfl ?_; intro w' vR_ t_) | go_values | go_skip | go_guarded | go_step | go_upon)
  have t1 : Turned (fun b => b = w.heap.size) w6 w' := t_
  have hC : CurV 100 pb zs v q5 w' := HC6.out.keep t1 (fun b hb => by omega)
  have hT : Turned (fun b => b = pb) w w' := HT.out.then t1 (fun i hi hs => by omega)
  have hsz := t1.size
  have HO3_ : OwV w' (fun b => w3.heap.size ≤ b ∧ b < M3) (.slice a3 l3 c3) (.bytes nm3) := HO3.out.keep (t1.keeps (fun b hb hs => by omega))
  have HO3y_ : OwV w' (fun b => M3 ≤ b ∧ b < w4.heap.size) (.slice a3y l3y c3y) (.bytes asn3) := HO3y.out.keep (t1.keeps (fun b hb hs => by omega))
  have HO5_ : OwV w' (fun b => w5.heap.size ≤ b ∧ b < w6.heap.size) (.slice a5 l5 c5) (ensDt es5) := HO5.out.keep (t1.keeps (fun b hb hs => by omega))
  refine bodyPost_ret (results_cell_row Try.results59 _ _ _ _ _ _ _ rfl vR_ Try.underlying48 rfl (by kernel_rfl)) rfl ?_
  refine ⟨_, _, _, _, _, _, _, _, _, _, _, _, rfl, ⟨fun b => w3.heap.size ≤ b ∧ b < M3, fun b => M3 ≤ b ∧ b < w4.heap.size, fun b => w5.heap.size ≤ b ∧ b < w6.heap.size, fun _ => False, HO3_, HO3y_, HO5_, OwV.nilB _ _, ?_, ?_, ?_, ?_⟩, hC, hT⟩
  · intro b hb
    rcases hb with hb | hb | hb | hb <;> first | exact hb.elim | exact ⟨by omega, by omega⟩
  · intro b hb
    refine ⟨fun h => ?_, fun h => ?_, fun h => ?_⟩ <;> first | exact hb.elim | exact h.elim | omega
  · intro b hb
    refine ⟨fun h => ?_, fun h => ?_⟩ <;> first | exact hb.elim | exact h.elim | omega
  · intro b hb h
    first | exact hb.elim | exact h.elim | omega
set_option maxHeartbeats 8000000 in
theorem implRecC2 (pb : Nat) (zs : List Int) (v : Value) (w : World) (h : CurV 100 pb zs v 0 w) (hl : zs.length ≤ 2000000) (hk : (getNum zs 0).1 = 2) :
    Calls Try.prog 59 #[.pointer (some ⟨pb, 0, none⟩)] w fun e w' => ∃ a1 n1 c1 a2 n2 c2 a3 n3 c3 a4 n4 c4, e = .returned (rcV (rdRc (rdEnP zs) zs).1 (.slice a1 n1 c1) (.slice a2 n2 c2) (.slice a3 n3 c3) (.slice a4 n4 c4)) ∧ OwM w' (fun b => w.heap.size ≤ b ∧ b < w'.heap.size) (rdRc (rdEnP zs) zs).1 (.slice a1 n1 c1) (.slice a2 n2 c2) (.slice a3 n3 c3) (.slice a4 n4 c4) ∧ Gone 100 pb zs v (rdRc (rdEnP zs) zs).2 w w' := by
  have hz := RdV.zs h.2.1
  have hpl := h.lt
  obtain ⟨n0, q0, e0⟩ : ∃ x q, getNum zs 0 = (x, q) := ⟨_, _, rfl⟩
  have H0 : Hid (∀ W, CurV 100 pb zs v 0 W → _) := fun W hW => by have h_ := implNumC pb zs v 0 W hW hl; rw [e0] at h_; exact h_
  obtain ⟨⟨xs1, xb1, xn1⟩, q1, e1⟩ : ∃ x q, rdTx zs q0 = (x, q) := ⟨_, _, rfl⟩
  have H1 : Hid (∀ W, CurV 100 pb zs v q0 W → _) := fun W hW => by have h_ := implTxC pb zs v q0 W hW hl; rw [e1] at h_; exact h_
  obtain ⟨⟨pk2, ⟨pp2, pq2, pd2⟩, pas2, ⟨sp2, sq2, sd2⟩⟩, q2, e2⟩ : ∃ x q, rdPt zs q1 = (x, q) := ⟨_, _, rfl⟩
  have H2 : Hid (∀ W, CurV 100 pb zs v q1 W → _) := fun W hW => by have h_ := implPartC pb zs v q1 W hW hl; rw [e2] at h_; exact h_
  obtain ⟨n3, q3, e3⟩ : ∃ x q, getNum zs q2 = (x, q) := ⟨_, _, rfl⟩
  have H3 : Hid (∀ W, CurV 100 pb zs v q2 W → _) := fun W hW => by have h_ := implNumC pb zs v q2 W hW hl; rw [e3] at h_; exact h_
  obtain ⟨⟨hs4, hi4, hd4⟩, q4, e4⟩ : ∃ x q, rdHd zs q3 = (x, q) := ⟨_, _, rfl⟩
  have H4 : Hid (∀ W, CurV 100 pb zs v q3 W → _) := fun W hW => by have h_ := implHandC pb zs v q3 W hW hl; rw [e4] at h_; exact h_
  rw [e0] at hk
  dsimp only at hk
  subst hk
  have hR : rdRc (rdEnP zs) zs = (⟨2, 0, 0, 0, op0, rp0, (xs1, xb1, xn1), ⟨pk2, (pp2, pq2, pd2), pas2, (sp2, sq2, sd2)⟩, n3, (hs4, hi4, hd4)⟩, q4) := by simp [rdRc, e0, e1, e2, e3, e4]
  rw [hR]
  clear hR e0 e1 e2 e3 e4
  have HC0 : Hid (CurV 100 pb zs v 0 w) := h
  clear h
  dsimp only
  simp only [op0, rp0, tx0, pt0, hd0]
  go_enter Try.func59, Try.ntmps59
  go_wp2_with fail
  refine Calls.mono (H0.out _ (HC0.out.alloc _)) ?_
  rintro e w1 ⟨rfl, hc_, t_⟩
  have HT : Hid (Turned (fun b => b = pb) w w1) := (Turned.ofBelow (Below.new1 (w := w) _)).trans t_
  have vR : VarA w1 w.heap.size 48 #[.int .i64 0, .int .i64 0, .int .i64 0, .int .i64 0, .int .i64 0, .int .i64 0, .bool false, .slice none 0 0, .int .i64 0, .int .i64 0, .bool false, .slice none 0 0, .int .i64 0, .int .i64 0, .int .i64 0, .bool false, .int .i64 0, .int .i64 0, .int .i64 0, .bool false, .int .i64 0, .slice none 0 0, .int .i64 0, .int .i64 0, .int .i64 0, .int .i64 0, .int .i64 0, .int .i64 0, .bool false, .slice none 0 0, .int .i64 0, .int .i64 0, .bool false, .int .i64 0] := VarA.turn (VarA.new w _ _) t_ (by omega)
  have hx0 := t_.size
  simp at hx0
  have HC1 : Hid (CurV 100 pb zs v q0 w1) := hc_
  clear hc_ t_ H0 HC0
  go_wp2_with fail
  refine Calls.mono (H1.out _ HC1.out) ?_
  rintro e w2 ⟨rfl, hc_, t_⟩
  have HT_ : Hid (Turned (fun b => b = pb) w w2) := HT.out.trans t_
  clear HT
  have HT := HT_
  clear HT_
  have vR_ := vR.turn t_ (by omega)
  clear vR
  have vR := vR_
  clear vR_
  have hx1 := t_.size
  have HC2 : Hid (CurV 100 pb zs v q1 w2) := hc_
  clear hc_ t_ H1 HC1
  go_wp2_with fail
  refine Calls.mono (H2.out _ HC2.out) ?_
  rintro e w3 ⟨a2, l2, c2, rfl, o2, hc_, t_⟩
  have HT_ : Hid (Turned (fun b => b = pb) w w3) := HT.out.trans t_
  clear HT
  have HT := HT_
  clear HT_
  have vR_ := vR.turn t_ (by omega)
  clear vR
  have vR := vR_
  clear vR_
  have hx2 := t_.size
  have HO2 : Hid (OwV w3 (fun b => w2.heap.size ≤ b ∧ b < w3.heap.size) (.slice a2 l2 c2) (.bytes pas2)) := o2
  clear o2
  have HC3 : Hid (CurV 100 pb zs v q2 w3) := hc_
  clear hc_ t_ H2 HC2
  go_wp2_with fail
  refine Calls.mono (H3.out _ HC3.out) ?_
  rintro e w4 ⟨rfl, hc_, t_⟩
  have HT_ : Hid (Turned (fun b => b = pb) w w4) := HT.out.trans t_
  clear HT
  have HT := HT_
  clear HT_
  have vR_ := vR.turn t_ (by omega)
  clear vR
  have vR := vR_
  clear vR_
  have hx3 := t_.size
  have HO2_ : Hid (OwV w4 (fun b => w2.heap.size ≤ b ∧ b < w3.heap.size) (.slice a2 l2 c2) (.bytes pas2)) := HO2.out.keep (t_.keeps (fun b hb hs => by omega))
  clear HO2
  have HO2 := HO2_
  clear HO2_
  have HC4 : Hid (CurV 100 pb zs v q3 w4) := hc_
  clear hc_ t_ H3 HC3
  go_wp2_with fail
  refine Calls.mono (H4.out _ HC4.out) ?_
  rintro e w5 ⟨rfl, hc_, t_⟩
  have HT_ : Hid (Turned (fun b => b = pb) w w5) := HT.out.trans t_
  clear HT
  have HT := HT_
  clear HT_
  have vR_ := vR.turn t_ (by omega)
  clear vR
  have vR := vR_
  clear vR_
  have hx4 := t_.size
  have HO2_ : Hid (OwV w5 (fun b => w2.heap.size ≤ b ∧ b < w3.heap.size) (.slice a2 l2 c2) (.bytes pas2)) := HO2.out.keep (t_.keeps (fun b hb hs => by omega))
  clear HO2
  have HO2 := HO2_
  clear HO2_
  have HC5 : Hid (CurV 100 pb zs v q4 w5) := hc_
  clear hc_ t_ H4 HC4
  dsimp only
  repeat (first | ((with_reducible refine guardStore (ty := 48) ?_); refine wpList_storeF vR rfl rfl (by kernel_rfl) rfl (of_decide_eq_true rfl) rfl ?_; intro w' vR_ t_) | go_values | go_skip | go_guarded | go_step | go_upon)
  have t1 : Turned (fun b => b = w.heap.size) w5 w' := t_
  have hC : CurV 100 pb zs v q4 w' := HC5.out.keep t1 (fun b hb => by omega)
  have hT : Turned (fun b => b = pb) w w' := HT.out.then t1 (fun i hi hs => by omega)
  have hsz := t1.size
  have HO2_ : OwV w' (fun b => w2.heap.size ≤ b ∧ b < w3.heap.size) (.slice a2 l2 c2) (.bytes pas2) := HO2.out.keep (t1.keeps (fun b hb hs => by omega))
  refine bodyPost_ret (results_cell_row Try.results59 _ _ _ _ _ _ _ rfl vR_ Try.underlying48 rfl (by kernel_rfl)) rfl ?_
  refine ⟨_, _, _, _, _, _, _, _, _, _, _, _, rfl, ⟨fun _ => False, fun _ => False, fun _ => False, fun b => w2.heap.size ≤ b ∧ b < w3.heap.size, OwV.nilB _ _, OwV.nilB _ _, OwV.nilR _ _ _ _ _, HO2_, ?_, ?_, ?_, ?_⟩, hC, hT⟩
  · intro b hb
    rcases hb with hb | hb | hb | hb <;> first | exact hb.elim | exact ⟨by omega, by omega⟩
  · intro b hb
    refine ⟨fun h => ?_, fun h => ?_, fun h => ?_⟩ <;> first | exact hb.elim | exact h.elim | omega
  · intro b hb
    refine ⟨fun h => ?_, fun h => ?_⟩ <;> first | exact hb.elim | exact h.elim | omega
  · intro b hb h
    first | exact hb.elim | exact h.elim | omega
set_option maxHeartbeats 8000000 in
theorem implRecC3 (pb : Nat) (zs : List Int) (v : Value) (w : World) (h : CurV 100 pb zs v 0 w) (hl : zs.length ≤ 2000000) (hk : (getNum zs 0).1 = 3) :
    Calls Try.prog 59 #[.pointer (some ⟨pb, 0, none⟩)] w fun e w' => ∃ a1 n1 c1 a2 n2 c2 a3 n3 c3 a4 n4 c4, e = .returned (rcV (rdRc (rdEnP zs) zs).1 (.slice a1 n1 c1) (.slice a2 n2 c2) (.slice a3 n3 c3) (.slice a4 n4 c4)) ∧ OwM w' (fun b => w.heap.size ≤ b ∧ b < w'.heap.size) (rdRc (rdEnP zs) zs).1 (.slice a1 n1 c1) (.slice a2 n2 c2) (.slice a3 n3 c3) (.slice a4 n4 c4) ∧ Gone 100 pb zs v (rdRc (rdEnP zs) zs).2 w w' := by
  have hz := RdV.zs h.2.1
  have hpl := h.lt
  obtain ⟨n0, q0, e0⟩ : ∃ x q, getNum zs 0 = (x, q) := ⟨_, _, rfl⟩
  have H0 : Hid (∀ W, CurV 100 pb zs v 0 W → _) := fun W hW => by have h_ := implNumC pb zs v 0 W hW hl; rw [e0] at h_; exact h_
  obtain ⟨⟨xs1, xb1, xn1⟩, q1, e1⟩ : ∃ x q, rdTx zs q0 = (x, q) := ⟨_, _, rfl⟩
  have H1 : Hid (∀ W, CurV 100 pb zs v q0 W → _) := fun W hW => by have h_ := implTxC pb zs v q0 W hW hl; rw [e1] at h_; exact h_
  obtain ⟨n2, q2, e2⟩ : ∃ x q, getNum zs q1 = (x, q) := ⟨_, _, rfl⟩
  have H2 : Hid (∀ W, CurV 100 pb zs v q1 W → _) := fun W hW => by have h_ := implNumC pb zs v q1 W hW hl; rw [e2] at h_; exact h_
  obtain ⟨n3, q3, e3⟩ : ∃ x q, getNum zs q2 = (x, q) := ⟨_, _, rfl⟩
  have H3 : Hid (∀ W, CurV 100 pb zs v q2 W → _) := fun W hW => by have h_ := implNumC pb zs v q2 W hW hl; rw [e3] at h_; exact h_
  obtain ⟨n4, q4, e4⟩ : ∃ x q, getNum zs q3 = (x, q) := ⟨_, _, rfl⟩
  have H4 : Hid (∀ W, CurV 100 pb zs v q3 W → _) := fun W hW => by have h_ := implNumC pb zs v q3 W hW hl; rw [e4] at h_; exact h_
  obtain ⟨⟨ok5, ⟨op5, oq5, od5⟩, nm5, ⟨tp5, tq5, td5⟩, asn5, ov5⟩, q5, e5⟩ : ∃ x q, rdOp zs q4 = (x, q) := ⟨_, _, rfl⟩
  have H5 : Hid (∀ W, CurV 100 pb zs v q4 W → _) := fun W hW => by have h_ := implOpC pb zs v q4 W hW hl; rw [e5] at h_; exact h_
  obtain ⟨⟨rc6, ⟨rp6, rq6, rd6⟩, rv6, es6⟩, q6, e6⟩ : ∃ x q, rdRp (rdEnP zs) zs q5 = (x, q) := ⟨_, _, rfl⟩
  have H6 : Hid (∀ W, CurV 100 pb zs v q5 W → _) := fun W hW => by have h_ := implReplyC pb zs v q5 W hW hl; rw [e6] at h_; exact h_
  rw [e0] at hk
  dsimp only at hk
  subst hk
  have hR : rdRc (rdEnP zs) zs = (⟨3, n3, 0, n4, ⟨ok5, (op5, oq5, od5), nm5, (tp5, tq5, td5), asn5, ov5⟩, ⟨rc6, (rp6, rq6, rd6), rv6, es6⟩, (xs1, xb1, xn1), pt0, n2, hd0⟩, q6) := by simp [rdRc, e0, e1, e2, e3, e4, e5, e6]
  rw [hR]
  clear hR e0 e1 e2 e3 e4 e5 e6
  have HC0 : Hid (CurV 100 pb zs v 0 w) := h
  clear h
  dsimp only
  simp only [op0, rp0, tx0, pt0, hd0]
  go_enter Try.func59, Try.ntmps59
  go_wp2_with fail
  refine Calls.mono (H0.out _ (HC0.out.alloc _)) ?_
  rintro e w1 ⟨rfl, hc_, t_⟩
  have HT : Hid (Turned (fun b => b = pb) w w1) := (Turned.ofBelow (Below.new1 (w := w) _)).trans t_
  have vR : VarA w1 w.heap.size 48 #[.int .i64 0, .int .i64 0, .int .i64 0, .int .i64 0, .int .i64 0, .int .i64 0, .bool false, .slice none 0 0, .int .i64 0, .int .i64 0, .bool false, .slice none 0 0, .int .i64 0, .int .i64 0, .int .i64 0, .bool false, .int .i64 0, .int .i64 0, .int .i64 0, .bool false, .int .i64 0, .slice none 0 0, .int .i64 0, .int .i64 0, .int .i64 0, .int .i64 0, .int .i64 0, .int .i64 0, .bool false, .slice none 0 0, .int .i64 0, .int .i64 0, .bool false, .int .i64 0] := VarA.turn (VarA.new w _ _) t_ (by omega)
  have hx0 := t_.size
  simp at hx0
  have HC1 : Hid (CurV 100 pb zs v q0 w1) := hc_
  clear hc_ t_ H0 HC0
  go_wp2_with fail
  refine Calls.mono (H1.out _ HC1.out) ?_
  rintro e w2 ⟨rfl, hc_, t_⟩
  have HT_ : Hid (Turned (fun b => b = pb) w w2) := HT.out.trans t_
  clear HT
  have HT := HT_
  clear HT_
  have vR_ := vR.turn t_ (by omega)
  clear vR
  have vR := vR_
  clear vR_
  have hx1 := t_.size
  have HC2 : Hid (CurV 100 pb zs v q1 w2) := hc_
  clear hc_ t_ H1 HC1
  go_wp2_with fail
  refine Calls.mono (H2.out _ HC2.out) ?_
  rintro e w3 ⟨rfl, hc_, t_⟩
  have HT_ : Hid (Turned (fun b => b = pb) w w3) := HT.out.trans t_
  clear HT
  have HT := HT_
  clear HT_
  have vR_ := vR.turn t_ (by omega)
  clear vR
  have vR := vR_
  clear vR_
  have hx2 := t_.size
  have HC3 : Hid (CurV 100 pb zs v q2 w3) := hc_
  clear hc_ t_ H2 HC2
  go_wp2_with fail
  refine Calls.mono (H3.out _ HC3.out) ?_
  rintro e w4 ⟨rfl, hc_, t_⟩
  have HT_ : Hid (Turned (fun b => b = pb) w w4) := HT.out.trans t_
  clear HT
  have HT := HT_
  clear HT_
  have vR_ := vR.turn t_ (by omega)
  clear vR
  have vR := vR_
  clear vR_
  have hx3 := t_.size
  have HC4 : Hid (CurV 100 pb zs v q3 w4) := hc_
  clear hc_ t_ H3 HC3
  go_wp2_with fail
  refine Calls.mono (H4.out _ HC4.out) ?_
  rintro e w5 ⟨rfl, hc_, t_⟩
  have HT_ : Hid (Turned (fun b => b = pb) w w5) := HT.out.trans t_
  clear HT
  have HT := HT_
  clear HT_
  have vR_ := vR.turn t_ (by omega)
  clear vR
  have vR := vR_
  clear vR_
  have hx4 := t_.size
  have HC5 : Hid (CurV 100 pb zs v q4 w5) := hc_
  clear hc_ t_ H4 HC4
  go_wp2_with fail
  refine Calls.mono (H5.out _ HC5.out) ?_
  rintro e w6 ⟨a5, l5, c5, a5y, l5y, c5y, M5, rfl, o5, o5y, hM5, hN5, hc_, t_⟩
  have HT_ : Hid (Turned (fun b => b = pb) w w6) := HT.out.trans t_
  clear HT
  have HT := HT_
  clear HT_
  have vR_ := vR.turn t_ (by omega)
  clear vR
  have vR := vR_
  clear vR_
  have hx5 := t_.size
  have HO5 : Hid (OwV w6 (fun b => w5.heap.size ≤ b ∧ b < M5) (.slice a5 l5 c5) (.bytes nm5)) := o5
  clear o5
  have HO5y : Hid (OwV w6 (fun b => M5 ≤ b ∧ b < w6.heap.size) (.slice a5y l5y c5y) (.bytes asn5)) := o5y
  clear o5y
  have HC6 : Hid (CurV 100 pb zs v q5 w6) := hc_
  clear hc_ t_ H5 HC5
  go_wp2_with fail
  refine Calls.mono (H6.out _ HC6.out) ?_
  rintro e w7 ⟨a6, l6, c6, rfl, o6, hc_, t_⟩
  have HT_ : Hid (Turned (fun b => b = pb) w w7) := HT.out.trans t_
  clear HT
  have HT := HT_
  clear HT_
  have vR_ := vR.turn t_ (by omega)
  clear vR
  have vR := vR_
  clear vR_
  have hx6 := t_.size
  have HO5_ : Hid (OwV w7 (fun b => w5.heap.size ≤ b ∧ b < M5) (.slice a5 l5 c5) (.bytes nm5)) := HO5.out.keep (t_.keeps (fun b hb hs => by omega))
  clear HO5
  have HO5 := HO5_
  clear HO5_
  have HO5y_ : Hid (OwV w7 (fun b => M5 ≤ b ∧ b < w6.heap.size) (.slice a5y l5y c5y) (.bytes asn5)) := HO5y.out.keep (t_.keeps (fun b hb hs => by omega))
  clear HO5y
  have HO5y := HO5y_
  clear HO5y_
  have HO6 : Hid (OwV w7 (fun b => w6.heap.size ≤ b ∧ b < w7.heap.size) (.slice a6 l6 c6) (ensDt es6)) := o6
  clear o6
  have HC7 : Hid (CurV 100 pb zs v q6 w7) := hc_
  clear hc_ t_ H6 HC6
  dsimp only
  repeat (first | ((with_reducible refine guardStore (ty := 48) ?_); refine wpList_storeF vR rfl rfl (by kernel_rfl) rfl (of_decide_eq_true rfl) rfl ?_; intro w' vR_ t_) | go_values | go_skip | go_guarded | go_step | go_upon)
  have t1 : Turned (fun b => b = w.heap.size) w7 w' := t_
  have hC : CurV 100 pb zs v q6 w' := HC7.out.keep t1 (fun b hb => by omega)
  have hT : Turned (fun b => b = pb) w w' := HT.out.then t1 (fun i hi hs => by omega)
  have hsz := t1.size
  have HO5_ : OwV w' (fun b => w5.heap.size ≤ b ∧ b < M5) (.slice a5 l5 c5) (.bytes nm5) := HO5.out.keep (t1.keeps (fun b hb hs => by omega))
  have HO5y_ : OwV w' (fun b => M5 ≤ b ∧ b < w6.heap.size) (.slice a5y l5y c5y) (.bytes asn5) := HO5y.out.keep (t1.keeps (fun b hb hs => by omega))
  have HO6_ : OwV w' (fun b => w6.heap.size ≤ b ∧ b < w7.heap.size) (.slice a6 l6 c6) (ensDt es6) := HO6.out.keep (t1.keeps (fun b hb hs => by omega))
  refine bodyPost_ret (results_cell_row Try.results59 _ _ _ _ _ _ _ rfl vR_ Try.underlying48 rfl (by kernel_rfl)) rfl ?_
  refine ⟨_, _, _, _, _, _, _, _, _, _, _, _, rfl, ⟨fun b => w5.heap.size ≤ b ∧ b < M5, fun b => M5 ≤ b ∧ b < w6.heap.size, fun b => w6.heap.size ≤ b ∧ b < w7.heap.size, fun _ => False, HO5_, HO5y_, HO6_, OwV.nilB _ _, ?_, ?_, ?_, ?_⟩, hC, hT⟩
  · intro b hb
    rcases hb with hb | hb | hb | hb <;> first | exact hb.elim | exact ⟨by omega, by omega⟩
  · intro b hb
    refine ⟨fun h => ?_, fun h => ?_, fun h => ?_⟩ <;> first | exact hb.elim | exact h.elim | omega
  · intro b hb
    refine ⟨fun h => ?_, fun h => ?_⟩ <;> first | exact hb.elim | exact h.elim | omega
  · intro b hb h
    first | exact hb.elim | exact h.elim | omega
set_option maxHeartbeats 8000000 in
theorem implRecC4 (pb : Nat) (zs : List Int) (v : Value) (w : World) (h : CurV 100 pb zs v 0 w) (hl : zs.length ≤ 2000000) (hk : (getNum zs 0).1 = 4) :
    Calls Try.prog 59 #[.pointer (some ⟨pb, 0, none⟩)] w fun e w' => ∃ a1 n1 c1 a2 n2 c2 a3 n3 c3 a4 n4 c4, e = .returned (rcV (rdRc (rdEnP zs) zs).1 (.slice a1 n1 c1) (.slice a2 n2 c2) (.slice a3 n3 c3) (.slice a4 n4 c4)) ∧ OwM w' (fun b => w.heap.size ≤ b ∧ b < w'.heap.size) (rdRc (rdEnP zs) zs).1 (.slice a1 n1 c1) (.slice a2 n2 c2) (.slice a3 n3 c3) (.slice a4 n4 c4) ∧ Gone 100 pb zs v (rdRc (rdEnP zs) zs).2 w w' := by
  have hz := RdV.zs h.2.1
  have hpl := h.lt
  obtain ⟨n0, q0, e0⟩ : ∃ x q, getNum zs 0 = (x, q) := ⟨_, _, rfl⟩
  have H0 : Hid (∀ W, CurV 100 pb zs v 0 W → _) := fun W hW => by have h_ := implNumC pb zs v 0 W hW hl; rw [e0] at h_; exact h_
  obtain ⟨⟨xs1, xb1, xn1⟩, q1, e1⟩ : ∃ x q, rdTx zs q0 = (x, q) := ⟨_, _, rfl⟩
  have H1 : Hid (∀ W, CurV 100 pb zs v q0 W → _) := fun W hW => by have h_ := implTxC pb zs v q0 W hW hl; rw [e1] at h_; exact h_
  obtain ⟨n2, q2, e2⟩ : ∃ x q, getNum zs q1 = (x, q) := ⟨_, _, rfl⟩
  have H2 : Hid (∀ W, CurV 100 pb zs v q1 W → _) := fun W hW => by have h_ := implNumC pb zs v q1 W hW hl; rw [e2] at h_; exact h_
  rw [e0] at hk
  dsimp only at hk
  subst hk
  have hR : rdRc (rdEnP zs) zs = (⟨4, 0, 0, 0, op0, rp0, (xs1, xb1, xn1), pt0, n2, hd0⟩, q2) := by simp [rdRc, e0, e1, e2]
  rw [hR]
  clear hR e0 e1 e2
  have HC0 : Hid (CurV 100 pb zs v 0 w) := h
  clear h
  dsimp only
  simp only [op0, rp0, tx0, pt0, hd0]
  go_enter Try.func59, Try.ntmps59
  go_wp2_with fail
  refine Calls.mono (H0.out _ (HC0.out.alloc _)) ?_
  rintro e w1 ⟨rfl, hc_, t_⟩
  have HT : Hid (Turned (fun b => b = pb) w w1) := (Turned.ofBelow (Below.new1 (w := w) _)).trans t_
  have vR : VarA w1 w.heap.size 48 #[.int .i64 0, .int .i64 0, .int .i64 0, .int .i64 0, .int .i64 0, .int .i64 0, .bool false, .slice none 0 0, .int .i64 0, .int .i64 0, .bool false, .slice none 0 0, .int .i64 0, .int .i64 0, .int .i64 0, .bool false, .int .i64 0, .int .i64 0, .int .i64 0, .bool false, .int .i64 0, .slice none 0 0, .int .i64 0, .int .i64 0, .int .i64 0, .int .i64 0, .int .i64 0, .int .i64 0, .bool false, .slice none 0 0, .int .i64 0, .int .i64 0, .bool false, .int .i64 0] := VarA.turn (VarA.new w _ _) t_ (by omega)
  have hx0 := t_.size
  simp at hx0
  have HC1 : Hid (CurV 100 pb zs v q0 w1) := hc_
  clear hc_ t_ H0 HC0
  go_wp2_with fail
  refine Calls.mono (H1.out _ HC1.out) ?_
  rintro e w2 ⟨rfl, hc_, t_⟩
  have HT_ : Hid (Turned (fun b => b = pb) w w2) := HT.out.trans t_
  clear HT
  have HT := HT_
  clear HT_
  have vR_ := vR.turn t_ (by omega)
  clear vR
  have vR := vR_
  clear vR_
  have hx1 := t_.size
  have HC2 : Hid (CurV 100 pb zs v q1 w2) := hc_
  clear hc_ t_ H1 HC1
  go_wp2_with fail
  refine Calls.mono (H2.out _ HC2.out) ?_
  rintro e w3 ⟨rfl, hc_, t_⟩
  have HT_ : Hid (Turned (fun b => b = pb) w w3) := HT.out.trans t_
  clear HT
  have HT := HT_
  clear HT_
  have vR_ := vR.turn t_ (by omega)
  clear vR
  have vR := vR_
  clear vR_
  have hx2 := t_.size
  have HC3 : Hid (CurV 100 pb zs v q2 w3) := hc_
  clear hc_ t_ H2 HC2
  dsimp only
  repeat (first | ((with_reducible refine guardStore (ty := 48) ?_); refine wpList_storeF vR rfl rfl (by kernel_rfl) rfl (of_decide_eq_true rfl) rfl ?_; intro w' vR_ t_) | go_values | go_skip | go_guarded | go_step | go_upon)
  have t1 : Turned (fun b => b = w.heap.size) w3 w' := t_
  have hC : CurV 100 pb zs v q2 w' := HC3.out.keep t1 (fun b hb => by omega)
  have hT : Turned (fun b => b = pb) w w' := HT.out.then t1 (fun i hi hs => by omega)
  have hsz := t1.size
  refine bodyPost_ret (results_cell_row Try.results59 _ _ _ _ _ _ _ rfl vR_ Try.underlying48 rfl (by kernel_rfl)) rfl ?_
  refine ⟨_, _, _, _, _, _, _, _, _, _, _, _, rfl, ⟨fun _ => False, fun _ => False, fun _ => False, fun _ => False, OwV.nilB _ _, OwV.nilB _ _, OwV.nilR _ _ _ _ _, OwV.nilB _ _, ?_, ?_, ?_, ?_⟩, hC, hT⟩
  · intro b hb
    rcases hb with hb | hb | hb | hb <;> first | exact hb.elim | exact ⟨by omega, by omega⟩
  · intro b hb
    refine ⟨fun h => ?_, fun h => ?_, fun h => ?_⟩ <;> first | exact hb.elim | exact h.elim | omega
  · intro b hb
    refine ⟨fun h => ?_, fun h => ?_⟩ <;> first | exact hb.elim | exact h.elim | omega
  · intro b hb h
    first | exact hb.elim | exact h.elim | omega
end Go.Proofs.Ytmjfnmlfamikgaa
end

section
/- The program's RecordRead. Condition: at most 2,000,000 bytes. -/
namespace Go.Proofs.Ytmjfnmlfamikgaa
open Go.RowKit
set_option linter.unusedVariables false
set_option linter.unusedSimpArgs false
set_option maxRecDepth 100000

theorem results_row_tmp {fn : Func} {p u : Tmp} {ty : TypeId} (h : fn.results = #[.cell p ty, .tmp u]) (tmps : Array Value) (w : World) (g : Nat) (t : TypeId) (cs : Array Value) (d : TypeDesc)
    (hp : tmps.getD p undef = .pointer (some ⟨g, 0, none⟩)) (hg : VarA w g t cs)
    (hu : Try.prog.underlying ty = some d) (hd : d.isRow = true) (hi : (Try.prog.info? ty).map (·.size) = some cs.size) :
    (results fn tmps).run Try.prog w = .ok (.tuple #[.agg cs, tmps.getD u undef]) w := by
  rw [results_cell_tmp h, hp]
  simp [asAddr, loadA_run hg hu hd hi]
/-- A whole variable loaded, where a guard says so. -/
theorem wpList_loadW {ty t' : TypeId} {dst : Option Tmp} {x : Operand} {pos : String} {af : Array Edge} {gd : Option (Nat × Bool)} {ops : Array Oper} {rest : List Oper} {a : Act} {Q : Exit → Act → World → Prop} {w : World} {g : Nat} {T : TypeId} {cs : Array Value} {d : TypeDesc}
    (hw : Region.wanted ⟨dst, .load ty x, t', pos, af, gd⟩ (yielded ops a.tmps) = true) (hv : VarA w g T cs) (hx : a.eval x = .pointer (some ⟨g, 0, none⟩)) (hu : Try.prog.underlying ty = some d) (hd : d.isRow = true) (hi : (Try.prog.info? ty).map (·.size) = some cs.size)
    (hK : wpList Try.prog ops Q rest (a.put dst (.agg cs)) w) :
    wpList Try.prog ops Q (⟨dst, .load ty x, t', pos, af, gd⟩ :: rest) a w := by
  refine BigFrame.wpList_want hw fun K' hK' => ?_
  unfold Oper.wp execOp
  simp only [hx, Instr.loadAt, Instr.sureAddr, Sem.run_bind, Sem.run_pure, Result.andThen_ok, loadA_run hv hu hd hi]
  exact hK' _ _ hK
theorem guardLoadW {ty t' : TypeId} {dst : Option Tmp} {x : Operand} {pos : String} {af : Array Edge} {gd : Option (Nat × Bool)} {ops : Array Oper} {rest : List Oper} {a : Act} {Q : Exit → Act → World → Prop} {w : World}
    (h : wpList Try.prog ops Q (⟨dst, .load ty x, t', pos, af, gd⟩ :: rest) a w) : wpList Try.prog ops Q (⟨dst, .load ty x, t', pos, af, gd⟩ :: rest) a w := h
theorem RdV.here {w : World} {S : Nat → Prop} {v : Value} {zs : List Int} (r : RdV w S v (.bytes zs)) : RdV w (fun b => b < w.heap.size) v (.bytes zs) := by
  obtain ⟨hb, a, len, cap, hv, hl, hh, hc⟩ := r.b
  refine ⟨hb, a, len, cap, hv, hl, hh, ?_⟩
  rcases hc with h0 | ⟨b, off, ha, h1, h2, hc⟩
  · exact .inl h0
  · exact .inr ⟨b, off, ha, h2, h2, hc⟩
theorem CurV.start {w : World} {S : Nat → Prop} {v : Value} {zs : List Int} (T : TypeId) (o : Obj) (r : RdV w S v (.bytes zs)) : CurV T (w.heap.size + 1) zs v 0 ((w.alloc o).alloc (.cells #[v, .int .i64 0] T)) :=
  ⟨VarA.new1 w o T _, RdV.mono (fun b hb => by omega) (RdV.step r.here ((Below.new1 (w := w) o).trans ((Below.new1 (w := w.alloc o) _).mono (by simp)))), by omega, by omega⟩
theorem OwM.nil (w : World) (S : Nat → Prop) : OwM w S ms0 (.slice none 0 0) (.slice none 0 0) (.slice none 0 0) (.slice none 0 0) :=
  ⟨fun _ => False, fun _ => False, fun _ => False, fun _ => False, OwV.nilB _ _, OwV.nilB _ _, OwV.nilR _ _ _ _ _, OwV.nilB _ _, fun b hb => by rcases hb with h | h | h | h <;> exact h.elim, fun b hb => hb.elim, fun b hb => hb.elim, fun b hb => hb.elim⟩
set_option maxHeartbeats 2000000 in
theorem implEndC (pb : Nat) (zs : List Int) (v : Value) (p : Int) (w : World) (h : CurV 100 pb zs v p w) (hl : zs.length ≤ 2000000) :
    Calls Try.prog 60 #[.pointer (some ⟨pb, 0, none⟩)] w fun e w' => e = .returned (.bool (decide (p = zs.length))) ∧ Below w.heap.size w w' := by
  obtain ⟨c0, c1⟩ := VarA.l2 h.1
  obtain ⟨a, cap, rfl⟩ := RdV.sliceB h.2.1
  clear h
  have hb : (p == (zs.length : Int)) = decide (p = zs.length) := by simp [BEq.beq]
  rw [← hb]
  clear hb
  go_enter Try.func60, Try.ntmps60
  go_wp2
  all_goals first
    | (go_ret; exact ⟨rfl, by repeat (first | exact Below.refl _ _ | refine Below.drew ?_ | refine below_drewN2 ?_ _)⟩)
    | (go_quiet (fail); go_wp2; go_ret; exact ⟨rfl, by repeat (first | exact Below.refl _ _ | refine Below.drew ?_ | refine below_drewN2 ?_ _)⟩)
theorem implRecC (pb : Nat) (zs : List Int) (v : Value) (w : World) (h : CurV 100 pb zs v 0 w) (hl : zs.length ≤ 2000000) :
    Calls Try.prog 59 #[.pointer (some ⟨pb, 0, none⟩)] w fun e w' => ∃ a1 n1 c1 a2 n2 c2 a3 n3 c3 a4 n4 c4, e = .returned (rcV (rdRc (rdEnP zs) zs).1 (.slice a1 n1 c1) (.slice a2 n2 c2) (.slice a3 n3 c3) (.slice a4 n4 c4)) ∧ OwM w' (fun b => w.heap.size ≤ b ∧ b < w'.heap.size) (rdRc (rdEnP zs) zs).1 (.slice a1 n1 c1) (.slice a2 n2 c2) (.slice a3 n3 c3) (.slice a4 n4 c4) ∧ Gone 100 pb zs v (rdRc (rdEnP zs) zs).2 w w' := by
  by_cases hk : (getNum zs 0).1 < 1 ∨ 4 < (getNum zs 0).1
  · exact implRecC0 pb zs v w h hl hk
  · rcases (show (getNum zs 0).1 = 1 ∨ (getNum zs 0).1 = 2 ∨ (getNum zs 0).1 = 3 ∨ (getNum zs 0).1 = 4 by omega) with h_ | h_ | h_ | h_
    · exact implRecC1 pb zs v w h hl h_
    · exact implRecC2 pb zs v w h hl h_
    · exact implRecC3 pb zs v w h hl h_
    · exact implRecC4 pb zs v w h hl h_
theorem getText_len40 (zs : List Int) (p : Int) : (getText zs p).1.length ≤ 40 := getText_len zs p
theorem szEns_le40 : ∀ (l : List En), (∀ e ∈ l, e.nm.length ≤ 40) → szEns l ≤ 41 * l.length
  | [], _ => by simp [szEns]
  | e :: l, h => by
    have h1 := szEns_le40 l (fun x hx => h x (List.mem_cons_of_mem _ hx))
    have h2 := h e (List.mem_cons_self ..)
    unfold szEns at h1 ⊢
    simp only [List.map_cons, List.sum_cons, List.length_cons] at h1 ⊢
    omega
theorem ensP_40 (zs : List Int) (k : Nat) : ∀ p : Int, ∀ e ∈ (rdEnsP zs k p).1, e.nm.length ≤ 40 := by
  induction k with
  | zero => intro p e he; cases he
  | succ k ih =>
    intro p e he
    rw [rdEnsP] at he
    rcases List.mem_cons.1 he with h | h
    · rw [h]; exact getText_len zs p
    · exact ih _ e h
theorem ens_40 (zs : List Int) (k : Nat) : ∀ p : Int, ∀ e ∈ (rdEns zs k p).1, e.nm.length ≤ 40 := by
  induction k with
  | zero => intro p e he; cases he
  | succ k ih =>
    intro p e he
    rw [rdEns] at he
    split at he
    · cases he
    · rcases List.mem_cons.1 he with h | h
      · rw [h]; exact getText_len zs p
      · exact ih _ e h
theorem szP (zs : List Int) (p : Int) : szEns (rdEnP zs p).1 ≤ 1000 := by
  unfold rdEnP
  split
  · simp [szEns]
  · have h1 := szEns_le40 _ (ensP_40 zs (getNum zs p).1.toNat (getNum zs p).2)
    have h2 := ensP_len zs (getNum zs p).1.toNat (getNum zs p).2
    omega
theorem szS (zs : List Int) (p : Int) : szEns (rdEnS zs p).1 ≤ 1000 := by
  unfold rdEnS
  have h1 := szEns_le40 _ (ens_40 zs (min (getNum zs p).1.toNat 13) (getNum zs p).2)
  have h2 := ens_lenle zs (min (getNum zs p).1.toNat 13) (getNum zs p).2
  have h3 : min (getNum zs p).1.toNat 13 ≤ 13 := Nat.min_le_right _ _
  omega
theorem szRc (e : Int → List En × Int) (he : ∀ p, szEns (e p).1 ≤ 1000) (zs : List Int) : szMs (rdRc e zs).1 ≤ 2000 := by
  have h0 : szEns ([] : List En) = 0 := by simp [szEns]
  unfold rdRc
  dsimp only
  split
  · simp only [szMs, pt0, rdRp, rdOp]; have := getText_len zs (rdHd zs (getNum zs (getNum zs (getNum zs (getNum zs 0).2).2).2).2).2; have g := he (getNum zs (rdHd zs (getNum zs (rdHd zs (rdOp zs (getNum zs (getNum zs (getNum zs 0).2).2).2).2).2).2).2).2; simp only [rdOp] at g; simp only [List.length_nil]; have g2 := getText_len zs (rdHd zs (getText zs (rdHd zs (getNum zs (getNum zs (getNum zs (getNum zs 0).2).2).2).2).2).2).2; omega
  split
  · simp only [szMs, op0, rp0, rdPt, h0, List.length_nil]; have := getText_len zs (rdHd zs (getNum zs (rdTx zs (getNum zs 0).2).2).2).2; omega
  split
  · simp only [szMs, pt0, rdRp, rdOp]; have := getText_len zs (rdHd zs (getNum zs (getNum zs (getNum zs (getNum zs (rdTx zs (getNum zs 0).2).2).2).2).2).2).2; have g := he (getNum zs (rdHd zs (getNum zs (rdOp zs (getNum zs (getNum zs (getNum zs (rdTx zs (getNum zs 0).2).2).2).2).2).2).2).2).2; simp only [rdOp] at g; simp only [List.length_nil]; have g2 := getText_len zs (rdHd zs (getText zs (rdHd zs (getNum zs (getNum zs (getNum zs (getNum zs (rdTx zs (getNum zs 0).2).2).2).2).2).2).2).2).2; omega
  split
  · simp [szMs, op0, rp0, pt0, h0]
  · simp [szMs, op0, rp0, pt0, h0]
set_option maxHeartbeats 8000000 in
theorem implRecordRead_any (v : Value) (zs : List Int) (S : Nat → Prop) (w : World) (r : RdV w S v (.bytes zs)) (hl : zs.length ≤ 2000000) :
    Calls Try.prog 19 #[v] w fun e w' => ∃ a1 n1 c1 a2 n2 c2 a3 n3 c3 a4 n4 c4, e = .returned (.tuple #[rcV (recRead zs).1 (.slice a1 n1 c1) (.slice a2 n2 c2) (.slice a3 n3 c3) (.slice a4 n4 c4), .bool (recRead zs).2]) ∧ OwM w' (fun b => w.heap.size ≤ b ∧ b < w'.heap.size) (recRead zs).1 (.slice a1 n1 c1) (.slice a2 n2 c2) (.slice a3 n3 c3) (.slice a4 n4 c4) ∧ Below w.heap.size w w' := by
  obtain ⟨va, vcap, rfl⟩ := r.sliceB
  obtain ⟨v, hv⟩ : ∃ v, v = Value.slice va zs.length vcap := ⟨_, rfl⟩
  rw [← hv] at r
  have HS : Hid (∀ o, CurV 100 (w.heap.size + 1) zs v 0 ((w.alloc o).alloc (.cells #[v, .int .i64 0] 100))) := fun o => CurV.start _ o r
  have HRC : Hid (∀ W, CurV 100 (w.heap.size + 1) zs v 0 W → _) := fun W hW => implRecC (w.heap.size + 1) zs v W hW hl
  have HEN : Hid (∀ p W, CurV 100 (w.heap.size + 1) zs v p W → _) := fun p W hW => implEndC (w.heap.size + 1) zs v p W hW hl
  have hsz := szRc (rdEnP zs) (szP zs) zs
  have HRE : Hid (recRead zs = if (rdRc (rdEnP zs) zs).2 = zs.length ∧ COk (rdRc (rdEnP zs) zs).1 = true then ((rdRc (rdEnP zs) zs).1, true) else (ms0, false)) := rfl
  rw [HRE.out]
  clear HRE r
  generalize rdRc (rdEnP zs) zs = rr at HRC hsz ⊢
  obtain ⟨m, q⟩ := rr
  dsimp only at HRC hsz ⊢
  have HOK : Hid (∀ x y z u S W, RdM W S m x y z u → _) := fun x y z u S W hW => implRecordOk_any x y z u m S W hW (by omega)
  generalize COk m = okB at HOK ⊢
  obtain ⟨mR, bR, hRR⟩ : ∃ a b, (if q = zs.length ∧ okB = true then (m, true) else (ms0, false)) = (a, b) := ⟨_, _, rfl⟩
  rw [hRR]
  have HRR : Hid ((if q = zs.length ∧ okB = true then (m, true) else (ms0, false)) = (mR, bR)) := hRR
  clear hRR
  dsimp only
  subst hv
  go_enter Try.func19, Try.ntmps19
  go_wp2_with fail
  refine Calls.mono (HRC.out _ (HS.out _)) ?_
  rintro e w2 ⟨a1, n1, c1, a2, n2, c2, a3, n3, c3, a4, n4, c4, rfl, o1, hc, t1⟩
  have hs2 := t1.size
  simp at hs2
  have B2 : Hid (Below w.heap.size w w2) := Turned.below ((Below.new1 (w := w) _).trans ((Below.new1 (w := w.alloc _) _).mono (by simp))) t1 (by simp <;> omega) (fun i hi => by omega)
  have vR : VarA w2 w.heap.size 48 #[.int .i64 0, .int .i64 0, .int .i64 0, .int .i64 0, .int .i64 0, .int .i64 0, .bool false, .slice none 0 0, .int .i64 0, .int .i64 0, .bool false, .slice none 0 0, .int .i64 0, .int .i64 0, .int .i64 0, .bool false, .int .i64 0, .int .i64 0, .int .i64 0, .bool false, .int .i64 0, .slice none 0 0, .int .i64 0, .int .i64 0, .int .i64 0, .int .i64 0, .int .i64 0, .int .i64 0, .bool false, .slice none 0 0, .int .i64 0, .int .i64 0, .bool false, .int .i64 0] := VarA.turn ((VarA.new w _ _).alloc _) t1 (by omega)
  have HOM : Hid (OwM w2 (fun b => w.heap.size + 2 ≤ b ∧ b < w2.heap.size) m (.slice a1 n1 c1) (.slice a2 n2 c2) (.slice a3 n3 c3) (.slice a4 n4 c4)) := o1.mono (fun b hb => ⟨by simpa using hb.1, hb.2⟩)
  have HC2 : Hid (CurV 100 (w.heap.size + 1) zs _ q w2) := hc
  clear o1 hc t1 HRC HS
  obtain ⟨kd, fr, to, rq, ⟨ok, ⟨op_, oq, od⟩, nm, ⟨tp, tq, td⟩, asn, ov⟩, ⟨rc, ⟨rp_, rq_, rd⟩, rv, es⟩, ⟨xs, xb, xn⟩, ⟨pk, ⟨pp, pq, pd⟩, pas, ⟨sp, sq, sd⟩⟩, cd, ⟨hp, hq, hd⟩⟩ := m
  dsimp only at HOM HOK hsz ⊢
  repeat (first | ((with_reducible refine guardStore (ty := 48) ?_); refine wpList_storeF (VarA.new w2 _ _) rfl rfl (by kernel_rfl) rfl (of_decide_eq_true rfl) rfl ?_; intro w3 vX_ t_) | go_values | go_skip | go_guarded | go_step | go_upon)
  have vX : VarA w3 w2.heap.size 48 #[.int .i64 kd, .int .i64 fr, .int .i64 rq, .int .i64 ok, .int .i64 op_, .int .i64 oq, .bool od, .slice a1 n1 c1, .int .i64 tp, .int .i64 tq, .bool td, .slice a2 n2 c2, .int .i64 ov, .int .i64 hp, .int .i64 hq, .bool hd, .int .i64 rc, .int .i64 rp_, .int .i64 rq_, .bool rd, .int .i64 rv, .slice a3 n3 c3, .int .i64 xs, .int .i64 xb, .int .i64 xn, .int .i64 pk, .int .i64 pp, .int .i64 pq, .bool pd, .slice a4 n4 c4, .int .i64 sp, .int .i64 sq, .bool sd, .int .i64 cd] := vX_
  have t1 : Turned (fun b => b = w2.heap.size) w2 w3 := (Turned.ofBelow (Below.new1 (w := w2) _)).trans t_
  have hs3 := t1.size
  have hlX := VarA.lt vX
  have B3 : Hid (Below w.heap.size w w3) := Turned.below B2.out t1 B2.out.size (fun i hi => by omega)
  have vR3 := vR.turn t1 (by omega)
  have HOM3 : Hid (OwM w3 (fun b => w.heap.size + 2 ≤ b ∧ b < w2.heap.size) _ (.slice a1 n1 c1) (.slice a2 n2 c2) (.slice a3 n3 c3) (.slice a4 n4 c4)) := HOM.out.keep (t1.keeps (fun b hb hs => by omega))
  have HC3 : Hid (CurV 100 (w.heap.size + 1) zs _ q w3) := HC2.out.keep t1 (fun b hb => by omega)
  clear vX_ t_ t1 B2 vR HOM HC2
  refine Calls.mono (HEN.out _ _ HC3.out) ?_
  rintro e w4 ⟨rfl, b4⟩
  have vX4 := vX.step b4
  have vR4 := vR3.step b4
  have B4 : Hid (Below w.heap.size w w4) := B3.out.trans (b4.mono B3.out.size)
  have HOM4 : Hid (OwM w4 (fun b => w.heap.size + 2 ≤ b ∧ b < w2.heap.size) _ (.slice a1 n1 c1) (.slice a2 n2 c2) (.slice a3 n3 c3) (.slice a4 n4 c4)) := HOM3.out.keep (Keeps.ofBelow b4)
  have hs4 := b4.size
  clear vX vR3 B3 HOM3 HC3 b4 HEN
  by_cases hqq : q = zs.length
  case neg =>
    have hdd : decide (q = (zs.length : Int)) = false := by simpa using hqq
    have h_ := HRR.out
    rw [if_neg (fun h => hqq h.1)] at h_
    simp only [Prod.mk.injEq] at h_
    obtain ⟨rfl, rfl⟩ := h_
    rw [hdd]
    clear HOK HOM4 vX4
    dsimp only
    repeat (first | ((with_reducible refine guardStore (ty := 48) ?_); refine wpList_storeF vR4 rfl rfl (by kernel_rfl) rfl (of_decide_eq_true rfl) rfl ?_; intro w' vR_ t_) | go_values | go_skip | go_guarded | go_step | go_upon)
    refine bodyPost_ret (results_row_tmp Try.results19 _ _ _ _ _ _ rfl vR_ Try.underlying48 rfl (by kernel_rfl)) rfl ?_
    exact ⟨none, 0, 0, none, 0, 0, none, 0, 0, none, 0, 0, rfl, OwM.nil _ _, Turned.below B4.out t_ B4.out.size (fun i hi => by omega)⟩
  have hdd : decide (q = (zs.length : Int)) = true := by simpa using hqq
  rw [hdd]
  cases okB
  · have h_ := HRR.out
    rw [if_neg (fun h => by cases h.2)] at h_
    simp only [Prod.mk.injEq] at h_
    obtain ⟨rfl, rfl⟩ := h_
    dsimp only
    repeat (first | ((with_reducible refine guardLoadW (ty := 48) ?_); refine wpList_loadW rfl vX4 rfl Try.underlying48 rfl (by kernel_rfl) ?_) | go_values | go_skip | go_guarded | go_step | go_upon)
    refine Calls.mono (HOK.out _ _ _ _ _ _ HOM4.out.rd) ?_
    rintro e w5 ⟨rfl, b5⟩
    have vR4_ := vR4.step b5
    have B4_ : Hid (Below w.heap.size w w5) := B4.out.trans (b5.mono B4.out.size)
    clear HOK HOM4 vX4 vR4 B4 b5
    have vR4 := vR4_
    have B4 := B4_
    clear vR4_ B4_
    dsimp only
    repeat (first | ((with_reducible refine guardStore (ty := 48) ?_); refine wpList_storeF vR4 rfl rfl (by kernel_rfl) rfl (of_decide_eq_true rfl) rfl ?_; intro w' vR_ t_) | go_values | go_skip | go_guarded | go_step | go_upon)
    refine bodyPost_ret (results_row_tmp Try.results19 _ _ _ _ _ _ rfl vR_ Try.underlying48 rfl (by kernel_rfl)) rfl ?_
    exact ⟨none, 0, 0, none, 0, 0, none, 0, 0, none, 0, 0, rfl, OwM.nil _ _, Turned.below B4.out t_ B4.out.size (fun i hi => by omega)⟩
  · have h_ := HRR.out
    rw [if_pos ⟨hqq, rfl⟩] at h_
    simp only [Prod.mk.injEq] at h_
    obtain ⟨rfl, rfl⟩ := h_
    dsimp only
    repeat (first | ((with_reducible refine guardLoadW (ty := 48) ?_); refine wpList_loadW rfl vX4 rfl Try.underlying48 rfl (by kernel_rfl) ?_) | go_values | go_skip | go_guarded | go_step | go_upon)
    refine Calls.mono (HOK.out _ _ _ _ _ _ HOM4.out.rd) ?_
    rintro e w5 ⟨rfl, b5⟩
    have vR5 := vR4.step b5
    have vX5 := vX4.step b5
    have B5 : Hid (Below w.heap.size w w5) := B4.out.trans (b5.mono B4.out.size)
    have HOM5 : Hid (OwM w5 (fun b => w.heap.size + 2 ≤ b ∧ b < w2.heap.size) _ (.slice a1 n1 c1) (.slice a2 n2 c2) (.slice a3 n3 c3) (.slice a4 n4 c4)) := HOM4.out.keep (Keeps.ofBelow b5)
    have hs5 := b5.size
    clear HOK HOM4 vX4 vR4 B4 b5
    dsimp only
    repeat (first | ((with_reducible refine guardLoad (ty := 48) ?_); refine wpList_loadA vX5 rfl Try.underlying48 rfl (by kernel_rfl) ?_) | ((with_reducible refine guardStore (ty := 48) ?_); refine wpList_storeF vR5 rfl rfl (by kernel_rfl) rfl (of_decide_eq_true rfl) rfl ?_; intro w' vR_ t_) | go_values | go_skip | go_guarded | go_step | go_upon)
    refine bodyPost_ret (results_row_tmp Try.results19 _ _ _ _ _ _ rfl vR_ Try.underlying48 rfl (by kernel_rfl)) rfl ?_
    have hs6 := t_.size
    exact ⟨_, _, _, _, _, _, _, _, _, _, _, _, rfl, (HOM5.out.keep (t_.keeps (fun b hb hs => by omega))).mono (fun b hb => ⟨by omega, by omega⟩), Turned.below B5.out t_ B5.out.size (fun i hi => by omega)⟩
end Go.Proofs.Ytmjfnmlfamikgaa
end

section
/- The specification's RecordRead, kind by kind. Condition: at most 2,000,000 bytes. -/
namespace Go.Proofs.Ytmjfnmlfamikgaa
open Go.RowKit
set_option linter.unusedVariables false
set_option linter.unusedSimpArgs false
set_option maxRecDepth 100000

/-- A region that draws its order, while a cursor and a variable stay as they are. -/
theorem wp_region_cur {P : Program} {id : Nat} {ops : Array Oper} {Q : Exit → Act → World → Prop} {a : Act} {w : World} {T : TypeId} {pb : Nat} {zs : List Int} {v : Value} {p : Int} {ba : Nat} {Ta : TypeId} {ca : Array Value} (hm : P.follows .mixedOrders = true) (hc : CurV T pb zs v p w) (vA : VarA w ba Ta ca)
    (h : (CurV T pb zs v p w.drew ∧ VarA w.drew ba Ta ca) → wpAnyH P .any ops Q (fun W => CurV T pb zs v p W ∧ VarA W ba Ta ca) ops.size (Array.replicate ops.size false) a w.drew) : (Code.region id ops true).wp P Q a w :=
  wp_region_held_drew (S := fun W => CurV T pb zs v p W ∧ VarA W ba Ta ca) hm ⟨hc.dr, vA⟩ h
theorem RdV.rd0 {w : World} {S : Nat → Prop} {a : Option Addr} {n cap : Nat} {zs : List Int} (r : RdV w S (.slice a n cap) (.bytes zs)) : Reads w a zs := by
  obtain ⟨a', cap', h, _, hr⟩ := r.b.reads
  simp only [Value.slice.injEq] at h
  rw [h.1]; exact hr
end Go.Proofs.Ytmjfnmlfamikgaa
end

section
/- The specification's RecordRead, kind by kind. Condition: at most 2,000,000 bytes. -/
namespace Go.Proofs.Ytmjfnmlfamikgaa
open Go.RowKit
set_option linter.unusedVariables false
set_option linter.unusedSimpArgs false
set_option maxRecDepth 100000

set_option maxHeartbeats 16000000 in
theorem specRead0 (v : Value) (zs : List Int) (S : Nat → Prop) (w : World) (r : RdV w S v (.bytes zs)) (hl : zs.length ≤ 2000000) (hk : (getNum zs 0).1 < 1 ∨ 4 < (getNum zs 0).1) :
    Calls Try.prog 17 #[v] w fun e w' => ∃ a1 n1 c1 a2 n2 c2 a3 n3 c3 a4 n4 c4, e = .returned (.tuple #[rcV (recRead zs).1 (.slice a1 n1 c1) (.slice a2 n2 c2) (.slice a3 n3 c3) (.slice a4 n4 c4), .bool (recRead zs).2]) ∧ OwM w' (fun b => w.heap.size ≤ b ∧ b < w'.heap.size) (recRead zs).1 (.slice a1 n1 c1) (.slice a2 n2 c2) (.slice a3 n3 c3) (.slice a4 n4 c4) ∧ Below w.heap.size w w' := by
  have hz := RdV.zs r
  obtain ⟨va, vcap, rfl⟩ := r.sliceB
  obtain ⟨v, hv⟩ : ∃ v, v = Value.slice va zs.length vcap := ⟨_, rfl⟩
  rw [← hv] at r
  have HS : Hid (∀ o, CurV 91 (w.heap.size + 1) zs v 0 ((w.alloc o).alloc (.cells #[v, .int .i64 0] 91))) := fun o => CurV.start _ o r
  have hsz := szRc (rdEnS zs) (szS zs) zs
  rw [recRead_spec hz]
  clear r
  obtain ⟨n0, q0, e0⟩ : ∃ x q, getNum zs 0 = (x, q) := ⟨_, _, rfl⟩
  have H0 : Hid (∀ W, CurV 91 (w.heap.size + 1) zs v 0 W → _) := fun W hW => by have h_ := specNumC (w.heap.size + 1) zs v 0 W hW hl; rw [e0] at h_; exact h_
  rw [e0] at hk
  dsimp only at hk
  have hR : rdRc (rdEnS zs) zs = (⟨n0, 0, 0, 0, op0, rp0, tx0, pt0, 0, hd0⟩, q0) := by simp [rdRc, e0, show ¬ (n0 = 1) by omega, show ¬ (n0 = 2) by omega, show ¬ (n0 = 3) by omega, show ¬ (n0 = 4) by omega]
  rw [hR] at hsz ⊢
  clear hR e0
  dsimp only at hsz ⊢
  have HOK : Hid (∀ x y z u S W, RdM W S ⟨n0, 0, 0, 0, op0, rp0, tx0, pt0, 0, hd0⟩ x y z u → _) := fun x y z u S W hW => specRecordOk_any x y z u _ S W hW (by omega)
  have HBY : Hid (∀ x y z u S W, RdM W S ⟨n0, 0, 0, 0, op0, rp0, tx0, pt0, 0, hd0⟩ x y z u → COk ⟨n0, 0, 0, 0, op0, rp0, tx0, pt0, 0, hd0⟩ = true → _) := fun x y z u S W hW ho => specRecB_any _ x y z u S W hW (by omega) ho
  obtain ⟨mR, bR, hRR⟩ : ∃ a b, (if q0 = zs.length ∧ COk ⟨n0, 0, 0, 0, op0, rp0, tx0, pt0, 0, hd0⟩ = true ∧ rcB ⟨n0, 0, 0, 0, op0, rp0, tx0, pt0, 0, hd0⟩ = zs then (⟨n0, 0, 0, 0, op0, rp0, tx0, pt0, 0, hd0⟩, true) else (ms0, false)) = (a, b) := ⟨_, _, rfl⟩
  rw [hRR]
  have HRR : Hid ((if q0 = zs.length ∧ COk ⟨n0, 0, 0, 0, op0, rp0, tx0, pt0, 0, hd0⟩ = true ∧ rcB ⟨n0, 0, 0, 0, op0, rp0, tx0, pt0, 0, hd0⟩ = zs then (⟨n0, 0, 0, 0, op0, rp0, tx0, pt0, 0, hd0⟩, true) else (ms0, false)) = (mR, bR)) := hRR
  clear hRR hsz
  generalize COk ⟨n0, 0, 0, 0, op0, rp0, tx0, pt0, 0, hd0⟩ = okB at HOK HBY HRR
  generalize rcB ⟨n0, 0, 0, 0, op0, rp0, tx0, pt0, 0, hd0⟩ = zB at HBY HRR
  dsimp only
  subst hv
  go_enter Try.func17, Try.ntmps17
  go_wp2_with fail
  refine Calls.mono (H0.out _ (HS.out _)) ?_
  rintro e w1 ⟨rfl, hc_, t_⟩
  have hx0 := t_.size
  simp at hx0
  have HT : Hid (Below w.heap.size w w1) := Turned.below ((Below.new1 (w := w) _).trans ((Below.new1 (w := w.alloc _) _).mono (by simp))) t_ (by simp <;> omega) (fun i hi => by omega)
  have vR : VarA w1 w.heap.size 48 #[.int .i64 0, .int .i64 0, .int .i64 0, .int .i64 0, .int .i64 0, .int .i64 0, .bool false, .slice none 0 0, .int .i64 0, .int .i64 0, .bool false, .slice none 0 0, .int .i64 0, .int .i64 0, .int .i64 0, .bool false, .int .i64 0, .int .i64 0, .int .i64 0, .bool false, .int .i64 0, .slice none 0 0, .int .i64 0, .int .i64 0, .int .i64 0, .int .i64 0, .int .i64 0, .int .i64 0, .bool false, .slice none 0 0, .int .i64 0, .int .i64 0, .bool false, .int .i64 0] := VarA.turn ((VarA.new w _ _).alloc _) t_ (by omega)
  clear HS
  have HC1 : Hid (CurV 91 (w.heap.size + 1) zs _ q0 w1) := hc_
  clear hc_ t_ H0
  have d1 : (n0 == 1) = false := by simp; omega
  have d2 : (n0 == 2) = false := by simp; omega
  have d3 : (n0 == 3) = false := by simp; omega
  have d4 : (n0 == 4) = false := by simp; omega
  dsimp only
  repeat (first | ((with_reducible refine guardStore (ty := 48) ?_); refine wpList_storeF (VarA.new w1 _ _) rfl rfl (by kernel_rfl) rfl (of_decide_eq_true rfl) rfl ?_; intro wz vO_ t_; have k0_ := vO_.c 0 rfl) | go_values | go_skip | go_guarded | go_step | go_upon)
  have vZ : VarA wz w1.heap.size 48 #[.int .i64 n0, .int .i64 0, .int .i64 0, .int .i64 0, .int .i64 0, .int .i64 0, .bool false, .slice none 0 0, .int .i64 0, .int .i64 0, .bool false, .slice none 0 0, .int .i64 0, .int .i64 0, .int .i64 0, .bool false, .int .i64 0, .int .i64 0, .int .i64 0, .bool false, .int .i64 0, .slice none 0 0, .int .i64 0, .int .i64 0, .int .i64 0, .int .i64 0, .int .i64 0, .int .i64 0, .bool false, .slice none 0 0, .int .i64 0, .int .i64 0, .bool false, .int .i64 0] := vO_
  have t1 : Turned (fun b => b = w1.heap.size) w1 wz := (Turned.ofBelow (Below.new1 (w := w1) _)).trans t_
  have HCz : Hid (CurV 91 (w.heap.size + 1) zs (.slice va zs.length vcap) q0 wz) := HC1.out.keep t1 (fun b hb => by omega)
  have vRz := vR.turn t1 (by omega)
  have HTz : Hid (Below w.heap.size w wz) := Turned.below HT.out t1 HT.out.size (fun i hi => by omega)
  have hsz := t1.size
  have hob := VarA.lt vZ
  have HOM : Hid (OwM wz (fun b => w1.heap.size + 1 ≤ b ∧ b < wz.heap.size) ⟨n0, 0, 0, 0, op0, rp0, tx0, pt0, 0, hd0⟩ (.slice none 0 0) (.slice none 0 0) (.slice none 0 0) (.slice none 0 0)) := by
    refine ⟨fun _ => False, fun _ => False, fun _ => False, fun _ => False, OwV.nilB _ _, OwV.nilB _ _, OwV.nilR _ _ _ _ _, OwV.nilB _ _, ?_, ?_, ?_, ?_⟩
    · intro b hb
      rcases hb with hb | hb | hb | hb <;> first | exact hb.elim | exact ⟨by omega, by omega⟩
    · intro b hb
      refine ⟨fun h => ?_, fun h => ?_, fun h => ?_⟩ <;> first | exact hb.elim | exact h.elim | omega
    · intro b hb
      refine ⟨fun h => ?_, fun h => ?_⟩ <;> first | exact hb.elim | exact h.elim | omega
    · intro b hb h
      first | exact hb.elim | exact h.elim | omega
  clear  vO_ t_ t1 vR HT HC1 k0_ d1 d2 d3 d4
  try simp only [Act.put]
  obtain ⟨c0, c1⟩ := VarA.l2 HCz.out.1
  have hltc := HCz.out.lt
  haveI : Nonempty (Cls wz) := Cls.ne wz
  have k1_ := Cls.cell hltc c1
  have hVM : ∀ W, (∃ i : Cls wz, W = i.W) → VarA W w1.heap.size 48 #[.int .i64 n0, .int .i64 0, .int .i64 0, .int .i64 0, .int .i64 0, .int .i64 0, .bool false, .slice none 0 0, .int .i64 0, .int .i64 0, .bool false, .slice none 0 0, .int .i64 0, .int .i64 0, .int .i64 0, .bool false, .int .i64 0, .int .i64 0, .int .i64 0, .bool false, .int .i64 0, .slice none 0 0, .int .i64 0, .int .i64 0, .int .i64 0, .int .i64 0, .int .i64 0, .int .i64 0, .bool false, .slice none 0 0, .int .i64 0, .int .i64 0, .bool false, .int .i64 0] := fun W ⟨i, hi⟩ => by rw [hi]; exact VarA.step vZ i.h
  by_cases hqq : q0 = zs.length
  case neg =>
    have h_ := HRR.out
    rw [if_neg (fun h => hqq h.1)] at h_
    simp only [Prod.mk.injEq] at h_
    obtain ⟨rfl, rfl⟩ := h_
    clear HRR
    have f1 : (q0 == (zs.length : Int)) = false := by simpa using hqq
    have f2 : (q0 != (zs.length : Int)) = true := by simpa using hqq
    have f3 : decide (q0 = (zs.length : Int)) = false := by simpa using hqq
    refine wp_region_cls (by kernel_rfl) (by kernel_rfl) ?_
    repeat (go_big_quiet_step (fail))
    refine wpQuiet_nil ?_
    rintro w' ⟨⟨w', b_⟩, rfl⟩
    have vR9 := vRz.step b_
    have B9 : Hid (Below w.heap.size w w') := HTz.out.trans (b_.mono HTz.out.size)
    clear vRz HTz vZ HCz HOM HOK HBY b_ this hVM k1_
    repeat (first | ((with_reducible refine guardStore (ty := 48) ?_); refine wpList_storeF vR9 rfl rfl (by kernel_rfl) rfl (of_decide_eq_true rfl) rfl ?_; intro w' vR_ t_) | go_values | go_skip | go_guarded | go_step | go_upon)
    refine bodyPost_ret (results_row_tmp Try.results17 _ _ _ _ _ _ rfl vR_ Try.underlying48 rfl (by kernel_rfl)) rfl ?_
    exact ⟨none, 0, 0, none, 0, 0, none, 0, 0, none, 0, 0, rfl, OwM.nil _ _, Turned.below B9.out t_ B9.out.size (fun i hi => by omega)⟩
  have f1 : (q0 == (zs.length : Int)) = true := by simpa using hqq
  have f2 : (q0 != (zs.length : Int)) = false := by simpa using hqq
  have f3 : decide (q0 = (zs.length : Int)) = true := by simpa using hqq
  cases okB
  · have h_ := HRR.out
    rw [if_neg (fun h => by cases h.2.1)] at h_
    simp only [Prod.mk.injEq] at h_
    obtain ⟨rfl, rfl⟩ := h_
    clear HRR
    refine wp_region_cls (by kernel_rfl) (by kernel_rfl) ?_
    repeat (go_big_quiet_step (fail))
    (refine wpQuiet_loadA hVM rfl rfl Try.underlying48 rfl (by kernel_rfl) ?_); simp only [Act.put, List.setIfInBounds_toArray, List.set_cons_succ, List.set_cons_zero]
    repeat (go_big_quiet_step (first | (go_at_call 7; exact Calls.cls (HOK.out _ _ _ _ _ _ (HOM.out.rd.step (Cls.h _))))))
    refine wpQuiet_nil ?_
    rintro w' ⟨⟨w', b_⟩, rfl⟩
    have vR9 := vRz.step b_
    have B9 : Hid (Below w.heap.size w w') := HTz.out.trans (b_.mono HTz.out.size)
    clear vRz HTz vZ HCz HOM HOK HBY b_ this hVM k1_
    repeat (first | ((with_reducible refine guardStore (ty := 48) ?_); refine wpList_storeF vR9 rfl rfl (by kernel_rfl) rfl (of_decide_eq_true rfl) rfl ?_; intro w' vR_ t_) | go_values | go_skip | go_guarded | go_step | go_upon)
    refine bodyPost_ret (results_row_tmp Try.results17 _ _ _ _ _ _ rfl vR_ Try.underlying48 rfl (by kernel_rfl)) rfl ?_
    exact ⟨none, 0, 0, none, 0, 0, none, 0, 0, none, 0, 0, rfl, OwM.nil _ _, Turned.below B9.out t_ B9.out.size (fun i hi => by omega)⟩
  · clear k1_ this hVM
    obtain ⟨bz, hbz⟩ : ∃ b : Bool, decide (zB = zs) = b := ⟨_, rfl⟩
    refine wp_region_noPanic ?_
    refine wp_region_cur (by kernel_rfl) HCz.out vZ (fun hHeld => ?_)
    refine wpAnyH_take (i := 0) (v := ?_) rfl (by kernel_rfl) (by kernel_rfl) (by kernel_rfl) (fun _ _ _ h => h) (Or.inl ⟨by rfl, ?_⟩) (by assumption) ?_
    rotate_left
    · (intro w_ hSw_; go_simp; try with_reducible rfl)
    try simp only [Act.put, List.setIfInBounds_toArray, List.set_cons_zero, List.set_cons_succ, List.getElem_toArray, List.getElem_cons_zero, List.getElem_cons_succ]
    refine wpAnyH_take (i := 1) (v := ?_) rfl (by kernel_rfl) (by kernel_rfl) (by kernel_rfl) (fun _ _ _ h => h) (Or.inl ⟨by rfl, ?_⟩) (by assumption) ?_
    rotate_left
    · (intro w_ hSw_; go_simp; try with_reducible rfl)
    try simp only [Act.put, List.setIfInBounds_toArray, List.set_cons_zero, List.set_cons_succ, List.getElem_toArray, List.getElem_cons_zero, List.getElem_cons_succ]
    refine wpAnyH_take (i := 2) (v := ?_) rfl (by kernel_rfl) (by kernel_rfl) (by kernel_rfl) (fun _ _ _ h => h) (Or.inl ⟨by rfl, ?_⟩) (by assumption) ?_
    rotate_left
    · (intro w_ hSw_; go_simp; try with_reducible rfl)
    try simp only [Act.put, List.setIfInBounds_toArray, List.set_cons_zero, List.set_cons_succ, List.getElem_toArray, List.getElem_cons_zero, List.getElem_cons_succ]
    refine wpAnyH_take (i := 3) (v := ?_) rfl (by kernel_rfl) (by kernel_rfl) (by kernel_rfl) (fun _ _ _ h => h) (Or.inl ⟨by rfl, ?_⟩) (by assumption) ?_
    rotate_left
    · (intro w_ hSw_; have q_ := VarA.c hSw_.1.1 1 rfl; go_simp; try with_reducible rfl)
    try simp only [Act.put, List.setIfInBounds_toArray, List.set_cons_zero, List.set_cons_succ, List.getElem_toArray, List.getElem_cons_zero, List.getElem_cons_succ]
    refine wpAnyH_take (i := 4) (v := ?_) rfl (by kernel_rfl) (by kernel_rfl) (by kernel_rfl) (fun _ _ _ h => h) (Or.inl ⟨by rfl, ?_⟩) (by assumption) ?_
    rotate_left
    · (intro w_ hSw_; go_simp; try with_reducible rfl)
    try simp only [Act.put, List.setIfInBounds_toArray, List.set_cons_zero, List.set_cons_succ, List.getElem_toArray, List.getElem_cons_zero, List.getElem_cons_succ]
    refine wpAnyH_take (i := 5) (v := ?_) rfl (by kernel_rfl) (by kernel_rfl) (by kernel_rfl) (fun _ _ _ h => h) (Or.inl ⟨by rfl, ?_⟩) (by assumption) ?_
    rotate_left
    · (intro w_ hSw_; go_simp; try with_reducible rfl)
    try simp only [Act.put, List.setIfInBounds_toArray, List.set_cons_zero, List.set_cons_succ, List.getElem_toArray, List.getElem_cons_zero, List.getElem_cons_succ]
    refine wpAnyH_take (i := 6) (v := ?_) rfl (by kernel_rfl) (by kernel_rfl) (by kernel_rfl) (fun _ _ _ h => h) (Or.inl ⟨by rfl, ?_⟩) (by assumption) ?_
    rotate_left
    · (intro w_ hSw_; go_simp; try with_reducible rfl)
    try simp only [Act.put, List.setIfInBounds_toArray, List.set_cons_zero, List.set_cons_succ, List.getElem_toArray, List.getElem_cons_zero, List.getElem_cons_succ]
    refine wpAnyH_take (i := 7) (v := ?_) rfl (by kernel_rfl) (by kernel_rfl) (by kernel_rfl) (fun _ _ _ h => h) (Or.inl ⟨by rfl, ?_⟩) (by assumption) ?_
    rotate_left
    · (intro w_ hSw_; go_simp; try with_reducible rfl)
    try simp only [Act.put, List.setIfInBounds_toArray, List.set_cons_zero, List.set_cons_succ, List.getElem_toArray, List.getElem_cons_zero, List.getElem_cons_succ]
    refine wpAnyH_take (i := 8) (v := _) rfl (by kernel_rfl) (by kernel_rfl) (by kernel_rfl) (fun _ _ _ h => h) (Or.inl ⟨by rfl, fun w_ hS_ => loadOp_run hS_.2 rfl Try.underlying48 rfl (by kernel_rfl)⟩) (by assumption) ?_
    try simp only [Act.put, List.setIfInBounds_toArray, List.set_cons_zero, List.set_cons_succ, List.getElem_toArray, List.getElem_cons_zero, List.getElem_cons_succ]
    refine wpAnyH_ready (rs := [9]) (by kernel_rfl) (by simp) ?_
    refine AllReadyH.cons rfl (fun K hK => ?_) AllReadyH.nil
    go_simp
    refine Calls.mono (HOK.out _ _ _ _ _ wz.drew (HOM.out.rd.step (Below.drew (Below.refl _ _)))) ?_
    rintro e wy ⟨rfl, b_⟩
    have by_ : Below wz.heap.size wz wy := (Below.drew (Below.refl _ _)).trans b_
    have hcy := HCz.out.step by_
    have vy := vZ.step by_
    clear b_
    refine hK.out _ _ ⟨hcy, vy⟩ (fun hHeld => ?_)
    clear hK K
    try simp only [Act.put, List.setIfInBounds_toArray, List.set_cons_zero, List.set_cons_succ, List.getElem_toArray, List.getElem_cons_zero, List.getElem_cons_succ]
    refine wpAnyH_take (i := 10) (v := ?_) rfl (by kernel_rfl) (by kernel_rfl) (by kernel_rfl) (fun _ _ _ h => h) (Or.inl ⟨by rfl, ?_⟩) (by assumption) ?_
    rotate_left
    · (intro w_ hSw_; go_simp; try with_reducible rfl)
    try simp only [Act.put, List.setIfInBounds_toArray, List.set_cons_zero, List.set_cons_succ, List.getElem_toArray, List.getElem_cons_zero, List.getElem_cons_succ]
    refine wpAnyH_take (i := 11) (v := ?_) rfl (by kernel_rfl) (by kernel_rfl) (by kernel_rfl) (fun _ _ _ h => h) (Or.inl ⟨by rfl, ?_⟩) (by assumption) ?_
    rotate_left
    · (intro w_ hSw_; go_simp; try with_reducible rfl)
    try simp only [Act.put, List.setIfInBounds_toArray, List.set_cons_zero, List.set_cons_succ, List.getElem_toArray, List.getElem_cons_zero, List.getElem_cons_succ]
    refine wpAnyH_take (i := 12) (v := ?_) rfl (by kernel_rfl) (by kernel_rfl) (by kernel_rfl) (fun _ _ _ h => h) (Or.inl ⟨by rfl, ?_⟩) (by assumption) ?_
    rotate_left
    · (intro w_ hSw_; go_simp; try with_reducible rfl)
    try simp only [Act.put, List.setIfInBounds_toArray, List.set_cons_zero, List.set_cons_succ, List.getElem_toArray, List.getElem_cons_zero, List.getElem_cons_succ]
    refine wpAnyH_take (i := 13) (v := _) rfl (by kernel_rfl) (by kernel_rfl) (by kernel_rfl) (fun _ _ _ h => h) (Or.inl ⟨by rfl, fun w_ hS_ => loadOp_run hS_.2 rfl Try.underlying48 rfl (by kernel_rfl)⟩) (by assumption) ?_
    try simp only [Act.put, List.setIfInBounds_toArray, List.set_cons_zero, List.set_cons_succ, List.getElem_toArray, List.getElem_cons_zero, List.getElem_cons_succ]
    refine wpAnyH_take (i := 16) (v := ?_) rfl (by kernel_rfl) (by kernel_rfl) (by kernel_rfl) (fun _ _ _ h => h) (Or.inl ⟨by rfl, ?_⟩) (by assumption) ?_
    rotate_left
    · (intro w_ hSw_; go_simp; try with_reducible rfl)
    try simp only [Act.put, List.setIfInBounds_toArray, List.set_cons_zero, List.set_cons_succ, List.getElem_toArray, List.getElem_cons_zero, List.getElem_cons_succ]
    refine wpAnyH_take (i := 17) (v := ?_) rfl (by kernel_rfl) (by kernel_rfl) (by kernel_rfl) (fun _ _ _ h => h) (Or.inl ⟨by rfl, ?_⟩) (by assumption) ?_
    rotate_left
    · (intro w_ hSw_; have q_ := conv_any _ zs _ vcap w_ (RdV.rd0 hSw_.1.2.1) rfl; go_simp; try with_reducible rfl)
    try simp only [Act.put, List.setIfInBounds_toArray, List.set_cons_zero, List.set_cons_succ, List.getElem_toArray, List.getElem_cons_zero, List.getElem_cons_succ]
    refine wpAnyH_ready (rs := [14]) (by kernel_rfl) (by simp) ?_
    refine AllReadyH.cons rfl (fun K hK => ?_) AllReadyH.nil
    go_simp
    refine Calls.mono (HBY.out _ _ _ _ _ _ (HOM.out.rd.step by_) rfl) ?_
    rintro e wx ⟨u, rfl, zu, ou, b_⟩
    obtain ⟨ua, ul, uc, rfl, rfl, hur, _⟩ := ou.openNil zu
    have hcu := conv_any ua zB _ uc wx hur rfl
    have hst := (str_eq zB zs zu hz).trans hbz
    have bx_ : Below wz.heap.size wz wx := by_.trans (b_.mono by_.size)
    have hcx := HCz.out.step bx_
    have vx := vZ.step bx_
    clear b_ ou
    refine hK.out _ _ ⟨hcx, vx⟩ (fun hHeld => ?_)
    clear hK K
    try simp only [Act.put, List.setIfInBounds_toArray, List.set_cons_zero, List.set_cons_succ, List.getElem_toArray, List.getElem_cons_zero, List.getElem_cons_succ]
    refine wpAnyH_ready (rs := [15]) (by kernel_rfl) (by simp) ?_
    refine AllReadyH.cons rfl (fun K hK => ?_) AllReadyH.nil
    go_simp
    refine hK.out _ _ ⟨hcx, vx⟩ (fun hHeld => ?_)
    clear hK K
    try simp only [Act.put, List.setIfInBounds_toArray, List.set_cons_zero, List.set_cons_succ, List.getElem_toArray, List.getElem_cons_zero, List.getElem_cons_succ]
    refine wpAnyH_take (i := 18) (v := ?_) rfl (by kernel_rfl) (by kernel_rfl) (by kernel_rfl) (fun _ _ _ h => h) (Or.inl ⟨by rfl, ?_⟩) (by assumption) ?_
    rotate_left
    · (intro w_ hSw_; go_simp; try with_reducible rfl)
    try simp only [Act.put, List.setIfInBounds_toArray, List.set_cons_zero, List.set_cons_succ, List.getElem_toArray, List.getElem_cons_zero, List.getElem_cons_succ]
    refine wpAnyH_take (i := 19) (v := ?_) rfl (by kernel_rfl) (by kernel_rfl) (by kernel_rfl) (fun _ _ _ h => h) (Or.inl ⟨by rfl, ?_⟩) (by assumption) ?_
    rotate_left
    · (intro w_ hSw_; go_simp; try with_reducible rfl)
    try simp only [Act.put, List.setIfInBounds_toArray, List.set_cons_zero, List.set_cons_succ, List.getElem_toArray, List.getElem_cons_zero, List.getElem_cons_succ]
    refine wpAnyH_done (by kernel_rfl) (NoPanic.normal ?_) _
    have vR9 := vRz.step bx_
    have B9 : Hid (Below w.heap.size w wx) := HTz.out.trans (bx_.mono HTz.out.size)
    have HO9 : Hid (OwM wx (fun b => w1.heap.size + 1 ≤ b ∧ b < wz.heap.size) ⟨n0, 0, 0, 0, op0, rp0, tx0, pt0, 0, hd0⟩ (.slice none 0 0) (.slice none 0 0) (.slice none 0 0) (.slice none 0 0)) := HOM.out.keep (Keeps.ofBelow bx_)
    have hs9 := bx_.size
    clear hHeld hcx hcy vy vRz HTz vZ HCz HOM HOK HBY hcu hst bx_ by_
    cases bz
    · have hzB : ¬ zB = zs := by simpa using hbz
      have h_ := HRR.out
      rw [if_neg (fun h => hzB h.2.2)] at h_
      simp only [Prod.mk.injEq] at h_
      obtain ⟨rfl, rfl⟩ := h_
      clear HRR vx HO9
      repeat (first | ((with_reducible refine guardStore (ty := 48) ?_); refine wpList_storeF vR9 rfl rfl (by kernel_rfl) rfl (of_decide_eq_true rfl) rfl ?_; intro w' vR_ t_) | go_values | go_skip | go_guarded | go_step | go_upon)
      refine bodyPost_ret (results_row_tmp Try.results17 _ _ _ _ _ _ rfl vR_ Try.underlying48 rfl (by kernel_rfl)) rfl ?_
      exact ⟨none, 0, 0, none, 0, 0, none, 0, 0, none, 0, 0, rfl, OwM.nil _ _, Turned.below B9.out t_ B9.out.size (fun i hi => by omega)⟩
    · have hzB : zB = zs := by simpa using hbz
      have h_ := HRR.out
      rw [if_pos ⟨hqq, rfl, hzB⟩] at h_
      simp only [Prod.mk.injEq] at h_
      obtain ⟨rfl, rfl⟩ := h_
      clear HRR
      repeat (first | ((with_reducible refine guardLoad (ty := 48) ?_); refine wpList_loadA vx rfl Try.underlying48 rfl (by kernel_rfl) ?_) | ((with_reducible refine guardStore (ty := 48) ?_); refine wpList_storeF vR9 rfl rfl (by kernel_rfl) rfl (of_decide_eq_true rfl) rfl ?_; intro w' vR_ t_) | go_values | go_skip | go_guarded | go_step | go_upon)
      refine bodyPost_ret (results_row_tmp Try.results17 _ _ _ _ _ _ rfl vR_ Try.underlying48 rfl (by kernel_rfl)) rfl ?_
      have hs10 := t_.size
      exact ⟨_, _, _, _, _, _, _, _, _, _, _, _, rfl, (HO9.out.keep (t_.keeps (fun b hb hs => by omega))).mono (fun b hb => ⟨by omega, by omega⟩), Turned.below B9.out t_ B9.out.size (fun i hi => by omega)⟩
end Go.Proofs.Ytmjfnmlfamikgaa
end
