/- What the program takes of a record, kind by kind; no condition. -/
import Derived.Test.YtklhikadhohjbaaGreatRA05
import Derived.Test.YtklhikadhohjbaaGreatRA00
namespace Go.Proofs.YtklhikadhohjbaaGreat
open Go.RowKit
set_option linter.unusedVariables false
set_option linter.unusedSimpArgs false
set_option maxRecDepth 100000

set_option maxHeartbeats 4000000 in
theorem justOf0 (m : MsD) (a1 a2 a3 a4 : Option Addr) (n1 n2 n3 n4 c1 c2 c3 c4 : Nat) (w : World) (hk : m.kind = 0) :
  Calls Tryz.prog 80 #[rcV m (.slice a1 n1 c1) (.slice a2 n2 c2) (.slice a3 n3 c3) (.slice a4 n4 c4)] w fun e w' => e = .returned (rcV ⟨0, 0, m.to, 0, op0, rp0, tx0, pt0, 0, hd0⟩ (.slice none 0 0) (.slice none 0 0) (.slice none 0 0) (.slice none 0 0)) ∧ Below w.heap.size w w' := by
 obtain ⟨kd, fr, to, rq, ⟨ok, ⟨op_, oq, od⟩, nm, ⟨tp, tq, td⟩, asn, ov⟩, ⟨rc, ⟨rp_, rq_, rd⟩, rv, es⟩, ⟨xs, xb, xn⟩, ⟨pk, ⟨pp, pq, pd⟩, pas, ⟨sp, sq, sd⟩⟩, cd, ⟨hp, hq, hd⟩⟩ := m
 dsimp only at hk ⊢
 subst hk
 simp only [op0, rp0, tx0, pt0, hd0]
 go_enter Tryz.func80, Tryz.ntmps80
 repeat (first | ((with_reducible refine guardStore (ty := 47) ?_); refine wpList_storeF (VarA.new1 _ _ _ _) rfl rfl (by kernel_rfl) rfl (of_decide_eq_true rfl) rfl ?_; intro w' vR t_) | go_values | go_skip | go_guarded | go_step | go_upon)
 refine bodyPost_ret (results_cell_row Tryz.results80 _ _ _ _ _ _ _ rfl vR Tryz.underlying47 rfl (by kernel_rfl)) rfl ⟨rfl, ?_⟩
 exact Turned.below (Below.newH2 _ _) (t_.one (S := fun b => w.heap.size ≤ b) (by omega)) (by simp; omega) (fun i hi => hi)
set_option maxHeartbeats 4000000 in
theorem justOf1 (m : MsD) (a1 a2 a3 a4 : Option Addr) (n1 n2 n3 n4 c1 c2 c3 c4 : Nat) (w : World) (hk : m.kind = 1) :
  Calls Tryz.prog 80 #[rcV m (.slice a1 n1 c1) (.slice a2 n2 c2) (.slice a3 n3 c3) (.slice a4 n4 c4)] w fun e w' => e = .returned (rcV ⟨1, m.fr, m.to, m.req, m.op, m.rp, tx0, pt0, 0, m.h⟩ (.slice a1 n1 c1) (.slice a2 n2 c2) (.slice a3 n3 c3) (.slice none 0 0)) ∧ Below w.heap.size w w' := by
 obtain ⟨kd, fr, to, rq, ⟨ok, ⟨op_, oq, od⟩, nm, ⟨tp, tq, td⟩, asn, ov⟩, ⟨rc, ⟨rp_, rq_, rd⟩, rv, es⟩, ⟨xs, xb, xn⟩, ⟨pk, ⟨pp, pq, pd⟩, pas, ⟨sp, sq, sd⟩⟩, cd, ⟨hp, hq, hd⟩⟩ := m
 dsimp only at hk ⊢
 subst hk
 simp only [op0, rp0, tx0, pt0, hd0]
 go_enter Tryz.func80, Tryz.ntmps80
 repeat (first | ((with_reducible refine guardStore (ty := 47) ?_); refine wpList_storeF (VarA.new1 _ _ _ _) rfl rfl (by kernel_rfl) rfl (of_decide_eq_true rfl) rfl ?_; intro w' vR t_) | go_values | go_skip | go_guarded | go_step | go_upon)
 refine bodyPost_ret (results_cell_row Tryz.results80 _ _ _ _ _ _ _ rfl vR Tryz.underlying47 rfl (by kernel_rfl)) rfl ⟨rfl, ?_⟩
 exact Turned.below (Below.newH2 _ _) (t_.one (S := fun b => w.heap.size ≤ b) (by omega)) (by simp; omega) (fun i hi => hi)
set_option maxHeartbeats 4000000 in
theorem justOf2 (m : MsD) (a1 a2 a3 a4 : Option Addr) (n1 n2 n3 n4 c1 c2 c3 c4 : Nat) (w : World) (hk : m.kind = 2) :
  Calls Tryz.prog 80 #[rcV m (.slice a1 n1 c1) (.slice a2 n2 c2) (.slice a3 n3 c3) (.slice a4 n4 c4)] w fun e w' => e = .returned (rcV ⟨2, 0, m.to, 0, op0, rp0, m.tx, m.pt, m.code, m.h⟩ (.slice none 0 0) (.slice none 0 0) (.slice none 0 0) (.slice a4 n4 c4)) ∧ Below w.heap.size w w' := by
 obtain ⟨kd, fr, to, rq, ⟨ok, ⟨op_, oq, od⟩, nm, ⟨tp, tq, td⟩, asn, ov⟩, ⟨rc, ⟨rp_, rq_, rd⟩, rv, es⟩, ⟨xs, xb, xn⟩, ⟨pk, ⟨pp, pq, pd⟩, pas, ⟨sp, sq, sd⟩⟩, cd, ⟨hp, hq, hd⟩⟩ := m
 dsimp only at hk ⊢
 subst hk
 simp only [op0, rp0, tx0, pt0, hd0]
 go_enter Tryz.func80, Tryz.ntmps80
 repeat (first | ((with_reducible refine guardStore (ty := 47) ?_); refine wpList_storeF (VarA.new1 _ _ _ _) rfl rfl (by kernel_rfl) rfl (of_decide_eq_true rfl) rfl ?_; intro w' vR t_) | go_values | go_skip | go_guarded | go_step | go_upon)
 refine bodyPost_ret (results_cell_row Tryz.results80 _ _ _ _ _ _ _ rfl vR Tryz.underlying47 rfl (by kernel_rfl)) rfl ⟨rfl, ?_⟩
 exact Turned.below (Below.newH2 _ _) (t_.one (S := fun b => w.heap.size ≤ b) (by omega)) (by simp; omega) (fun i hi => hi)
set_option maxHeartbeats 4000000 in
theorem justOf3 (m : MsD) (a1 a2 a3 a4 : Option Addr) (n1 n2 n3 n4 c1 c2 c3 c4 : Nat) (w : World) (hk : m.kind = 3) :
  Calls Tryz.prog 80 #[rcV m (.slice a1 n1 c1) (.slice a2 n2 c2) (.slice a3 n3 c3) (.slice a4 n4 c4)] w fun e w' => e = .returned (rcV ⟨3, m.fr, m.to, m.req, m.op, m.rp, m.tx, pt0, m.code, hd0⟩ (.slice a1 n1 c1) (.slice a2 n2 c2) (.slice a3 n3 c3) (.slice none 0 0)) ∧ Below w.heap.size w w' := by
 obtain ⟨kd, fr, to, rq, ⟨ok, ⟨op_, oq, od⟩, nm, ⟨tp, tq, td⟩, asn, ov⟩, ⟨rc, ⟨rp_, rq_, rd⟩, rv, es⟩, ⟨xs, xb, xn⟩, ⟨pk, ⟨pp, pq, pd⟩, pas, ⟨sp, sq, sd⟩⟩, cd, ⟨hp, hq, hd⟩⟩ := m
 dsimp only at hk ⊢
 subst hk
 simp only [op0, rp0, tx0, pt0, hd0]
 go_enter Tryz.func80, Tryz.ntmps80
 repeat (first | ((with_reducible refine guardStore (ty := 47) ?_); refine wpList_storeF (VarA.new1 _ _ _ _) rfl rfl (by kernel_rfl) rfl (of_decide_eq_true rfl) rfl ?_; intro w' vR t_) | go_values | go_skip | go_guarded | go_step | go_upon)
 refine bodyPost_ret (results_cell_row Tryz.results80 _ _ _ _ _ _ _ rfl vR Tryz.underlying47 rfl (by kernel_rfl)) rfl ⟨rfl, ?_⟩
 exact Turned.below (Below.newH2 _ _) (t_.one (S := fun b => w.heap.size ≤ b) (by omega)) (by simp; omega) (fun i hi => hi)
set_option maxHeartbeats 4000000 in
theorem justOf4 (m : MsD) (a1 a2 a3 a4 : Option Addr) (n1 n2 n3 n4 c1 c2 c3 c4 : Nat) (w : World) (hk : m.kind = 4) :
  Calls Tryz.prog 80 #[rcV m (.slice a1 n1 c1) (.slice a2 n2 c2) (.slice a3 n3 c3) (.slice a4 n4 c4)] w fun e w' => e = .returned (rcV ⟨4, 0, m.to, 0, op0, rp0, m.tx, pt0, m.code, hd0⟩ (.slice none 0 0) (.slice none 0 0) (.slice none 0 0) (.slice none 0 0)) ∧ Below w.heap.size w w' := by
 obtain ⟨kd, fr, to, rq, ⟨ok, ⟨op_, oq, od⟩, nm, ⟨tp, tq, td⟩, asn, ov⟩, ⟨rc, ⟨rp_, rq_, rd⟩, rv, es⟩, ⟨xs, xb, xn⟩, ⟨pk, ⟨pp, pq, pd⟩, pas, ⟨sp, sq, sd⟩⟩, cd, ⟨hp, hq, hd⟩⟩ := m
 dsimp only at hk ⊢
 subst hk
 simp only [op0, rp0, tx0, pt0, hd0]
 go_enter Tryz.func80, Tryz.ntmps80
 repeat (first | ((with_reducible refine guardStore (ty := 47) ?_); refine wpList_storeF (VarA.new1 _ _ _ _) rfl rfl (by kernel_rfl) rfl (of_decide_eq_true rfl) rfl ?_; intro w' vR t_) | go_values | go_skip | go_guarded | go_step | go_upon)
 refine bodyPost_ret (results_cell_row Tryz.results80 _ _ _ _ _ _ _ rfl vR Tryz.underlying47 rfl (by kernel_rfl)) rfl ⟨rfl, ?_⟩
 exact Turned.below (Below.newH2 _ _) (t_.one (S := fun b => w.heap.size ≤ b) (by omega)) (by simp; omega) (fun i hi => hi)
end Go.Proofs.YtklhikadhohjbaaGreat
