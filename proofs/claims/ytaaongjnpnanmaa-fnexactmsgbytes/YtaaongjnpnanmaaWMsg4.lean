/- What the program takes of a message and gives back, kind by kind; no condition. -/
import Derived.Test.YtaaongjnpnanmaaWMsg3
namespace Go.Proofs.Ytaaongjnpnanmaa
open Go.RowKit
set_option linter.unusedVariables false
set_option linter.unusedSimpArgs false
set_option maxRecDepth 100000

set_option maxHeartbeats 4000000 in
theorem content0 (m : MsD) (a1 a2 a3 a4 : Option Addr) (n1 n2 n3 n4 c1 c2 c3 c4 : Nat) (w : World) (hk : m.kind = 0) :
    Calls Try.prog 77 #[msV m (.slice a1 n1 c1) (.slice a2 n2 c2) (.slice a3 n3 c3) (.slice a4 n4 c4)] w fun e w' => e = .returned (.iface 141 (.agg #[.int .i64 m.req, .int .i64 m.op.kind, .int .i64 m.op.dir.sh, .int .i64 m.op.dir.ino, .bool m.op.dir.dir, .slice a1 n1 c1, .int .i64 m.op.to.sh, .int .i64 m.op.to.ino, .bool m.op.to.dir, .slice a2 n2 c2, .int .i64 m.op.val])) ∧ Below w.heap.size w w' := by
  obtain ⟨kd, fr, to, rq, ⟨ok, ⟨op_, oq, od⟩, nm, ⟨tp, tq, td⟩, asn, ov⟩, ⟨rc, ⟨rp_, rq_, rd⟩, rv, es⟩, ⟨xs, xb, xn⟩, ⟨pk, ⟨pp, pq, pd⟩, pas, ⟨sp, sq, sd⟩⟩, cd, ⟨hp, hq, hd⟩⟩ := m
  dsimp only at hk ⊢
  subst hk
  go_enter Try.func77, Try.ntmps77
  go_wp2
  go_ret
  exact ⟨rfl, by repeat (first | exact Below.refl _ _ | refine Below.al ?_ _ | refine below_drewN2 ?_ _)⟩
set_option maxHeartbeats 4000000 in
theorem content1 (m : MsD) (a1 a2 a3 a4 : Option Addr) (n1 n2 n3 n4 c1 c2 c3 c4 : Nat) (w : World) (hk : m.kind = 1) :
    Calls Try.prog 77 #[msV m (.slice a1 n1 c1) (.slice a2 n2 c2) (.slice a3 n3 c3) (.slice a4 n4 c4)] w fun e w' => e = .returned (.iface 143 (.agg #[.int .i64 m.req, .int .i64 m.rp.code, .int .i64 m.rp.h.sh, .int .i64 m.rp.h.ino, .bool m.rp.h.dir, .int .i64 m.rp.val, .slice a3 n3 c3])) ∧ Below w.heap.size w w' := by
  obtain ⟨kd, fr, to, rq, ⟨ok, ⟨op_, oq, od⟩, nm, ⟨tp, tq, td⟩, asn, ov⟩, ⟨rc, ⟨rp_, rq_, rd⟩, rv, es⟩, ⟨xs, xb, xn⟩, ⟨pk, ⟨pp, pq, pd⟩, pas, ⟨sp, sq, sd⟩⟩, cd, ⟨hp, hq, hd⟩⟩ := m
  dsimp only at hk ⊢
  subst hk
  go_enter Try.func77, Try.ntmps77
  go_wp2
  go_ret
  exact ⟨rfl, by repeat (first | exact Below.refl _ _ | refine Below.al ?_ _ | refine below_drewN2 ?_ _)⟩
set_option maxHeartbeats 4000000 in
theorem content2 (m : MsD) (a1 a2 a3 a4 : Option Addr) (n1 n2 n3 n4 c1 c2 c3 c4 : Nat) (w : World) (hk : m.kind = 2) :
    Calls Try.prog 77 #[msV m (.slice a1 n1 c1) (.slice a2 n2 c2) (.slice a3 n3 c3) (.slice a4 n4 c4)] w fun e w' => e = .returned (.iface 145 (.agg #[.int .i64 m.tx.1, .int .i64 m.tx.2.1, .int .i64 m.tx.2.2, .int .i64 m.pt.kind, .int .i64 m.pt.h.sh, .int .i64 m.pt.h.ino, .bool m.pt.h.dir, .slice a4 n4 c4, .int .i64 m.pt.to.sh, .int .i64 m.pt.to.ino, .bool m.pt.to.dir])) ∧ Below w.heap.size w w' := by
  obtain ⟨kd, fr, to, rq, ⟨ok, ⟨op_, oq, od⟩, nm, ⟨tp, tq, td⟩, asn, ov⟩, ⟨rc, ⟨rp_, rq_, rd⟩, rv, es⟩, ⟨xs, xb, xn⟩, ⟨pk, ⟨pp, pq, pd⟩, pas, ⟨sp, sq, sd⟩⟩, cd, ⟨hp, hq, hd⟩⟩ := m
  dsimp only at hk ⊢
  subst hk
  go_enter Try.func77, Try.ntmps77
  go_wp2
  go_ret
  exact ⟨rfl, by repeat (first | exact Below.refl _ _ | refine Below.al ?_ _ | refine below_drewN2 ?_ _)⟩
set_option maxHeartbeats 4000000 in
theorem content3 (m : MsD) (a1 a2 a3 a4 : Option Addr) (n1 n2 n3 n4 c1 c2 c3 c4 : Nat) (w : World) (hk : m.kind = 3) :
    Calls Try.prog 77 #[msV m (.slice a1 n1 c1) (.slice a2 n2 c2) (.slice a3 n3 c3) (.slice a4 n4 c4)] w fun e w' => e = .returned (.iface 147 (.agg #[.int .i64 m.tx.1, .int .i64 m.tx.2.1, .int .i64 m.tx.2.2, .int .i64 m.pt.kind, .int .i64 m.pt.h.sh, .int .i64 m.pt.h.ino, .bool m.pt.h.dir, .slice a4 n4 c4, .int .i64 m.pt.to.sh, .int .i64 m.pt.to.ino, .bool m.pt.to.dir, .int .i64 m.code, .int .i64 m.h.sh, .int .i64 m.h.ino, .bool m.h.dir])) ∧ Below w.heap.size w w' := by
  obtain ⟨kd, fr, to, rq, ⟨ok, ⟨op_, oq, od⟩, nm, ⟨tp, tq, td⟩, asn, ov⟩, ⟨rc, ⟨rp_, rq_, rd⟩, rv, es⟩, ⟨xs, xb, xn⟩, ⟨pk, ⟨pp, pq, pd⟩, pas, ⟨sp, sq, sd⟩⟩, cd, ⟨hp, hq, hd⟩⟩ := m
  dsimp only at hk ⊢
  subst hk
  go_enter Try.func77, Try.ntmps77
  go_wp2
  go_ret
  exact ⟨rfl, by repeat (first | exact Below.refl _ _ | refine Below.al ?_ _ | refine below_drewN2 ?_ _)⟩
set_option maxHeartbeats 4000000 in
theorem content4 (m : MsD) (a1 a2 a3 a4 : Option Addr) (n1 n2 n3 n4 c1 c2 c3 c4 : Nat) (w : World) (hk : m.kind = 4) :
    Calls Try.prog 77 #[msV m (.slice a1 n1 c1) (.slice a2 n2 c2) (.slice a3 n3 c3) (.slice a4 n4 c4)] w fun e w' => e = .returned (.iface 149 (.agg #[.int .i64 m.tx.1, .int .i64 m.tx.2.1, .int .i64 m.tx.2.2])) ∧ Below w.heap.size w w' := by
  obtain ⟨kd, fr, to, rq, ⟨ok, ⟨op_, oq, od⟩, nm, ⟨tp, tq, td⟩, asn, ov⟩, ⟨rc, ⟨rp_, rq_, rd⟩, rv, es⟩, ⟨xs, xb, xn⟩, ⟨pk, ⟨pp, pq, pd⟩, pas, ⟨sp, sq, sd⟩⟩, cd, ⟨hp, hq, hd⟩⟩ := m
  dsimp only at hk ⊢
  subst hk
  go_enter Try.func77, Try.ntmps77
  go_wp2
  go_ret
  exact ⟨rfl, by repeat (first | exact Below.refl _ _ | refine Below.al ?_ _ | refine below_drewN2 ?_ _)⟩
set_option maxHeartbeats 4000000 in
theorem content5 (m : MsD) (a1 a2 a3 a4 : Option Addr) (n1 n2 n3 n4 c1 c2 c3 c4 : Nat) (w : World) (hk : m.kind = 5) :
    Calls Try.prog 77 #[msV m (.slice a1 n1 c1) (.slice a2 n2 c2) (.slice a3 n3 c3) (.slice a4 n4 c4)] w fun e w' => e = .returned (.iface 151 (.agg #[.int .i64 m.tx.1, .int .i64 m.tx.2.1, .int .i64 m.tx.2.2, .int .i64 m.code])) ∧ Below w.heap.size w w' := by
  obtain ⟨kd, fr, to, rq, ⟨ok, ⟨op_, oq, od⟩, nm, ⟨tp, tq, td⟩, asn, ov⟩, ⟨rc, ⟨rp_, rq_, rd⟩, rv, es⟩, ⟨xs, xb, xn⟩, ⟨pk, ⟨pp, pq, pd⟩, pas, ⟨sp, sq, sd⟩⟩, cd, ⟨hp, hq, hd⟩⟩ := m
  dsimp only at hk ⊢
  subst hk
  go_enter Try.func77, Try.ntmps77
  go_wp2
  go_ret
  exact ⟨rfl, by repeat (first | exact Below.refl _ _ | refine Below.al ?_ _ | refine below_drewN2 ?_ _)⟩
set_option maxHeartbeats 4000000 in
theorem content6 (m : MsD) (a1 a2 a3 a4 : Option Addr) (n1 n2 n3 n4 c1 c2 c3 c4 : Nat) (w : World) (hk : m.kind = 6) :
    Calls Try.prog 77 #[msV m (.slice a1 n1 c1) (.slice a2 n2 c2) (.slice a3 n3 c3) (.slice a4 n4 c4)] w fun e w' => e = .returned (.iface 153 (.agg #[.int .i64 m.tx.1, .int .i64 m.tx.2.1, .int .i64 m.tx.2.2, .int .i64 m.req, .int .i64 m.h.sh, .int .i64 m.h.ino, .bool m.h.dir])) ∧ Below w.heap.size w w' := by
  obtain ⟨kd, fr, to, rq, ⟨ok, ⟨op_, oq, od⟩, nm, ⟨tp, tq, td⟩, asn, ov⟩, ⟨rc, ⟨rp_, rq_, rd⟩, rv, es⟩, ⟨xs, xb, xn⟩, ⟨pk, ⟨pp, pq, pd⟩, pas, ⟨sp, sq, sd⟩⟩, cd, ⟨hp, hq, hd⟩⟩ := m
  dsimp only at hk ⊢
  subst hk
  go_enter Try.func77, Try.ntmps77
  go_wp2
  go_ret
  exact ⟨rfl, by repeat (first | exact Below.refl _ _ | refine Below.al ?_ _ | refine below_drewN2 ?_ _)⟩
set_option maxHeartbeats 4000000 in
theorem content7 (m : MsD) (a1 a2 a3 a4 : Option Addr) (n1 n2 n3 n4 c1 c2 c3 c4 : Nat) (w : World) (hk : m.kind = 7) :
    Calls Try.prog 77 #[msV m (.slice a1 n1 c1) (.slice a2 n2 c2) (.slice a3 n3 c3) (.slice a4 n4 c4)] w fun e w' => e = .returned (.iface 155 (.agg #[.int .i64 m.tx.1, .int .i64 m.tx.2.1, .int .i64 m.tx.2.2, .int .i64 m.req, .int .i64 m.code, .int .i64 m.h.sh, .int .i64 m.h.ino, .bool m.h.dir])) ∧ Below w.heap.size w w' := by
  obtain ⟨kd, fr, to, rq, ⟨ok, ⟨op_, oq, od⟩, nm, ⟨tp, tq, td⟩, asn, ov⟩, ⟨rc, ⟨rp_, rq_, rd⟩, rv, es⟩, ⟨xs, xb, xn⟩, ⟨pk, ⟨pp, pq, pd⟩, pas, ⟨sp, sq, sd⟩⟩, cd, ⟨hp, hq, hd⟩⟩ := m
  dsimp only at hk ⊢
  subst hk
  go_enter Try.func77, Try.ntmps77
  go_wp2
  go_ret
  exact ⟨rfl, by repeat (first | exact Below.refl _ _ | refine Below.al ?_ _ | refine below_drewN2 ?_ _)⟩
set_option maxHeartbeats 4000000 in
theorem with0 (m : MsD) (a1 a2 a3 a4 : Option Addr) (n1 n2 n3 n4 c1 c2 c3 c4 : Nat) (w : World) :
    Calls Try.prog 81 #[msV ⟨0, m.fr, m.to, 0, op0, rp0, tx0, pt0, 0, hd0⟩ (.slice none 0 0) (.slice none 0 0) (.slice none 0 0) (.slice none 0 0), .iface 141 (.agg #[.int .i64 m.req, .int .i64 m.op.kind, .int .i64 m.op.dir.sh, .int .i64 m.op.dir.ino, .bool m.op.dir.dir, .slice a1 n1 c1, .int .i64 m.op.to.sh, .int .i64 m.op.to.ino, .bool m.op.to.dir, .slice a2 n2 c2, .int .i64 m.op.val])] w fun e w' => e = .returned (msV ⟨0, m.fr, m.to, m.req, m.op, rp0, tx0, pt0, 0, hd0⟩ (.slice a1 n1 c1) (.slice a2 n2 c2) (.slice none 0 0) (.slice none 0 0)) ∧ Below w.heap.size w w' := by
  obtain ⟨kd, fr, to, rq, ⟨ok, ⟨op_, oq, od⟩, nm, ⟨tp, tq, td⟩, asn, ov⟩, ⟨rc, ⟨rp_, rq_, rd⟩, rv, es⟩, ⟨xs, xb, xn⟩, ⟨pk, ⟨pp, pq, pd⟩, pas, ⟨sp, sq, sd⟩⟩, cd, ⟨hp, hq, hd⟩⟩ := m
  simp only [op0, rp0, tx0, pt0, hd0]
  have hM0 := fun v W => assert_hit (t := 141) (xT := 110) Try.underlying141 rfl v W
  go_enter Try.func81, Try.ntmps81
  repeat (first | (with_reducible refine guardStore (ty := 72) ?_; refine wpList_storeF (VarA.dr ((VarA.new1 w _ _ _).alloc _)) rfl rfl (by kernel_rfl) rfl (of_decide_eq_true rfl) rfl ?_; intro w' vR t_) | (with_reducible refine guardLoad (ty := 72) ?_; refine wpList_loadA (VarA.dr (((VarA.new w _ _).alloc _).alloc _)) rfl Try.underlying72 rfl (by kernel_rfl) ?_) | go_values | go_skip | go_guarded | go_step | go_upon)
  go_region
  repeat (first | (with_reducible refine guardStore (ty := 72) ?_; refine wpList_storeF (VarA.dr ((VarA.new1 w _ _ _).alloc _)) rfl rfl (by kernel_rfl) rfl (of_decide_eq_true rfl) rfl ?_; intro w' vR t_) | (with_reducible refine guardLoad (ty := 72) ?_; refine wpList_loadA (VarA.dr (((VarA.new w _ _).alloc _).alloc _)) rfl Try.underlying72 rfl (by kernel_rfl) ?_) | go_values | go_skip | go_guarded | go_step | go_upon)
  refine bodyPost_ret (results_cell_row Try.results81 _ _ _ _ _ _ _ rfl vR Try.underlying72 rfl (by kernel_rfl)) rfl ⟨rfl, ?_⟩
  exact Turned.below (by repeat (first | exact Below.refl _ _ | refine Below.al ?_ _ | refine Below.drew ?_ | refine below_drewN2 ?_ _)) (t_.one (S := fun b => w.heap.size ≤ b) (by omega)) (by simp [World.drew]; omega) (fun i hi => hi)
set_option maxHeartbeats 4000000 in
theorem with1 (m : MsD) (a1 a2 a3 a4 : Option Addr) (n1 n2 n3 n4 c1 c2 c3 c4 : Nat) (w : World) :
    Calls Try.prog 81 #[msV ⟨1, m.fr, m.to, 0, op0, rp0, tx0, pt0, 0, hd0⟩ (.slice none 0 0) (.slice none 0 0) (.slice none 0 0) (.slice none 0 0), .iface 143 (.agg #[.int .i64 m.req, .int .i64 m.rp.code, .int .i64 m.rp.h.sh, .int .i64 m.rp.h.ino, .bool m.rp.h.dir, .int .i64 m.rp.val, .slice a3 n3 c3])] w fun e w' => e = .returned (msV ⟨1, m.fr, m.to, m.req, op0, m.rp, tx0, pt0, 0, hd0⟩ (.slice none 0 0) (.slice none 0 0) (.slice a3 n3 c3) (.slice none 0 0)) ∧ Below w.heap.size w w' := by
  obtain ⟨kd, fr, to, rq, ⟨ok, ⟨op_, oq, od⟩, nm, ⟨tp, tq, td⟩, asn, ov⟩, ⟨rc, ⟨rp_, rq_, rd⟩, rv, es⟩, ⟨xs, xb, xn⟩, ⟨pk, ⟨pp, pq, pd⟩, pas, ⟨sp, sq, sd⟩⟩, cd, ⟨hp, hq, hd⟩⟩ := m
  simp only [op0, rp0, tx0, pt0, hd0]
  have hM0 := fun v W => assert_miss (t := 143) (a := 141) (xT := 110) (z := .agg #[.int .i64 0, .int .i64 0, .int .i64 0, .int .i64 0, .bool false, .slice none 0 0, .int .i64 0, .int .i64 0, .bool false, .slice none 0 0, .int .i64 0]) Try.underlying141 rfl (by decide) (by kernel_rfl) v W
  have hM1 := fun v W => assert_hit (t := 143) (xT := 110) Try.underlying143 rfl v W
  go_enter Try.func81, Try.ntmps81
  repeat (first | (with_reducible refine guardStore (ty := 72) ?_; refine wpList_storeF (VarA.dr ((VarA.new1 w _ _ _).alloc _)) rfl rfl (by kernel_rfl) rfl (of_decide_eq_true rfl) rfl ?_; intro w' vR t_) | (with_reducible refine guardLoad (ty := 72) ?_; refine wpList_loadA (VarA.dr (((VarA.new w _ _).alloc _).alloc _)) rfl Try.underlying72 rfl (by kernel_rfl) ?_) | go_values | go_skip | go_guarded | go_step | go_upon)
  go_region
  repeat (first | (with_reducible refine guardStore (ty := 72) ?_; refine wpList_storeF (VarA.dr ((VarA.new1 w _ _ _).alloc _)) rfl rfl (by kernel_rfl) rfl (of_decide_eq_true rfl) rfl ?_; intro w' vR t_) | (with_reducible refine guardLoad (ty := 72) ?_; refine wpList_loadA (VarA.dr (((VarA.new w _ _).alloc _).alloc _)) rfl Try.underlying72 rfl (by kernel_rfl) ?_) | go_values | go_skip | go_guarded | go_step | go_upon)
  refine bodyPost_ret (results_cell_row Try.results81 _ _ _ _ _ _ _ rfl vR Try.underlying72 rfl (by kernel_rfl)) rfl ⟨rfl, ?_⟩
  exact Turned.below (by repeat (first | exact Below.refl _ _ | refine Below.al ?_ _ | refine Below.drew ?_ | refine below_drewN2 ?_ _)) (t_.one (S := fun b => w.heap.size ≤ b) (by omega)) (by simp [World.drew]; omega) (fun i hi => hi)
set_option maxHeartbeats 4000000 in
theorem with2 (m : MsD) (a1 a2 a3 a4 : Option Addr) (n1 n2 n3 n4 c1 c2 c3 c4 : Nat) (w : World) :
    Calls Try.prog 81 #[msV ⟨2, m.fr, m.to, 0, op0, rp0, tx0, pt0, 0, hd0⟩ (.slice none 0 0) (.slice none 0 0) (.slice none 0 0) (.slice none 0 0), .iface 145 (.agg #[.int .i64 m.tx.1, .int .i64 m.tx.2.1, .int .i64 m.tx.2.2, .int .i64 m.pt.kind, .int .i64 m.pt.h.sh, .int .i64 m.pt.h.ino, .bool m.pt.h.dir, .slice a4 n4 c4, .int .i64 m.pt.to.sh, .int .i64 m.pt.to.ino, .bool m.pt.to.dir])] w fun e w' => e = .returned (msV ⟨2, m.fr, m.to, 0, op0, rp0, m.tx, m.pt, 0, hd0⟩ (.slice none 0 0) (.slice none 0 0) (.slice none 0 0) (.slice a4 n4 c4)) ∧ Below w.heap.size w w' := by
  obtain ⟨kd, fr, to, rq, ⟨ok, ⟨op_, oq, od⟩, nm, ⟨tp, tq, td⟩, asn, ov⟩, ⟨rc, ⟨rp_, rq_, rd⟩, rv, es⟩, ⟨xs, xb, xn⟩, ⟨pk, ⟨pp, pq, pd⟩, pas, ⟨sp, sq, sd⟩⟩, cd, ⟨hp, hq, hd⟩⟩ := m
  simp only [op0, rp0, tx0, pt0, hd0]
  have hM0 := fun v W => assert_miss (t := 145) (a := 141) (xT := 110) (z := .agg #[.int .i64 0, .int .i64 0, .int .i64 0, .int .i64 0, .bool false, .slice none 0 0, .int .i64 0, .int .i64 0, .bool false, .slice none 0 0, .int .i64 0]) Try.underlying141 rfl (by decide) (by kernel_rfl) v W
  have hM1 := fun v W => assert_miss (t := 145) (a := 143) (xT := 110) (z := .agg #[.int .i64 0, .int .i64 0, .int .i64 0, .int .i64 0, .bool false, .int .i64 0, .slice none 0 0]) Try.underlying143 rfl (by decide) (by kernel_rfl) v W
  have hM2 := fun v W => assert_hit (t := 145) (xT := 110) Try.underlying145 rfl v W
  go_enter Try.func81, Try.ntmps81
  repeat (first | (with_reducible refine guardStore (ty := 72) ?_; refine wpList_storeF (VarA.dr ((VarA.new1 w _ _ _).alloc _)) rfl rfl (by kernel_rfl) rfl (of_decide_eq_true rfl) rfl ?_; intro w' vR t_) | (with_reducible refine guardLoad (ty := 72) ?_; refine wpList_loadA (VarA.dr (((VarA.new w _ _).alloc _).alloc _)) rfl Try.underlying72 rfl (by kernel_rfl) ?_) | go_values | go_skip | go_guarded | go_step | go_upon)
  go_region
  repeat (first | (with_reducible refine guardStore (ty := 72) ?_; refine wpList_storeF (VarA.dr ((VarA.new1 w _ _ _).alloc _)) rfl rfl (by kernel_rfl) rfl (of_decide_eq_true rfl) rfl ?_; intro w' vR t_) | (with_reducible refine guardLoad (ty := 72) ?_; refine wpList_loadA (VarA.dr (((VarA.new w _ _).alloc _).alloc _)) rfl Try.underlying72 rfl (by kernel_rfl) ?_) | go_values | go_skip | go_guarded | go_step | go_upon)
  refine bodyPost_ret (results_cell_row Try.results81 _ _ _ _ _ _ _ rfl vR Try.underlying72 rfl (by kernel_rfl)) rfl ⟨rfl, ?_⟩
  exact Turned.below (by repeat (first | exact Below.refl _ _ | refine Below.al ?_ _ | refine Below.drew ?_ | refine below_drewN2 ?_ _)) (t_.one (S := fun b => w.heap.size ≤ b) (by omega)) (by simp [World.drew]; omega) (fun i hi => hi)
set_option maxHeartbeats 4000000 in
theorem with3 (m : MsD) (a1 a2 a3 a4 : Option Addr) (n1 n2 n3 n4 c1 c2 c3 c4 : Nat) (w : World) :
    Calls Try.prog 81 #[msV ⟨3, m.fr, m.to, 0, op0, rp0, tx0, pt0, 0, hd0⟩ (.slice none 0 0) (.slice none 0 0) (.slice none 0 0) (.slice none 0 0), .iface 147 (.agg #[.int .i64 m.tx.1, .int .i64 m.tx.2.1, .int .i64 m.tx.2.2, .int .i64 m.pt.kind, .int .i64 m.pt.h.sh, .int .i64 m.pt.h.ino, .bool m.pt.h.dir, .slice a4 n4 c4, .int .i64 m.pt.to.sh, .int .i64 m.pt.to.ino, .bool m.pt.to.dir, .int .i64 m.code, .int .i64 m.h.sh, .int .i64 m.h.ino, .bool m.h.dir])] w fun e w' => e = .returned (msV ⟨3, m.fr, m.to, 0, op0, rp0, m.tx, m.pt, m.code, m.h⟩ (.slice none 0 0) (.slice none 0 0) (.slice none 0 0) (.slice a4 n4 c4)) ∧ Below w.heap.size w w' := by
  obtain ⟨kd, fr, to, rq, ⟨ok, ⟨op_, oq, od⟩, nm, ⟨tp, tq, td⟩, asn, ov⟩, ⟨rc, ⟨rp_, rq_, rd⟩, rv, es⟩, ⟨xs, xb, xn⟩, ⟨pk, ⟨pp, pq, pd⟩, pas, ⟨sp, sq, sd⟩⟩, cd, ⟨hp, hq, hd⟩⟩ := m
  simp only [op0, rp0, tx0, pt0, hd0]
  have hM0 := fun v W => assert_miss (t := 147) (a := 141) (xT := 110) (z := .agg #[.int .i64 0, .int .i64 0, .int .i64 0, .int .i64 0, .bool false, .slice none 0 0, .int .i64 0, .int .i64 0, .bool false, .slice none 0 0, .int .i64 0]) Try.underlying141 rfl (by decide) (by kernel_rfl) v W
  have hM1 := fun v W => assert_miss (t := 147) (a := 143) (xT := 110) (z := .agg #[.int .i64 0, .int .i64 0, .int .i64 0, .int .i64 0, .bool false, .int .i64 0, .slice none 0 0]) Try.underlying143 rfl (by decide) (by kernel_rfl) v W
  have hM2 := fun v W => assert_miss (t := 147) (a := 145) (xT := 110) (z := .agg #[.int .i64 0, .int .i64 0, .int .i64 0, .int .i64 0, .int .i64 0, .int .i64 0, .bool false, .slice none 0 0, .int .i64 0, .int .i64 0, .bool false]) Try.underlying145 rfl (by decide) (by kernel_rfl) v W
  have hM3 := fun v W => assert_hit (t := 147) (xT := 110) Try.underlying147 rfl v W
  go_enter Try.func81, Try.ntmps81
  repeat (first | (with_reducible refine guardStore (ty := 72) ?_; refine wpList_storeF (VarA.dr ((VarA.new1 w _ _ _).alloc _)) rfl rfl (by kernel_rfl) rfl (of_decide_eq_true rfl) rfl ?_; intro w' vR t_) | (with_reducible refine guardLoad (ty := 72) ?_; refine wpList_loadA (VarA.dr (((VarA.new w _ _).alloc _).alloc _)) rfl Try.underlying72 rfl (by kernel_rfl) ?_) | go_values | go_skip | go_guarded | go_step | go_upon)
  go_region
  repeat (first | (with_reducible refine guardStore (ty := 72) ?_; refine wpList_storeF (VarA.dr ((VarA.new1 w _ _ _).alloc _)) rfl rfl (by kernel_rfl) rfl (of_decide_eq_true rfl) rfl ?_; intro w' vR t_) | (with_reducible refine guardLoad (ty := 72) ?_; refine wpList_loadA (VarA.dr (((VarA.new w _ _).alloc _).alloc _)) rfl Try.underlying72 rfl (by kernel_rfl) ?_) | go_values | go_skip | go_guarded | go_step | go_upon)
  refine bodyPost_ret (results_cell_row Try.results81 _ _ _ _ _ _ _ rfl vR Try.underlying72 rfl (by kernel_rfl)) rfl ⟨rfl, ?_⟩
  exact Turned.below (by repeat (first | exact Below.refl _ _ | refine Below.al ?_ _ | refine Below.drew ?_ | refine below_drewN2 ?_ _)) (t_.one (S := fun b => w.heap.size ≤ b) (by omega)) (by simp [World.drew]; omega) (fun i hi => hi)
set_option maxHeartbeats 4000000 in
theorem with4 (m : MsD) (a1 a2 a3 a4 : Option Addr) (n1 n2 n3 n4 c1 c2 c3 c4 : Nat) (w : World) :
    Calls Try.prog 81 #[msV ⟨4, m.fr, m.to, 0, op0, rp0, tx0, pt0, 0, hd0⟩ (.slice none 0 0) (.slice none 0 0) (.slice none 0 0) (.slice none 0 0), .iface 149 (.agg #[.int .i64 m.tx.1, .int .i64 m.tx.2.1, .int .i64 m.tx.2.2])] w fun e w' => e = .returned (msV ⟨4, m.fr, m.to, 0, op0, rp0, m.tx, pt0, 0, hd0⟩ (.slice none 0 0) (.slice none 0 0) (.slice none 0 0) (.slice none 0 0)) ∧ Below w.heap.size w w' := by
  obtain ⟨kd, fr, to, rq, ⟨ok, ⟨op_, oq, od⟩, nm, ⟨tp, tq, td⟩, asn, ov⟩, ⟨rc, ⟨rp_, rq_, rd⟩, rv, es⟩, ⟨xs, xb, xn⟩, ⟨pk, ⟨pp, pq, pd⟩, pas, ⟨sp, sq, sd⟩⟩, cd, ⟨hp, hq, hd⟩⟩ := m
  simp only [op0, rp0, tx0, pt0, hd0]
  have hM0 := fun v W => assert_miss (t := 149) (a := 141) (xT := 110) (z := .agg #[.int .i64 0, .int .i64 0, .int .i64 0, .int .i64 0, .bool false, .slice none 0 0, .int .i64 0, .int .i64 0, .bool false, .slice none 0 0, .int .i64 0]) Try.underlying141 rfl (by decide) (by kernel_rfl) v W
  have hM1 := fun v W => assert_miss (t := 149) (a := 143) (xT := 110) (z := .agg #[.int .i64 0, .int .i64 0, .int .i64 0, .int .i64 0, .bool false, .int .i64 0, .slice none 0 0]) Try.underlying143 rfl (by decide) (by kernel_rfl) v W
  have hM2 := fun v W => assert_miss (t := 149) (a := 145) (xT := 110) (z := .agg #[.int .i64 0, .int .i64 0, .int .i64 0, .int .i64 0, .int .i64 0, .int .i64 0, .bool false, .slice none 0 0, .int .i64 0, .int .i64 0, .bool false]) Try.underlying145 rfl (by decide) (by kernel_rfl) v W
  have hM3 := fun v W => assert_miss (t := 149) (a := 147) (xT := 110) (z := .agg #[.int .i64 0, .int .i64 0, .int .i64 0, .int .i64 0, .int .i64 0, .int .i64 0, .bool false, .slice none 0 0, .int .i64 0, .int .i64 0, .bool false, .int .i64 0, .int .i64 0, .int .i64 0, .bool false]) Try.underlying147 rfl (by decide) (by kernel_rfl) v W
  have hM4 := fun v W => assert_hit (t := 149) (xT := 110) Try.underlying149 rfl v W
  go_enter Try.func81, Try.ntmps81
  repeat (first | (with_reducible refine guardStore (ty := 72) ?_; refine wpList_storeF ((VarA.new1 w _ _ _).alloc _) rfl rfl (by kernel_rfl) rfl (of_decide_eq_true rfl) rfl ?_; intro w' vR t_) | (with_reducible refine guardLoad (ty := 72) ?_; refine wpList_loadA (((VarA.new w _ _).alloc _).alloc _) rfl Try.underlying72 rfl (by kernel_rfl) ?_) | go_values | go_skip | go_guarded | go_step | go_upon)
  refine bodyPost_ret (results_cell_row Try.results81 _ _ _ _ _ _ _ rfl vR Try.underlying72 rfl (by kernel_rfl)) rfl ⟨rfl, ?_⟩
  exact Turned.below (by repeat (first | exact Below.refl _ _ | refine Below.al ?_ _ | refine Below.drew ?_ | refine below_drewN2 ?_ _)) (t_.one (S := fun b => w.heap.size ≤ b) (by omega)) (by simp [World.drew]; omega) (fun i hi => hi)
set_option maxHeartbeats 4000000 in
theorem with5 (m : MsD) (a1 a2 a3 a4 : Option Addr) (n1 n2 n3 n4 c1 c2 c3 c4 : Nat) (w : World) :
    Calls Try.prog 81 #[msV ⟨5, m.fr, m.to, 0, op0, rp0, tx0, pt0, 0, hd0⟩ (.slice none 0 0) (.slice none 0 0) (.slice none 0 0) (.slice none 0 0), .iface 151 (.agg #[.int .i64 m.tx.1, .int .i64 m.tx.2.1, .int .i64 m.tx.2.2, .int .i64 m.code])] w fun e w' => e = .returned (msV ⟨5, m.fr, m.to, 0, op0, rp0, m.tx, pt0, m.code, hd0⟩ (.slice none 0 0) (.slice none 0 0) (.slice none 0 0) (.slice none 0 0)) ∧ Below w.heap.size w w' := by
  obtain ⟨kd, fr, to, rq, ⟨ok, ⟨op_, oq, od⟩, nm, ⟨tp, tq, td⟩, asn, ov⟩, ⟨rc, ⟨rp_, rq_, rd⟩, rv, es⟩, ⟨xs, xb, xn⟩, ⟨pk, ⟨pp, pq, pd⟩, pas, ⟨sp, sq, sd⟩⟩, cd, ⟨hp, hq, hd⟩⟩ := m
  simp only [op0, rp0, tx0, pt0, hd0]
  have hM0 := fun v W => assert_miss (t := 151) (a := 141) (xT := 110) (z := .agg #[.int .i64 0, .int .i64 0, .int .i64 0, .int .i64 0, .bool false, .slice none 0 0, .int .i64 0, .int .i64 0, .bool false, .slice none 0 0, .int .i64 0]) Try.underlying141 rfl (by decide) (by kernel_rfl) v W
  have hM1 := fun v W => assert_miss (t := 151) (a := 143) (xT := 110) (z := .agg #[.int .i64 0, .int .i64 0, .int .i64 0, .int .i64 0, .bool false, .int .i64 0, .slice none 0 0]) Try.underlying143 rfl (by decide) (by kernel_rfl) v W
  have hM2 := fun v W => assert_miss (t := 151) (a := 145) (xT := 110) (z := .agg #[.int .i64 0, .int .i64 0, .int .i64 0, .int .i64 0, .int .i64 0, .int .i64 0, .bool false, .slice none 0 0, .int .i64 0, .int .i64 0, .bool false]) Try.underlying145 rfl (by decide) (by kernel_rfl) v W
  have hM3 := fun v W => assert_miss (t := 151) (a := 147) (xT := 110) (z := .agg #[.int .i64 0, .int .i64 0, .int .i64 0, .int .i64 0, .int .i64 0, .int .i64 0, .bool false, .slice none 0 0, .int .i64 0, .int .i64 0, .bool false, .int .i64 0, .int .i64 0, .int .i64 0, .bool false]) Try.underlying147 rfl (by decide) (by kernel_rfl) v W
  have hM4 := fun v W => assert_miss (t := 151) (a := 149) (xT := 110) (z := .agg #[.int .i64 0, .int .i64 0, .int .i64 0]) Try.underlying149 rfl (by decide) (by kernel_rfl) v W
  have hM5 := fun v W => assert_hit (t := 151) (xT := 110) Try.underlying151 rfl v W
  go_enter Try.func81, Try.ntmps81
  repeat (first | (with_reducible refine guardStore (ty := 72) ?_; refine wpList_storeF (VarA.dr ((VarA.new1 w _ _ _).alloc _)) rfl rfl (by kernel_rfl) rfl (of_decide_eq_true rfl) rfl ?_; intro w' vR t_) | (with_reducible refine guardLoad (ty := 72) ?_; refine wpList_loadA (VarA.dr (((VarA.new w _ _).alloc _).alloc _)) rfl Try.underlying72 rfl (by kernel_rfl) ?_) | go_values | go_skip | go_guarded | go_step | go_upon)
  go_region
  repeat (first | (with_reducible refine guardStore (ty := 72) ?_; refine wpList_storeF (VarA.dr ((VarA.new1 w _ _ _).alloc _)) rfl rfl (by kernel_rfl) rfl (of_decide_eq_true rfl) rfl ?_; intro w' vR t_) | (with_reducible refine guardLoad (ty := 72) ?_; refine wpList_loadA (VarA.dr (((VarA.new w _ _).alloc _).alloc _)) rfl Try.underlying72 rfl (by kernel_rfl) ?_) | go_values | go_skip | go_guarded | go_step | go_upon)
  refine bodyPost_ret (results_cell_row Try.results81 _ _ _ _ _ _ _ rfl vR Try.underlying72 rfl (by kernel_rfl)) rfl ⟨rfl, ?_⟩
  exact Turned.below (by repeat (first | exact Below.refl _ _ | refine Below.al ?_ _ | refine Below.drew ?_ | refine below_drewN2 ?_ _)) (t_.one (S := fun b => w.heap.size ≤ b) (by omega)) (by simp [World.drew]; omega) (fun i hi => hi)
set_option maxHeartbeats 4000000 in
theorem with6 (m : MsD) (a1 a2 a3 a4 : Option Addr) (n1 n2 n3 n4 c1 c2 c3 c4 : Nat) (w : World) :
    Calls Try.prog 81 #[msV ⟨6, m.fr, m.to, 0, op0, rp0, tx0, pt0, 0, hd0⟩ (.slice none 0 0) (.slice none 0 0) (.slice none 0 0) (.slice none 0 0), .iface 153 (.agg #[.int .i64 m.tx.1, .int .i64 m.tx.2.1, .int .i64 m.tx.2.2, .int .i64 m.req, .int .i64 m.h.sh, .int .i64 m.h.ino, .bool m.h.dir])] w fun e w' => e = .returned (msV ⟨6, m.fr, m.to, m.req, op0, rp0, m.tx, pt0, 0, m.h⟩ (.slice none 0 0) (.slice none 0 0) (.slice none 0 0) (.slice none 0 0)) ∧ Below w.heap.size w w' := by
  obtain ⟨kd, fr, to, rq, ⟨ok, ⟨op_, oq, od⟩, nm, ⟨tp, tq, td⟩, asn, ov⟩, ⟨rc, ⟨rp_, rq_, rd⟩, rv, es⟩, ⟨xs, xb, xn⟩, ⟨pk, ⟨pp, pq, pd⟩, pas, ⟨sp, sq, sd⟩⟩, cd, ⟨hp, hq, hd⟩⟩ := m
  simp only [op0, rp0, tx0, pt0, hd0]
  have hM0 := fun v W => assert_miss (t := 153) (a := 141) (xT := 110) (z := .agg #[.int .i64 0, .int .i64 0, .int .i64 0, .int .i64 0, .bool false, .slice none 0 0, .int .i64 0, .int .i64 0, .bool false, .slice none 0 0, .int .i64 0]) Try.underlying141 rfl (by decide) (by kernel_rfl) v W
  have hM1 := fun v W => assert_miss (t := 153) (a := 143) (xT := 110) (z := .agg #[.int .i64 0, .int .i64 0, .int .i64 0, .int .i64 0, .bool false, .int .i64 0, .slice none 0 0]) Try.underlying143 rfl (by decide) (by kernel_rfl) v W
  have hM2 := fun v W => assert_miss (t := 153) (a := 145) (xT := 110) (z := .agg #[.int .i64 0, .int .i64 0, .int .i64 0, .int .i64 0, .int .i64 0, .int .i64 0, .bool false, .slice none 0 0, .int .i64 0, .int .i64 0, .bool false]) Try.underlying145 rfl (by decide) (by kernel_rfl) v W
  have hM3 := fun v W => assert_miss (t := 153) (a := 147) (xT := 110) (z := .agg #[.int .i64 0, .int .i64 0, .int .i64 0, .int .i64 0, .int .i64 0, .int .i64 0, .bool false, .slice none 0 0, .int .i64 0, .int .i64 0, .bool false, .int .i64 0, .int .i64 0, .int .i64 0, .bool false]) Try.underlying147 rfl (by decide) (by kernel_rfl) v W
  have hM4 := fun v W => assert_miss (t := 153) (a := 149) (xT := 110) (z := .agg #[.int .i64 0, .int .i64 0, .int .i64 0]) Try.underlying149 rfl (by decide) (by kernel_rfl) v W
  have hM5 := fun v W => assert_miss (t := 153) (a := 151) (xT := 110) (z := .agg #[.int .i64 0, .int .i64 0, .int .i64 0, .int .i64 0]) Try.underlying151 rfl (by decide) (by kernel_rfl) v W
  have hM6 := fun v W => assert_hit (t := 153) (xT := 110) Try.underlying153 rfl v W
  go_enter Try.func81, Try.ntmps81
  repeat (first | (with_reducible refine guardStore (ty := 72) ?_; refine wpList_storeF (VarA.dr ((VarA.new1 w _ _ _).alloc _)) rfl rfl (by kernel_rfl) rfl (of_decide_eq_true rfl) rfl ?_; intro w' vR t_) | (with_reducible refine guardLoad (ty := 72) ?_; refine wpList_loadA (VarA.dr (((VarA.new w _ _).alloc _).alloc _)) rfl Try.underlying72 rfl (by kernel_rfl) ?_) | go_values | go_skip | go_guarded | go_step | go_upon)
  go_region
  repeat (first | (with_reducible refine guardStore (ty := 72) ?_; refine wpList_storeF (VarA.dr ((VarA.new1 w _ _ _).alloc _)) rfl rfl (by kernel_rfl) rfl (of_decide_eq_true rfl) rfl ?_; intro w' vR t_) | (with_reducible refine guardLoad (ty := 72) ?_; refine wpList_loadA (VarA.dr (((VarA.new w _ _).alloc _).alloc _)) rfl Try.underlying72 rfl (by kernel_rfl) ?_) | go_values | go_skip | go_guarded | go_step | go_upon)
  refine bodyPost_ret (results_cell_row Try.results81 _ _ _ _ _ _ _ rfl vR Try.underlying72 rfl (by kernel_rfl)) rfl ⟨rfl, ?_⟩
  exact Turned.below (by repeat (first | exact Below.refl _ _ | refine Below.al ?_ _ | refine Below.drew ?_ | refine below_drewN2 ?_ _)) (t_.one (S := fun b => w.heap.size ≤ b) (by omega)) (by simp [World.drew]; omega) (fun i hi => hi)
set_option maxHeartbeats 4000000 in
theorem with7 (m : MsD) (a1 a2 a3 a4 : Option Addr) (n1 n2 n3 n4 c1 c2 c3 c4 : Nat) (w : World) :
    Calls Try.prog 81 #[msV ⟨7, m.fr, m.to, 0, op0, rp0, tx0, pt0, 0, hd0⟩ (.slice none 0 0) (.slice none 0 0) (.slice none 0 0) (.slice none 0 0), .iface 155 (.agg #[.int .i64 m.tx.1, .int .i64 m.tx.2.1, .int .i64 m.tx.2.2, .int .i64 m.req, .int .i64 m.code, .int .i64 m.h.sh, .int .i64 m.h.ino, .bool m.h.dir])] w fun e w' => e = .returned (msV ⟨7, m.fr, m.to, m.req, op0, rp0, m.tx, pt0, m.code, m.h⟩ (.slice none 0 0) (.slice none 0 0) (.slice none 0 0) (.slice none 0 0)) ∧ Below w.heap.size w w' := by
  obtain ⟨kd, fr, to, rq, ⟨ok, ⟨op_, oq, od⟩, nm, ⟨tp, tq, td⟩, asn, ov⟩, ⟨rc, ⟨rp_, rq_, rd⟩, rv, es⟩, ⟨xs, xb, xn⟩, ⟨pk, ⟨pp, pq, pd⟩, pas, ⟨sp, sq, sd⟩⟩, cd, ⟨hp, hq, hd⟩⟩ := m
  simp only [op0, rp0, tx0, pt0, hd0]
  have hM0 := fun v W => assert_miss (t := 155) (a := 141) (xT := 110) (z := .agg #[.int .i64 0, .int .i64 0, .int .i64 0, .int .i64 0, .bool false, .slice none 0 0, .int .i64 0, .int .i64 0, .bool false, .slice none 0 0, .int .i64 0]) Try.underlying141 rfl (by decide) (by kernel_rfl) v W
  have hM1 := fun v W => assert_miss (t := 155) (a := 143) (xT := 110) (z := .agg #[.int .i64 0, .int .i64 0, .int .i64 0, .int .i64 0, .bool false, .int .i64 0, .slice none 0 0]) Try.underlying143 rfl (by decide) (by kernel_rfl) v W
  have hM2 := fun v W => assert_miss (t := 155) (a := 145) (xT := 110) (z := .agg #[.int .i64 0, .int .i64 0, .int .i64 0, .int .i64 0, .int .i64 0, .int .i64 0, .bool false, .slice none 0 0, .int .i64 0, .int .i64 0, .bool false]) Try.underlying145 rfl (by decide) (by kernel_rfl) v W
  have hM3 := fun v W => assert_miss (t := 155) (a := 147) (xT := 110) (z := .agg #[.int .i64 0, .int .i64 0, .int .i64 0, .int .i64 0, .int .i64 0, .int .i64 0, .bool false, .slice none 0 0, .int .i64 0, .int .i64 0, .bool false, .int .i64 0, .int .i64 0, .int .i64 0, .bool false]) Try.underlying147 rfl (by decide) (by kernel_rfl) v W
  have hM4 := fun v W => assert_miss (t := 155) (a := 149) (xT := 110) (z := .agg #[.int .i64 0, .int .i64 0, .int .i64 0]) Try.underlying149 rfl (by decide) (by kernel_rfl) v W
  have hM5 := fun v W => assert_miss (t := 155) (a := 151) (xT := 110) (z := .agg #[.int .i64 0, .int .i64 0, .int .i64 0, .int .i64 0]) Try.underlying151 rfl (by decide) (by kernel_rfl) v W
  have hM6 := fun v W => assert_miss (t := 155) (a := 153) (xT := 110) (z := .agg #[.int .i64 0, .int .i64 0, .int .i64 0, .int .i64 0, .int .i64 0, .int .i64 0, .bool false]) Try.underlying153 rfl (by decide) (by kernel_rfl) v W
  have hM7 := fun v W => assert_hit (t := 155) (xT := 110) Try.underlying155 rfl v W
  go_enter Try.func81, Try.ntmps81
  repeat (first | (with_reducible refine guardStore (ty := 72) ?_; refine wpList_storeF (VarA.dr ((VarA.new1 w _ _ _).alloc _)) rfl rfl (by kernel_rfl) rfl (of_decide_eq_true rfl) rfl ?_; intro w' vR t_) | (with_reducible refine guardLoad (ty := 72) ?_; refine wpList_loadA (VarA.dr (((VarA.new w _ _).alloc _).alloc _)) rfl Try.underlying72 rfl (by kernel_rfl) ?_) | go_values | go_skip | go_guarded | go_step | go_upon)
  go_region
  repeat (first | (with_reducible refine guardStore (ty := 72) ?_; refine wpList_storeF (VarA.dr ((VarA.new1 w _ _ _).alloc _)) rfl rfl (by kernel_rfl) rfl (of_decide_eq_true rfl) rfl ?_; intro w' vR t_) | (with_reducible refine guardLoad (ty := 72) ?_; refine wpList_loadA (VarA.dr (((VarA.new w _ _).alloc _).alloc _)) rfl Try.underlying72 rfl (by kernel_rfl) ?_) | go_values | go_skip | go_guarded | go_step | go_upon)
  refine bodyPost_ret (results_cell_row Try.results81 _ _ _ _ _ _ _ rfl vR Try.underlying72 rfl (by kernel_rfl)) rfl ⟨rfl, ?_⟩
  exact Turned.below (by repeat (first | exact Below.refl _ _ | refine Below.al ?_ _ | refine Below.drew ?_ | refine below_drewN2 ?_ _)) (t_.one (S := fun b => w.heap.size ≤ b) (by omega)) (by simp [World.drew]; omega) (fun i hi => hi)
end Go.Proofs.Ytaaongjnpnanmaa
