/- Joined: WMsg4. -/
import Derived.Test.YtbnjhjgjmckedaaGreatJ15

section
/- What the program takes of a message and gives back, kind by kind; no condition. -/
namespace Go.Proofs.YtbnjhjgjmckedaaGreat
open Go.RowKit
set_option linter.unusedVariables false
set_option linter.unusedSimpArgs false
set_option maxRecDepth 100000

set_option maxHeartbeats 4000000 in
theorem content0 (m : MsD) (a1 a2 a3 a4 : Option Addr) (n1 n2 n3 n4 c1 c2 c3 c4 : Nat) (w : World) (hk : m.kind = 0) :
    Calls Tryz.prog 24 #[msV m (.slice a1 n1 c1) (.slice a2 n2 c2) (.slice a3 n3 c3) (.slice a4 n4 c4)] w fun e w' => e = .returned (.iface 114 (.agg #[.int .i64 m.req, .int .i64 m.op.kind, .int .i64 m.op.dir.sh, .int .i64 m.op.dir.ino, .bool m.op.dir.dir, .slice a1 n1 c1, .int .i64 m.op.to.sh, .int .i64 m.op.to.ino, .bool m.op.to.dir, .slice a2 n2 c2, .int .i64 m.op.val])) ∧ Below w.heap.size w w' := by
  obtain ⟨kd, fr, to, rq, ⟨ok, ⟨op_, oq, od⟩, nm, ⟨tp, tq, td⟩, asn, ov⟩, ⟨rc, ⟨rp_, rq_, rd⟩, rv, es⟩, ⟨xs, xb, xn⟩, ⟨pk, ⟨pp, pq, pd⟩, pas, ⟨sp, sq, sd⟩⟩, cd, ⟨hp, hq, hd⟩⟩ := m
  dsimp only at hk ⊢
  subst hk
  go_enter Tryz.func24, Tryz.ntmps24
  go_wp2
  go_ret
  exact ⟨rfl, by repeat (first | exact Below.refl _ _ | refine Below.al ?_ _ | refine below_drewN2 ?_ _)⟩
set_option maxHeartbeats 4000000 in
theorem content1 (m : MsD) (a1 a2 a3 a4 : Option Addr) (n1 n2 n3 n4 c1 c2 c3 c4 : Nat) (w : World) (hk : m.kind = 1) :
    Calls Tryz.prog 24 #[msV m (.slice a1 n1 c1) (.slice a2 n2 c2) (.slice a3 n3 c3) (.slice a4 n4 c4)] w fun e w' => e = .returned (.iface 116 (.agg #[.int .i64 m.req, .int .i64 m.rp.code, .int .i64 m.rp.h.sh, .int .i64 m.rp.h.ino, .bool m.rp.h.dir, .int .i64 m.rp.val, .slice a3 n3 c3])) ∧ Below w.heap.size w w' := by
  obtain ⟨kd, fr, to, rq, ⟨ok, ⟨op_, oq, od⟩, nm, ⟨tp, tq, td⟩, asn, ov⟩, ⟨rc, ⟨rp_, rq_, rd⟩, rv, es⟩, ⟨xs, xb, xn⟩, ⟨pk, ⟨pp, pq, pd⟩, pas, ⟨sp, sq, sd⟩⟩, cd, ⟨hp, hq, hd⟩⟩ := m
  dsimp only at hk ⊢
  subst hk
  go_enter Tryz.func24, Tryz.ntmps24
  go_wp2
  go_ret
  exact ⟨rfl, by repeat (first | exact Below.refl _ _ | refine Below.al ?_ _ | refine below_drewN2 ?_ _)⟩
set_option maxHeartbeats 4000000 in
theorem content2 (m : MsD) (a1 a2 a3 a4 : Option Addr) (n1 n2 n3 n4 c1 c2 c3 c4 : Nat) (w : World) (hk : m.kind = 2) :
    Calls Tryz.prog 24 #[msV m (.slice a1 n1 c1) (.slice a2 n2 c2) (.slice a3 n3 c3) (.slice a4 n4 c4)] w fun e w' => e = .returned (.iface 118 (.agg #[.int .i64 m.tx.1, .int .i64 m.tx.2.1, .int .i64 m.tx.2.2, .int .i64 m.pt.kind, .int .i64 m.pt.h.sh, .int .i64 m.pt.h.ino, .bool m.pt.h.dir, .slice a4 n4 c4, .int .i64 m.pt.to.sh, .int .i64 m.pt.to.ino, .bool m.pt.to.dir])) ∧ Below w.heap.size w w' := by
  obtain ⟨kd, fr, to, rq, ⟨ok, ⟨op_, oq, od⟩, nm, ⟨tp, tq, td⟩, asn, ov⟩, ⟨rc, ⟨rp_, rq_, rd⟩, rv, es⟩, ⟨xs, xb, xn⟩, ⟨pk, ⟨pp, pq, pd⟩, pas, ⟨sp, sq, sd⟩⟩, cd, ⟨hp, hq, hd⟩⟩ := m
  dsimp only at hk ⊢
  subst hk
  go_enter Tryz.func24, Tryz.ntmps24
  go_wp2
  go_ret
  exact ⟨rfl, by repeat (first | exact Below.refl _ _ | refine Below.al ?_ _ | refine below_drewN2 ?_ _)⟩
set_option maxHeartbeats 4000000 in
theorem content3 (m : MsD) (a1 a2 a3 a4 : Option Addr) (n1 n2 n3 n4 c1 c2 c3 c4 : Nat) (w : World) (hk : m.kind = 3) :
    Calls Tryz.prog 24 #[msV m (.slice a1 n1 c1) (.slice a2 n2 c2) (.slice a3 n3 c3) (.slice a4 n4 c4)] w fun e w' => e = .returned (.iface 120 (.agg #[.int .i64 m.tx.1, .int .i64 m.tx.2.1, .int .i64 m.tx.2.2, .int .i64 m.pt.kind, .int .i64 m.pt.h.sh, .int .i64 m.pt.h.ino, .bool m.pt.h.dir, .slice a4 n4 c4, .int .i64 m.pt.to.sh, .int .i64 m.pt.to.ino, .bool m.pt.to.dir, .int .i64 m.code, .int .i64 m.h.sh, .int .i64 m.h.ino, .bool m.h.dir])) ∧ Below w.heap.size w w' := by
  obtain ⟨kd, fr, to, rq, ⟨ok, ⟨op_, oq, od⟩, nm, ⟨tp, tq, td⟩, asn, ov⟩, ⟨rc, ⟨rp_, rq_, rd⟩, rv, es⟩, ⟨xs, xb, xn⟩, ⟨pk, ⟨pp, pq, pd⟩, pas, ⟨sp, sq, sd⟩⟩, cd, ⟨hp, hq, hd⟩⟩ := m
  dsimp only at hk ⊢
  subst hk
  go_enter Tryz.func24, Tryz.ntmps24
  go_wp2
  go_ret
  exact ⟨rfl, by repeat (first | exact Below.refl _ _ | refine Below.al ?_ _ | refine below_drewN2 ?_ _)⟩
set_option maxHeartbeats 4000000 in
theorem content4 (m : MsD) (a1 a2 a3 a4 : Option Addr) (n1 n2 n3 n4 c1 c2 c3 c4 : Nat) (w : World) (hk : m.kind = 4) :
    Calls Tryz.prog 24 #[msV m (.slice a1 n1 c1) (.slice a2 n2 c2) (.slice a3 n3 c3) (.slice a4 n4 c4)] w fun e w' => e = .returned (.iface 122 (.agg #[.int .i64 m.tx.1, .int .i64 m.tx.2.1, .int .i64 m.tx.2.2])) ∧ Below w.heap.size w w' := by
  obtain ⟨kd, fr, to, rq, ⟨ok, ⟨op_, oq, od⟩, nm, ⟨tp, tq, td⟩, asn, ov⟩, ⟨rc, ⟨rp_, rq_, rd⟩, rv, es⟩, ⟨xs, xb, xn⟩, ⟨pk, ⟨pp, pq, pd⟩, pas, ⟨sp, sq, sd⟩⟩, cd, ⟨hp, hq, hd⟩⟩ := m
  dsimp only at hk ⊢
  subst hk
  go_enter Tryz.func24, Tryz.ntmps24
  go_wp2
  go_ret
  exact ⟨rfl, by repeat (first | exact Below.refl _ _ | refine Below.al ?_ _ | refine below_drewN2 ?_ _)⟩
set_option maxHeartbeats 4000000 in
theorem content5 (m : MsD) (a1 a2 a3 a4 : Option Addr) (n1 n2 n3 n4 c1 c2 c3 c4 : Nat) (w : World) (hk : m.kind = 5) :
    Calls Tryz.prog 24 #[msV m (.slice a1 n1 c1) (.slice a2 n2 c2) (.slice a3 n3 c3) (.slice a4 n4 c4)] w fun e w' => e = .returned (.iface 124 (.agg #[.int .i64 m.tx.1, .int .i64 m.tx.2.1, .int .i64 m.tx.2.2, .int .i64 m.code])) ∧ Below w.heap.size w w' := by
  obtain ⟨kd, fr, to, rq, ⟨ok, ⟨op_, oq, od⟩, nm, ⟨tp, tq, td⟩, asn, ov⟩, ⟨rc, ⟨rp_, rq_, rd⟩, rv, es⟩, ⟨xs, xb, xn⟩, ⟨pk, ⟨pp, pq, pd⟩, pas, ⟨sp, sq, sd⟩⟩, cd, ⟨hp, hq, hd⟩⟩ := m
  dsimp only at hk ⊢
  subst hk
  go_enter Tryz.func24, Tryz.ntmps24
  go_wp2
  go_ret
  exact ⟨rfl, by repeat (first | exact Below.refl _ _ | refine Below.al ?_ _ | refine below_drewN2 ?_ _)⟩
set_option maxHeartbeats 4000000 in
theorem content6 (m : MsD) (a1 a2 a3 a4 : Option Addr) (n1 n2 n3 n4 c1 c2 c3 c4 : Nat) (w : World) (hk : m.kind = 6) :
    Calls Tryz.prog 24 #[msV m (.slice a1 n1 c1) (.slice a2 n2 c2) (.slice a3 n3 c3) (.slice a4 n4 c4)] w fun e w' => e = .returned (.iface 126 (.agg #[.int .i64 m.tx.1, .int .i64 m.tx.2.1, .int .i64 m.tx.2.2, .int .i64 m.req, .int .i64 m.h.sh, .int .i64 m.h.ino, .bool m.h.dir])) ∧ Below w.heap.size w w' := by
  obtain ⟨kd, fr, to, rq, ⟨ok, ⟨op_, oq, od⟩, nm, ⟨tp, tq, td⟩, asn, ov⟩, ⟨rc, ⟨rp_, rq_, rd⟩, rv, es⟩, ⟨xs, xb, xn⟩, ⟨pk, ⟨pp, pq, pd⟩, pas, ⟨sp, sq, sd⟩⟩, cd, ⟨hp, hq, hd⟩⟩ := m
  dsimp only at hk ⊢
  subst hk
  go_enter Tryz.func24, Tryz.ntmps24
  go_wp2
  go_ret
  exact ⟨rfl, by repeat (first | exact Below.refl _ _ | refine Below.al ?_ _ | refine below_drewN2 ?_ _)⟩
set_option maxHeartbeats 4000000 in
theorem content7 (m : MsD) (a1 a2 a3 a4 : Option Addr) (n1 n2 n3 n4 c1 c2 c3 c4 : Nat) (w : World) (hk : m.kind = 7) :
    Calls Tryz.prog 24 #[msV m (.slice a1 n1 c1) (.slice a2 n2 c2) (.slice a3 n3 c3) (.slice a4 n4 c4)] w fun e w' => e = .returned (.iface 128 (.agg #[.int .i64 m.tx.1, .int .i64 m.tx.2.1, .int .i64 m.tx.2.2, .int .i64 m.req, .int .i64 m.code, .int .i64 m.h.sh, .int .i64 m.h.ino, .bool m.h.dir])) ∧ Below w.heap.size w w' := by
  obtain ⟨kd, fr, to, rq, ⟨ok, ⟨op_, oq, od⟩, nm, ⟨tp, tq, td⟩, asn, ov⟩, ⟨rc, ⟨rp_, rq_, rd⟩, rv, es⟩, ⟨xs, xb, xn⟩, ⟨pk, ⟨pp, pq, pd⟩, pas, ⟨sp, sq, sd⟩⟩, cd, ⟨hp, hq, hd⟩⟩ := m
  dsimp only at hk ⊢
  subst hk
  go_enter Tryz.func24, Tryz.ntmps24
  go_wp2
  go_ret
  exact ⟨rfl, by repeat (first | exact Below.refl _ _ | refine Below.al ?_ _ | refine below_drewN2 ?_ _)⟩
set_option maxHeartbeats 4000000 in
theorem with0 (m : MsD) (a1 a2 a3 a4 : Option Addr) (n1 n2 n3 n4 c1 c2 c3 c4 : Nat) (w : World) :
    Calls Tryz.prog 38 #[msV ⟨0, m.fr, m.to, 0, op0, rp0, tx0, pt0, 0, hd0⟩ (.slice none 0 0) (.slice none 0 0) (.slice none 0 0) (.slice none 0 0), .iface 114 (.agg #[.int .i64 m.req, .int .i64 m.op.kind, .int .i64 m.op.dir.sh, .int .i64 m.op.dir.ino, .bool m.op.dir.dir, .slice a1 n1 c1, .int .i64 m.op.to.sh, .int .i64 m.op.to.ino, .bool m.op.to.dir, .slice a2 n2 c2, .int .i64 m.op.val])] w fun e w' => e = .returned (msV ⟨0, m.fr, m.to, m.req, m.op, rp0, tx0, pt0, 0, hd0⟩ (.slice a1 n1 c1) (.slice a2 n2 c2) (.slice none 0 0) (.slice none 0 0)) ∧ Below w.heap.size w w' := by
  obtain ⟨kd, fr, to, rq, ⟨ok, ⟨op_, oq, od⟩, nm, ⟨tp, tq, td⟩, asn, ov⟩, ⟨rc, ⟨rp_, rq_, rd⟩, rv, es⟩, ⟨xs, xb, xn⟩, ⟨pk, ⟨pp, pq, pd⟩, pas, ⟨sp, sq, sd⟩⟩, cd, ⟨hp, hq, hd⟩⟩ := m
  simp only [op0, rp0, tx0, pt0, hd0]
  have hM0 := fun v W => assert_hit (t := 114) (xT := 56) Tryz.underlying114 rfl v W
  go_enter Tryz.func38, Tryz.ntmps38
  repeat (first | (with_reducible refine guardStore (ty := 35) ?_; refine wpList_storeF (VarA.dr ((VarA.new1 w _ _ _).alloc _)) rfl rfl (by kernel_rfl) rfl (of_decide_eq_true rfl) rfl ?_; intro w' vR t_) | (with_reducible refine guardLoad (ty := 35) ?_; refine wpList_loadA (VarA.dr (((VarA.new w _ _).alloc _).alloc _)) rfl Tryz.underlying35 rfl (by kernel_rfl) ?_) | go_values | go_skip | go_guarded | go_step | go_upon)
  go_region
  repeat (first | (with_reducible refine guardStore (ty := 35) ?_; refine wpList_storeF (VarA.dr ((VarA.new1 w _ _ _).alloc _)) rfl rfl (by kernel_rfl) rfl (of_decide_eq_true rfl) rfl ?_; intro w' vR t_) | (with_reducible refine guardLoad (ty := 35) ?_; refine wpList_loadA (VarA.dr (((VarA.new w _ _).alloc _).alloc _)) rfl Tryz.underlying35 rfl (by kernel_rfl) ?_) | go_values | go_skip | go_guarded | go_step | go_upon)
  refine bodyPost_ret (results_cell_row Tryz.results38 _ _ _ _ _ _ _ rfl vR Tryz.underlying35 rfl (by kernel_rfl)) rfl ⟨rfl, ?_⟩
  exact Turned.below (by repeat (first | exact Below.refl _ _ | refine Below.al ?_ _ | refine Below.drew ?_ | refine below_drewN2 ?_ _)) (t_.one (S := fun b => w.heap.size ≤ b) (by omega)) (by simp [World.drew]; omega) (fun i hi => hi)
set_option maxHeartbeats 4000000 in
theorem with1 (m : MsD) (a1 a2 a3 a4 : Option Addr) (n1 n2 n3 n4 c1 c2 c3 c4 : Nat) (w : World) :
    Calls Tryz.prog 38 #[msV ⟨1, m.fr, m.to, 0, op0, rp0, tx0, pt0, 0, hd0⟩ (.slice none 0 0) (.slice none 0 0) (.slice none 0 0) (.slice none 0 0), .iface 116 (.agg #[.int .i64 m.req, .int .i64 m.rp.code, .int .i64 m.rp.h.sh, .int .i64 m.rp.h.ino, .bool m.rp.h.dir, .int .i64 m.rp.val, .slice a3 n3 c3])] w fun e w' => e = .returned (msV ⟨1, m.fr, m.to, m.req, op0, m.rp, tx0, pt0, 0, hd0⟩ (.slice none 0 0) (.slice none 0 0) (.slice a3 n3 c3) (.slice none 0 0)) ∧ Below w.heap.size w w' := by
  obtain ⟨kd, fr, to, rq, ⟨ok, ⟨op_, oq, od⟩, nm, ⟨tp, tq, td⟩, asn, ov⟩, ⟨rc, ⟨rp_, rq_, rd⟩, rv, es⟩, ⟨xs, xb, xn⟩, ⟨pk, ⟨pp, pq, pd⟩, pas, ⟨sp, sq, sd⟩⟩, cd, ⟨hp, hq, hd⟩⟩ := m
  simp only [op0, rp0, tx0, pt0, hd0]
  have hM0 := fun v W => assert_miss (t := 116) (a := 114) (xT := 56) (z := .agg #[.int .i64 0, .int .i64 0, .int .i64 0, .int .i64 0, .bool false, .slice none 0 0, .int .i64 0, .int .i64 0, .bool false, .slice none 0 0, .int .i64 0]) Tryz.underlying114 rfl (by decide) (by kernel_rfl) v W
  have hM1 := fun v W => assert_hit (t := 116) (xT := 56) Tryz.underlying116 rfl v W
  go_enter Tryz.func38, Tryz.ntmps38
  repeat (first | (with_reducible refine guardStore (ty := 35) ?_; refine wpList_storeF (VarA.dr ((VarA.new1 w _ _ _).alloc _)) rfl rfl (by kernel_rfl) rfl (of_decide_eq_true rfl) rfl ?_; intro w' vR t_) | (with_reducible refine guardLoad (ty := 35) ?_; refine wpList_loadA (VarA.dr (((VarA.new w _ _).alloc _).alloc _)) rfl Tryz.underlying35 rfl (by kernel_rfl) ?_) | go_values | go_skip | go_guarded | go_step | go_upon)
  go_region
  repeat (first | (with_reducible refine guardStore (ty := 35) ?_; refine wpList_storeF (VarA.dr ((VarA.new1 w _ _ _).alloc _)) rfl rfl (by kernel_rfl) rfl (of_decide_eq_true rfl) rfl ?_; intro w' vR t_) | (with_reducible refine guardLoad (ty := 35) ?_; refine wpList_loadA (VarA.dr (((VarA.new w _ _).alloc _).alloc _)) rfl Tryz.underlying35 rfl (by kernel_rfl) ?_) | go_values | go_skip | go_guarded | go_step | go_upon)
  refine bodyPost_ret (results_cell_row Tryz.results38 _ _ _ _ _ _ _ rfl vR Tryz.underlying35 rfl (by kernel_rfl)) rfl ⟨rfl, ?_⟩
  exact Turned.below (by repeat (first | exact Below.refl _ _ | refine Below.al ?_ _ | refine Below.drew ?_ | refine below_drewN2 ?_ _)) (t_.one (S := fun b => w.heap.size ≤ b) (by omega)) (by simp [World.drew]; omega) (fun i hi => hi)
set_option maxHeartbeats 4000000 in
theorem with2 (m : MsD) (a1 a2 a3 a4 : Option Addr) (n1 n2 n3 n4 c1 c2 c3 c4 : Nat) (w : World) :
    Calls Tryz.prog 38 #[msV ⟨2, m.fr, m.to, 0, op0, rp0, tx0, pt0, 0, hd0⟩ (.slice none 0 0) (.slice none 0 0) (.slice none 0 0) (.slice none 0 0), .iface 118 (.agg #[.int .i64 m.tx.1, .int .i64 m.tx.2.1, .int .i64 m.tx.2.2, .int .i64 m.pt.kind, .int .i64 m.pt.h.sh, .int .i64 m.pt.h.ino, .bool m.pt.h.dir, .slice a4 n4 c4, .int .i64 m.pt.to.sh, .int .i64 m.pt.to.ino, .bool m.pt.to.dir])] w fun e w' => e = .returned (msV ⟨2, m.fr, m.to, 0, op0, rp0, m.tx, m.pt, 0, hd0⟩ (.slice none 0 0) (.slice none 0 0) (.slice none 0 0) (.slice a4 n4 c4)) ∧ Below w.heap.size w w' := by
  obtain ⟨kd, fr, to, rq, ⟨ok, ⟨op_, oq, od⟩, nm, ⟨tp, tq, td⟩, asn, ov⟩, ⟨rc, ⟨rp_, rq_, rd⟩, rv, es⟩, ⟨xs, xb, xn⟩, ⟨pk, ⟨pp, pq, pd⟩, pas, ⟨sp, sq, sd⟩⟩, cd, ⟨hp, hq, hd⟩⟩ := m
  simp only [op0, rp0, tx0, pt0, hd0]
  have hM0 := fun v W => assert_miss (t := 118) (a := 114) (xT := 56) (z := .agg #[.int .i64 0, .int .i64 0, .int .i64 0, .int .i64 0, .bool false, .slice none 0 0, .int .i64 0, .int .i64 0, .bool false, .slice none 0 0, .int .i64 0]) Tryz.underlying114 rfl (by decide) (by kernel_rfl) v W
  have hM1 := fun v W => assert_miss (t := 118) (a := 116) (xT := 56) (z := .agg #[.int .i64 0, .int .i64 0, .int .i64 0, .int .i64 0, .bool false, .int .i64 0, .slice none 0 0]) Tryz.underlying116 rfl (by decide) (by kernel_rfl) v W
  have hM2 := fun v W => assert_hit (t := 118) (xT := 56) Tryz.underlying118 rfl v W
  go_enter Tryz.func38, Tryz.ntmps38
  repeat (first | (with_reducible refine guardStore (ty := 35) ?_; refine wpList_storeF (VarA.dr ((VarA.new1 w _ _ _).alloc _)) rfl rfl (by kernel_rfl) rfl (of_decide_eq_true rfl) rfl ?_; intro w' vR t_) | (with_reducible refine guardLoad (ty := 35) ?_; refine wpList_loadA (VarA.dr (((VarA.new w _ _).alloc _).alloc _)) rfl Tryz.underlying35 rfl (by kernel_rfl) ?_) | go_values | go_skip | go_guarded | go_step | go_upon)
  go_region
  repeat (first | (with_reducible refine guardStore (ty := 35) ?_; refine wpList_storeF (VarA.dr ((VarA.new1 w _ _ _).alloc _)) rfl rfl (by kernel_rfl) rfl (of_decide_eq_true rfl) rfl ?_; intro w' vR t_) | (with_reducible refine guardLoad (ty := 35) ?_; refine wpList_loadA (VarA.dr (((VarA.new w _ _).alloc _).alloc _)) rfl Tryz.underlying35 rfl (by kernel_rfl) ?_) | go_values | go_skip | go_guarded | go_step | go_upon)
  refine bodyPost_ret (results_cell_row Tryz.results38 _ _ _ _ _ _ _ rfl vR Tryz.underlying35 rfl (by kernel_rfl)) rfl ⟨rfl, ?_⟩
  exact Turned.below (by repeat (first | exact Below.refl _ _ | refine Below.al ?_ _ | refine Below.drew ?_ | refine below_drewN2 ?_ _)) (t_.one (S := fun b => w.heap.size ≤ b) (by omega)) (by simp [World.drew]; omega) (fun i hi => hi)
set_option maxHeartbeats 4000000 in
theorem with3 (m : MsD) (a1 a2 a3 a4 : Option Addr) (n1 n2 n3 n4 c1 c2 c3 c4 : Nat) (w : World) :
    Calls Tryz.prog 38 #[msV ⟨3, m.fr, m.to, 0, op0, rp0, tx0, pt0, 0, hd0⟩ (.slice none 0 0) (.slice none 0 0) (.slice none 0 0) (.slice none 0 0), .iface 120 (.agg #[.int .i64 m.tx.1, .int .i64 m.tx.2.1, .int .i64 m.tx.2.2, .int .i64 m.pt.kind, .int .i64 m.pt.h.sh, .int .i64 m.pt.h.ino, .bool m.pt.h.dir, .slice a4 n4 c4, .int .i64 m.pt.to.sh, .int .i64 m.pt.to.ino, .bool m.pt.to.dir, .int .i64 m.code, .int .i64 m.h.sh, .int .i64 m.h.ino, .bool m.h.dir])] w fun e w' => e = .returned (msV ⟨3, m.fr, m.to, 0, op0, rp0, m.tx, m.pt, m.code, m.h⟩ (.slice none 0 0) (.slice none 0 0) (.slice none 0 0) (.slice a4 n4 c4)) ∧ Below w.heap.size w w' := by
  obtain ⟨kd, fr, to, rq, ⟨ok, ⟨op_, oq, od⟩, nm, ⟨tp, tq, td⟩, asn, ov⟩, ⟨rc, ⟨rp_, rq_, rd⟩, rv, es⟩, ⟨xs, xb, xn⟩, ⟨pk, ⟨pp, pq, pd⟩, pas, ⟨sp, sq, sd⟩⟩, cd, ⟨hp, hq, hd⟩⟩ := m
  simp only [op0, rp0, tx0, pt0, hd0]
  have hM0 := fun v W => assert_miss (t := 120) (a := 114) (xT := 56) (z := .agg #[.int .i64 0, .int .i64 0, .int .i64 0, .int .i64 0, .bool false, .slice none 0 0, .int .i64 0, .int .i64 0, .bool false, .slice none 0 0, .int .i64 0]) Tryz.underlying114 rfl (by decide) (by kernel_rfl) v W
  have hM1 := fun v W => assert_miss (t := 120) (a := 116) (xT := 56) (z := .agg #[.int .i64 0, .int .i64 0, .int .i64 0, .int .i64 0, .bool false, .int .i64 0, .slice none 0 0]) Tryz.underlying116 rfl (by decide) (by kernel_rfl) v W
  have hM2 := fun v W => assert_miss (t := 120) (a := 118) (xT := 56) (z := .agg #[.int .i64 0, .int .i64 0, .int .i64 0, .int .i64 0, .int .i64 0, .int .i64 0, .bool false, .slice none 0 0, .int .i64 0, .int .i64 0, .bool false]) Tryz.underlying118 rfl (by decide) (by kernel_rfl) v W
  have hM3 := fun v W => assert_hit (t := 120) (xT := 56) Tryz.underlying120 rfl v W
  go_enter Tryz.func38, Tryz.ntmps38
  repeat (first | (with_reducible refine guardStore (ty := 35) ?_; refine wpList_storeF (VarA.dr ((VarA.new1 w _ _ _).alloc _)) rfl rfl (by kernel_rfl) rfl (of_decide_eq_true rfl) rfl ?_; intro w' vR t_) | (with_reducible refine guardLoad (ty := 35) ?_; refine wpList_loadA (VarA.dr (((VarA.new w _ _).alloc _).alloc _)) rfl Tryz.underlying35 rfl (by kernel_rfl) ?_) | go_values | go_skip | go_guarded | go_step | go_upon)
  go_region
  repeat (first | (with_reducible refine guardStore (ty := 35) ?_; refine wpList_storeF (VarA.dr ((VarA.new1 w _ _ _).alloc _)) rfl rfl (by kernel_rfl) rfl (of_decide_eq_true rfl) rfl ?_; intro w' vR t_) | (with_reducible refine guardLoad (ty := 35) ?_; refine wpList_loadA (VarA.dr (((VarA.new w _ _).alloc _).alloc _)) rfl Tryz.underlying35 rfl (by kernel_rfl) ?_) | go_values | go_skip | go_guarded | go_step | go_upon)
  refine bodyPost_ret (results_cell_row Tryz.results38 _ _ _ _ _ _ _ rfl vR Tryz.underlying35 rfl (by kernel_rfl)) rfl ⟨rfl, ?_⟩
  exact Turned.below (by repeat (first | exact Below.refl _ _ | refine Below.al ?_ _ | refine Below.drew ?_ | refine below_drewN2 ?_ _)) (t_.one (S := fun b => w.heap.size ≤ b) (by omega)) (by simp [World.drew]; omega) (fun i hi => hi)
set_option maxHeartbeats 4000000 in
theorem with4 (m : MsD) (a1 a2 a3 a4 : Option Addr) (n1 n2 n3 n4 c1 c2 c3 c4 : Nat) (w : World) :
    Calls Tryz.prog 38 #[msV ⟨4, m.fr, m.to, 0, op0, rp0, tx0, pt0, 0, hd0⟩ (.slice none 0 0) (.slice none 0 0) (.slice none 0 0) (.slice none 0 0), .iface 122 (.agg #[.int .i64 m.tx.1, .int .i64 m.tx.2.1, .int .i64 m.tx.2.2])] w fun e w' => e = .returned (msV ⟨4, m.fr, m.to, 0, op0, rp0, m.tx, pt0, 0, hd0⟩ (.slice none 0 0) (.slice none 0 0) (.slice none 0 0) (.slice none 0 0)) ∧ Below w.heap.size w w' := by
  obtain ⟨kd, fr, to, rq, ⟨ok, ⟨op_, oq, od⟩, nm, ⟨tp, tq, td⟩, asn, ov⟩, ⟨rc, ⟨rp_, rq_, rd⟩, rv, es⟩, ⟨xs, xb, xn⟩, ⟨pk, ⟨pp, pq, pd⟩, pas, ⟨sp, sq, sd⟩⟩, cd, ⟨hp, hq, hd⟩⟩ := m
  simp only [op0, rp0, tx0, pt0, hd0]
  have hM0 := fun v W => assert_miss (t := 122) (a := 114) (xT := 56) (z := .agg #[.int .i64 0, .int .i64 0, .int .i64 0, .int .i64 0, .bool false, .slice none 0 0, .int .i64 0, .int .i64 0, .bool false, .slice none 0 0, .int .i64 0]) Tryz.underlying114 rfl (by decide) (by kernel_rfl) v W
  have hM1 := fun v W => assert_miss (t := 122) (a := 116) (xT := 56) (z := .agg #[.int .i64 0, .int .i64 0, .int .i64 0, .int .i64 0, .bool false, .int .i64 0, .slice none 0 0]) Tryz.underlying116 rfl (by decide) (by kernel_rfl) v W
  have hM2 := fun v W => assert_miss (t := 122) (a := 118) (xT := 56) (z := .agg #[.int .i64 0, .int .i64 0, .int .i64 0, .int .i64 0, .int .i64 0, .int .i64 0, .bool false, .slice none 0 0, .int .i64 0, .int .i64 0, .bool false]) Tryz.underlying118 rfl (by decide) (by kernel_rfl) v W
  have hM3 := fun v W => assert_miss (t := 122) (a := 120) (xT := 56) (z := .agg #[.int .i64 0, .int .i64 0, .int .i64 0, .int .i64 0, .int .i64 0, .int .i64 0, .bool false, .slice none 0 0, .int .i64 0, .int .i64 0, .bool false, .int .i64 0, .int .i64 0, .int .i64 0, .bool false]) Tryz.underlying120 rfl (by decide) (by kernel_rfl) v W
  have hM4 := fun v W => assert_hit (t := 122) (xT := 56) Tryz.underlying122 rfl v W
  go_enter Tryz.func38, Tryz.ntmps38
  repeat (first | (with_reducible refine guardStore (ty := 35) ?_; refine wpList_storeF ((VarA.new1 w _ _ _).alloc _) rfl rfl (by kernel_rfl) rfl (of_decide_eq_true rfl) rfl ?_; intro w' vR t_) | (with_reducible refine guardLoad (ty := 35) ?_; refine wpList_loadA (((VarA.new w _ _).alloc _).alloc _) rfl Tryz.underlying35 rfl (by kernel_rfl) ?_) | go_values | go_skip | go_guarded | go_step | go_upon)
  refine bodyPost_ret (results_cell_row Tryz.results38 _ _ _ _ _ _ _ rfl vR Tryz.underlying35 rfl (by kernel_rfl)) rfl ⟨rfl, ?_⟩
  exact Turned.below (by repeat (first | exact Below.refl _ _ | refine Below.al ?_ _ | refine Below.drew ?_ | refine below_drewN2 ?_ _)) (t_.one (S := fun b => w.heap.size ≤ b) (by omega)) (by simp [World.drew]; omega) (fun i hi => hi)
set_option maxHeartbeats 4000000 in
theorem with5 (m : MsD) (a1 a2 a3 a4 : Option Addr) (n1 n2 n3 n4 c1 c2 c3 c4 : Nat) (w : World) :
    Calls Tryz.prog 38 #[msV ⟨5, m.fr, m.to, 0, op0, rp0, tx0, pt0, 0, hd0⟩ (.slice none 0 0) (.slice none 0 0) (.slice none 0 0) (.slice none 0 0), .iface 124 (.agg #[.int .i64 m.tx.1, .int .i64 m.tx.2.1, .int .i64 m.tx.2.2, .int .i64 m.code])] w fun e w' => e = .returned (msV ⟨5, m.fr, m.to, 0, op0, rp0, m.tx, pt0, m.code, hd0⟩ (.slice none 0 0) (.slice none 0 0) (.slice none 0 0) (.slice none 0 0)) ∧ Below w.heap.size w w' := by
  obtain ⟨kd, fr, to, rq, ⟨ok, ⟨op_, oq, od⟩, nm, ⟨tp, tq, td⟩, asn, ov⟩, ⟨rc, ⟨rp_, rq_, rd⟩, rv, es⟩, ⟨xs, xb, xn⟩, ⟨pk, ⟨pp, pq, pd⟩, pas, ⟨sp, sq, sd⟩⟩, cd, ⟨hp, hq, hd⟩⟩ := m
  simp only [op0, rp0, tx0, pt0, hd0]
  have hM0 := fun v W => assert_miss (t := 124) (a := 114) (xT := 56) (z := .agg #[.int .i64 0, .int .i64 0, .int .i64 0, .int .i64 0, .bool false, .slice none 0 0, .int .i64 0, .int .i64 0, .bool false, .slice none 0 0, .int .i64 0]) Tryz.underlying114 rfl (by decide) (by kernel_rfl) v W
  have hM1 := fun v W => assert_miss (t := 124) (a := 116) (xT := 56) (z := .agg #[.int .i64 0, .int .i64 0, .int .i64 0, .int .i64 0, .bool false, .int .i64 0, .slice none 0 0]) Tryz.underlying116 rfl (by decide) (by kernel_rfl) v W
  have hM2 := fun v W => assert_miss (t := 124) (a := 118) (xT := 56) (z := .agg #[.int .i64 0, .int .i64 0, .int .i64 0, .int .i64 0, .int .i64 0, .int .i64 0, .bool false, .slice none 0 0, .int .i64 0, .int .i64 0, .bool false]) Tryz.underlying118 rfl (by decide) (by kernel_rfl) v W
  have hM3 := fun v W => assert_miss (t := 124) (a := 120) (xT := 56) (z := .agg #[.int .i64 0, .int .i64 0, .int .i64 0, .int .i64 0, .int .i64 0, .int .i64 0, .bool false, .slice none 0 0, .int .i64 0, .int .i64 0, .bool false, .int .i64 0, .int .i64 0, .int .i64 0, .bool false]) Tryz.underlying120 rfl (by decide) (by kernel_rfl) v W
  have hM4 := fun v W => assert_miss (t := 124) (a := 122) (xT := 56) (z := .agg #[.int .i64 0, .int .i64 0, .int .i64 0]) Tryz.underlying122 rfl (by decide) (by kernel_rfl) v W
  have hM5 := fun v W => assert_hit (t := 124) (xT := 56) Tryz.underlying124 rfl v W
  go_enter Tryz.func38, Tryz.ntmps38
  repeat (first | (with_reducible refine guardStore (ty := 35) ?_; refine wpList_storeF (VarA.dr ((VarA.new1 w _ _ _).alloc _)) rfl rfl (by kernel_rfl) rfl (of_decide_eq_true rfl) rfl ?_; intro w' vR t_) | (with_reducible refine guardLoad (ty := 35) ?_; refine wpList_loadA (VarA.dr (((VarA.new w _ _).alloc _).alloc _)) rfl Tryz.underlying35 rfl (by kernel_rfl) ?_) | go_values | go_skip | go_guarded | go_step | go_upon)
  go_region
  repeat (first | (with_reducible refine guardStore (ty := 35) ?_; refine wpList_storeF (VarA.dr ((VarA.new1 w _ _ _).alloc _)) rfl rfl (by kernel_rfl) rfl (of_decide_eq_true rfl) rfl ?_; intro w' vR t_) | (with_reducible refine guardLoad (ty := 35) ?_; refine wpList_loadA (VarA.dr (((VarA.new w _ _).alloc _).alloc _)) rfl Tryz.underlying35 rfl (by kernel_rfl) ?_) | go_values | go_skip | go_guarded | go_step | go_upon)
  refine bodyPost_ret (results_cell_row Tryz.results38 _ _ _ _ _ _ _ rfl vR Tryz.underlying35 rfl (by kernel_rfl)) rfl ⟨rfl, ?_⟩
  exact Turned.below (by repeat (first | exact Below.refl _ _ | refine Below.al ?_ _ | refine Below.drew ?_ | refine below_drewN2 ?_ _)) (t_.one (S := fun b => w.heap.size ≤ b) (by omega)) (by simp [World.drew]; omega) (fun i hi => hi)
set_option maxHeartbeats 4000000 in
theorem with6 (m : MsD) (a1 a2 a3 a4 : Option Addr) (n1 n2 n3 n4 c1 c2 c3 c4 : Nat) (w : World) :
    Calls Tryz.prog 38 #[msV ⟨6, m.fr, m.to, 0, op0, rp0, tx0, pt0, 0, hd0⟩ (.slice none 0 0) (.slice none 0 0) (.slice none 0 0) (.slice none 0 0), .iface 126 (.agg #[.int .i64 m.tx.1, .int .i64 m.tx.2.1, .int .i64 m.tx.2.2, .int .i64 m.req, .int .i64 m.h.sh, .int .i64 m.h.ino, .bool m.h.dir])] w fun e w' => e = .returned (msV ⟨6, m.fr, m.to, m.req, op0, rp0, m.tx, pt0, 0, m.h⟩ (.slice none 0 0) (.slice none 0 0) (.slice none 0 0) (.slice none 0 0)) ∧ Below w.heap.size w w' := by
  obtain ⟨kd, fr, to, rq, ⟨ok, ⟨op_, oq, od⟩, nm, ⟨tp, tq, td⟩, asn, ov⟩, ⟨rc, ⟨rp_, rq_, rd⟩, rv, es⟩, ⟨xs, xb, xn⟩, ⟨pk, ⟨pp, pq, pd⟩, pas, ⟨sp, sq, sd⟩⟩, cd, ⟨hp, hq, hd⟩⟩ := m
  simp only [op0, rp0, tx0, pt0, hd0]
  have hM0 := fun v W => assert_miss (t := 126) (a := 114) (xT := 56) (z := .agg #[.int .i64 0, .int .i64 0, .int .i64 0, .int .i64 0, .bool false, .slice none 0 0, .int .i64 0, .int .i64 0, .bool false, .slice none 0 0, .int .i64 0]) Tryz.underlying114 rfl (by decide) (by kernel_rfl) v W
  have hM1 := fun v W => assert_miss (t := 126) (a := 116) (xT := 56) (z := .agg #[.int .i64 0, .int .i64 0, .int .i64 0, .int .i64 0, .bool false, .int .i64 0, .slice none 0 0]) Tryz.underlying116 rfl (by decide) (by kernel_rfl) v W
  have hM2 := fun v W => assert_miss (t := 126) (a := 118) (xT := 56) (z := .agg #[.int .i64 0, .int .i64 0, .int .i64 0, .int .i64 0, .int .i64 0, .int .i64 0, .bool false, .slice none 0 0, .int .i64 0, .int .i64 0, .bool false]) Tryz.underlying118 rfl (by decide) (by kernel_rfl) v W
  have hM3 := fun v W => assert_miss (t := 126) (a := 120) (xT := 56) (z := .agg #[.int .i64 0, .int .i64 0, .int .i64 0, .int .i64 0, .int .i64 0, .int .i64 0, .bool false, .slice none 0 0, .int .i64 0, .int .i64 0, .bool false, .int .i64 0, .int .i64 0, .int .i64 0, .bool false]) Tryz.underlying120 rfl (by decide) (by kernel_rfl) v W
  have hM4 := fun v W => assert_miss (t := 126) (a := 122) (xT := 56) (z := .agg #[.int .i64 0, .int .i64 0, .int .i64 0]) Tryz.underlying122 rfl (by decide) (by kernel_rfl) v W
  have hM5 := fun v W => assert_miss (t := 126) (a := 124) (xT := 56) (z := .agg #[.int .i64 0, .int .i64 0, .int .i64 0, .int .i64 0]) Tryz.underlying124 rfl (by decide) (by kernel_rfl) v W
  have hM6 := fun v W => assert_hit (t := 126) (xT := 56) Tryz.underlying126 rfl v W
  go_enter Tryz.func38, Tryz.ntmps38
  repeat (first | (with_reducible refine guardStore (ty := 35) ?_; refine wpList_storeF (VarA.dr ((VarA.new1 w _ _ _).alloc _)) rfl rfl (by kernel_rfl) rfl (of_decide_eq_true rfl) rfl ?_; intro w' vR t_) | (with_reducible refine guardLoad (ty := 35) ?_; refine wpList_loadA (VarA.dr (((VarA.new w _ _).alloc _).alloc _)) rfl Tryz.underlying35 rfl (by kernel_rfl) ?_) | go_values | go_skip | go_guarded | go_step | go_upon)
  go_region
  repeat (first | (with_reducible refine guardStore (ty := 35) ?_; refine wpList_storeF (VarA.dr ((VarA.new1 w _ _ _).alloc _)) rfl rfl (by kernel_rfl) rfl (of_decide_eq_true rfl) rfl ?_; intro w' vR t_) | (with_reducible refine guardLoad (ty := 35) ?_; refine wpList_loadA (VarA.dr (((VarA.new w _ _).alloc _).alloc _)) rfl Tryz.underlying35 rfl (by kernel_rfl) ?_) | go_values | go_skip | go_guarded | go_step | go_upon)
  refine bodyPost_ret (results_cell_row Tryz.results38 _ _ _ _ _ _ _ rfl vR Tryz.underlying35 rfl (by kernel_rfl)) rfl ⟨rfl, ?_⟩
  exact Turned.below (by repeat (first | exact Below.refl _ _ | refine Below.al ?_ _ | refine Below.drew ?_ | refine below_drewN2 ?_ _)) (t_.one (S := fun b => w.heap.size ≤ b) (by omega)) (by simp [World.drew]; omega) (fun i hi => hi)
set_option maxHeartbeats 4000000 in
theorem with7 (m : MsD) (a1 a2 a3 a4 : Option Addr) (n1 n2 n3 n4 c1 c2 c3 c4 : Nat) (w : World) :
    Calls Tryz.prog 38 #[msV ⟨7, m.fr, m.to, 0, op0, rp0, tx0, pt0, 0, hd0⟩ (.slice none 0 0) (.slice none 0 0) (.slice none 0 0) (.slice none 0 0), .iface 128 (.agg #[.int .i64 m.tx.1, .int .i64 m.tx.2.1, .int .i64 m.tx.2.2, .int .i64 m.req, .int .i64 m.code, .int .i64 m.h.sh, .int .i64 m.h.ino, .bool m.h.dir])] w fun e w' => e = .returned (msV ⟨7, m.fr, m.to, m.req, op0, rp0, m.tx, pt0, m.code, m.h⟩ (.slice none 0 0) (.slice none 0 0) (.slice none 0 0) (.slice none 0 0)) ∧ Below w.heap.size w w' := by
  obtain ⟨kd, fr, to, rq, ⟨ok, ⟨op_, oq, od⟩, nm, ⟨tp, tq, td⟩, asn, ov⟩, ⟨rc, ⟨rp_, rq_, rd⟩, rv, es⟩, ⟨xs, xb, xn⟩, ⟨pk, ⟨pp, pq, pd⟩, pas, ⟨sp, sq, sd⟩⟩, cd, ⟨hp, hq, hd⟩⟩ := m
  simp only [op0, rp0, tx0, pt0, hd0]
  have hM0 := fun v W => assert_miss (t := 128) (a := 114) (xT := 56) (z := .agg #[.int .i64 0, .int .i64 0, .int .i64 0, .int .i64 0, .bool false, .slice none 0 0, .int .i64 0, .int .i64 0, .bool false, .slice none 0 0, .int .i64 0]) Tryz.underlying114 rfl (by decide) (by kernel_rfl) v W
  have hM1 := fun v W => assert_miss (t := 128) (a := 116) (xT := 56) (z := .agg #[.int .i64 0, .int .i64 0, .int .i64 0, .int .i64 0, .bool false, .int .i64 0, .slice none 0 0]) Tryz.underlying116 rfl (by decide) (by kernel_rfl) v W
  have hM2 := fun v W => assert_miss (t := 128) (a := 118) (xT := 56) (z := .agg #[.int .i64 0, .int .i64 0, .int .i64 0, .int .i64 0, .int .i64 0, .int .i64 0, .bool false, .slice none 0 0, .int .i64 0, .int .i64 0, .bool false]) Tryz.underlying118 rfl (by decide) (by kernel_rfl) v W
  have hM3 := fun v W => assert_miss (t := 128) (a := 120) (xT := 56) (z := .agg #[.int .i64 0, .int .i64 0, .int .i64 0, .int .i64 0, .int .i64 0, .int .i64 0, .bool false, .slice none 0 0, .int .i64 0, .int .i64 0, .bool false, .int .i64 0, .int .i64 0, .int .i64 0, .bool false]) Tryz.underlying120 rfl (by decide) (by kernel_rfl) v W
  have hM4 := fun v W => assert_miss (t := 128) (a := 122) (xT := 56) (z := .agg #[.int .i64 0, .int .i64 0, .int .i64 0]) Tryz.underlying122 rfl (by decide) (by kernel_rfl) v W
  have hM5 := fun v W => assert_miss (t := 128) (a := 124) (xT := 56) (z := .agg #[.int .i64 0, .int .i64 0, .int .i64 0, .int .i64 0]) Tryz.underlying124 rfl (by decide) (by kernel_rfl) v W
  have hM6 := fun v W => assert_miss (t := 128) (a := 126) (xT := 56) (z := .agg #[.int .i64 0, .int .i64 0, .int .i64 0, .int .i64 0, .int .i64 0, .int .i64 0, .bool false]) Tryz.underlying126 rfl (by decide) (by kernel_rfl) v W
  have hM7 := fun v W => assert_hit (t := 128) (xT := 56) Tryz.underlying128 rfl v W
  go_enter Tryz.func38, Tryz.ntmps38
  repeat (first | (with_reducible refine guardStore (ty := 35) ?_; refine wpList_storeF (VarA.dr ((VarA.new1 w _ _ _).alloc _)) rfl rfl (by kernel_rfl) rfl (of_decide_eq_true rfl) rfl ?_; intro w' vR t_) | (with_reducible refine guardLoad (ty := 35) ?_; refine wpList_loadA (VarA.dr (((VarA.new w _ _).alloc _).alloc _)) rfl Tryz.underlying35 rfl (by kernel_rfl) ?_) | go_values | go_skip | go_guarded | go_step | go_upon)
  go_region
  repeat (first | (with_reducible refine guardStore (ty := 35) ?_; refine wpList_storeF (VarA.dr ((VarA.new1 w _ _ _).alloc _)) rfl rfl (by kernel_rfl) rfl (of_decide_eq_true rfl) rfl ?_; intro w' vR t_) | (with_reducible refine guardLoad (ty := 35) ?_; refine wpList_loadA (VarA.dr (((VarA.new w _ _).alloc _).alloc _)) rfl Tryz.underlying35 rfl (by kernel_rfl) ?_) | go_values | go_skip | go_guarded | go_step | go_upon)
  refine bodyPost_ret (results_cell_row Tryz.results38 _ _ _ _ _ _ _ rfl vR Tryz.underlying35 rfl (by kernel_rfl)) rfl ⟨rfl, ?_⟩
  exact Turned.below (by repeat (first | exact Below.refl _ _ | refine Below.al ?_ _ | refine Below.drew ?_ | refine below_drewN2 ?_ _)) (t_.one (S := fun b => w.heap.size ≤ b) (by omega)) (by simp [World.drew]; omega) (fun i hi => hi)
end Go.Proofs.YtbnjhjgjmckedaaGreat
end
