/- What the program takes of a message and gives back, kind by kind; no condition. -/
import Derived.Test.YtklhikadhohjbaaGreatMA06
namespace Go.Proofs.YtklhikadhohjbaaGreat
open Go.RowKit
set_option linter.unusedVariables false
set_option linter.unusedSimpArgs false
set_option maxRecDepth 100000

set_option maxHeartbeats 4000000 in
theorem content0 (m : MsD) (a1 a2 a3 a4 : Option Addr) (n1 n2 n3 n4 c1 c2 c3 c4 : Nat) (w : World) (hk : m.kind = 0) :
  Calls Tryz.prog 54 #[msV m (.slice a1 n1 c1) (.slice a2 n2 c2) (.slice a3 n3 c3) (.slice a4 n4 c4)] w fun e w' => e = .returned (.iface 189 (.agg #[.i m.req, .i m.op.kind, .i m.op.dir.sh, .i m.op.dir.ino, .bool m.op.dir.dir, .slice a1 n1 c1, .i m.op.to.sh, .i m.op.to.ino, .bool m.op.to.dir, .slice a2 n2 c2, .i m.op.val])) ∧ Below w.heap.size w w' := by
 obtain ⟨kd, fr, to, rq, ⟨ok, ⟨op_, oq, od⟩, nm, ⟨tp, tq, td⟩, asn, ov⟩, ⟨rc, ⟨rp_, rq_, rd⟩, rv, es⟩, ⟨xs, xb, xn⟩, ⟨pk, ⟨pp, pq, pd⟩, pas, ⟨sp, sq, sd⟩⟩, cd, ⟨hp, hq, hd⟩⟩ := m
 dsimp only at hk ⊢
 subst hk
 go_enter Tryz.func54, Tryz.ntmps54
 go_wp2
 go_ret
 exact ⟨rfl, by repeat (first | exact Below.refl _ _ | refine Below.al ?_ _ | refine below_drewN2 ?_ _)⟩
set_option maxHeartbeats 4000000 in
theorem content1 (m : MsD) (a1 a2 a3 a4 : Option Addr) (n1 n2 n3 n4 c1 c2 c3 c4 : Nat) (w : World) (hk : m.kind = 1) :
  Calls Tryz.prog 54 #[msV m (.slice a1 n1 c1) (.slice a2 n2 c2) (.slice a3 n3 c3) (.slice a4 n4 c4)] w fun e w' => e = .returned (.iface 191 (.agg #[.i m.req, .i m.rp.code, .i m.rp.h.sh, .i m.rp.h.ino, .bool m.rp.h.dir, .i m.rp.val, .slice a3 n3 c3])) ∧ Below w.heap.size w w' := by
 obtain ⟨kd, fr, to, rq, ⟨ok, ⟨op_, oq, od⟩, nm, ⟨tp, tq, td⟩, asn, ov⟩, ⟨rc, ⟨rp_, rq_, rd⟩, rv, es⟩, ⟨xs, xb, xn⟩, ⟨pk, ⟨pp, pq, pd⟩, pas, ⟨sp, sq, sd⟩⟩, cd, ⟨hp, hq, hd⟩⟩ := m
 dsimp only at hk ⊢
 subst hk
 go_enter Tryz.func54, Tryz.ntmps54
 go_wp2
 go_ret
 exact ⟨rfl, by repeat (first | exact Below.refl _ _ | refine Below.al ?_ _ | refine below_drewN2 ?_ _)⟩
set_option maxHeartbeats 4000000 in
theorem content2 (m : MsD) (a1 a2 a3 a4 : Option Addr) (n1 n2 n3 n4 c1 c2 c3 c4 : Nat) (w : World) (hk : m.kind = 2) :
  Calls Tryz.prog 54 #[msV m (.slice a1 n1 c1) (.slice a2 n2 c2) (.slice a3 n3 c3) (.slice a4 n4 c4)] w fun e w' => e = .returned (.iface 193 (.agg #[.i m.tx.1, .i m.tx.2.1, .i m.tx.2.2, .i m.pt.kind, .i m.pt.h.sh, .i m.pt.h.ino, .bool m.pt.h.dir, .slice a4 n4 c4, .i m.pt.to.sh, .i m.pt.to.ino, .bool m.pt.to.dir])) ∧ Below w.heap.size w w' := by
 obtain ⟨kd, fr, to, rq, ⟨ok, ⟨op_, oq, od⟩, nm, ⟨tp, tq, td⟩, asn, ov⟩, ⟨rc, ⟨rp_, rq_, rd⟩, rv, es⟩, ⟨xs, xb, xn⟩, ⟨pk, ⟨pp, pq, pd⟩, pas, ⟨sp, sq, sd⟩⟩, cd, ⟨hp, hq, hd⟩⟩ := m
 dsimp only at hk ⊢
 subst hk
 go_enter Tryz.func54, Tryz.ntmps54
 go_wp2
 go_ret
 exact ⟨rfl, by repeat (first | exact Below.refl _ _ | refine Below.al ?_ _ | refine below_drewN2 ?_ _)⟩
set_option maxHeartbeats 4000000 in
theorem content3 (m : MsD) (a1 a2 a3 a4 : Option Addr) (n1 n2 n3 n4 c1 c2 c3 c4 : Nat) (w : World) (hk : m.kind = 3) :
  Calls Tryz.prog 54 #[msV m (.slice a1 n1 c1) (.slice a2 n2 c2) (.slice a3 n3 c3) (.slice a4 n4 c4)] w fun e w' => e = .returned (.iface 195 (.agg #[.i m.tx.1, .i m.tx.2.1, .i m.tx.2.2, .i m.pt.kind, .i m.pt.h.sh, .i m.pt.h.ino, .bool m.pt.h.dir, .slice a4 n4 c4, .i m.pt.to.sh, .i m.pt.to.ino, .bool m.pt.to.dir, .i m.code, .i m.h.sh, .i m.h.ino, .bool m.h.dir])) ∧ Below w.heap.size w w' := by
 obtain ⟨kd, fr, to, rq, ⟨ok, ⟨op_, oq, od⟩, nm, ⟨tp, tq, td⟩, asn, ov⟩, ⟨rc, ⟨rp_, rq_, rd⟩, rv, es⟩, ⟨xs, xb, xn⟩, ⟨pk, ⟨pp, pq, pd⟩, pas, ⟨sp, sq, sd⟩⟩, cd, ⟨hp, hq, hd⟩⟩ := m
 dsimp only at hk ⊢
 subst hk
 go_enter Tryz.func54, Tryz.ntmps54
 go_wp2
 go_ret
 exact ⟨rfl, by repeat (first | exact Below.refl _ _ | refine Below.al ?_ _ | refine below_drewN2 ?_ _)⟩
set_option maxHeartbeats 4000000 in
theorem content4 (m : MsD) (a1 a2 a3 a4 : Option Addr) (n1 n2 n3 n4 c1 c2 c3 c4 : Nat) (w : World) (hk : m.kind = 4) :
  Calls Tryz.prog 54 #[msV m (.slice a1 n1 c1) (.slice a2 n2 c2) (.slice a3 n3 c3) (.slice a4 n4 c4)] w fun e w' => e = .returned (.iface 197 (.agg #[.i m.tx.1, .i m.tx.2.1, .i m.tx.2.2])) ∧ Below w.heap.size w w' := by
 obtain ⟨kd, fr, to, rq, ⟨ok, ⟨op_, oq, od⟩, nm, ⟨tp, tq, td⟩, asn, ov⟩, ⟨rc, ⟨rp_, rq_, rd⟩, rv, es⟩, ⟨xs, xb, xn⟩, ⟨pk, ⟨pp, pq, pd⟩, pas, ⟨sp, sq, sd⟩⟩, cd, ⟨hp, hq, hd⟩⟩ := m
 dsimp only at hk ⊢
 subst hk
 go_enter Tryz.func54, Tryz.ntmps54
 go_wp2
 go_ret
 exact ⟨rfl, by repeat (first | exact Below.refl _ _ | refine Below.al ?_ _ | refine below_drewN2 ?_ _)⟩
set_option maxHeartbeats 4000000 in
theorem content5 (m : MsD) (a1 a2 a3 a4 : Option Addr) (n1 n2 n3 n4 c1 c2 c3 c4 : Nat) (w : World) (hk : m.kind = 5) :
  Calls Tryz.prog 54 #[msV m (.slice a1 n1 c1) (.slice a2 n2 c2) (.slice a3 n3 c3) (.slice a4 n4 c4)] w fun e w' => e = .returned (.iface 199 (.agg #[.i m.tx.1, .i m.tx.2.1, .i m.tx.2.2, .i m.code])) ∧ Below w.heap.size w w' := by
 obtain ⟨kd, fr, to, rq, ⟨ok, ⟨op_, oq, od⟩, nm, ⟨tp, tq, td⟩, asn, ov⟩, ⟨rc, ⟨rp_, rq_, rd⟩, rv, es⟩, ⟨xs, xb, xn⟩, ⟨pk, ⟨pp, pq, pd⟩, pas, ⟨sp, sq, sd⟩⟩, cd, ⟨hp, hq, hd⟩⟩ := m
 dsimp only at hk ⊢
 subst hk
 go_enter Tryz.func54, Tryz.ntmps54
 go_wp2
 go_ret
 exact ⟨rfl, by repeat (first | exact Below.refl _ _ | refine Below.al ?_ _ | refine below_drewN2 ?_ _)⟩
set_option maxHeartbeats 4000000 in
theorem content6 (m : MsD) (a1 a2 a3 a4 : Option Addr) (n1 n2 n3 n4 c1 c2 c3 c4 : Nat) (w : World) (hk : m.kind = 6) :
  Calls Tryz.prog 54 #[msV m (.slice a1 n1 c1) (.slice a2 n2 c2) (.slice a3 n3 c3) (.slice a4 n4 c4)] w fun e w' => e = .returned (.iface 201 (.agg #[.i m.tx.1, .i m.tx.2.1, .i m.tx.2.2, .i m.req, .i m.h.sh, .i m.h.ino, .bool m.h.dir])) ∧ Below w.heap.size w w' := by
 obtain ⟨kd, fr, to, rq, ⟨ok, ⟨op_, oq, od⟩, nm, ⟨tp, tq, td⟩, asn, ov⟩, ⟨rc, ⟨rp_, rq_, rd⟩, rv, es⟩, ⟨xs, xb, xn⟩, ⟨pk, ⟨pp, pq, pd⟩, pas, ⟨sp, sq, sd⟩⟩, cd, ⟨hp, hq, hd⟩⟩ := m
 dsimp only at hk ⊢
 subst hk
 go_enter Tryz.func54, Tryz.ntmps54
 go_wp2
 go_ret
 exact ⟨rfl, by repeat (first | exact Below.refl _ _ | refine Below.al ?_ _ | refine below_drewN2 ?_ _)⟩
set_option maxHeartbeats 4000000 in
theorem content7 (m : MsD) (a1 a2 a3 a4 : Option Addr) (n1 n2 n3 n4 c1 c2 c3 c4 : Nat) (w : World) (hk : m.kind = 7) :
  Calls Tryz.prog 54 #[msV m (.slice a1 n1 c1) (.slice a2 n2 c2) (.slice a3 n3 c3) (.slice a4 n4 c4)] w fun e w' => e = .returned (.iface 203 (.agg #[.i m.tx.1, .i m.tx.2.1, .i m.tx.2.2, .i m.req, .i m.code, .i m.h.sh, .i m.h.ino, .bool m.h.dir])) ∧ Below w.heap.size w w' := by
 obtain ⟨kd, fr, to, rq, ⟨ok, ⟨op_, oq, od⟩, nm, ⟨tp, tq, td⟩, asn, ov⟩, ⟨rc, ⟨rp_, rq_, rd⟩, rv, es⟩, ⟨xs, xb, xn⟩, ⟨pk, ⟨pp, pq, pd⟩, pas, ⟨sp, sq, sd⟩⟩, cd, ⟨hp, hq, hd⟩⟩ := m
 dsimp only at hk ⊢
 subst hk
 go_enter Tryz.func54, Tryz.ntmps54
 go_wp2
 go_ret
 exact ⟨rfl, by repeat (first | exact Below.refl _ _ | refine Below.al ?_ _ | refine below_drewN2 ?_ _)⟩
set_option maxHeartbeats 4000000 in
theorem with0 (m : MsD) (a1 a2 a3 a4 : Option Addr) (n1 n2 n3 n4 c1 c2 c3 c4 : Nat) (w : World) :
  Calls Tryz.prog 67 #[msV ⟨0, m.fr, m.to, 0, op0, rp0, tx0, pt0, 0, hd0⟩ (.slice none 0 0) (.slice none 0 0) (.slice none 0 0) (.slice none 0 0), .iface 189 (.agg #[.i m.req, .i m.op.kind, .i m.op.dir.sh, .i m.op.dir.ino, .bool m.op.dir.dir, .slice a1 n1 c1, .i m.op.to.sh, .i m.op.to.ino, .bool m.op.to.dir, .slice a2 n2 c2, .i m.op.val])] w fun e w' => e = .returned (msV ⟨0, m.fr, m.to, m.req, m.op, rp0, tx0, pt0, 0, hd0⟩ (.slice a1 n1 c1) (.slice a2 n2 c2) (.slice none 0 0) (.slice none 0 0)) ∧ Below w.heap.size w w' := by
 obtain ⟨kd, fr, to, rq, ⟨ok, ⟨op_, oq, od⟩, nm, ⟨tp, tq, td⟩, asn, ov⟩, ⟨rc, ⟨rp_, rq_, rd⟩, rv, es⟩, ⟨xs, xb, xn⟩, ⟨pk, ⟨pp, pq, pd⟩, pas, ⟨sp, sq, sd⟩⟩, cd, ⟨hp, hq, hd⟩⟩ := m
 simp only [op0, rp0, tx0, pt0, hd0]
 have hM0 := fun v W => assert_hit (t := 189) (xT := 96) Tryz.underlying189 rfl v W
 go_enter Tryz.func67, Tryz.ntmps67
 repeat (first | (with_reducible refine guardStore (ty := 35) ?_; refine sF (VarA.dr ((VarA.new1 w _ _ _).alloc _)) rfl rfl (by kernel_rfl) rfl rfl ?_; intro w' vR t_) | (with_reducible refine guardLoad (ty := 35) ?_; refine wpList_loadA (VarA.dr (((VarA.new w _ _).alloc _).alloc _)) rfl Tryz.underlying35 rfl (by kernel_rfl) ?_) | go_values | go_skip | go_guarded | go_step | go_upon)
 go_region
 repeat (first | (with_reducible refine guardStore (ty := 35) ?_; refine sF (VarA.dr ((VarA.new1 w _ _ _).alloc _)) rfl rfl (by kernel_rfl) rfl rfl ?_; intro w' vR t_) | (with_reducible refine guardLoad (ty := 35) ?_; refine wpList_loadA (VarA.dr (((VarA.new w _ _).alloc _).alloc _)) rfl Tryz.underlying35 rfl (by kernel_rfl) ?_) | go_values | go_skip | go_guarded | go_step | go_upon)
 refine bodyPost_ret (results_cell_row Tryz.results67 _ _ _ _ _ _ _ rfl vR Tryz.underlying35 rfl (by kernel_rfl)) rfl ⟨rfl, ?_⟩
 exact Turned.below (by repeat (first | exact Below.refl _ _ | refine Below.al ?_ _ | refine Below.drew ?_ | refine below_drewN2 ?_ _)) (t_.one (S := fun b => w.heap.size ≤ b) (by omega)) (by simp [World.drew]; omega) (fun i hi => hi)
set_option maxHeartbeats 4000000 in
theorem with1 (m : MsD) (a1 a2 a3 a4 : Option Addr) (n1 n2 n3 n4 c1 c2 c3 c4 : Nat) (w : World) :
  Calls Tryz.prog 67 #[msV ⟨1, m.fr, m.to, 0, op0, rp0, tx0, pt0, 0, hd0⟩ (.slice none 0 0) (.slice none 0 0) (.slice none 0 0) (.slice none 0 0), .iface 191 (.agg #[.i m.req, .i m.rp.code, .i m.rp.h.sh, .i m.rp.h.ino, .bool m.rp.h.dir, .i m.rp.val, .slice a3 n3 c3])] w fun e w' => e = .returned (msV ⟨1, m.fr, m.to, m.req, op0, m.rp, tx0, pt0, 0, hd0⟩ (.slice none 0 0) (.slice none 0 0) (.slice a3 n3 c3) (.slice none 0 0)) ∧ Below w.heap.size w w' := by
 obtain ⟨kd, fr, to, rq, ⟨ok, ⟨op_, oq, od⟩, nm, ⟨tp, tq, td⟩, asn, ov⟩, ⟨rc, ⟨rp_, rq_, rd⟩, rv, es⟩, ⟨xs, xb, xn⟩, ⟨pk, ⟨pp, pq, pd⟩, pas, ⟨sp, sq, sd⟩⟩, cd, ⟨hp, hq, hd⟩⟩ := m
 simp only [op0, rp0, tx0, pt0, hd0]
 have hM0 := fun v W => assert_miss (t := 191) (a := 189) (xT := 96) (z := .agg #[.i 0, .i 0, .i 0, .i 0, .bool false, .slice none 0 0, .i 0, .i 0, .bool false, .slice none 0 0, .i 0]) Tryz.underlying189 rfl (by decide) (by kernel_rfl) v W
 have hM1 := fun v W => assert_hit (t := 191) (xT := 96) Tryz.underlying191 rfl v W
 go_enter Tryz.func67, Tryz.ntmps67
 repeat (first | (with_reducible refine guardStore (ty := 35) ?_; refine sF (VarA.dr ((VarA.new1 w _ _ _).alloc _)) rfl rfl (by kernel_rfl) rfl rfl ?_; intro w' vR t_) | (with_reducible refine guardLoad (ty := 35) ?_; refine wpList_loadA (VarA.dr (((VarA.new w _ _).alloc _).alloc _)) rfl Tryz.underlying35 rfl (by kernel_rfl) ?_) | go_values | go_skip | go_guarded | go_step | go_upon)
 go_region
 repeat (first | (with_reducible refine guardStore (ty := 35) ?_; refine sF (VarA.dr ((VarA.new1 w _ _ _).alloc _)) rfl rfl (by kernel_rfl) rfl rfl ?_; intro w' vR t_) | (with_reducible refine guardLoad (ty := 35) ?_; refine wpList_loadA (VarA.dr (((VarA.new w _ _).alloc _).alloc _)) rfl Tryz.underlying35 rfl (by kernel_rfl) ?_) | go_values | go_skip | go_guarded | go_step | go_upon)
 refine bodyPost_ret (results_cell_row Tryz.results67 _ _ _ _ _ _ _ rfl vR Tryz.underlying35 rfl (by kernel_rfl)) rfl ⟨rfl, ?_⟩
 exact Turned.below (by repeat (first | exact Below.refl _ _ | refine Below.al ?_ _ | refine Below.drew ?_ | refine below_drewN2 ?_ _)) (t_.one (S := fun b => w.heap.size ≤ b) (by omega)) (by simp [World.drew]; omega) (fun i hi => hi)
set_option maxHeartbeats 4000000 in
theorem with2 (m : MsD) (a1 a2 a3 a4 : Option Addr) (n1 n2 n3 n4 c1 c2 c3 c4 : Nat) (w : World) :
  Calls Tryz.prog 67 #[msV ⟨2, m.fr, m.to, 0, op0, rp0, tx0, pt0, 0, hd0⟩ (.slice none 0 0) (.slice none 0 0) (.slice none 0 0) (.slice none 0 0), .iface 193 (.agg #[.i m.tx.1, .i m.tx.2.1, .i m.tx.2.2, .i m.pt.kind, .i m.pt.h.sh, .i m.pt.h.ino, .bool m.pt.h.dir, .slice a4 n4 c4, .i m.pt.to.sh, .i m.pt.to.ino, .bool m.pt.to.dir])] w fun e w' => e = .returned (msV ⟨2, m.fr, m.to, 0, op0, rp0, m.tx, m.pt, 0, hd0⟩ (.slice none 0 0) (.slice none 0 0) (.slice none 0 0) (.slice a4 n4 c4)) ∧ Below w.heap.size w w' := by
 obtain ⟨kd, fr, to, rq, ⟨ok, ⟨op_, oq, od⟩, nm, ⟨tp, tq, td⟩, asn, ov⟩, ⟨rc, ⟨rp_, rq_, rd⟩, rv, es⟩, ⟨xs, xb, xn⟩, ⟨pk, ⟨pp, pq, pd⟩, pas, ⟨sp, sq, sd⟩⟩, cd, ⟨hp, hq, hd⟩⟩ := m
 simp only [op0, rp0, tx0, pt0, hd0]
 have hM0 := fun v W => assert_miss (t := 193) (a := 189) (xT := 96) (z := .agg #[.i 0, .i 0, .i 0, .i 0, .bool false, .slice none 0 0, .i 0, .i 0, .bool false, .slice none 0 0, .i 0]) Tryz.underlying189 rfl (by decide) (by kernel_rfl) v W
 have hM1 := fun v W => assert_miss (t := 193) (a := 191) (xT := 96) (z := .agg #[.i 0, .i 0, .i 0, .i 0, .bool false, .i 0, .slice none 0 0]) Tryz.underlying191 rfl (by decide) (by kernel_rfl) v W
 have hM2 := fun v W => assert_hit (t := 193) (xT := 96) Tryz.underlying193 rfl v W
 go_enter Tryz.func67, Tryz.ntmps67
 repeat (first | (with_reducible refine guardStore (ty := 35) ?_; refine sF (VarA.dr ((VarA.new1 w _ _ _).alloc _)) rfl rfl (by kernel_rfl) rfl rfl ?_; intro w' vR t_) | (with_reducible refine guardLoad (ty := 35) ?_; refine wpList_loadA (VarA.dr (((VarA.new w _ _).alloc _).alloc _)) rfl Tryz.underlying35 rfl (by kernel_rfl) ?_) | go_values | go_skip | go_guarded | go_step | go_upon)
 go_region
 repeat (first | (with_reducible refine guardStore (ty := 35) ?_; refine sF (VarA.dr ((VarA.new1 w _ _ _).alloc _)) rfl rfl (by kernel_rfl) rfl rfl ?_; intro w' vR t_) | (with_reducible refine guardLoad (ty := 35) ?_; refine wpList_loadA (VarA.dr (((VarA.new w _ _).alloc _).alloc _)) rfl Tryz.underlying35 rfl (by kernel_rfl) ?_) | go_values | go_skip | go_guarded | go_step | go_upon)
 refine bodyPost_ret (results_cell_row Tryz.results67 _ _ _ _ _ _ _ rfl vR Tryz.underlying35 rfl (by kernel_rfl)) rfl ⟨rfl, ?_⟩
 exact Turned.below (by repeat (first | exact Below.refl _ _ | refine Below.al ?_ _ | refine Below.drew ?_ | refine below_drewN2 ?_ _)) (t_.one (S := fun b => w.heap.size ≤ b) (by omega)) (by simp [World.drew]; omega) (fun i hi => hi)
set_option maxHeartbeats 4000000 in
theorem with3 (m : MsD) (a1 a2 a3 a4 : Option Addr) (n1 n2 n3 n4 c1 c2 c3 c4 : Nat) (w : World) :
  Calls Tryz.prog 67 #[msV ⟨3, m.fr, m.to, 0, op0, rp0, tx0, pt0, 0, hd0⟩ (.slice none 0 0) (.slice none 0 0) (.slice none 0 0) (.slice none 0 0), .iface 195 (.agg #[.i m.tx.1, .i m.tx.2.1, .i m.tx.2.2, .i m.pt.kind, .i m.pt.h.sh, .i m.pt.h.ino, .bool m.pt.h.dir, .slice a4 n4 c4, .i m.pt.to.sh, .i m.pt.to.ino, .bool m.pt.to.dir, .i m.code, .i m.h.sh, .i m.h.ino, .bool m.h.dir])] w fun e w' => e = .returned (msV ⟨3, m.fr, m.to, 0, op0, rp0, m.tx, m.pt, m.code, m.h⟩ (.slice none 0 0) (.slice none 0 0) (.slice none 0 0) (.slice a4 n4 c4)) ∧ Below w.heap.size w w' := by
 obtain ⟨kd, fr, to, rq, ⟨ok, ⟨op_, oq, od⟩, nm, ⟨tp, tq, td⟩, asn, ov⟩, ⟨rc, ⟨rp_, rq_, rd⟩, rv, es⟩, ⟨xs, xb, xn⟩, ⟨pk, ⟨pp, pq, pd⟩, pas, ⟨sp, sq, sd⟩⟩, cd, ⟨hp, hq, hd⟩⟩ := m
 simp only [op0, rp0, tx0, pt0, hd0]
 have hM0 := fun v W => assert_miss (t := 195) (a := 189) (xT := 96) (z := .agg #[.i 0, .i 0, .i 0, .i 0, .bool false, .slice none 0 0, .i 0, .i 0, .bool false, .slice none 0 0, .i 0]) Tryz.underlying189 rfl (by decide) (by kernel_rfl) v W
 have hM1 := fun v W => assert_miss (t := 195) (a := 191) (xT := 96) (z := .agg #[.i 0, .i 0, .i 0, .i 0, .bool false, .i 0, .slice none 0 0]) Tryz.underlying191 rfl (by decide) (by kernel_rfl) v W
 have hM2 := fun v W => assert_miss (t := 195) (a := 193) (xT := 96) (z := .agg #[.i 0, .i 0, .i 0, .i 0, .i 0, .i 0, .bool false, .slice none 0 0, .i 0, .i 0, .bool false]) Tryz.underlying193 rfl (by decide) (by kernel_rfl) v W
 have hM3 := fun v W => assert_hit (t := 195) (xT := 96) Tryz.underlying195 rfl v W
 go_enter Tryz.func67, Tryz.ntmps67
 repeat (first | (with_reducible refine guardStore (ty := 35) ?_; refine sF (VarA.dr ((VarA.new1 w _ _ _).alloc _)) rfl rfl (by kernel_rfl) rfl rfl ?_; intro w' vR t_) | (with_reducible refine guardLoad (ty := 35) ?_; refine wpList_loadA (VarA.dr (((VarA.new w _ _).alloc _).alloc _)) rfl Tryz.underlying35 rfl (by kernel_rfl) ?_) | go_values | go_skip | go_guarded | go_step | go_upon)
 go_region
 repeat (first | (with_reducible refine guardStore (ty := 35) ?_; refine sF (VarA.dr ((VarA.new1 w _ _ _).alloc _)) rfl rfl (by kernel_rfl) rfl rfl ?_; intro w' vR t_) | (with_reducible refine guardLoad (ty := 35) ?_; refine wpList_loadA (VarA.dr (((VarA.new w _ _).alloc _).alloc _)) rfl Tryz.underlying35 rfl (by kernel_rfl) ?_) | go_values | go_skip | go_guarded | go_step | go_upon)
 refine bodyPost_ret (results_cell_row Tryz.results67 _ _ _ _ _ _ _ rfl vR Tryz.underlying35 rfl (by kernel_rfl)) rfl ⟨rfl, ?_⟩
 exact Turned.below (by repeat (first | exact Below.refl _ _ | refine Below.al ?_ _ | refine Below.drew ?_ | refine below_drewN2 ?_ _)) (t_.one (S := fun b => w.heap.size ≤ b) (by omega)) (by simp [World.drew]; omega) (fun i hi => hi)
set_option maxHeartbeats 4000000 in
theorem with4 (m : MsD) (a1 a2 a3 a4 : Option Addr) (n1 n2 n3 n4 c1 c2 c3 c4 : Nat) (w : World) :
  Calls Tryz.prog 67 #[msV ⟨4, m.fr, m.to, 0, op0, rp0, tx0, pt0, 0, hd0⟩ (.slice none 0 0) (.slice none 0 0) (.slice none 0 0) (.slice none 0 0), .iface 197 (.agg #[.i m.tx.1, .i m.tx.2.1, .i m.tx.2.2])] w fun e w' => e = .returned (msV ⟨4, m.fr, m.to, 0, op0, rp0, m.tx, pt0, 0, hd0⟩ (.slice none 0 0) (.slice none 0 0) (.slice none 0 0) (.slice none 0 0)) ∧ Below w.heap.size w w' := by
 obtain ⟨kd, fr, to, rq, ⟨ok, ⟨op_, oq, od⟩, nm, ⟨tp, tq, td⟩, asn, ov⟩, ⟨rc, ⟨rp_, rq_, rd⟩, rv, es⟩, ⟨xs, xb, xn⟩, ⟨pk, ⟨pp, pq, pd⟩, pas, ⟨sp, sq, sd⟩⟩, cd, ⟨hp, hq, hd⟩⟩ := m
 simp only [op0, rp0, tx0, pt0, hd0]
 have hM0 := fun v W => assert_miss (t := 197) (a := 189) (xT := 96) (z := .agg #[.i 0, .i 0, .i 0, .i 0, .bool false, .slice none 0 0, .i 0, .i 0, .bool false, .slice none 0 0, .i 0]) Tryz.underlying189 rfl (by decide) (by kernel_rfl) v W
 have hM1 := fun v W => assert_miss (t := 197) (a := 191) (xT := 96) (z := .agg #[.i 0, .i 0, .i 0, .i 0, .bool false, .i 0, .slice none 0 0]) Tryz.underlying191 rfl (by decide) (by kernel_rfl) v W
 have hM2 := fun v W => assert_miss (t := 197) (a := 193) (xT := 96) (z := .agg #[.i 0, .i 0, .i 0, .i 0, .i 0, .i 0, .bool false, .slice none 0 0, .i 0, .i 0, .bool false]) Tryz.underlying193 rfl (by decide) (by kernel_rfl) v W
 have hM3 := fun v W => assert_miss (t := 197) (a := 195) (xT := 96) (z := .agg #[.i 0, .i 0, .i 0, .i 0, .i 0, .i 0, .bool false, .slice none 0 0, .i 0, .i 0, .bool false, .i 0, .i 0, .i 0, .bool false]) Tryz.underlying195 rfl (by decide) (by kernel_rfl) v W
 have hM4 := fun v W => assert_hit (t := 197) (xT := 96) Tryz.underlying197 rfl v W
 go_enter Tryz.func67, Tryz.ntmps67
 repeat (first | (with_reducible refine guardStore (ty := 35) ?_; refine sF ((VarA.new1 w _ _ _).alloc _) rfl rfl (by kernel_rfl) rfl rfl ?_; intro w' vR t_) | (with_reducible refine guardLoad (ty := 35) ?_; refine wpList_loadA (((VarA.new w _ _).alloc _).alloc _) rfl Tryz.underlying35 rfl (by kernel_rfl) ?_) | go_values | go_skip | go_guarded | go_step | go_upon)
 refine bodyPost_ret (results_cell_row Tryz.results67 _ _ _ _ _ _ _ rfl vR Tryz.underlying35 rfl (by kernel_rfl)) rfl ⟨rfl, ?_⟩
 exact Turned.below (by repeat (first | exact Below.refl _ _ | refine Below.al ?_ _ | refine Below.drew ?_ | refine below_drewN2 ?_ _)) (t_.one (S := fun b => w.heap.size ≤ b) (by omega)) (by simp [World.drew]; omega) (fun i hi => hi)
set_option maxHeartbeats 4000000 in
theorem with5 (m : MsD) (a1 a2 a3 a4 : Option Addr) (n1 n2 n3 n4 c1 c2 c3 c4 : Nat) (w : World) :
  Calls Tryz.prog 67 #[msV ⟨5, m.fr, m.to, 0, op0, rp0, tx0, pt0, 0, hd0⟩ (.slice none 0 0) (.slice none 0 0) (.slice none 0 0) (.slice none 0 0), .iface 199 (.agg #[.i m.tx.1, .i m.tx.2.1, .i m.tx.2.2, .i m.code])] w fun e w' => e = .returned (msV ⟨5, m.fr, m.to, 0, op0, rp0, m.tx, pt0, m.code, hd0⟩ (.slice none 0 0) (.slice none 0 0) (.slice none 0 0) (.slice none 0 0)) ∧ Below w.heap.size w w' := by
 obtain ⟨kd, fr, to, rq, ⟨ok, ⟨op_, oq, od⟩, nm, ⟨tp, tq, td⟩, asn, ov⟩, ⟨rc, ⟨rp_, rq_, rd⟩, rv, es⟩, ⟨xs, xb, xn⟩, ⟨pk, ⟨pp, pq, pd⟩, pas, ⟨sp, sq, sd⟩⟩, cd, ⟨hp, hq, hd⟩⟩ := m
 simp only [op0, rp0, tx0, pt0, hd0]
 have hM0 := fun v W => assert_miss (t := 199) (a := 189) (xT := 96) (z := .agg #[.i 0, .i 0, .i 0, .i 0, .bool false, .slice none 0 0, .i 0, .i 0, .bool false, .slice none 0 0, .i 0]) Tryz.underlying189 rfl (by decide) (by kernel_rfl) v W
 have hM1 := fun v W => assert_miss (t := 199) (a := 191) (xT := 96) (z := .agg #[.i 0, .i 0, .i 0, .i 0, .bool false, .i 0, .slice none 0 0]) Tryz.underlying191 rfl (by decide) (by kernel_rfl) v W
 have hM2 := fun v W => assert_miss (t := 199) (a := 193) (xT := 96) (z := .agg #[.i 0, .i 0, .i 0, .i 0, .i 0, .i 0, .bool false, .slice none 0 0, .i 0, .i 0, .bool false]) Tryz.underlying193 rfl (by decide) (by kernel_rfl) v W
 have hM3 := fun v W => assert_miss (t := 199) (a := 195) (xT := 96) (z := .agg #[.i 0, .i 0, .i 0, .i 0, .i 0, .i 0, .bool false, .slice none 0 0, .i 0, .i 0, .bool false, .i 0, .i 0, .i 0, .bool false]) Tryz.underlying195 rfl (by decide) (by kernel_rfl) v W
 have hM4 := fun v W => assert_miss (t := 199) (a := 197) (xT := 96) (z := .agg #[.i 0, .i 0, .i 0]) Tryz.underlying197 rfl (by decide) (by kernel_rfl) v W
 have hM5 := fun v W => assert_hit (t := 199) (xT := 96) Tryz.underlying199 rfl v W
 go_enter Tryz.func67, Tryz.ntmps67
 repeat (first | (with_reducible refine guardStore (ty := 35) ?_; refine sF (VarA.dr ((VarA.new1 w _ _ _).alloc _)) rfl rfl (by kernel_rfl) rfl rfl ?_; intro w' vR t_) | (with_reducible refine guardLoad (ty := 35) ?_; refine wpList_loadA (VarA.dr (((VarA.new w _ _).alloc _).alloc _)) rfl Tryz.underlying35 rfl (by kernel_rfl) ?_) | go_values | go_skip | go_guarded | go_step | go_upon)
 go_region
 repeat (first | (with_reducible refine guardStore (ty := 35) ?_; refine sF (VarA.dr ((VarA.new1 w _ _ _).alloc _)) rfl rfl (by kernel_rfl) rfl rfl ?_; intro w' vR t_) | (with_reducible refine guardLoad (ty := 35) ?_; refine wpList_loadA (VarA.dr (((VarA.new w _ _).alloc _).alloc _)) rfl Tryz.underlying35 rfl (by kernel_rfl) ?_) | go_values | go_skip | go_guarded | go_step | go_upon)
 refine bodyPost_ret (results_cell_row Tryz.results67 _ _ _ _ _ _ _ rfl vR Tryz.underlying35 rfl (by kernel_rfl)) rfl ⟨rfl, ?_⟩
 exact Turned.below (by repeat (first | exact Below.refl _ _ | refine Below.al ?_ _ | refine Below.drew ?_ | refine below_drewN2 ?_ _)) (t_.one (S := fun b => w.heap.size ≤ b) (by omega)) (by simp [World.drew]; omega) (fun i hi => hi)
set_option maxHeartbeats 4000000 in
theorem with6 (m : MsD) (a1 a2 a3 a4 : Option Addr) (n1 n2 n3 n4 c1 c2 c3 c4 : Nat) (w : World) :
  Calls Tryz.prog 67 #[msV ⟨6, m.fr, m.to, 0, op0, rp0, tx0, pt0, 0, hd0⟩ (.slice none 0 0) (.slice none 0 0) (.slice none 0 0) (.slice none 0 0), .iface 201 (.agg #[.i m.tx.1, .i m.tx.2.1, .i m.tx.2.2, .i m.req, .i m.h.sh, .i m.h.ino, .bool m.h.dir])] w fun e w' => e = .returned (msV ⟨6, m.fr, m.to, m.req, op0, rp0, m.tx, pt0, 0, m.h⟩ (.slice none 0 0) (.slice none 0 0) (.slice none 0 0) (.slice none 0 0)) ∧ Below w.heap.size w w' := by
 obtain ⟨kd, fr, to, rq, ⟨ok, ⟨op_, oq, od⟩, nm, ⟨tp, tq, td⟩, asn, ov⟩, ⟨rc, ⟨rp_, rq_, rd⟩, rv, es⟩, ⟨xs, xb, xn⟩, ⟨pk, ⟨pp, pq, pd⟩, pas, ⟨sp, sq, sd⟩⟩, cd, ⟨hp, hq, hd⟩⟩ := m
 simp only [op0, rp0, tx0, pt0, hd0]
 have hM0 := fun v W => assert_miss (t := 201) (a := 189) (xT := 96) (z := .agg #[.i 0, .i 0, .i 0, .i 0, .bool false, .slice none 0 0, .i 0, .i 0, .bool false, .slice none 0 0, .i 0]) Tryz.underlying189 rfl (by decide) (by kernel_rfl) v W
 have hM1 := fun v W => assert_miss (t := 201) (a := 191) (xT := 96) (z := .agg #[.i 0, .i 0, .i 0, .i 0, .bool false, .i 0, .slice none 0 0]) Tryz.underlying191 rfl (by decide) (by kernel_rfl) v W
 have hM2 := fun v W => assert_miss (t := 201) (a := 193) (xT := 96) (z := .agg #[.i 0, .i 0, .i 0, .i 0, .i 0, .i 0, .bool false, .slice none 0 0, .i 0, .i 0, .bool false]) Tryz.underlying193 rfl (by decide) (by kernel_rfl) v W
 have hM3 := fun v W => assert_miss (t := 201) (a := 195) (xT := 96) (z := .agg #[.i 0, .i 0, .i 0, .i 0, .i 0, .i 0, .bool false, .slice none 0 0, .i 0, .i 0, .bool false, .i 0, .i 0, .i 0, .bool false]) Tryz.underlying195 rfl (by decide) (by kernel_rfl) v W
 have hM4 := fun v W => assert_miss (t := 201) (a := 197) (xT := 96) (z := .agg #[.i 0, .i 0, .i 0]) Tryz.underlying197 rfl (by decide) (by kernel_rfl) v W
 have hM5 := fun v W => assert_miss (t := 201) (a := 199) (xT := 96) (z := .agg #[.i 0, .i 0, .i 0, .i 0]) Tryz.underlying199 rfl (by decide) (by kernel_rfl) v W
 have hM6 := fun v W => assert_hit (t := 201) (xT := 96) Tryz.underlying201 rfl v W
 go_enter Tryz.func67, Tryz.ntmps67
 repeat (first | (with_reducible refine guardStore (ty := 35) ?_; refine sF (VarA.dr ((VarA.new1 w _ _ _).alloc _)) rfl rfl (by kernel_rfl) rfl rfl ?_; intro w' vR t_) | (with_reducible refine guardLoad (ty := 35) ?_; refine wpList_loadA (VarA.dr (((VarA.new w _ _).alloc _).alloc _)) rfl Tryz.underlying35 rfl (by kernel_rfl) ?_) | go_values | go_skip | go_guarded | go_step | go_upon)
 go_region
 repeat (first | (with_reducible refine guardStore (ty := 35) ?_; refine sF (VarA.dr ((VarA.new1 w _ _ _).alloc _)) rfl rfl (by kernel_rfl) rfl rfl ?_; intro w' vR t_) | (with_reducible refine guardLoad (ty := 35) ?_; refine wpList_loadA (VarA.dr (((VarA.new w _ _).alloc _).alloc _)) rfl Tryz.underlying35 rfl (by kernel_rfl) ?_) | go_values | go_skip | go_guarded | go_step | go_upon)
 refine bodyPost_ret (results_cell_row Tryz.results67 _ _ _ _ _ _ _ rfl vR Tryz.underlying35 rfl (by kernel_rfl)) rfl ⟨rfl, ?_⟩
 exact Turned.below (by repeat (first | exact Below.refl _ _ | refine Below.al ?_ _ | refine Below.drew ?_ | refine below_drewN2 ?_ _)) (t_.one (S := fun b => w.heap.size ≤ b) (by omega)) (by simp [World.drew]; omega) (fun i hi => hi)
set_option maxHeartbeats 4000000 in
theorem with7 (m : MsD) (a1 a2 a3 a4 : Option Addr) (n1 n2 n3 n4 c1 c2 c3 c4 : Nat) (w : World) :
  Calls Tryz.prog 67 #[msV ⟨7, m.fr, m.to, 0, op0, rp0, tx0, pt0, 0, hd0⟩ (.slice none 0 0) (.slice none 0 0) (.slice none 0 0) (.slice none 0 0), .iface 203 (.agg #[.i m.tx.1, .i m.tx.2.1, .i m.tx.2.2, .i m.req, .i m.code, .i m.h.sh, .i m.h.ino, .bool m.h.dir])] w fun e w' => e = .returned (msV ⟨7, m.fr, m.to, m.req, op0, rp0, m.tx, pt0, m.code, m.h⟩ (.slice none 0 0) (.slice none 0 0) (.slice none 0 0) (.slice none 0 0)) ∧ Below w.heap.size w w' := by
 obtain ⟨kd, fr, to, rq, ⟨ok, ⟨op_, oq, od⟩, nm, ⟨tp, tq, td⟩, asn, ov⟩, ⟨rc, ⟨rp_, rq_, rd⟩, rv, es⟩, ⟨xs, xb, xn⟩, ⟨pk, ⟨pp, pq, pd⟩, pas, ⟨sp, sq, sd⟩⟩, cd, ⟨hp, hq, hd⟩⟩ := m
 simp only [op0, rp0, tx0, pt0, hd0]
 have hM0 := fun v W => assert_miss (t := 203) (a := 189) (xT := 96) (z := .agg #[.i 0, .i 0, .i 0, .i 0, .bool false, .slice none 0 0, .i 0, .i 0, .bool false, .slice none 0 0, .i 0]) Tryz.underlying189 rfl (by decide) (by kernel_rfl) v W
 have hM1 := fun v W => assert_miss (t := 203) (a := 191) (xT := 96) (z := .agg #[.i 0, .i 0, .i 0, .i 0, .bool false, .i 0, .slice none 0 0]) Tryz.underlying191 rfl (by decide) (by kernel_rfl) v W
 have hM2 := fun v W => assert_miss (t := 203) (a := 193) (xT := 96) (z := .agg #[.i 0, .i 0, .i 0, .i 0, .i 0, .i 0, .bool false, .slice none 0 0, .i 0, .i 0, .bool false]) Tryz.underlying193 rfl (by decide) (by kernel_rfl) v W
 have hM3 := fun v W => assert_miss (t := 203) (a := 195) (xT := 96) (z := .agg #[.i 0, .i 0, .i 0, .i 0, .i 0, .i 0, .bool false, .slice none 0 0, .i 0, .i 0, .bool false, .i 0, .i 0, .i 0, .bool false]) Tryz.underlying195 rfl (by decide) (by kernel_rfl) v W
 have hM4 := fun v W => assert_miss (t := 203) (a := 197) (xT := 96) (z := .agg #[.i 0, .i 0, .i 0]) Tryz.underlying197 rfl (by decide) (by kernel_rfl) v W
 have hM5 := fun v W => assert_miss (t := 203) (a := 199) (xT := 96) (z := .agg #[.i 0, .i 0, .i 0, .i 0]) Tryz.underlying199 rfl (by decide) (by kernel_rfl) v W
 have hM6 := fun v W => assert_miss (t := 203) (a := 201) (xT := 96) (z := .agg #[.i 0, .i 0, .i 0, .i 0, .i 0, .i 0, .bool false]) Tryz.underlying201 rfl (by decide) (by kernel_rfl) v W
 have hM7 := fun v W => assert_hit (t := 203) (xT := 96) Tryz.underlying203 rfl v W
 go_enter Tryz.func67, Tryz.ntmps67
 repeat (first | (with_reducible refine guardStore (ty := 35) ?_; refine sF (VarA.dr ((VarA.new1 w _ _ _).alloc _)) rfl rfl (by kernel_rfl) rfl rfl ?_; intro w' vR t_) | (with_reducible refine guardLoad (ty := 35) ?_; refine wpList_loadA (VarA.dr (((VarA.new w _ _).alloc _).alloc _)) rfl Tryz.underlying35 rfl (by kernel_rfl) ?_) | go_values | go_skip | go_guarded | go_step | go_upon)
 go_region
 repeat (first | (with_reducible refine guardStore (ty := 35) ?_; refine sF (VarA.dr ((VarA.new1 w _ _ _).alloc _)) rfl rfl (by kernel_rfl) rfl rfl ?_; intro w' vR t_) | (with_reducible refine guardLoad (ty := 35) ?_; refine wpList_loadA (VarA.dr (((VarA.new w _ _).alloc _).alloc _)) rfl Tryz.underlying35 rfl (by kernel_rfl) ?_) | go_values | go_skip | go_guarded | go_step | go_upon)
 refine bodyPost_ret (results_cell_row Tryz.results67 _ _ _ _ _ _ _ rfl vR Tryz.underlying35 rfl (by kernel_rfl)) rfl ⟨rfl, ?_⟩
 exact Turned.below (by repeat (first | exact Below.refl _ _ | refine Below.al ?_ _ | refine Below.drew ?_ | refine below_drewN2 ?_ _)) (t_.one (S := fun b => w.heap.size ≤ b) (by omega)) (by simp [World.drew]; omega) (fun i hi => hi)
end Go.Proofs.YtklhikadhohjbaaGreat
