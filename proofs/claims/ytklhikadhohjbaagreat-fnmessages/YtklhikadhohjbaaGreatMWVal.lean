/- What the program writes of a message, kind by kind; no condition. -/
import Derived.Test.YtklhikadhohjbaaGreatMWMsg4
import Derived.Test.YtklhikadhohjbaaGreatMWPut1
namespace Go.Proofs.YtklhikadhohjbaaGreat
open Go.RowKit
set_option linter.unusedVariables false
set_option linter.unusedSimpArgs false
set_option maxRecDepth 100000

set_option maxHeartbeats 4000000 in
theorem values0 (m : MsD) (a1 a2 a3 a4 : Option Addr) (n1 n2 n3 n4 c1 c2 c3 c4 : Nat) (w : World) :
  Calls Tryz.prog 53 #[.iface 189 (.agg #[.i m.req, .i m.op.kind, .i m.op.dir.sh, .i m.op.dir.ino, .bool m.op.dir.dir, .slice a1 n1 c1, .i m.op.to.sh, .i m.op.to.ino, .bool m.op.to.dir, .slice a2 n2 c2, .i m.op.val])] w fun e w' => ∃ g, e = .returned (.slice (some ⟨g, 0, none⟩) 2 2) ∧ w'.heap[g]? = some (.cells #[.iface 3 (.i m.req), .iface 26 (.agg #[.i m.op.kind, .i m.op.dir.sh, .i m.op.dir.ino, .bool m.op.dir.dir, .slice a1 n1 c1, .i m.op.to.sh, .i m.op.to.ino, .bool m.op.to.dir, .slice a2 n2 c2, .i m.op.val])] 20 (0, 0)) ∧ Below w.heap.size w w' := by
 obtain ⟨kd, fr, to, rq, ⟨ok, ⟨op_, oq, od⟩, nm, ⟨tp, tq, td⟩, asn, ov⟩, ⟨rc, ⟨rp_, rq_, rd⟩, rv, es⟩, ⟨xs, xb, xn⟩, ⟨pk, ⟨pp, pq, pd⟩, pas, ⟨sp, sq, sd⟩⟩, cd, ⟨hp, hq, hd⟩⟩ := m
 dsimp only
 have hM0 := fun v W => assert_hit (t := 189) (xT := 96) Tryz.underlying189 rfl v W
 go_enter Tryz.func53, Tryz.ntmps53
 go_wp2
 go_ret
 exact ⟨_, rfl, by first | exact heap_alloc_new _ _ | exact heap_new2 _ _ _ | (simp [World.drew]; done), (by repeat (first | exact Below.refl _ _ | refine Below.al ?_ _ | refine Below.drew ?_ | refine below_drewN2 ?_ _))⟩
set_option maxHeartbeats 4000000 in
theorem values1 (m : MsD) (a1 a2 a3 a4 : Option Addr) (n1 n2 n3 n4 c1 c2 c3 c4 : Nat) (w : World) :
  Calls Tryz.prog 53 #[.iface 191 (.agg #[.i m.req, .i m.rp.code, .i m.rp.h.sh, .i m.rp.h.ino, .bool m.rp.h.dir, .i m.rp.val, .slice a3 n3 c3])] w fun e w' => ∃ g, e = .returned (.slice (some ⟨g, 0, none⟩) 2 2) ∧ w'.heap[g]? = some (.cells #[.iface 3 (.i m.req), .iface 29 (.agg #[.i m.rp.code, .i m.rp.h.sh, .i m.rp.h.ino, .bool m.rp.h.dir, .i m.rp.val, .slice a3 n3 c3])] 20 (0, 0)) ∧ Below w.heap.size w w' := by
 obtain ⟨kd, fr, to, rq, ⟨ok, ⟨op_, oq, od⟩, nm, ⟨tp, tq, td⟩, asn, ov⟩, ⟨rc, ⟨rp_, rq_, rd⟩, rv, es⟩, ⟨xs, xb, xn⟩, ⟨pk, ⟨pp, pq, pd⟩, pas, ⟨sp, sq, sd⟩⟩, cd, ⟨hp, hq, hd⟩⟩ := m
 dsimp only
 have hM0 := fun v W => assert_miss (t := 191) (a := 189) (xT := 96) (z := .agg #[.i 0, .i 0, .i 0, .i 0, .bool false, .slice none 0 0, .i 0, .i 0, .bool false, .slice none 0 0, .i 0]) Tryz.underlying189 rfl (by decide) (by kernel_rfl) v W
 have hM1 := fun v W => assert_hit (t := 191) (xT := 96) Tryz.underlying191 rfl v W
 go_enter Tryz.func53, Tryz.ntmps53
 go_wp2
 go_ret
 exact ⟨_, rfl, by first | exact heap_alloc_new _ _ | exact heap_new2 _ _ _ | (simp [World.drew]; done), (by repeat (first | exact Below.refl _ _ | refine Below.al ?_ _ | refine Below.drew ?_ | refine below_drewN2 ?_ _))⟩
set_option maxHeartbeats 4000000 in
theorem values2 (m : MsD) (a1 a2 a3 a4 : Option Addr) (n1 n2 n3 n4 c1 c2 c3 c4 : Nat) (w : World) :
  Calls Tryz.prog 53 #[.iface 193 (.agg #[.i m.tx.1, .i m.tx.2.1, .i m.tx.2.2, .i m.pt.kind, .i m.pt.h.sh, .i m.pt.h.ino, .bool m.pt.h.dir, .slice a4 n4 c4, .i m.pt.to.sh, .i m.pt.to.ino, .bool m.pt.to.dir])] w fun e w' => ∃ g, e = .returned (.slice (some ⟨g, 0, none⟩) 2 2) ∧ w'.heap[g]? = some (.cells #[.iface 31 (.agg #[.i m.tx.1, .i m.tx.2.1, .i m.tx.2.2]), .iface 33 (.agg #[.i m.pt.kind, .i m.pt.h.sh, .i m.pt.h.ino, .bool m.pt.h.dir, .slice a4 n4 c4, .i m.pt.to.sh, .i m.pt.to.ino, .bool m.pt.to.dir])] 20 (0, 0)) ∧ Below w.heap.size w w' := by
 obtain ⟨kd, fr, to, rq, ⟨ok, ⟨op_, oq, od⟩, nm, ⟨tp, tq, td⟩, asn, ov⟩, ⟨rc, ⟨rp_, rq_, rd⟩, rv, es⟩, ⟨xs, xb, xn⟩, ⟨pk, ⟨pp, pq, pd⟩, pas, ⟨sp, sq, sd⟩⟩, cd, ⟨hp, hq, hd⟩⟩ := m
 dsimp only
 have hM0 := fun v W => assert_miss (t := 193) (a := 189) (xT := 96) (z := .agg #[.i 0, .i 0, .i 0, .i 0, .bool false, .slice none 0 0, .i 0, .i 0, .bool false, .slice none 0 0, .i 0]) Tryz.underlying189 rfl (by decide) (by kernel_rfl) v W
 have hM1 := fun v W => assert_miss (t := 193) (a := 191) (xT := 96) (z := .agg #[.i 0, .i 0, .i 0, .i 0, .bool false, .i 0, .slice none 0 0]) Tryz.underlying191 rfl (by decide) (by kernel_rfl) v W
 have hM2 := fun v W => assert_hit (t := 193) (xT := 96) Tryz.underlying193 rfl v W
 go_enter Tryz.func53, Tryz.ntmps53
 go_wp2
 go_ret
 exact ⟨_, rfl, by first | exact heap_alloc_new _ _ | exact heap_new2 _ _ _ | (simp [World.drew]; done), (by repeat (first | exact Below.refl _ _ | refine Below.al ?_ _ | refine Below.drew ?_ | refine below_drewN2 ?_ _))⟩
set_option maxHeartbeats 4000000 in
theorem values3 (m : MsD) (a1 a2 a3 a4 : Option Addr) (n1 n2 n3 n4 c1 c2 c3 c4 : Nat) (w : World) :
  Calls Tryz.prog 53 #[.iface 195 (.agg #[.i m.tx.1, .i m.tx.2.1, .i m.tx.2.2, .i m.pt.kind, .i m.pt.h.sh, .i m.pt.h.ino, .bool m.pt.h.dir, .slice a4 n4 c4, .i m.pt.to.sh, .i m.pt.to.ino, .bool m.pt.to.dir, .i m.code, .i m.h.sh, .i m.h.ino, .bool m.h.dir])] w fun e w' => ∃ g, e = .returned (.slice (some ⟨g, 0, none⟩) 4 4) ∧ w'.heap[g]? = some (.cells #[.iface 31 (.agg #[.i m.tx.1, .i m.tx.2.1, .i m.tx.2.2]), .iface 33 (.agg #[.i m.pt.kind, .i m.pt.h.sh, .i m.pt.h.ino, .bool m.pt.h.dir, .slice a4 n4 c4, .i m.pt.to.sh, .i m.pt.to.ino, .bool m.pt.to.dir]), .iface 3 (.i m.code), .iface 24 (.agg #[.i m.h.sh, .i m.h.ino, .bool m.h.dir])] 20 (0, 0)) ∧ Below w.heap.size w w' := by
 obtain ⟨kd, fr, to, rq, ⟨ok, ⟨op_, oq, od⟩, nm, ⟨tp, tq, td⟩, asn, ov⟩, ⟨rc, ⟨rp_, rq_, rd⟩, rv, es⟩, ⟨xs, xb, xn⟩, ⟨pk, ⟨pp, pq, pd⟩, pas, ⟨sp, sq, sd⟩⟩, cd, ⟨hp, hq, hd⟩⟩ := m
 dsimp only
 have hM0 := fun v W => assert_miss (t := 195) (a := 189) (xT := 96) (z := .agg #[.i 0, .i 0, .i 0, .i 0, .bool false, .slice none 0 0, .i 0, .i 0, .bool false, .slice none 0 0, .i 0]) Tryz.underlying189 rfl (by decide) (by kernel_rfl) v W
 have hM1 := fun v W => assert_miss (t := 195) (a := 191) (xT := 96) (z := .agg #[.i 0, .i 0, .i 0, .i 0, .bool false, .i 0, .slice none 0 0]) Tryz.underlying191 rfl (by decide) (by kernel_rfl) v W
 have hM2 := fun v W => assert_miss (t := 195) (a := 193) (xT := 96) (z := .agg #[.i 0, .i 0, .i 0, .i 0, .i 0, .i 0, .bool false, .slice none 0 0, .i 0, .i 0, .bool false]) Tryz.underlying193 rfl (by decide) (by kernel_rfl) v W
 have hM3 := fun v W => assert_hit (t := 195) (xT := 96) Tryz.underlying195 rfl v W
 go_enter Tryz.func53, Tryz.ntmps53
 go_wp2
 go_ret
 exact ⟨_, rfl, by first | exact heap_alloc_new _ _ | exact heap_new2 _ _ _ | (simp [World.drew]; done), (by repeat (first | exact Below.refl _ _ | refine Below.al ?_ _ | refine Below.drew ?_ | refine below_drewN2 ?_ _))⟩
set_option maxHeartbeats 4000000 in
theorem values4 (m : MsD) (a1 a2 a3 a4 : Option Addr) (n1 n2 n3 n4 c1 c2 c3 c4 : Nat) (w : World) :
  Calls Tryz.prog 53 #[.iface 197 (.agg #[.i m.tx.1, .i m.tx.2.1, .i m.tx.2.2])] w fun e w' => ∃ g, e = .returned (.slice (some ⟨g, 0, none⟩) 1 1) ∧ w'.heap[g]? = some (.cells #[.iface 31 (.agg #[.i m.tx.1, .i m.tx.2.1, .i m.tx.2.2])] 20 (0, 0)) ∧ Below w.heap.size w w' := by
 obtain ⟨kd, fr, to, rq, ⟨ok, ⟨op_, oq, od⟩, nm, ⟨tp, tq, td⟩, asn, ov⟩, ⟨rc, ⟨rp_, rq_, rd⟩, rv, es⟩, ⟨xs, xb, xn⟩, ⟨pk, ⟨pp, pq, pd⟩, pas, ⟨sp, sq, sd⟩⟩, cd, ⟨hp, hq, hd⟩⟩ := m
 dsimp only
 have hM0 := fun v W => assert_miss (t := 197) (a := 189) (xT := 96) (z := .agg #[.i 0, .i 0, .i 0, .i 0, .bool false, .slice none 0 0, .i 0, .i 0, .bool false, .slice none 0 0, .i 0]) Tryz.underlying189 rfl (by decide) (by kernel_rfl) v W
 have hM1 := fun v W => assert_miss (t := 197) (a := 191) (xT := 96) (z := .agg #[.i 0, .i 0, .i 0, .i 0, .bool false, .i 0, .slice none 0 0]) Tryz.underlying191 rfl (by decide) (by kernel_rfl) v W
 have hM2 := fun v W => assert_miss (t := 197) (a := 193) (xT := 96) (z := .agg #[.i 0, .i 0, .i 0, .i 0, .i 0, .i 0, .bool false, .slice none 0 0, .i 0, .i 0, .bool false]) Tryz.underlying193 rfl (by decide) (by kernel_rfl) v W
 have hM3 := fun v W => assert_miss (t := 197) (a := 195) (xT := 96) (z := .agg #[.i 0, .i 0, .i 0, .i 0, .i 0, .i 0, .bool false, .slice none 0 0, .i 0, .i 0, .bool false, .i 0, .i 0, .i 0, .bool false]) Tryz.underlying195 rfl (by decide) (by kernel_rfl) v W
 have hM4 := fun v W => assert_hit (t := 197) (xT := 96) Tryz.underlying197 rfl v W
 go_enter Tryz.func53, Tryz.ntmps53
 go_wp2
 go_ret
 exact ⟨_, rfl, by first | exact heap_alloc_new _ _ | exact heap_new2 _ _ _ | (simp [World.drew]; done), (by repeat (first | exact Below.refl _ _ | refine Below.al ?_ _ | refine Below.drew ?_ | refine below_drewN2 ?_ _))⟩
set_option maxHeartbeats 4000000 in
theorem values5 (m : MsD) (a1 a2 a3 a4 : Option Addr) (n1 n2 n3 n4 c1 c2 c3 c4 : Nat) (w : World) :
  Calls Tryz.prog 53 #[.iface 199 (.agg #[.i m.tx.1, .i m.tx.2.1, .i m.tx.2.2, .i m.code])] w fun e w' => ∃ g, e = .returned (.slice (some ⟨g, 0, none⟩) 2 2) ∧ w'.heap[g]? = some (.cells #[.iface 31 (.agg #[.i m.tx.1, .i m.tx.2.1, .i m.tx.2.2]), .iface 3 (.i m.code)] 20 (0, 0)) ∧ Below w.heap.size w w' := by
 obtain ⟨kd, fr, to, rq, ⟨ok, ⟨op_, oq, od⟩, nm, ⟨tp, tq, td⟩, asn, ov⟩, ⟨rc, ⟨rp_, rq_, rd⟩, rv, es⟩, ⟨xs, xb, xn⟩, ⟨pk, ⟨pp, pq, pd⟩, pas, ⟨sp, sq, sd⟩⟩, cd, ⟨hp, hq, hd⟩⟩ := m
 dsimp only
 have hM0 := fun v W => assert_miss (t := 199) (a := 189) (xT := 96) (z := .agg #[.i 0, .i 0, .i 0, .i 0, .bool false, .slice none 0 0, .i 0, .i 0, .bool false, .slice none 0 0, .i 0]) Tryz.underlying189 rfl (by decide) (by kernel_rfl) v W
 have hM1 := fun v W => assert_miss (t := 199) (a := 191) (xT := 96) (z := .agg #[.i 0, .i 0, .i 0, .i 0, .bool false, .i 0, .slice none 0 0]) Tryz.underlying191 rfl (by decide) (by kernel_rfl) v W
 have hM2 := fun v W => assert_miss (t := 199) (a := 193) (xT := 96) (z := .agg #[.i 0, .i 0, .i 0, .i 0, .i 0, .i 0, .bool false, .slice none 0 0, .i 0, .i 0, .bool false]) Tryz.underlying193 rfl (by decide) (by kernel_rfl) v W
 have hM3 := fun v W => assert_miss (t := 199) (a := 195) (xT := 96) (z := .agg #[.i 0, .i 0, .i 0, .i 0, .i 0, .i 0, .bool false, .slice none 0 0, .i 0, .i 0, .bool false, .i 0, .i 0, .i 0, .bool false]) Tryz.underlying195 rfl (by decide) (by kernel_rfl) v W
 have hM4 := fun v W => assert_miss (t := 199) (a := 197) (xT := 96) (z := .agg #[.i 0, .i 0, .i 0]) Tryz.underlying197 rfl (by decide) (by kernel_rfl) v W
 have hM5 := fun v W => assert_hit (t := 199) (xT := 96) Tryz.underlying199 rfl v W
 go_enter Tryz.func53, Tryz.ntmps53
 go_wp2
 go_ret
 exact ⟨_, rfl, by first | exact heap_alloc_new _ _ | exact heap_new2 _ _ _ | (simp [World.drew]; done), (by repeat (first | exact Below.refl _ _ | refine Below.al ?_ _ | refine Below.drew ?_ | refine below_drewN2 ?_ _))⟩
set_option maxHeartbeats 4000000 in
theorem values6 (m : MsD) (a1 a2 a3 a4 : Option Addr) (n1 n2 n3 n4 c1 c2 c3 c4 : Nat) (w : World) :
  Calls Tryz.prog 53 #[.iface 201 (.agg #[.i m.tx.1, .i m.tx.2.1, .i m.tx.2.2, .i m.req, .i m.h.sh, .i m.h.ino, .bool m.h.dir])] w fun e w' => ∃ g, e = .returned (.slice (some ⟨g, 0, none⟩) 3 3) ∧ w'.heap[g]? = some (.cells #[.iface 31 (.agg #[.i m.tx.1, .i m.tx.2.1, .i m.tx.2.2]), .iface 3 (.i m.req), .iface 24 (.agg #[.i m.h.sh, .i m.h.ino, .bool m.h.dir])] 20 (0, 0)) ∧ Below w.heap.size w w' := by
 obtain ⟨kd, fr, to, rq, ⟨ok, ⟨op_, oq, od⟩, nm, ⟨tp, tq, td⟩, asn, ov⟩, ⟨rc, ⟨rp_, rq_, rd⟩, rv, es⟩, ⟨xs, xb, xn⟩, ⟨pk, ⟨pp, pq, pd⟩, pas, ⟨sp, sq, sd⟩⟩, cd, ⟨hp, hq, hd⟩⟩ := m
 dsimp only
 have hM0 := fun v W => assert_miss (t := 201) (a := 189) (xT := 96) (z := .agg #[.i 0, .i 0, .i 0, .i 0, .bool false, .slice none 0 0, .i 0, .i 0, .bool false, .slice none 0 0, .i 0]) Tryz.underlying189 rfl (by decide) (by kernel_rfl) v W
 have hM1 := fun v W => assert_miss (t := 201) (a := 191) (xT := 96) (z := .agg #[.i 0, .i 0, .i 0, .i 0, .bool false, .i 0, .slice none 0 0]) Tryz.underlying191 rfl (by decide) (by kernel_rfl) v W
 have hM2 := fun v W => assert_miss (t := 201) (a := 193) (xT := 96) (z := .agg #[.i 0, .i 0, .i 0, .i 0, .i 0, .i 0, .bool false, .slice none 0 0, .i 0, .i 0, .bool false]) Tryz.underlying193 rfl (by decide) (by kernel_rfl) v W
 have hM3 := fun v W => assert_miss (t := 201) (a := 195) (xT := 96) (z := .agg #[.i 0, .i 0, .i 0, .i 0, .i 0, .i 0, .bool false, .slice none 0 0, .i 0, .i 0, .bool false, .i 0, .i 0, .i 0, .bool false]) Tryz.underlying195 rfl (by decide) (by kernel_rfl) v W
 have hM4 := fun v W => assert_miss (t := 201) (a := 197) (xT := 96) (z := .agg #[.i 0, .i 0, .i 0]) Tryz.underlying197 rfl (by decide) (by kernel_rfl) v W
 have hM5 := fun v W => assert_miss (t := 201) (a := 199) (xT := 96) (z := .agg #[.i 0, .i 0, .i 0, .i 0]) Tryz.underlying199 rfl (by decide) (by kernel_rfl) v W
 have hM6 := fun v W => assert_hit (t := 201) (xT := 96) Tryz.underlying201 rfl v W
 go_enter Tryz.func53, Tryz.ntmps53
 go_wp2
 go_ret
 exact ⟨_, rfl, by first | exact heap_alloc_new _ _ | exact heap_new2 _ _ _ | (simp [World.drew]; done), (by repeat (first | exact Below.refl _ _ | refine Below.al ?_ _ | refine Below.drew ?_ | refine below_drewN2 ?_ _))⟩
set_option maxHeartbeats 4000000 in
theorem values7 (m : MsD) (a1 a2 a3 a4 : Option Addr) (n1 n2 n3 n4 c1 c2 c3 c4 : Nat) (w : World) :
  Calls Tryz.prog 53 #[.iface 203 (.agg #[.i m.tx.1, .i m.tx.2.1, .i m.tx.2.2, .i m.req, .i m.code, .i m.h.sh, .i m.h.ino, .bool m.h.dir])] w fun e w' => ∃ g, e = .returned (.slice (some ⟨g, 0, none⟩) 4 4) ∧ w'.heap[g]? = some (.cells #[.iface 31 (.agg #[.i m.tx.1, .i m.tx.2.1, .i m.tx.2.2]), .iface 3 (.i m.req), .iface 3 (.i m.code), .iface 24 (.agg #[.i m.h.sh, .i m.h.ino, .bool m.h.dir])] 20 (0, 0)) ∧ Below w.heap.size w w' := by
 obtain ⟨kd, fr, to, rq, ⟨ok, ⟨op_, oq, od⟩, nm, ⟨tp, tq, td⟩, asn, ov⟩, ⟨rc, ⟨rp_, rq_, rd⟩, rv, es⟩, ⟨xs, xb, xn⟩, ⟨pk, ⟨pp, pq, pd⟩, pas, ⟨sp, sq, sd⟩⟩, cd, ⟨hp, hq, hd⟩⟩ := m
 dsimp only
 have hM0 := fun v W => assert_miss (t := 203) (a := 189) (xT := 96) (z := .agg #[.i 0, .i 0, .i 0, .i 0, .bool false, .slice none 0 0, .i 0, .i 0, .bool false, .slice none 0 0, .i 0]) Tryz.underlying189 rfl (by decide) (by kernel_rfl) v W
 have hM1 := fun v W => assert_miss (t := 203) (a := 191) (xT := 96) (z := .agg #[.i 0, .i 0, .i 0, .i 0, .bool false, .i 0, .slice none 0 0]) Tryz.underlying191 rfl (by decide) (by kernel_rfl) v W
 have hM2 := fun v W => assert_miss (t := 203) (a := 193) (xT := 96) (z := .agg #[.i 0, .i 0, .i 0, .i 0, .i 0, .i 0, .bool false, .slice none 0 0, .i 0, .i 0, .bool false]) Tryz.underlying193 rfl (by decide) (by kernel_rfl) v W
 have hM3 := fun v W => assert_miss (t := 203) (a := 195) (xT := 96) (z := .agg #[.i 0, .i 0, .i 0, .i 0, .i 0, .i 0, .bool false, .slice none 0 0, .i 0, .i 0, .bool false, .i 0, .i 0, .i 0, .bool false]) Tryz.underlying195 rfl (by decide) (by kernel_rfl) v W
 have hM4 := fun v W => assert_miss (t := 203) (a := 197) (xT := 96) (z := .agg #[.i 0, .i 0, .i 0]) Tryz.underlying197 rfl (by decide) (by kernel_rfl) v W
 have hM5 := fun v W => assert_miss (t := 203) (a := 199) (xT := 96) (z := .agg #[.i 0, .i 0, .i 0, .i 0]) Tryz.underlying199 rfl (by decide) (by kernel_rfl) v W
 have hM6 := fun v W => assert_miss (t := 203) (a := 201) (xT := 96) (z := .agg #[.i 0, .i 0, .i 0, .i 0, .i 0, .i 0, .bool false]) Tryz.underlying201 rfl (by decide) (by kernel_rfl) v W
 have hM7 := fun v W => assert_hit (t := 203) (xT := 96) Tryz.underlying203 rfl v W
 go_enter Tryz.func53, Tryz.ntmps53
 go_wp2
 go_ret
 exact ⟨_, rfl, by first | exact heap_alloc_new _ _ | exact heap_new2 _ _ _ | (simp [World.drew]; done), (by repeat (first | exact Below.refl _ _ | refine Below.al ?_ _ | refine Below.drew ?_ | refine below_drewN2 ?_ _))⟩
end Go.Proofs.YtklhikadhohjbaaGreat
