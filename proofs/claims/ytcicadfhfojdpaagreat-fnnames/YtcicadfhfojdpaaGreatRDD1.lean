/- What the specification draws for Do: a tree, an operation, a fresh handle; no condition. -/
import Derived.Test.YtcicadfhfojdpaaGreatRA01
import Derived.Test.YtcicadfhfojdpaaGreatRBT3
import Derived.Test.YtcicadfhfojdpaaGreatRDW8
import Derived.Test.YtcicadfhfojdpaaGreatRDW10
import Derived.Test.YtcicadfhfojdpaaGreatRA03
namespace Go.Proofs.YtcicadfhfojdpaaGreat
open Go.RowKit
set_option linter.unusedVariables false
set_option linter.unusedSimpArgs false
set_option maxRecDepth 100000

theorem sum_bnd {α : Type} (f : α → Nat) (c : Nat) : ∀ (l : List α), (∀ x ∈ l, f x ≤ c) → (l.map f).sum ≤ l.length * c
 | [], _ => by simp
 | x :: r, h => by
  have h1 := h x (by simp)
  have h2 := sum_bnd f c r (fun y hy => h y (by simp [hy]))
  simp only [List.map_cons, List.sum_cons, List.length_cons, Nat.add_mul]
  omega
theorem sz_gn {l : List Nd} (h : ∀ i : Nat, i < l.length → GN (l[i]?.getD nd0)) (hl : l.length ≤ 241) : szNds l ≤ 2097152 := by
 unfold szNds
 have h1 := sum_bnd (fun n : Nd => szEns n.es) 98 l (fun n hn => by
  obtain ⟨i, hi, rfl⟩ := List.getElem_of_mem hn
  have g := h i hi
  rw [List.getElem?_eq_getElem hi] at g
  have g2 : l[i].es.length ≤ 14 := g.2.1
  have h2 := sum_bnd (fun e : En => e.nm.length) 6 l[i].es g.2.2
  show szEns l[i].es ≤ 98
  unfold szEns
  omega)
 omega
def DrSaid (w : World) (e : Ending) (w' : World) : Prop :=
 ∃ ta tn tc l, ∃ (o : OpD) (y z : Value) (fr : Hd), e = .returned (.tuple #[.agg #[.slice ta tn tc], opV o y z, fr.v]) ∧ RdV w' (fun b => w.heap.size ≤ b ∧ b < w'.heap.size) (.slice ta tn tc) (ndsDt l) ∧ szNds l ≤ 2097152 ∧ RdV w' (fun b => w.heap.size ≤ b ∧ b < w'.heap.size) y (.bytes o.nm) ∧ RdV w' (fun b => w.heap.size ≤ b ∧ b < w'.heap.size) z (.bytes o.asn) ∧
  l.length ≤ 241 ∧ o.nm.length ≤ 7 ∧ o.asn.length ≤ 7 ∧ OpI o ∧ HIn fr ∧ Below w.heap.size w w'
structure DR (w wr : World) : Prop where
 B : Below w.heap.size w wr
 c : CurAt wr (w.heap.size + 3)
 vT : VarA wr w.heap.size 25 #[.n0]
 vO : VarA wr (w.heap.size + 1) 29 #[.i 0, .i 0, .i 0, .bool false, .n0, .i 0, .i 0, .bool false, .n0, .i 0]
 vF : VarA wr (w.heap.size + 2) 27 #[.i 0, .i 0, .bool false]
theorem DR.turn {w wr wd : World} {X : Nat → Prop} (m : DR w wr) (hc : CurAt wd (w.heap.size + 3)) (t : Turned X wr wd) (hX : ∀ b, X b → w.heap.size + 3 ≤ b) : DR w wd :=
 ⟨Turned.below m.B t m.B.size (fun i hi => by have := hX i hi; omega), hc, m.vT.turn t (fun h => by have := hX _ h; omega), m.vO.turn t (fun h => by have := hX _ h; omega), m.vF.turn t (fun h => by have := hX _ h; omega)⟩
theorem DR.grow {w wr wd : World} (m : DR w wr) (hc : CurAt wd (w.heap.size + 3)) (hg : wr.grownBy wd (some (w.heap.size + 3))) : DR w wd :=
 m.turn hc (Turned.ofGrown (S := fun b => b = w.heap.size + 3) hg (fun k hk => by cases hk; rfl)) (fun b hb => by omega)
theorem DR.below {w wr wd : World} (m : DR w wr) (hb : Below wr.heap.size wr wd) : DR w wd := m.turn (X := fun _ => False) (m.c.below hb) (Turned.ofBelow hb) (fun b hb => hb.elim)
theorem results_three {fn : Func} {p q r : Tmp} {ty ty2 ty3 : TypeId} (h : fn.results = #[.cell p ty, .cell q ty2, .cell r ty3]) (tmps : Array Value) (w : World) (g g2 g3 : Nat) (t t2 t3 : TypeId) (cs cs2 cs3 : Array Value) (d d2 d3 : TypeDesc)
  (hp : tmps.getD p undef = .pointer (some ⟨g, 0, none⟩)) (hq : tmps.getD q undef = .pointer (some ⟨g2, 0, none⟩)) (hr : tmps.getD r undef = .pointer (some ⟨g3, 0, none⟩)) (hg : VarA w g t cs) (hg2 : VarA w g2 t2 cs2) (hg3 : VarA w g3 t3 cs3)
  (hu : Tryz.prog.underlying ty = some d) (hd : d.isRow = true) (hi : (Tryz.prog.info? ty).map (·.size) = some cs.size) (hu2 : Tryz.prog.underlying ty2 = some d2) (hd2 : d2.isRow = true) (hi2 : (Tryz.prog.info? ty2).map (·.size) = some cs2.size) (hu3 : Tryz.prog.underlying ty3 = some d3) (hd3 : d3.isRow = true) (hi3 : (Tryz.prog.info? ty3).map (·.size) = some cs3.size) :
  (results fn tmps).run Tryz.prog w = .ok (.tuple #[.agg cs, .agg cs2, .agg cs3]) w := by
 have hp' : tmps[p]?.getD undef = .pointer (some ⟨g, 0, none⟩) := by simpa using hp
 have hq' : tmps[q]?.getD undef = .pointer (some ⟨g2, 0, none⟩) := by simpa using hq
 have hr' : tmps[r]?.getD undef = .pointer (some ⟨g3, 0, none⟩) := by simpa using hr
 simp only [results, h]
 simp [Sem.run_bind, Result.andThen, hp', hq', hr', asAddr, loadA_run hg hu hd hi, loadA_run hg2 hu2 hd2 hi2, loadA_run hg3 hu3 hd3 hi3]
theorem wfI64 {n : Int} (h1 : -9223372036854775808 ≤ n) (h2 : n ≤ 9223372036854775807) : (Lit.int .i64 n).wf = true := WalkArith.wf_i64 (by omega)
set_option maxHeartbeats 4000000 in
theorem drawDo_any (a : Option Addr) (zs : List Int) (len cap : Nat) (w : World) (h : Reads w a zs) (hlen : len = zs.length) (hm : zs.length ≤ maxLen) :
  Calls Tryz.prog 6 #[.slice a len cap] w (DrSaid w) := by
 have HR : Hid (Reads w a zs) := h
 have HLN : Hid (len = zs.length) := hlen
 have HMM : Hid (zs.length ≤ maxLen) := hm
 clear h hlen hm
 go_enter Tryz.func6, Tryz.ntmps6
 go_wp2_with fail
 obtain ⟨w0, hw0⟩ : ∃ W, W = ((w.alloc (.cells #[.n0] 25)).alloc (.cells #[.i 0, .i 0, .i 0, .bool false, .n0, .i 0, .i 0, .bool false, .n0, .i 0] 29)).alloc (.cells #[.i 0, .i 0, .bool false] 27) := ⟨_, rfl⟩
 have B0 : Below w.heap.size w w0 := by rw [hw0]; exact (((Below.refl _ _).alloc (Nat.le_refl _) _).alloc (by simp) _).alloc (by simp; omega) _
 have s0 : w0.heap.size = w.heap.size + 3 := by rw [hw0]; simp
 have vT0 : VarA w0 w.heap.size 25 #[.n0] := by rw [hw0]; exact ((VarA.new w _ _).alloc _).alloc _
 have vO0 : VarA w0 (w.heap.size + 1) 29 #[.i 0, .i 0, .i 0, .bool false, .n0, .i 0, .i 0, .bool false, .n0, .i 0] := by rw [hw0]; have := (VarA.new (w.alloc (.cells #[.n0] 25)) 29 #[.i 0, .i 0, .i 0, .bool false, .n0, .i 0, .i 0, .bool false, .n0, .i 0]).alloc (.cells #[.i 0, .i 0, .bool false] 27); simpa using this
 have vF0 : VarA w0 (w.heap.size + 2) 27 #[.i 0, .i 0, .bool false] := by rw [hw0]; have := VarA.new ((w.alloc (.cells #[.n0] 25)).alloc (.cells #[.i 0, .i 0, .i 0, .bool false, .n0, .i 0, .i 0, .bool false, .n0, .i 0] 29)) 27 #[.i 0, .i 0, .bool false]; simpa using this
 rw [← hw0]
 clear hw0
 refine Calls.mono (new_any a zs len cap w0 (Reads.below HR.out B0) HLN.out HMM.out) ?_
 rintro e1 w1 ⟨rfl, c1, b1⟩
 rw [s0] at c1 ⊢
 have H1 : Hid (DR w w1) := ⟨B0.trans (b1.mono B0.size), c1, vT0.step b1, vO0.step b1, vF0.step b1⟩
 have z1 := c1.lt
 clear B0 s0 vT0 vO0 vF0 c1 b1 HR HLN HMM
 go_wp2_with fail
 refine Calls.mono (tree4_any _ w1 H1.out.c) ?_
 rintro e2 w2 ⟨ta, tn, tc, l, rfl, r2, sm, c2, g2⟩
 have H2 : Hid (DR w w2) := H1.out.grow c2 g2
 have z2 := g2.size
 have sa : AllN 13 l := sm.1
 have hb := bentT_any (w.heap.size + 3) _ l (fun b => w1.heap.size ≤ b ∧ b < w2.heap.size) w2 c2 r2 (fun b hb => ⟨by omega, hb.2⟩) sm.2.1 sm.2.2 (fun i hi => ⟨(sa.at hi).1, Nat.le_trans (sa.at hi).2.1 (by decide), fun e he => ((sa.at hi).2.2 e he).1⟩) (fun i => by
  by_cases hi : i < l.length
  ·exact Nat.le_trans (sa.at hi).2.1 (by decide)
  ·rw [List.getElem?_eq_none (by omega)]; decide)
 have HB : Hid _ := hb
 clear c2 g2 r2 sm hb H1
 go_wp2_with fail
 refine Calls.mono HB.out ?_
 rintro e3 w3 ⟨sa, sn, sc, l3, rfl, r3, hl3, hP3, c3, t3⟩
 have H3 : Hid (DR w w3) := H2.out.turn c3 t3 (fun b hb => hb.elim (fun h => by omega) (fun h => by omega))
 have z3 := t3.size
 have R3 : Hid (RdV w3 (fun b => w1.heap.size ≤ b ∧ b < w3.heap.size) (.slice sa sn sc) (ndsDt l3)) := RdV.mono (fun b hb => ⟨hb.1.elim (fun h => h.1) (fun h => by omega), hb.2⟩) r3
 have b4 : Below w3.heap.size w3 (w3.alloc (.cells #[.slice sa sn sc] 25)) := Below.newH _
 have H4 : Hid (DR w (w3.alloc (.cells #[.slice sa sn sc] 25))) := H3.out.below b4
 have V4 : Hid (VarA (w3.alloc (.cells #[.slice sa sn sc] 25)) w3.heap.size 25 #[.slice sa sn sc]) := VarA.new w3 _ _
 have R4 : Hid (RdV (w3.alloc (.cells #[.slice sa sn sc] 25)) (fun b => w1.heap.size ≤ b ∧ b < w3.heap.size) (.slice sa sn sc) (ndsDt l3)) := RdV.step R3.out b4
 have t4 := V4.out.l1
 clear HB H2 H3 R3 c3 t3 r3 b4
 go_wp2_with fail
 refine Calls.mono (op4_any (w.heap.size + 3) _ l3 (fun b => w1.heap.size ≤ b ∧ b < w3.heap.size) _ H4.out.c R4.out (fun b hb => by omega) (by omega) (fun i hi => (hP3 i hi).1)) ?_
 rintro e5 w5 ⟨o5, y5, x5, rfl, oR5, ry5, rx5, c5, g5⟩
 rw [World.size_alloc] at ry5 rx5
 have z5 := g5.size
 rw [World.size_alloc] at z5
 have T5 := Turned.ofGrown (S := fun b => b = w.heap.size + 3) g5 (fun k hk => by cases hk; rfl)
 have H5 : Hid (DR w w5) := H4.out.grow c5 g5
 have V5 : Hid (VarA w5 w3.heap.size 25 #[.slice sa sn sc]) := V4.out.turn T5 (by show w3.heap.size ≠ w.heap.size + 3; omega)
 have R5 : Hid (RdV w5 (fun b => w1.heap.size ≤ b ∧ b < w3.heap.size) (.slice sa sn sc) (ndsDt l3)) := RdV.keep (T5.keeps (fun b hb e => by omega)) R4.out
 have HBO : Hid _ := bent4_any (w.heap.size + 3) (w3.heap.size + 1) o5 y5 x5 w5 c5 (by omega) (by omega) oR5 ry5 rx5
 clear T5 H4 V4 R4 t4 ry5 rx5 c5 g5 oR5
 go_wp2_with fail
 refine Calls.mono HBO.out ?_
 rintro e6 w6 ⟨⟨kd, ⟨p1, q1, d1⟩, nm, ⟨p2, q2, d2⟩, asn, vl⟩, y6, x6, rfl, oI, hn6, ha6, ry6, rx6, c6, g6⟩
 obtain ⟨ya, yc, rfl⟩ := RdV.sliceB ry6
 obtain ⟨za, zc, rfl⟩ := RdV.sliceB rx6
 dsimp only at ry6 rx6 hn6 ha6 ⊢
 have z6 := g6.size
 have T6 := Turned.ofGrown (S := fun b => b = w.heap.size + 3) g6 (fun k hk => by cases hk; rfl)
 go_wp2_with fail
 obtain ⟨w7, hw7⟩ : ∃ W, W = w6.alloc (.cells #[.i kd, .i p1, .i q1, .bool d1, .slice ya nm.length yc, .i p2, .i q2, .bool d2, .slice za asn.length zc, .i vl] 29) := ⟨_, rfl⟩
 have b7 : Below w6.heap.size w6 w7 := by rw [hw7]; exact Below.newH _
 have H7 : Hid (DR w w7) := (H5.out.grow c6 g6).below b7
 have VT7 : Hid (VarA w7 w3.heap.size 25 #[.slice sa sn sc]) := (V5.out.turn T6 (by show w3.heap.size ≠ w.heap.size + 3; omega)).step b7
 have VO7 : Hid (VarA w7 w6.heap.size 29 #[.i kd, .i p1, .i q1, .bool d1, .slice ya nm.length yc, .i p2, .i q2, .bool d2, .slice za asn.length zc, .i vl]) := by show VarA _ _ _ _; rw [hw7]; exact VarA.new w6 _ _
 have RT7 : Hid (RdV w7 (fun b => w1.heap.size ≤ b ∧ b < w3.heap.size) (.slice sa sn sc) (ndsDt l3)) := RdV.step (RdV.keep (T6.keeps (fun b hb e => by omega)) R5.out) b7
 have RY7 : Hid (RdV w7 (fun b => w3.heap.size + 1 ≤ b ∧ b < w6.heap.size) (.slice ya nm.length yc) (.bytes nm)) := RdV.step ry6 b7
 have RZ7 : Hid (RdV w7 (fun b => w3.heap.size + 1 ≤ b ∧ b < w6.heap.size) (.slice za asn.length zc) (.bytes asn)) := RdV.step rx6 b7
 have z7 : w7.heap.size = w6.heap.size + 1 := by rw [hw7]; simp
 have HZ7 : Hid (w7.heap.size = w6.heap.size + 1) := z7
 clear z7
 clear T6 H5 V5 R5 HBO ry6 rx6 c6 g6 b7
 rw [← hw7]
 clear hw7
 refine wp_region_noPanic ?_
 refine wp_region_held_drew (S := fun W => VarA W w3.heap.size 25 #[.slice sa sn sc] ∧ VarA W w6.heap.size 29 #[.i kd, .i p1, .i q1, .bool d1, .slice ya nm.length yc, .i p2, .i q2, .bool d2, .slice za asn.length zc, .i vl]) (by kernel_rfl) ⟨VT7.out.step (Below.drew (Below.refl w7.heap.size w7)), VO7.out.step (Below.drew (Below.refl w7.heap.size w7))⟩ (fun hHeld => ?_)
 apply tkh 0 _ rfl (by kernel_rfl) rfl (by assumption)
 ·(intro w_ hSw_; (try dsimp only at hSw_); have hc_ := hSw_.1.l1; go_simp; try with_reducible rfl)
 try simp only [qz]
 refine wpAnyH_take (i := 1) (v := .agg #[.i kd, .i p1, .i q1, .bool d1, .slice ya nm.length yc, .i p2, .i q2, .bool d2, .slice za asn.length zc, .i vl]) rfl (by kernel_rfl) (by kernel_rfl) (by kernel_rfl) (fun _ _ _ h => h) (Or.inl ⟨by rfl, ?_⟩) (by assumption) ?_
 ·(intro w_ hSw_; (try dsimp only at hSw_); exact loadOp_run hSw_.2 (by rfl) Tryz.underlying29 rfl (by kernel_rfl))
 try simp only [qz]
 apply tkh 2 _ rfl (by kernel_rfl) rfl (by assumption)
 ·(intro _ h; (try dsimp only at h); go_simp; try with_reducible rfl)
 try simp only [qz]
 apply tkh 3 _ rfl (by kernel_rfl) rfl (by assumption)
 ·(intro _ h; (try dsimp only at h); go_simp; try with_reducible rfl)
 try simp only [qz]
 apply tkh 4 _ rfl (by kernel_rfl) rfl (by assumption)
 ·(intro w_ hSw_; (try dsimp only at hSw_); have hc_ := hSw_.2.c 5 rfl; go_simp; try with_reducible rfl)
 try simp only [qz]
 apply tkh 5 _ rfl (by kernel_rfl) rfl (by assumption)
 ·(intro _ h; (try dsimp only at h); go_simp; try with_reducible rfl)
 try simp only [qz]
 apply tkh 8 _ rfl (by kernel_rfl) rfl (by assumption)
 ·(intro _ h; (try dsimp only at h); go_simp; try with_reducible rfl)
 try simp only [qz]
 apply tkh 9 _ rfl (by kernel_rfl) rfl (by assumption)
 ·(intro _ h; (try dsimp only at h); go_simp; try with_reducible rfl)
 try simp only [qz]
 apply tkh 10 _ rfl (by kernel_rfl) rfl (by assumption)
 ·(intro w_ hSw_; (try dsimp only at hSw_); have hc_ := hSw_.2.c 7 rfl; go_simp; try with_reducible rfl)
 try simp only [qz]
 apply tkh 11 _ rfl (by kernel_rfl) rfl (by assumption)
 ·(intro _ h; (try dsimp only at h); go_simp; try with_reducible rfl)
 try simp only [qz]
 refine doH 6 (by kernel_rfl) rfl fun K hK => ?_
 go_simp
 obtain ⟨w8, hw8⟩ : ∃ W, W = (w7.alloc (.cells #[.i 50, .i 50, .i 50, .i 1, .i 11, .i 0] 3)).drew := ⟨_, rfl⟩
 have b8 : Below w7.heap.size w7 w8 := by rw [hw8]; exact Below.drew ((Below.refl _ _).alloc (Nat.le_refl _) _)
 have N8 : w8.heap[w7.heap.size]? = some (.cells #[.i 50, .i 50, .i 50, .i 1, .i 11, .i 0] 3 (0, 0)) := by rw [hw8]; exact heap_alloc_new w7 _
 rw [← hw8]
 clear hw8
 refine hK.out _ _ ⟨VT7.out.step b8, VO7.out.step b8⟩ (fun hHeld => ?_)
 clear hK K
 try simp only [qz]
 refine doH 7 (by kernel_rfl) rfl fun K hK => ?_
 go_simp
 refine Calls.mono (pick_any (w.heap.size + 3) w7.heap.size [50, 50, 50, 1, 11, 0] w8 (H7.out.below b8).c (by simp) (by simp) (by have := HZ7.out; omega) N8) ?_
 rintro e9 w9 ⟨x9, rfl, hm9, c9, g9⟩
 dsimp only
 have T9 := Turned.ofGrown (S := fun b => b = w.heap.size + 3) g9 (fun k hk => by cases hk; rfl)
 have H9 : Hid (DR w w9) := (H7.out.below b8).grow c9 g9
 have VT9 : Hid (VarA w9 w3.heap.size 25 #[.slice sa sn sc]) := (VT7.out.step b8).turn T9 (by show w3.heap.size ≠ w.heap.size + 3; omega)
 have VO9 : Hid (VarA w9 w6.heap.size 29 #[.i kd, .i p1, .i q1, .bool d1, .slice ya nm.length yc, .i p2, .i q2, .bool d2, .slice za asn.length zc, .i vl]) := (VO7.out.step b8).turn T9 (by show w6.heap.size ≠ w.heap.size + 3; omega)
 refine hK.out _ _ ⟨VT9.out, VO9.out⟩ (fun hHeld => ?_)
 clear hK K
 try simp only [qz]
 refine doH 12 (by kernel_rfl) rfl fun K hK => ?_
 go_simp
 refine Calls.mono (once_any (w.heap.size + 3) 12 w9 H9.out.c (by omega) (by omega)) ?_
 rintro e10 w10 ⟨b10, rfl, c10, g10⟩
 dsimp only
 have T10 := Turned.ofGrown (S := fun b => b = w.heap.size + 3) g10 (fun k hk => by cases hk; rfl)
 have H10 : Hid (DR w w10) := H9.out.grow c10 g10
 have VT10 : Hid (VarA w10 w3.heap.size 25 #[.slice sa sn sc]) := VT9.out.turn T10 (by show w3.heap.size ≠ w.heap.size + 3; omega)
 have VO10 : Hid (VarA w10 w6.heap.size 29 #[.i kd, .i p1, .i q1, .bool d1, .slice ya nm.length yc, .i p2, .i q2, .bool d2, .slice za asn.length zc, .i vl]) := VO9.out.turn T10 (by show w6.heap.size ≠ w.heap.size + 3; omega)
 refine hK.out _ _ ⟨VT10.out, VO10.out⟩ (fun hHeld => ?_)
 clear hK K
 try simp only [qz]
 apply tkh 13 _ rfl (by kernel_rfl) rfl (by assumption)
 ·(intro _ h; (try dsimp only at h); go_simp; try with_reducible rfl)
 try simp only [qz]
 apply tkh 14 _ rfl (by kernel_rfl) rfl (by assumption)
 ·(intro _ h; (try dsimp only at h); go_simp; try with_reducible rfl)
 try simp only [qz]
 refine doH 15 (by kernel_rfl) rfl fun K hK => ?_
 refine step_stF2 H10.out.vT (by rfl) (by rfl) (by kernel_rfl) rfl (of_decide_eq_true rfl) rfl ?_
 intro w11 vT11 t11
 refine hK.out _ _ ⟨VT10.out.turn t11 (by show w3.heap.size ≠ w.heap.size; omega), VO10.out.turn t11 (by show w6.heap.size ≠ w.heap.size; omega)⟩ (fun hHeld => ?_)
 clear hK K
 try simp only [qz]
 refine doH 16 (by kernel_rfl) rfl fun K hK => ?_
 refine step_stF2 (H10.out.vO.turn t11 (by show w.heap.size + 1 ≠ w.heap.size; omega)) (by rfl) (by rfl) (by kernel_rfl) rfl (of_decide_eq_true rfl) rfl ?_
 intro w12 vO12 t12
 refine hK.out _ _ ⟨(VT10.out.turn t11 (by show w3.heap.size ≠ w.heap.size; omega)).turn t12 (by show w3.heap.size ≠ w.heap.size + 1; omega), (VO10.out.turn t11 (by show w6.heap.size ≠ w.heap.size; omega)).turn t12 (by show w6.heap.size ≠ w.heap.size + 1; omega)⟩ (fun hHeld => ?_)
 clear hK K
 try simp only [qz]
 refine doH 17 (by kernel_rfl) rfl fun K hK => ?_
 refine step_stF2 ((H10.out.vF.turn t11 (by show w.heap.size + 2 ≠ w.heap.size; omega)).turn t12 (by show w.heap.size + 2 ≠ w.heap.size + 1; omega)) (by rfl) (by rfl) (by kernel_rfl) rfl (of_decide_eq_true rfl) rfl ?_
 intro w13 vF13 t13
 refine hK.out _ _ ⟨((VT10.out.turn t11 (by show w3.heap.size ≠ w.heap.size; omega)).turn t12 (by show w3.heap.size ≠ w.heap.size + 1; omega)).turn t13 (by show w3.heap.size ≠ w.heap.size + 2; omega), ((VO10.out.turn t11 (by show w6.heap.size ≠ w.heap.size; omega)).turn t12 (by show w6.heap.size ≠ w.heap.size + 1; omega)).turn t13 (by show w6.heap.size ≠ w.heap.size + 2; omega)⟩ (fun hHeld => ?_)
 clear hK K
 try simp only [qz]
 refine wpAnyH_done (by kernel_rfl) (NoPanic.normal ?_) _
 clear hHeld
 have T13 : Turned (fun b => w.heap.size ≤ b ∧ b < w.heap.size + 3) w10 w13 := ((t11.wide (fun k hk => by omega)).trans (t12.wide (fun k hk => by omega))).trans (t13.wide (fun k hk => by omega))
 have z7 := HZ7.out
 have z8 := b8.size
 have z9 := g9.size
 have z10 := g10.size
 have z13 := T13.size
 have cv : ∀ (X : Nat → Prop) (v : Value) (dt : Dt), (∀ b, X b → w.heap.size + 4 ≤ b ∧ b < w7.heap.size) → RdV w7 X v dt → RdV w13 (fun b => w.heap.size ≤ b ∧ b < w13.heap.size) v dt := fun X v dt hX r => RdV.mono (fun b hb => by have := hX b hb; omega) (RdV.keep (T13.keeps (fun b hb e => by have := hX b hb; omega)) (RdV.keep (T10.keeps (fun b hb e => by have := hX b hb; omega)) (RdV.keep (T9.keeps (fun b hb e => by have := hX b hb; omega)) (RdV.step r b8))))
 have hx9 : x9 = 50 ∨ x9 = 1 ∨ x9 = 11 ∨ x9 = 0 := by simp at hm9; omega
 go_wp2_with fail
 refine bodyPost_ret (results_three Tryz.results6 _ _ _ _ _ _ _ _ _ _ _ _ _ _ rfl rfl rfl ((vT11.turn t12 (by show w.heap.size ≠ w.heap.size + 1; omega)).turn t13 (by show w.heap.size ≠ w.heap.size + 2; omega)) (vO12.turn t13 (by show w.heap.size + 1 ≠ w.heap.size + 2; omega)) vF13 Tryz.underlying25 rfl (by kernel_rfl) Tryz.underlying29 rfl (by kernel_rfl) Tryz.underlying27 rfl (by kernel_rfl)) rfl ?_
 refine ⟨sa, sn, sc, l3, ⟨kd, (p1, q1, d1), nm, (p2, q2, d2), asn, vl⟩, .slice ya nm.length yc, .slice za asn.length zc, (p2, x9, _), rfl, cv _ _ _ (fun b hb => by omega) RT7.out, sz_gn hP3 hl3, cv _ _ _ (fun b hb => by omega) RY7.out, cv _ _ _ (fun b hb => by omega) RZ7.out, hl3, hn6, ha6, oI, ⟨?_, ?_⟩, Turned.below H10.out.B T13 H10.out.B.size (fun i hi => hi.1)⟩
 ·have h4 := oI.2.2.2.1
  exact wfI64 h4.1 h4.2
 ·exact wfI64 (show -9223372036854775808 ≤ x9 by omega) (show x9 ≤ 9223372036854775807 by omega)
end Go.Proofs.YtcicadfhfojdpaaGreat
