/- What the specification draws: a part; no condition. -/
import Derived.Test.YtklhikadhohjbaaGreatMA01
import Derived.Test.YtklhikadhohjbaaGreatMA08
import Derived.Test.YtklhikadhohjbaaGreatMA03
import Derived.Deep.CutRange
import Derived.Deep.CutBlock
namespace Go.Proofs.YtklhikadhohjbaaGreat
open Go.RowKit
set_option linter.unusedVariables false
set_option linter.unusedSimpArgs false
set_option maxRecDepth 100000

theorem cur_turn {w w' : World} {pb : Nat} {S : Nat → Prop} (h : CurAt w pb) (t : Turned S w w') (hS : ∀ b, S b → pb < b) : CurAt w' pb := by
 have hlt := h.lt
 obtain ⟨a, zs, cap, i, hh, h1, h2, h3, h4, h5⟩ := h
 refine ⟨a, zs, cap, i, hh, h1, h2, h3, ?_, ?_⟩
 ·rcases h4 with h4 | ⟨b, off, ha, hb, hc⟩
  ·exact .inl h4
  ·exact .inr ⟨b, off, ha, hb, fun j hj => (World.cell?_of_block (a := ⟨b, off + j, none⟩) (t.block b (by omega) (fun e => by have := hS b e; omega))).trans (hc j hj)⟩
 ·rw [t.block pb hlt (fun e => by have := hS pb e; omega)]; exact h5
structure PB (R : TypeId) (rz : Array Value) (w wc : World) (pb lo tb : Nat) (tx : Value) (l : List Nd) : Prop where
 c : CurAt wc pb
 g : w.grownBy wc (some pb)
 vR : VarA wc w.heap.size R rz
 vT : VarA wc tb 55 #[tx]
 r : RdV wc (fun b => lo ≤ b ∧ b < tb) tx (ndsDt l)
section
variable {R : TypeId} {rz : Array Value} {w wc wd : World} {pb lo tb X : Nat} {tx : Value} {l : List Nd}
theorem PB.grow (m : PB R rz w wc pb lo tb tx l) (hc : CurAt wd pb) (hg : wc.grownBy wd (some pb)) (hp : pb < w.heap.size) (hl : w.heap.size < lo) (ht : lo ≤ tb) : PB R rz w wd pb lo tb tx l :=
 have T := Turned.ofGrown (S := fun b => b = pb) hg (fun k hk => by cases hk; rfl)
 ⟨hc, grown_trans m.g hg, m.vR.turn T (by show w.heap.size ≠ pb; omega), m.vT.turn T (by show tb ≠ pb; omega), RdV.keep (T.keeps (fun b hb e => by omega)) m.r⟩
theorem PB.step (m : PB R rz w wc pb lo tb tx l) (h : Below wc.heap.size wc wd) (hp : pb < w.heap.size) (hl : w.heap.size < lo) (ht : lo ≤ tb) : PB R rz w wd pb lo tb tx l := m.grow (m.c.below h) (grown_below h) hp hl ht
theorem PB.turn {S : Nat → Prop} (m : PB R rz w wc pb lo tb tx l) (t : Turned S wc wd) (hp : pb < w.heap.size) (hS : ∀ b, S b → w.heap.size < b ∧ (b < lo ∨ tb < b)) (hl : w.heap.size < lo) (ht : lo ≤ tb) : PB R rz w wd pb lo tb tx l :=
 ⟨cur_turn m.c t (fun b hb => by have := hS b hb; omega), ⟨t.os.trans m.g.os, t.tape.trans m.g.tape, t.output.trans m.g.output, Nat.le_trans m.g.size t.size, fun k hk hne => (t.block k (Nat.lt_of_lt_of_le hk m.g.size) (fun e => by have := hS k e; omega)).trans (m.g.block k hk hne)⟩, m.vR.turn t (fun e => by have := hS _ e; omega), m.vT.turn t (fun e => by have := hS _ e; omega), RdV.keep (t.keeps (fun b hb e => by have := hS b e; omega)) m.r⟩
theorem PB.put (m : PB R rz w wc pb lo tb tx l) (t : Turned (fun b => b = X) wc wd) (hp : pb < w.heap.size) (hX : w.heap.size < X) (hX2 : X < lo ∨ tb < X) (hl : w.heap.size < lo) (ht : lo ≤ tb) : PB R rz w wd pb lo tb tx l := m.turn t hp (fun b hb => by omega) hl ht
theorem vo_grow {T : TypeId} {cs : Array Value} (v : VarA wc X T cs) (hg : wc.grownBy wd (some pb)) (hX : X ≠ pb) : VarA wd X T cs := v.turn (Turned.ofGrown (S := fun b => b = pb) hg (fun k hk => by cases hk; rfl)) hX
theorem as_grow {v : Value} {zs : List Int} (h : AsI wc X v zs) (hg : wc.grownBy wd (some pb)) (hX : pb ≤ X) : AsI wd X v zs := h.turn (Turned.ofGrown (S := fun b => b = pb) hg (fun k hk => by cases hk; rfl)) (fun b hb => by omega)
end
abbrev PBp := PB 33 #[.i 0, .i 0, .i 0, .bool false, .slice none 0 0, .i 0, .i 0, .bool false]
theorem rd_end {w w' : World} {X q n : Nat} {v : Value} {d : Dt} (r : RdV w (fun b => X < b ∧ b < w.heap.size) v d) (t : Turned (fun b => b = q) w w') (hq : q ≤ X) (hX : n ≤ X) : RdV w' (fun b => n < b ∧ b < w'.heap.size) v d :=
 RdV.mono (fun b hb => ⟨by omega, Nat.lt_of_lt_of_le hb.2 t.size⟩) (RdV.keep (t.keeps (fun b hb e => by omega)) r)
def PtSaid (w : World) (pb : Nat) (e : Ending) (w' : World) : Prop :=
 ∃ (p : PtD) (a : Option Addr) (n c : Nat), e = .returned (ptV p (.slice a n c)) ∧ RdV w' (fun b => w.heap.size < b ∧ b < w'.heap.size) (.slice a n c) (.bytes p.asn) ∧ p.asn.length ≤ 3 ∧ CurAt w' pb ∧ w.grownBy w' (some pb)
def PS (w : World) (pb lo tb : Nat) (tx : Value) (l : List Nd) (X : Nat) (wc : World) : Prop :=
 ∃ k a b d v e f h zs, PBp w wc pb lo tb tx l ∧ VarA wc X 33 #[.i k, .i a, .i b, .bool d, v, .i e, .i f, .bool h] ∧ AsI wc X v zs ∧ zs.length ≤ 2
set_option maxHeartbeats 16000000 in
theorem part5_any (pb : Nat) (w : World) (h : CurAt w pb) : Calls Tryz.prog 141 #[.pointer (some ⟨pb, 0, none⟩)] w (PtSaid w pb) := by
 have hpb := h.lt
 go_enter Tryz.func141, Tryz.ntmps141
 go_wp2_with fail
 refine Calls.mono (tree4_any pb _ (h.alloc _)) ?_
 rintro e1 w1 ⟨ta, tn, tc, l, rfl, rT, sm, c1, g1⟩
 have z1 := g1.size
 rw [World.size_alloc] at z1
 have htb : w.heap.size + 1 ≤ w1.heap.size := by omega
 have hlo : w.heap.size < w.heap.size + 1 := by omega
 have hP : ∀ i : Nat, i < l.length → HdR (l[i]?.getD nd0).h := fun i hi => (sm.1 _ (getD_mem hi)).1
 have hL : l.length ≤ 2097152 := Nat.le_trans sm.2.2 (by decide)
 have vR1 := vo_grow (VarA.new w 33 #[.i 0, .i 0, .i 0, .bool false, .slice none 0 0, .i 0, .i 0, .bool false]) g1 (by omega)
 have b2 : Below w1.heap.size w1 (w1.alloc (.cells #[(.slice ta tn tc)] 55)) := Below.newH _
 have HB0 : Hid (PBp w (w1.alloc (.cells #[(.slice ta tn tc)] 55)) pb (w.heap.size + 1) w1.heap.size (.slice ta tn tc) l) := ⟨c1.below b2, grown_trans (grown_trans (World.grownBy_alloc w _ _) g1) (grown_below b2), vR1.step b2, VarA.new _ _ _, RdV.mono (fun b hb => ⟨by have := hb.1; rw [World.size_alloc] at this; omega, hb.2⟩) (RdV.step rT b2)⟩
 clear rT c1 g1 vR1 b2 h z1
 go_upto_region 2 with fail
 generalize hw0 : w1.alloc (.cells #[(.slice ta tn tc)] 55) = w0 at *
 generalize w1.heap.size = tb at *
 have HH : Hid (∀ W, CurAt W pb → RdV W (fun b => w.heap.size + 1 ≤ b ∧ b < tb) (.slice ta tn tc) (ndsDt l) → Calls Tryz.prog 143 #[.pointer (some ⟨pb, 0, none⟩), .agg #[(.slice ta tn tc)]] W (HdSaid W pb)) := fun W hc r => handle4_any pb _ l _ W hc r (fun b hb => by omega) hL hP
 have HD : Hid (∀ W, CurAt W pb → RdV W (fun b => w.heap.size + 1 ≤ b ∧ b < tb) (.slice ta tn tc) (ndsDt l) → Calls Tryz.prog 142 #[.pointer (some ⟨pb, 0, none⟩), .agg #[(.slice ta tn tc)]] W (HdSaid W pb)) := fun W hc r => dir4_any pb _ l _ W hc r (fun b hb => by omega) hL hP
 clear sm hP hL
 go_cut [4] from 5 (fun s4 wx => ∃ X kd p q d, s4 = .pointer (some ⟨X, 0, none⟩) ∧ 0 ≤ kd ∧ kd < 6 ∧ tb < X ∧ PBp w wx pb (w.heap.size + 1) tb (.slice ta tn tc) l ∧ VarA wx X 33 #[.i kd, .i p, .i q, .bool d, .slice none 0 0, .i 0, .i 0, .bool false])
 case first =>
  clear hw0
  refine wp_region_noPanic ?_
  refine wp_region_held_drew (S := fun W => W.cell? ⟨tb, 0, none⟩ = some (.slice ta tn tc)) (by kernel_rfl) (HB0.out.step (Below.drew (Below.refl w0.heap.size w0)) hpb hlo htb).vT.l1 (fun hHeld => ?_)
  refine tkh 0 ?_ rfl (by kernel_rfl) rfl (by assumption) ?_ ?_
  rotate_left
  ·(intro _ h; (try dsimp only at h); go_simp; try with_reducible rfl)
  try simp only [Act.put, qz1, qz2, qz3, qz4, qz5, qz6]
  refine tkh 2 ?_ rfl (by kernel_rfl) rfl (by assumption) ?_ ?_
  rotate_left
  ·(intro _ h; (try dsimp only at h); go_simp; try with_reducible rfl)
  try simp only [Act.put, qz1, qz2, qz3, qz4, qz5, qz6]
  refine tkh 3 ?_ rfl (by kernel_rfl) rfl (by assumption) ?_ ?_
  rotate_left
  ·(intro _ h; (try dsimp only at h); go_simp; try with_reducible rfl)
  try simp only [Act.put, qz1, qz2, qz3, qz4, qz5, qz6]
  refine wpAnyH_ready (rs := [1, 6]) (by kernel_rfl) (by simp) ?_
  refine AllReadyH.cons rfl (fun K hK => ?_) ?_
  focus
   go_simp
   refine Calls.mono (below_any pb 6 _ (HB0.out.step (Below.drew (Below.refl w0.heap.size w0)) hpb hlo htb).c (by omega) (by omega)) ?_
   rintro e_u0 u0 ⟨kd, rfl, hk0, hk1, c_u0, g_u0⟩
   dsimp only
   have B_u0 := (HB0.out.step (Below.drew (Below.refl w0.heap.size w0)) hpb hlo htb).grow c_u0 g_u0 hpb hlo htb
   refine hK.out _ _ B_u0.vT.l1 (fun hHeld => ?_)
   clear hK K
   try simp only [Act.put, qz1, qz2, qz3, qz4, qz5, qz6]
   refine wpAnyH_ready (rs := [4, 6]) (by kernel_rfl) (by simp) ?_
   refine AllReadyH.cons rfl (fun K hK => ?_) ?_
   focus
    go_simp
    refine Calls.mono (HH.out _ B_u0.c B_u0.r) ?_
    rintro e_u1 u1 ⟨⟨p1, q1, d1⟩, rfl, hr1, c_u1, g_u1⟩
    dsimp only
    have B_u1 := B_u0.grow c_u1 g_u1 hpb hlo htb
    refine hK.out _ _ B_u1.vT.l1 (fun hHeld => ?_)
    clear hK K
    try simp only [Act.put, qz1, qz2, qz3, qz4, qz5, qz6]
    refine tkh 5 ?_ rfl (by kernel_rfl) rfl (by assumption) ?_ ?_
    rotate_left
    ·(intro _ h; (try dsimp only at h); go_simp; try with_reducible rfl)
    try simp only [Act.put, qz1, qz2, qz3, qz4, qz5, qz6]
    refine doH 6 (by kernel_rfl) rfl fun K hK => ?_
    go_simp
    obtain ⟨O, hO⟩ : ∃ n, n = u1.heap.size := ⟨_, rfl⟩
    obtain ⟨u2, hu2⟩ : ∃ W, W = World.alloc u1 (.cells #[.i 0, .i 0, .i 0, .bool false, .slice none 0 0, .i 0, .i 0, .bool false] 33) := ⟨_, rfl⟩
    have hOz : tb < O := by rw [hO]; have := (B_u1).vT.lt; exact this
    have b_u2 : Below (u1).heap.size u1 u2 := by rw [hu2]; exact Below.newH (w := u1) _
    have vo_u2 : VarA u2 O 33 #[.i 0, .i 0, .i 0, .bool false, .slice none 0 0, .i 0, .i 0, .bool false] := by rw [hO, hu2]; exact VarA.new u1 _ _
    have B_u2 := (B_u1).step b_u2 hpb hlo htb
    rw [← hu2, ← hO]
    clear hu2 hO
    refine hK.out _ _ B_u2.vT.l1 (fun hHeld => ?_)
    clear hK K
    try simp only [Act.put, qz1, qz2, qz3, qz4, qz5, qz6]
    refine doH 7 (by kernel_rfl) rfl fun K hK => ?_
    refine step_stF2 vo_u2 (by rfl) (by rfl) (by kernel_rfl) rfl (of_decide_eq_true rfl) rfl ?_
    intro wL vL tL
    have HB : Hid (PBp w wL pb (w.heap.size + 1) tb (.slice ta tn tc) l) := (B_u2).put tL hpb (by omega) (Or.inr hOz) hlo htb
    refine hK.out _ _ HB.out.vT.l1 (fun hHeld => ?_)
    clear hK K
    try simp only [Act.put, qz1, qz2, qz3, qz4, qz5, qz6]
    refine wpAnyH_done (by kernel_rfl) (NoPanic.normal ?_) _
    clear hHeld
   rotate_left 1
   refine AllReadyH.cons rfl (fun K hK => ?_) AllReadyH.nil
   go_simp
   obtain ⟨O, hO⟩ : ∃ n, n = u0.heap.size := ⟨_, rfl⟩
   obtain ⟨u1, hu1⟩ : ∃ W, W = World.alloc u0 (.cells #[.i 0, .i 0, .i 0, .bool false, .slice none 0 0, .i 0, .i 0, .bool false] 33) := ⟨_, rfl⟩
   have hOz : tb < O := by rw [hO]; have := (B_u0).vT.lt; exact this
   have b_u1 : Below (u0).heap.size u0 u1 := by rw [hu1]; exact Below.newH (w := u0) _
   have vo_u1 : VarA u1 O 33 #[.i 0, .i 0, .i 0, .bool false, .slice none 0 0, .i 0, .i 0, .bool false] := by rw [hO, hu1]; exact VarA.new u0 _ _
   have B_u1 := (B_u0).step b_u1 hpb hlo htb
   rw [← hu1, ← hO]
   clear hu1 hO
   refine hK.out _ _ B_u1.vT.l1 (fun hHeld => ?_)
   clear hK K
   try simp only [Act.put, qz1, qz2, qz3, qz4, qz5, qz6]
   refine doH 4 (by kernel_rfl) rfl fun K hK => ?_
   go_simp
   refine Calls.mono (HH.out _ B_u1.c B_u1.r) ?_
   rintro e_u2 u2 ⟨⟨p1, q1, d1⟩, rfl, hr1, c_u2, g_u2⟩
   dsimp only
   have B_u2 := B_u1.grow c_u2 g_u2 hpb hlo htb
   have vo_u2 := vo_grow vo_u1 g_u2 (by omega)
   refine hK.out _ _ B_u2.vT.l1 (fun hHeld => ?_)
   clear hK K
   try simp only [Act.put, qz1, qz2, qz3, qz4, qz5, qz6]
   refine tkh 5 ?_ rfl (by kernel_rfl) rfl (by assumption) ?_ ?_
   rotate_left
   ·(intro _ h; (try dsimp only at h); go_simp; try with_reducible rfl)
   try simp only [Act.put, qz1, qz2, qz3, qz4, qz5, qz6]
   refine doH 7 (by kernel_rfl) rfl fun K hK => ?_
   refine step_stF2 vo_u2 (by rfl) (by rfl) (by kernel_rfl) rfl (of_decide_eq_true rfl) rfl ?_
   intro wL vL tL
   have HB : Hid (PBp w wL pb (w.heap.size + 1) tb (.slice ta tn tc) l) := (B_u2).put tL hpb (by omega) (Or.inr hOz) hlo htb
   refine hK.out _ _ HB.out.vT.l1 (fun hHeld => ?_)
   clear hK K
   try simp only [Act.put, qz1, qz2, qz3, qz4, qz5, qz6]
   refine wpAnyH_done (by kernel_rfl) (NoPanic.normal ?_) _
   clear hHeld
  rotate_left 2
  refine AllReadyH.cons rfl (fun K hK => ?_) AllReadyH.nil
  go_simp
  obtain ⟨O, hO⟩ : ∃ n, n = w0.heap.size := ⟨_, rfl⟩
  obtain ⟨u0, hu0⟩ : ∃ W, W = (World.alloc w0 (.cells #[.i 0, .i 0, .i 0, .bool false, .slice none 0 0, .i 0, .i 0, .bool false] 33)).drew := ⟨_, rfl⟩
  have hOz : tb < O := by rw [hO]; have := ((HB0.out.step (Below.drew (Below.refl w0.heap.size w0)) hpb hlo htb)).vT.lt; exact this
  have b_u0 : Below (w0.drew).heap.size w0.drew u0 := by rw [hu0]; exact Below.newH (w := w0.drew) _
  have vo_u0 : VarA u0 O 33 #[.i 0, .i 0, .i 0, .bool false, .slice none 0 0, .i 0, .i 0, .bool false] := by rw [hO, hu0]; exact VarA.new w0.drew _ _
  have B_u0 := ((HB0.out.step (Below.drew (Below.refl w0.heap.size w0)) hpb hlo htb)).step b_u0 hpb hlo htb
  rw [← hu0, ← hO]
  clear hu0 hO
  refine hK.out _ _ B_u0.vT.l1 (fun hHeld => ?_)
  clear hK K
  try simp only [Act.put, qz1, qz2, qz3, qz4, qz5, qz6]
  refine doH 1 (by kernel_rfl) rfl fun K hK => ?_
  go_simp
  refine Calls.mono (below_any pb 6 _ B_u0.c (by omega) (by omega)) ?_
  rintro e_u1 u1 ⟨kd, rfl, hk0, hk1, c_u1, g_u1⟩
  dsimp only
  have B_u1 := B_u0.grow c_u1 g_u1 hpb hlo htb
  have vo_u1 := vo_grow vo_u0 g_u1 (by omega)
  refine hK.out _ _ B_u1.vT.l1 (fun hHeld => ?_)
  clear hK K
  try simp only [Act.put, qz1, qz2, qz3, qz4, qz5, qz6]
  refine doH 4 (by kernel_rfl) rfl fun K hK => ?_
  go_simp
  refine Calls.mono (HH.out _ B_u1.c B_u1.r) ?_
  rintro e_u2 u2 ⟨⟨p1, q1, d1⟩, rfl, hr1, c_u2, g_u2⟩
  dsimp only
  have B_u2 := B_u1.grow c_u2 g_u2 hpb hlo htb
  have vo_u2 := vo_grow vo_u1 g_u2 (by omega)
  refine hK.out _ _ B_u2.vT.l1 (fun hHeld => ?_)
  clear hK K
  try simp only [Act.put, qz1, qz2, qz3, qz4, qz5, qz6]
  refine tkh 5 ?_ rfl (by kernel_rfl) rfl (by assumption) ?_ ?_
  rotate_left
  ·(intro _ h; (try dsimp only at h); go_simp; try with_reducible rfl)
  try simp only [Act.put, qz1, qz2, qz3, qz4, qz5, qz6]
  refine doH 7 (by kernel_rfl) rfl fun K hK => ?_
  refine step_stF2 vo_u2 (by rfl) (by rfl) (by kernel_rfl) rfl (of_decide_eq_true rfl) rfl ?_
  intro wL vL tL
  have HB : Hid (PBp w wL pb (w.heap.size + 1) tb (.slice ta tn tc) l) := (B_u2).put tL hpb (by omega) (Or.inr hOz) hlo htb
  refine hK.out _ _ HB.out.vT.l1 (fun hHeld => ?_)
  clear hK K
  try simp only [Act.put, qz1, qz2, qz3, qz4, qz5, qz6]
  refine wpAnyH_done (by kernel_rfl) (NoPanic.normal ?_) _
  clear hHeld
  all_goals (go_wp2_with fail; go_meet; exact ⟨O, kd, p1, q1, d1, rfl, hk0, hk1, hOz, HB.out, vL⟩)
 case rest =>
  obtain ⟨X, kd, p, q, d, rfl, hk0, hk1, hX, B, vP⟩ := hcut
  have HB1 : Hid (PBp w wc pb (w.heap.size + 1) tb (.slice ta tn tc) l) := B
  have HV1 : Hid (VarA wc X 33 #[.i kd, .i p, .i q, .bool d, .slice none 0 0, .i 0, .i 0, .bool false]) := vP
  have o0 := vP.c 0 rfl
  have tt := B.vT.l1
  clear B vP HB0 hw0
  go_upto_block 0 with fail
  go_cut [] from 15 (fun wx => PS w pb (w.heap.size + 1) tb (.slice ta tn tc) l X wx)
  case first =>
   clear o0
   have hx : kd = 0 ∨ kd = 1 ∨ kd = 2 ∨ kd = 3 ∨ kd = 4 ∨ kd = 5 := by omega
   rcases hx with rfl | rfl | rfl | rfl | rfl | rfl
   ·go_wp2_with fail
    go_meet
    exact ⟨_, _, _, _, _, _, _, _, [], HB1.out, HV1.out, AsI.nil _ _, by simp⟩
   ·go_wp2_with ((with_reducible refine gS 4 ?_); refine wpList_storeG HV1.out rfl rfl rfl (by kernel_rfl) rfl (of_decide_eq_true rfl) rfl ?_; intro yk1_1 vyk1_1 tyk1_1; have HVk1_1 : Hid (VarA yk1_1 X 33 #[.i 1, .i p, .i q, .bool false, .slice none 0 0, .i 0, .i 0, .bool false]) := vyk1_1; have HBk1_1 : Hid (PBp w yk1_1 pb (w.heap.size + 1) tb (.slice ta tn tc) l) := HB1.out.put tyk1_1 hpb (by omega) (Or.inr hX) hlo htb; have tt := HBk1_1.out.vT.l1)
    go_meet
    exact ⟨_, _, _, _, _, _, _, _, [], HBk1_1.out, HVk1_1.out, AsI.nil _ _, by simp⟩
   ·go_wp2_with ((with_reducible refine gS 3 ?_); refine wpList_storeG HV1.out rfl rfl rfl (by kernel_rfl) rfl (of_decide_eq_true rfl) rfl ?_; intro yk2_1 vyk2_1 tyk2_1; have HVk2_1 : Hid (VarA yk2_1 X 33 #[.i 2, .i p, .i 0, .bool d, .slice none 0 0, .i 0, .i 0, .bool false]) := vyk2_1; have HBk2_1 : Hid (PBp w yk2_1 pb (w.heap.size + 1) tb (.slice ta tn tc) l) := HB1.out.put tyk2_1 hpb (by omega) (Or.inr hX) hlo htb; have tt := HBk2_1.out.vT.l1)
    refine Calls.mono (HD.out _ HBk2_1.out.c HBk2_1.out.r) ?_
    rintro ek2_2 wk2_2 ⟨⟨pk2_2, qk2_2, dk2_2⟩, rfl, hrk2_2, ck2_2, gk2_2⟩
    try clear tt
    have zxk2_2 := HVk2_1.out.lt
    have HBk2_2 : Hid (PBp w wk2_2 pb (w.heap.size + 1) tb (.slice ta tn tc) l) := HBk2_1.out.grow ck2_2 gk2_2 hpb hlo htb
    have HVk2_2 : Hid (VarA wk2_2 X 33 #[.i 2, .i p, .i 0, .bool d, .slice none 0 0, .i 0, .i 0, .bool false]) := vo_grow HVk2_1.out gk2_2 (by omega)
    have tt := HBk2_2.out.vT.l1
    go_wp2_with ((with_reducible refine gS 24 ?_); refine wpList_storeG HVk2_2.out rfl rfl rfl (by kernel_rfl) rfl (of_decide_eq_true rfl) rfl ?_; intro yk2_3 vyk2_3 tyk2_3; have HVk2_3 : Hid (VarA yk2_3 X 33 #[.i 2, .i p, .i 0, .bool d, .slice none 0 0, .i pk2_2, .i qk2_2, .bool dk2_2]) := vyk2_3; have HBk2_3 : Hid (PBp w yk2_3 pb (w.heap.size + 1) tb (.slice ta tn tc) l) := HBk2_2.out.put tyk2_3 hpb (by omega) (Or.inr hX) hlo htb; have tt := HBk2_3.out.vT.l1)
    go_meet
    exact ⟨_, _, _, _, _, _, _, _, [], HBk2_3.out, HVk2_3.out, AsI.nil _ _, by simp⟩
   ·go_wp2_with fail
    refine Calls.mono (HD.out _ HB1.out.c HB1.out.r) ?_
    rintro ek3_1 wk3_1 ⟨⟨pk3_1, qk3_1, dk3_1⟩, rfl, hrk3_1, ck3_1, gk3_1⟩
    try clear tt
    have zxk3_1 := HV1.out.lt
    have HBk3_1 : Hid (PBp w wk3_1 pb (w.heap.size + 1) tb (.slice ta tn tc) l) := HB1.out.grow ck3_1 gk3_1 hpb hlo htb
    have HVk3_1 : Hid (VarA wk3_1 X 33 #[.i 3, .i p, .i q, .bool d, .slice none 0 0, .i 0, .i 0, .bool false]) := vo_grow HV1.out gk3_1 (by omega)
    have tt := HBk3_1.out.vT.l1
    go_wp2_with ((with_reducible refine gS 24 ?_); refine wpList_storeG HVk3_1.out rfl rfl rfl (by kernel_rfl) rfl (of_decide_eq_true rfl) rfl ?_; intro yk3_2 vyk3_2 tyk3_2; have HVk3_2 : Hid (VarA yk3_2 X 33 #[.i 3, .i pk3_1, .i qk3_1, .bool dk3_1, .slice none 0 0, .i 0, .i 0, .bool false]) := vyk3_2; have HBk3_2 : Hid (PBp w yk3_2 pb (w.heap.size + 1) tb (.slice ta tn tc) l) := HBk3_1.out.put tyk3_2 hpb (by omega) (Or.inr hX) hlo htb; have tt := HBk3_2.out.vT.l1)
    refine Calls.mono (draws4b_any pb _ HBk3_2.out.c) ?_
    rintro ek3_3 wk3_3 ⟨nak3_3, nnk3_3, nck3_3, nzk3_3, rfl, rak3_3, lnk3_3, ck3_3, gk3_3⟩
    try clear tt
    have zxk3_3 := HVk3_2.out.lt
    have HBk3_3 : Hid (PBp w wk3_3 pb (w.heap.size + 1) tb (.slice ta tn tc) l) := HBk3_2.out.grow ck3_3 gk3_3 hpb hlo htb
    have HVk3_3 : Hid (VarA wk3_3 X 33 #[.i 3, .i pk3_1, .i qk3_1, .bool dk3_1, .slice none 0 0, .i 0, .i 0, .bool false]) := vo_grow HVk3_2.out gk3_3 (by omega)
    have tt := HBk3_3.out.vT.l1
    have HAk3_3 : Hid (AsI wk3_3 X (.slice nak3_3 nnk3_3 nck3_3) nzk3_3) := rak3_3.le (by omega)
    clear rak3_3
    go_wp2_with ((with_reducible refine gS 22 ?_); refine wpList_storeG HVk3_3.out rfl rfl rfl (by kernel_rfl) rfl (of_decide_eq_true rfl) rfl ?_; intro yk3_4 vyk3_4 tyk3_4; have HVk3_4 : Hid (VarA yk3_4 X 33 #[.i 3, .i pk3_1, .i qk3_1, .bool dk3_1, .slice nak3_3 nnk3_3 nck3_3, .i 0, .i 0, .bool false]) := vyk3_4; have HBk3_4 : Hid (PBp w yk3_4 pb (w.heap.size + 1) tb (.slice ta tn tc) l) := HBk3_3.out.put tyk3_4 hpb (by omega) (Or.inr hX) hlo htb; have tt := HBk3_4.out.vT.l1; have HAk3_4 : Hid (AsI yk3_4 X (.slice nak3_3 nnk3_3 nck3_3) nzk3_3) := HAk3_3.out.turn tyk3_4 (fun b hb => by omega))
    refine Calls.mono (HH.out _ HBk3_4.out.c HBk3_4.out.r) ?_
    rintro ek3_5 wk3_5 ⟨⟨pk3_5, qk3_5, dk3_5⟩, rfl, hrk3_5, ck3_5, gk3_5⟩
    try clear tt
    have zxk3_5 := HVk3_4.out.lt
    have HBk3_5 : Hid (PBp w wk3_5 pb (w.heap.size + 1) tb (.slice ta tn tc) l) := HBk3_4.out.grow ck3_5 gk3_5 hpb hlo htb
    have HVk3_5 : Hid (VarA wk3_5 X 33 #[.i 3, .i pk3_1, .i qk3_1, .bool dk3_1, .slice nak3_3 nnk3_3 nck3_3, .i 0, .i 0, .bool false]) := vo_grow HVk3_4.out gk3_5 (by omega)
    have tt := HBk3_5.out.vT.l1
    have HAk3_5 : Hid (AsI wk3_5 X (.slice nak3_3 nnk3_3 nck3_3) nzk3_3) := as_grow HAk3_4.out gk3_5 (by omega)
    go_wp2_with ((with_reducible refine gS 24 ?_); refine wpList_storeG HVk3_5.out rfl rfl rfl (by kernel_rfl) rfl (of_decide_eq_true rfl) rfl ?_; intro yk3_6 vyk3_6 tyk3_6; have HVk3_6 : Hid (VarA yk3_6 X 33 #[.i 3, .i pk3_1, .i qk3_1, .bool dk3_1, .slice nak3_3 nnk3_3 nck3_3, .i pk3_5, .i qk3_5, .bool dk3_5]) := vyk3_6; have HBk3_6 : Hid (PBp w yk3_6 pb (w.heap.size + 1) tb (.slice ta tn tc) l) := HBk3_5.out.put tyk3_6 hpb (by omega) (Or.inr hX) hlo htb; have tt := HBk3_6.out.vT.l1; have HAk3_6 : Hid (AsI yk3_6 X (.slice nak3_3 nnk3_3 nck3_3) nzk3_3) := HAk3_5.out.turn tyk3_6 (fun b hb => by omega))
    go_meet
    exact ⟨_, _, _, _, _, _, _, _, nzk3_3, HBk3_6.out, HVk3_6.out, HAk3_6.out, lnk3_3⟩
   ·go_wp2_with fail
    refine Calls.mono (HD.out _ HB1.out.c HB1.out.r) ?_
    rintro ek4_1 wk4_1 ⟨⟨pk4_1, qk4_1, dk4_1⟩, rfl, hrk4_1, ck4_1, gk4_1⟩
    try clear tt
    have zxk4_1 := HV1.out.lt
    have HBk4_1 : Hid (PBp w wk4_1 pb (w.heap.size + 1) tb (.slice ta tn tc) l) := HB1.out.grow ck4_1 gk4_1 hpb hlo htb
    have HVk4_1 : Hid (VarA wk4_1 X 33 #[.i 4, .i p, .i q, .bool d, .slice none 0 0, .i 0, .i 0, .bool false]) := vo_grow HV1.out gk4_1 (by omega)
    have tt := HBk4_1.out.vT.l1
    go_wp2_with ((with_reducible refine gS 24 ?_); refine wpList_storeG HVk4_1.out rfl rfl rfl (by kernel_rfl) rfl (of_decide_eq_true rfl) rfl ?_; intro yk4_2 vyk4_2 tyk4_2; have HVk4_2 : Hid (VarA yk4_2 X 33 #[.i 4, .i pk4_1, .i qk4_1, .bool dk4_1, .slice none 0 0, .i 0, .i 0, .bool false]) := vyk4_2; have HBk4_2 : Hid (PBp w yk4_2 pb (w.heap.size + 1) tb (.slice ta tn tc) l) := HBk4_1.out.put tyk4_2 hpb (by omega) (Or.inr hX) hlo htb; have tt := HBk4_2.out.vT.l1)
    refine Calls.mono (HD.out _ HBk4_2.out.c HBk4_2.out.r) ?_
    rintro ek4_3 wk4_3 ⟨⟨pk4_3, qk4_3, dk4_3⟩, rfl, hrk4_3, ck4_3, gk4_3⟩
    try clear tt
    have zxk4_3 := HVk4_2.out.lt
    have HBk4_3 : Hid (PBp w wk4_3 pb (w.heap.size + 1) tb (.slice ta tn tc) l) := HBk4_2.out.grow ck4_3 gk4_3 hpb hlo htb
    have HVk4_3 : Hid (VarA wk4_3 X 33 #[.i 4, .i pk4_1, .i qk4_1, .bool dk4_1, .slice none 0 0, .i 0, .i 0, .bool false]) := vo_grow HVk4_2.out gk4_3 (by omega)
    have tt := HBk4_3.out.vT.l1
    go_wp2_with ((with_reducible refine gS 24 ?_); refine wpList_storeG HVk4_3.out rfl rfl rfl (by kernel_rfl) rfl (of_decide_eq_true rfl) rfl ?_; intro yk4_4 vyk4_4 tyk4_4; have HVk4_4 : Hid (VarA yk4_4 X 33 #[.i 4, .i pk4_1, .i qk4_1, .bool dk4_1, .slice none 0 0, .i pk4_3, .i qk4_3, .bool dk4_3]) := vyk4_4; have HBk4_4 : Hid (PBp w yk4_4 pb (w.heap.size + 1) tb (.slice ta tn tc) l) := HBk4_3.out.put tyk4_4 hpb (by omega) (Or.inr hX) hlo htb; have tt := HBk4_4.out.vT.l1)
    go_meet
    exact ⟨_, _, _, _, _, _, _, _, [], HBk4_4.out, HVk4_4.out, AsI.nil _ _, by simp⟩
   ·go_wp2_with ((with_reducible refine gS 24 ?_); refine wpList_storeG HV1.out rfl rfl rfl (by kernel_rfl) rfl (of_decide_eq_true rfl) rfl ?_; intro yk5_1 vyk5_1 tyk5_1; have HVk5_1 : Hid (VarA yk5_1 X 33 #[.i 5, .i 0, .i 0, .bool false, .slice none 0 0, .i 0, .i 0, .bool false]) := vyk5_1; have HBk5_1 : Hid (PBp w yk5_1 pb (w.heap.size + 1) tb (.slice ta tn tc) l) := HB1.out.put tyk5_1 hpb (by omega) (Or.inr hX) hlo htb; have tt := HBk5_1.out.vT.l1)
    go_meet
    exact ⟨_, _, _, _, _, _, _, _, [], HBk5_1.out, HVk5_1.out, AsI.nil _ _, by simp⟩
  case rest =>
   rename World => wd
   obtain ⟨k, a, b, d, v, e, f, h, zs, B, vP, A, hzs⟩ := hcut
   obtain ⟨va, vc, rfl⟩ := A.form
   have HB2 : Hid (PBp w wd pb (w.heap.size + 1) tb (.slice ta tn tc) l) := B
   have HV2 : Hid (VarA wd X 33 #[.i k, .i a, .i b, .bool d, (.slice va zs.length vc), .i e, .i f, .bool h]) := vP
   have HA2 : Hid (AsI wd X (.slice va zs.length vc) zs) := A
   clear B vP A HB1 HV1 o0 tt hk0 hk1
   have tt := HB2.out.vT.l1
   go_wp2_with fail
   refine Calls.mono (once_any pb 10 _ HB2.out.c (by omega) (by omega)) ?_
   rintro et_1 wt_1 ⟨bt_1, rfl, ct_1, gt_1⟩
   try clear tt
   have zxt_1 := HV2.out.lt
   have HBt_1 : Hid (PBp w wt_1 pb (w.heap.size + 1) tb (.slice ta tn tc) l) := HB2.out.grow ct_1 gt_1 hpb hlo htb
   have HVt_1 : Hid (VarA wt_1 X 33 #[.i k, .i a, .i b, .bool d, (.slice va zs.length vc), .i e, .i f, .bool h]) := vo_grow HV2.out gt_1 (by omega)
   have tt := HBt_1.out.vT.l1
   have HAt_1 : Hid (AsI wt_1 X (.slice va zs.length vc) zs) := as_grow HA2.out gt_1 (by omega)
   cases bt_1 with
   | false =>
    clear tt
    obtain ⟨o0, o1, o2, o3, o4, o5, o6, o7⟩ := HVt_1.out.l8
    go_wp2_with ((with_reducible refine gS 33 ?_); refine sF HBt_1.out.vR rfl rfl (by kernel_rfl) rfl rfl ?_; intro wz vZ t_)
    refine bpR Tryz.results141 vZ Tryz.underlying33 rfl rfl (by kernel_rfl) rfl ?_
    exact ⟨⟨k, (a, b, d), zs, (e, f, h)⟩, _, _, _, rfl, rd_end HAt_1.out.rd t_ (by omega) (by omega), by show zs.length ≤ 3; omega, cur_keep HBt_1.out.c t_ (by omega), grown_keep HBt_1.out.g t_ (by omega)⟩
   | true =>
    go_wp2_with fail
    refine Calls.mono (below_any pb 4 _ HBt_1.out.c (by omega) (by omega)) ?_
    rintro et_2 wt_2 ⟨xt_2, rfl, xat_2, xbt_2, ct_2, gt_2⟩
    try clear tt
    have zxt_2 := HVt_1.out.lt
    have HBt_2 : Hid (PBp w wt_2 pb (w.heap.size + 1) tb (.slice ta tn tc) l) := HBt_1.out.grow ct_2 gt_2 hpb hlo htb
    have HVt_2 : Hid (VarA wt_2 X 33 #[.i k, .i a, .i b, .bool d, (.slice va zs.length vc), .i e, .i f, .bool h]) := vo_grow HVt_1.out gt_2 (by omega)
    have tt := HBt_2.out.vT.l1
    have HAt_2 : Hid (AsI wt_2 X (.slice va zs.length vc) zs) := as_grow HAt_1.out gt_2 (by omega)
    have hx : xt_2 = 0 ∨ xt_2 = 1 ∨ xt_2 = 2 ∨ xt_2 = 3 := by omega
    rcases hx with rfl | rfl | rfl | rfl
    ·go_wp2_with fail
     refine Calls.mono (below_any pb 8 _ HBt_2.out.c (by omega) (by omega)) ?_
     rintro et_3 wt_3 ⟨xt_3, rfl, xat_3, xbt_3, ct_3, gt_3⟩
     try clear tt
     have zxt_3 := HVt_2.out.lt
     have HBt_3 : Hid (PBp w wt_3 pb (w.heap.size + 1) tb (.slice ta tn tc) l) := HBt_2.out.grow ct_3 gt_3 hpb hlo htb
     have HVt_3 : Hid (VarA wt_3 X 33 #[.i k, .i a, .i b, .bool d, (.slice va zs.length vc), .i e, .i f, .bool h]) := vo_grow HVt_2.out gt_3 (by omega)
     have tt := HBt_3.out.vT.l1
     have HAt_3 : Hid (AsI wt_3 X (.slice va zs.length vc) zs) := as_grow HAt_2.out gt_3 (by omega)
     have hw : IntKind.i64.wrap (xt_3 - 1) = xt_3 - 1 := wrapI _ (by omega) (by omega)
     go_wp2_with (first | ((with_reducible refine gS 33 ?_); refine sF HBt_4.out.vR rfl rfl (by kernel_rfl) rfl rfl ?_; intro wz vZ t_) | ((with_reducible refine gS 3 ?_); refine wpList_storeG HVt_3.out rfl rfl rfl (by kernel_rfl) rfl (of_decide_eq_true rfl) rfl ?_; intro yt_4 vyt_4 tyt_4; have HVt_4 : Hid (VarA yt_4 X 33 #[.i (xt_3 - 1), .i a, .i b, .bool d, (.slice va zs.length vc), .i e, .i f, .bool h]) := vyt_4; have HBt_4 : Hid (PBp w yt_4 pb (w.heap.size + 1) tb (.slice ta tn tc) l) := HBt_3.out.put tyt_4 hpb (by omega) (Or.inr hX) hlo htb; have tt := HBt_4.out.vT.l1; have HAt_4 : Hid (AsI yt_4 X (.slice va zs.length vc) zs) := HAt_3.out.turn tyt_4 (fun b hb => by omega); obtain ⟨o0, o1, o2, o3, o4, o5, o6, o7⟩ := HVt_4.out.l8))
     refine bpR Tryz.results141 vZ Tryz.underlying33 rfl rfl (by kernel_rfl) rfl ?_
     exact ⟨⟨(xt_3 - 1), (a, b, d), zs, (e, f, h)⟩, _, _, _, rfl, rd_end HAt_4.out.rd t_ (by omega) (by omega), by show zs.length ≤ 3; omega, cur_keep HBt_4.out.c t_ (by omega), grown_keep HBt_4.out.g t_ (by omega)⟩
    ·clear tt
     have o4 := HVt_2.out.c 4 rfl
     have zx := HVt_2.out.lt
     have HAa : Hid (AsI (wt_2.alloc (.cells #[.int .u8 65] 5)) X (.slice va zs.length vc) zs) := HAt_2.out.turn (Turned.ofBelow (S := fun b => False) (Below.newH _)) (fun b hb => hb.elim)
     have HBa : Hid (PBp w (wt_2.alloc (.cells #[.int .u8 65] 5)) pb (w.heap.size + 1) tb (.slice ta tn tc) l) := HBt_2.out.step (Below.newH _) hpb hlo htb
     have HVa : Hid (VarA (wt_2.alloc (.cells #[.int .u8 65] 5)) X 33 #[.i k, .i a, .i b, .bool d, (.slice va zs.length vc), .i e, .i f, .bool h]) := HVt_2.out.alloc _
     go_wp2_with (first | ((with_reducible refine gS 33 ?_); refine sF HBt_3.out.vR rfl rfl (by kernel_rfl) rfl rfl ?_; intro wz vZ t_) | ((with_reducible refine gS 22 ?_); refine wpList_storeG HVu.out rfl rfl rfl (by kernel_rfl) rfl (of_decide_eq_true rfl) rfl ?_; intro yt_3 vyt_3 tyt_3; have HVt_3 : Hid (VarA yt_3 X 33 #[.i k, .i a, .i b, .bool d, .slice ua un uc, .i e, .i f, .bool h]) := vyt_3; have HBt_3 : Hid (PBp w yt_3 pb (w.heap.size + 1) tb (.slice ta tn tc) l) := HBu.out.put tyt_3 hpb (by omega) (Or.inr hX) hlo htb; have tt := HBt_3.out.vT.l1; obtain ⟨o0, o1, o2, o3, o4, o5, o6, o7⟩ := HVt_3.out.l8) | (at_builtin; go_must (refine wpList_appF _ rfl (.tmp 72) (.tmp 73) rfl _ rfl X zs HAa.out (by omega) (by simp; omega) ⟨wt_2.heap.size, 0, none⟩ 1 65 rfl (by omega) (by omega) (by rw [World.cell?_alloc_at _ _ _ _ rfl]; rfl) ?_; intro ua un uc wu ru tu; have HRU : Hid (RdV wu (fun b => X < b ∧ b < wu.heap.size) (.slice ua un uc) (.bytes (zs ++ [65]))) := ru; have HBu : Hid (PBp w wu pb (w.heap.size + 1) tb (.slice ta tn tc) l) := HBa.out.turn tu hpb (fun b hb => ⟨by omega, Or.inr (by omega)⟩) hlo htb; have HVu : Hid (VarA wu X 33 #[.i k, .i a, .i b, .bool d, (.slice va zs.length vc), .i e, .i f, .bool h]) := HVa.out.turn tu (by show ¬ X < X; omega))))
     refine bpR Tryz.results141 vZ Tryz.underlying33 rfl rfl (by kernel_rfl) rfl ?_
     exact ⟨⟨k, (a, b, d), (zs ++ [65]), (e, f, h)⟩, _, _, _, rfl, rd_end (RdV.mono (fun b hb => ⟨hb.1, Nat.lt_of_lt_of_le hb.2 tyt_3.size⟩) (RdV.keep (tyt_3.keeps (fun b hb e => by omega)) HRU.out)) t_ (by omega) (by omega), by rw [List.length_append]; show zs.length + 1 ≤ 3; omega, cur_keep HBt_3.out.c t_ (by omega), grown_keep HBt_3.out.g t_ (by omega)⟩
    ·go_wp2_with fail
     refine Calls.mono (specRootH_any _) ?_
     rintro er wr ⟨rfl, hwr⟩
     have br : Below wt_2.heap.size wt_2 wr := by rw [hwr]; exact Below.newH _
     clear hwr
     clear tt
     have HBr : Hid (PBp w wr pb (w.heap.size + 1) tb (.slice ta tn tc) l) := HBt_2.out.step br hpb hlo htb
     have HVr : Hid (VarA wr X 33 #[.i k, .i a, .i b, .bool d, (.slice va zs.length vc), .i e, .i f, .bool h]) := HVt_2.out.step br
     have HAr : Hid (AsI wr X (.slice va zs.length vc) zs) := HAt_2.out.turn (Turned.ofBelow (S := fun b => False) br) (fun b hb => hb.elim)
     go_wp2_with (first | ((with_reducible refine gS 33 ?_); refine sF HBt_3.out.vR rfl rfl (by kernel_rfl) rfl rfl ?_; intro wz vZ t_) | ((with_reducible refine gS 24 ?_); refine wpList_storeG HVr.out rfl rfl rfl (by kernel_rfl) rfl (of_decide_eq_true rfl) rfl ?_; intro yt_3 vyt_3 tyt_3; have HVt_3 : Hid (VarA yt_3 X 33 #[.i k, .i a, .i b, .bool d, (.slice va zs.length vc), .i 0, .i 1, .bool true]) := vyt_3; have HBt_3 : Hid (PBp w yt_3 pb (w.heap.size + 1) tb (.slice ta tn tc) l) := HBr.out.put tyt_3 hpb (by omega) (Or.inr hX) hlo htb; have tt := HBt_3.out.vT.l1; have HAt_3 : Hid (AsI yt_3 X (.slice va zs.length vc) zs) := HAr.out.turn tyt_3 (fun b hb => by omega); obtain ⟨o0, o1, o2, o3, o4, o5, o6, o7⟩ := HVt_3.out.l8))
     refine bpR Tryz.results141 vZ Tryz.underlying33 rfl rfl (by kernel_rfl) rfl ?_
     exact ⟨⟨k, (a, b, d), zs, (0, 1, true)⟩, _, _, _, rfl, rd_end HAt_3.out.rd t_ (by omega) (by omega), by show zs.length ≤ 3; omega, cur_keep HBt_3.out.c t_ (by omega), grown_keep HBt_3.out.g t_ (by omega)⟩
    ·go_wp2_with fail
     refine Calls.mono (pick_any pb wt_2.heap.size [0, -1, 1] _ (HBt_2.out.c.alloc _) (by simp) (by simp) (by have := HBt_2.out.c.lt; omega) (heap_alloc_new wt_2 _)) ?_
     rintro e4 w4 ⟨x4, rfl, hm4, c4, g4⟩
     clear tt
     have HBp : Hid (PBp w w4 pb (w.heap.size + 1) tb (.slice ta tn tc) l) := (HBt_2.out.step (Below.newH _) hpb hlo htb).grow c4 g4 hpb hlo htb
     have HVp : Hid (VarA w4 X 33 #[.i k, .i a, .i b, .bool d, (.slice va zs.length vc), .i e, .i f, .bool h]) := vo_grow (HVt_2.out.alloc _) g4 (by omega)
     have HAp : Hid (AsI w4 X (.slice va zs.length vc) zs) := as_grow (HAt_2.out.turn (Turned.ofBelow (S := fun b => False) (Below.newH _)) (fun b hb => hb.elim)) g4 (by omega)
     go_wp2_with (first | ((with_reducible refine gS 33 ?_); refine sF HBt_3.out.vR rfl rfl (by kernel_rfl) rfl rfl ?_; intro wz vZ t_) | ((with_reducible refine gS 3 ?_); refine wpList_storeG HVp.out rfl rfl rfl (by kernel_rfl) rfl (of_decide_eq_true rfl) rfl ?_; intro yt_3 vyt_3 tyt_3; have HVt_3 : Hid (VarA yt_3 X 33 #[.i k, .i a, .i x4, .bool d, (.slice va zs.length vc), .i e, .i f, .bool h]) := vyt_3; have HBt_3 : Hid (PBp w yt_3 pb (w.heap.size + 1) tb (.slice ta tn tc) l) := HBp.out.put tyt_3 hpb (by omega) (Or.inr hX) hlo htb; have tt := HBt_3.out.vT.l1; have HAt_3 : Hid (AsI yt_3 X (.slice va zs.length vc) zs) := HAp.out.turn tyt_3 (fun b hb => by omega); obtain ⟨o0, o1, o2, o3, o4, o5, o6, o7⟩ := HVt_3.out.l8))
     refine bpR Tryz.results141 vZ Tryz.underlying33 rfl rfl (by kernel_rfl) rfl ?_
     exact ⟨⟨k, (a, x4, d), zs, (e, f, h)⟩, _, _, _, rfl, rd_end HAt_3.out.rd t_ (by omega) (by omega), by show zs.length ≤ 3; omega, cur_keep HBt_3.out.c t_ (by omega), grown_keep HBt_3.out.g t_ (by omega)⟩
end Go.Proofs.YtklhikadhohjbaaGreat
