/- The program's look. Condition: at most 2^21 entries, the handle's numbers are of their type. -/
import Derived.Test.YtcicadfhfojdpaaGreatRA01
import Derived.Test.YtcicadfhfojdpaaGreatRA04
import Derived.Deep.CutRange
import Derived.Deep.CutBlock
namespace Go.Proofs.YtcicadfhfojdpaaGreat
open Go.RowKit
open Go.Maps
set_option linter.unusedVariables false
set_option linter.unusedSimpArgs false
set_option maxRecDepth 100000

set_option maxHeartbeats 2000000 in
theorem look_any (b s : Nat) (f : Hd → Option Nd) (X : Hd → Value) (o : OpD) (y : Value) (za : Option Addr) (zn zc : Nat) (S S2 : Nat → Prop) (w : World) (M : MapH (ndX X) w b s f) (hin : HIn o.dir)
    (hX : ∀ g n, f g = some n → RdV w S (X n.h) (ensDt n.es)) (r2 : RdV w S2 y (.bytes o.nm)) (hl : ((f o.dir).getD nd0).es.length ≤ 2097152) :
    Calls Tryz.prog 86 #[.map (some b), opV o y (.slice za zn zc)] w fun e w' => e = .returned (rpV (if fdB ((f o.dir).getD nd0).es o.nm = true then ⟨0, fdH ((f o.dir).getD nd0).es o.nm, 0, []⟩ else ⟨3, hd0, 0, []⟩) (.n0)) ∧ Below w.heap.size w w' := by
  obtain ⟨kd, ⟨p, q, d⟩, nm, ⟨p2, q2, d2⟩, asn, ov⟩ := o
  dsimp only at hin r2 hl ⊢
  obtain ⟨a, cap, hat, rx⟩ := atX_rd f X (p, q, d) S w (hX _)
  obtain ⟨ya, yc, rfl⟩ := r2.sliceB
  have hbs := M.lt
  have HM : Hid (∀ W, Below w.heap.size w W → MapH (ndX X) W b s f) := fun W hW => M.blk (hW.block b hbs)
  have HH : Hid (∀ W, Below w.heap.size w W → _) := fun W hW => find_any (.slice a ((f (p, q, d)).getD nd0).es.length cap) (.slice ya nm.length yc) ((f (p, q, d)).getD nd0) nm S S2 W (rx.step hW) (r2.step hW) hl
  have HI : Hid (HIn (p, q, d)) := hin
  have HA : Hid _ := hat
  obtain ⟨nd, hnd⟩ : ∃ nd, (f (p, q, d)).getD nd0 = nd := ⟨_, rfl⟩
  rw [hnd] at HH HA hl ⊢
  clear M hin hX r2 rx hat hnd
  obtain ⟨⟨s0, s1, s2⟩, ⟨s3, s4, s5⟩, lk, vl, es⟩ := nd
  dsimp only at HH HA hl ⊢
  generalize fdB es nm = bh at HH ⊢
  obtain ⟨⟨ph, qh, dh⟩, hfd⟩ : ∃ r, fdH es nm = r := ⟨_, rfl⟩
  rw [hfd] at HH ⊢
  clear hfd
  generalize nm.length = yn at *
  generalize es.length = m at *
  obtain ⟨res, hres⟩ : ∃ r, rpV (if bh = true then ⟨0, (ph, qh, dh), 0, []⟩ else ⟨3, hd0, 0, []⟩) (.n0) = r := ⟨_, rfl⟩
  rw [hres]
  have HRES : Hid _ := hres
  clear hres
  go_enter Tryz.func86, Tryz.ntmps86
  go_upto_region 1 with fail
  go_cut [5, 6] from 7 (fun s5 s6 wx => ∃ C, s5 = .pointer (some ⟨C, 0, none⟩) ∧ s6 = .bool bh ∧ VarA wx C 27 #[.i ph, .i qh, .bool dh] ∧ VarA wx (w.heap.size + 1) 34 #[.i 0, .i 0, .i 0, .bool false, .i 0, .n0] ∧ Below w.heap.size w wx)
  case first =>
    refine gen_world (P := fun W => Code.wp _ _ _ _ W) (fun W => VarA W w.heap.size 29 #[.i kd, .i p, .i q, .bool d, .slice ya yn yc, .i p2, .i q2, .bool d2, .slice za zn zc, .i ov] ∧ VarA W (w.heap.size + 1) 34 #[.i 0, .i 0, .i 0, .bool false, .i 0, .n0] ∧ Below w.heap.size w W) ⟨(VarA.new w _ _).alloc _, (by simpa using VarA.new (w.alloc _) 34 _ : VarA ((w.alloc _).alloc (.cells #[.i 0, .i 0, .i 0, .bool false, .i 0, .n0] 34)) (w.heap.size + 1) _ _), (by repeat (first | exact Below.refl _ _ | refine Below.al2 ?_ _))⟩ ?_
    rintro wr ⟨vO, vR, hbel⟩
    have HS : Hid (∀ W : World, Below wr.heap.size wr W → W.cell? ⟨w.heap.size, 1, none⟩ = some (.i p) ∧ W.cell? ⟨w.heap.size, 2, none⟩ = some (.i q) ∧ W.cell? ⟨w.heap.size, 3, none⟩ = some (.bool d) ∧ W.cell? ⟨w.heap.size, 4, none⟩ = some (.slice ya yn yc) ∧ (Instr.lookup 69 (.map (some b)) (.agg #[.i p, .i q, .bool d]) false).run Tryz.prog W = .ok (.agg #[.i s0, .i s1, .bool s2, .i s3, .i s4, .bool s5, .i lk, .i vl, .slice a m cap]) W) := fun W hW => ⟨(vO.step hW).c 1 rfl, (vO.step hW).c 2 rfl, (vO.step hW).c 3 rfl, (vO.step hW).c 4 rfl, by have h9 := lookX_run (HM.out _ (hbel.trans (hW.mono hbel.size))) HI.out; rw [HA.out] at h9; exact h9⟩
    refine wp_region_noPanic ?_
    refine wp_region_held_drew (S := fun W => W.cell? ⟨w.heap.size, 1, none⟩ = some (.i p) ∧ W.cell? ⟨w.heap.size, 2, none⟩ = some (.i q) ∧ W.cell? ⟨w.heap.size, 3, none⟩ = some (.bool d) ∧ W.cell? ⟨w.heap.size, 4, none⟩ = some (.slice ya yn yc) ∧ (Instr.lookup 69 (.map (some b)) (.agg #[.i p, .i q, .bool d]) false).run Tryz.prog W = .ok (.agg #[.i s0, .i s1, .bool s2, .i s3, .i s4, .bool s5, .i lk, .i vl, .slice a m cap]) W) (by kernel_rfl) (HS.out _ (Below.drew (Below.refl wr.heap.size wr))) (fun hHeld => ?_)
    apply tkh 0 _ rfl (by kernel_rfl) rfl (by assumption)
    · (intro _ h; (try dsimp only at h); go_simp; try with_reducible rfl)
    try simp only [qz]
    apply tkh 1 _ rfl (by kernel_rfl) rfl (by assumption)
    · (intro _ h; (try dsimp only at h); go_simp; try with_reducible rfl)
    try simp only [qz]
    apply tkh 2 _ rfl (by kernel_rfl) rfl (by assumption)
    · (intro _ h; (try dsimp only at h); go_simp; try with_reducible rfl)
    try simp only [qz]
    apply tkh 3 _ rfl (by kernel_rfl) rfl (by assumption)
    · (intro _ h; (try dsimp only at h); go_simp; try with_reducible rfl)
    try simp only [qz]
    apply tkh 4 _ rfl (by kernel_rfl) rfl (by assumption)
    · (intro _ h; (try dsimp only at h); go_simp; try with_reducible rfl)
    try simp only [qz]
    apply tkh 5 _ rfl (by kernel_rfl) rfl (by assumption)
    · (intro _ h; (try dsimp only at h); go_simp; try with_reducible rfl)
    try simp only [qz]
    refine wpAnyH_ready (rs := [6, 10]) (by kernel_rfl) (by simp) ?_
    refine AllReadyH.cons rfl (fun K hK => ?_) ?_
    · go_simp
      refine Calls.mono (HH.out _ (hbel.trans (((Below.drew (Below.refl wr.heap.size wr))).mono hbel.size))) ?_
      rintro e w8 ⟨rfl, b8⟩
      have b8p : Below wr.heap.size wr w8 := ((Below.drew (Below.refl wr.heap.size wr))).trans (b8.mono ((Below.drew (Below.refl wr.heap.size wr))).size)
      dsimp only
      refine hK.out _ _ (HS.out _ b8p) (fun hHeld => ?_)
      clear hK K
      try simp only [qz]
      apply tkh 7 _ rfl (by kernel_rfl) rfl (by assumption)
      · (intro _ h; (try dsimp only at h); go_simp; try with_reducible rfl)
      try simp only [qz]
      apply tkh 8 _ rfl (by kernel_rfl) rfl (by assumption)
      · (intro _ h; (try dsimp only at h); go_simp; try with_reducible rfl)
      try simp only [qz]
      apply tkh 9 _ rfl (by kernel_rfl) rfl (by assumption)
      · (intro _ h; (try dsimp only at h); go_simp; try with_reducible rfl)
      try simp only [qz]
      refine doH 10 (by kernel_rfl) rfl fun K hK => ?_
      go_simp
      refine hK.out _ _ (HS.out _ (b8p.alloc b8p.size _)) (fun hHeld => ?_)
      clear hK K
      try simp only [qz]
      refine doH 11 (by kernel_rfl) rfl fun K hK => ?_
      go_simp
      refine hK.out _ _ (HS.out _ (b8p.alloc b8p.size _)) (fun hHeld => ?_)
      clear hK K
      try simp only [qz]
      apply tkh 12 _ rfl (by kernel_rfl) rfl (by assumption)
      · (intro _ h; (try dsimp only at h); go_simp; try with_reducible rfl)
      try simp only [qz]
      refine wpAnyH_done (by kernel_rfl) (NoPanic.normal ?_) _
      clear hHeld
      go_wp2_with fail
      go_meet
      exact ⟨_, rfl, rfl, VarA.new w8 27 #[.i ph, .i qh, .bool dh], (vR.step b8p).alloc _, (hbel.trans (b8p.mono hbel.size)).alloc (Nat.le_trans hbel.size b8p.size) _⟩
    refine AllReadyH.cons rfl (fun K hK => ?_) AllReadyH.nil
    go_simp
    refine hK.out _ _ (HS.out _ (Below.alloc (Below.drew (Below.refl wr.heap.size wr)) (Nat.le_refl _) (.cells #[.i 0, .i 0, .bool false] 27))) (fun hHeld => ?_)
    clear hK K
    try simp only [qz]
    refine doH 6 (by kernel_rfl) rfl fun K hK => ?_
    go_simp
    refine Calls.mono (HH.out _ (hbel.trans (((Below.alloc (Below.drew (Below.refl wr.heap.size wr)) (Nat.le_refl _) (.cells #[.i 0, .i 0, .bool false] 27))).mono hbel.size))) ?_
    rintro e w8 ⟨rfl, b8⟩
    have b8p : Below wr.heap.size wr w8 := ((Below.alloc (Below.drew (Below.refl wr.heap.size wr)) (Nat.le_refl _) (.cells #[.i 0, .i 0, .bool false] 27))).trans (b8.mono ((Below.alloc (Below.drew (Below.refl wr.heap.size wr)) (Nat.le_refl _) (.cells #[.i 0, .i 0, .bool false] 27))).size)
    dsimp only
    refine hK.out _ _ (HS.out _ b8p) (fun hHeld => ?_)
    clear hK K
    try simp only [qz]
    apply tkh 7 _ rfl (by kernel_rfl) rfl (by assumption)
    · (intro _ h; (try dsimp only at h); go_simp; try with_reducible rfl)
    try simp only [qz]
    apply tkh 8 _ rfl (by kernel_rfl) rfl (by assumption)
    · (intro _ h; (try dsimp only at h); go_simp; try with_reducible rfl)
    try simp only [qz]
    apply tkh 9 _ rfl (by kernel_rfl) rfl (by assumption)
    · (intro _ h; (try dsimp only at h); go_simp; try with_reducible rfl)
    try simp only [qz]
    refine doH 11 (by kernel_rfl) rfl fun K hK => ?_
    have vZ : VarA w8 wr.heap.size 27 #[.i 0, .i 0, .bool false] := VarA.step (VarA.new wr.drew 27 #[.i 0, .i 0, .bool false]) b8
    obtain ⟨z0, z1, z2⟩ := vZ.l3
    have zf := vZ.fz
    go_simp
    clear z0 z1 z2 zf
    refine hK.out _ _ (HS.out _ (Below.set3 b8p (Nat.le_refl _))) (fun hHeld => ?_)
    clear hK K
    try simp only [qz]
    apply tkh 12 _ rfl (by kernel_rfl) rfl (by assumption)
    · (intro _ h; (try dsimp only at h); go_simp; try with_reducible rfl)
    try simp only [qz]
    refine wpAnyH_done (by kernel_rfl) (NoPanic.normal ?_) _
    clear hHeld
    go_wp2_with fail
    go_meet
    exact ⟨_, rfl, rfl, VarA.set3 vZ, ((((vR.step b8p).aside (p := ⟨wr.heap.size, 0, none⟩) (by have := vR.lt; dsimp only; omega) _).aside (p := ⟨wr.heap.size, 1, none⟩) (by have := vR.lt; dsimp only; omega) _).aside (p := ⟨wr.heap.size, 2, none⟩) (by have := vR.lt; dsimp only; omega) _), Below.set3 (hbel.trans (b8p.mono hbel.size)) hbel.size⟩
  case rest =>
   obtain ⟨C, rfl, rfl, vC, vR, hb⟩ := hcut
   cases bh
   all_goals
    obtain ⟨c0, c1, c2⟩ := vC.l3
    go_wp2_with ((with_reducible refine gS 34 ?_); refine sF vR rfl rfl (by kernel_rfl) rfl rfl ?_; intro w8 v8 t8)
    refine bpR Tryz.results86 v8 Tryz.underlying34 rfl rfl (by kernel_rfl) rfl ?_
    exact ⟨by rw [← HRES.out]; rfl, Turned.below hb t8 hb.size (fun i e => by omega)⟩
end Go.Proofs.YtcicadfhfojdpaaGreat
