/- What the specification draws of a tree: operations. Condition: at most 2^21 nodes, the handles' numbers small. -/
import Derived.Test.YtcicadfhfojdpaaGreatRA01
import Derived.Test.YtcicadfhfojdpaaGreatRA02
import Derived.Test.YtcicadfhfojdpaaGreatROpOks
namespace Go.Proofs.YtcicadfhfojdpaaGreat
open Go.RowKit
set_option linter.unusedVariables false
set_option linter.unusedSimpArgs false
set_option maxRecDepth 100000

structure OpR (o : OpD) : Prop where
 k : 0 ≤ o.kind ∧ o.kind ≤ 7
 d : HdR o.dir
 t : HdR o.to
 n : o.nm.length ≤ 2
 a : o.asn.length ≤ 2
 v : 0 ≤ o.val ∧ o.val ≤ 98
def OpSaid (w : World) (pb : Nat) (e : Ending) (w' : World) : Prop :=
 ∃ (o : OpD) (y z : Value), e = .returned (opV o y z) ∧ OpR o ∧ RdV w' (fun b => w.heap.size ≤ b ∧ b < w'.heap.size) y (.bytes o.nm) ∧ RdV w' (fun b => w.heap.size ≤ b ∧ b < w'.heap.size) z (.bytes o.asn) ∧ CurAt w' pb ∧ w.grownBy w' (some pb)
structure OD (w wc : World) (pb O : Nat) (x : Value) (oc : Array Value) : Prop where
 c : CurAt wc pb
 g : w.grownBy wc (some pb)
 vT : VarA wc w.heap.size 25 #[x]
 vR : VarA wc (w.heap.size + 1) 29 #[.i 0, .i 0, .i 0, .bool false, .n0, .i 0, .i 0, .bool false, .n0, .i 0]
 vO : VarA wc O 29 oc
theorem OD.grow {w wc wd : World} {pb O : Nat} {x : Value} {oc : Array Value} (m : OD w wc pb O x oc) (hc : CurAt wd pb) (hg : wc.grownBy wd (some pb)) (hp : pb < w.heap.size) (hO : w.heap.size ≤ O) : OD w wd pb O x oc :=
 have T := Turned.ofGrown (S := fun b => b = pb) hg (fun k hk => by cases hk; rfl)
 ⟨hc, grown_trans m.g hg, m.vT.turn T (by show w.heap.size ≠ pb; omega), m.vR.turn T (by show w.heap.size + 1 ≠ pb; omega), m.vO.turn T (by show O ≠ pb; omega)⟩
theorem OD.put {w wc wd : World} {pb O : Nat} {x : Value} {oc oc' : Array Value} (m : OD w wc pb O x oc) (t : Turned (fun b => b = O) wc wd) (v : VarA wd O 29 oc') (hp : pb < w.heap.size) (hO : w.heap.size + 2 ≤ O) : OD w wd pb O x oc' :=
 ⟨cur_keep m.c t (by omega), grown_keep m.g t (by omega), m.vT.turn t (by show w.heap.size ≠ O; omega), m.vR.turn t (by show w.heap.size + 1 ≠ O; omega), v⟩
theorem rdb_nil (w : World) (S : Nat → Prop) : RdV w S (.n0) (.bytes []) := OwV.rd (OwV.nilB _ _)
theorem rd_carry {w w' : World} {O q : Nat} {v : Value} {d : Dt} (r : RdV w (fun b => O < b ∧ b < w.heap.size) v d) (t : Turned (fun b => b = q) w w') (hq : q ≤ O) : RdV w' (fun b => O < b ∧ b < w'.heap.size) v d :=
 RdV.mono (fun b hb => ⟨hb.1, Nat.lt_of_lt_of_le hb.2 t.size⟩) (RdV.keep (t.keeps (fun b hb e => by omega)) r)
theorem hdR0 : HdR (0, 0, false) := by unfold HdR; decide
set_option maxHeartbeats 16000000 in
theorem op4_any (pb : Nat) (x : Value) (l : List Nd) (S : Nat → Prop) (w : World) (h : CurAt w pb) (r : RdV w S x (ndsDt l)) (hS : ∀ b, S b → b ≠ pb) (hl : l.length ≤ 2097152) (hP : ∀ i : Nat, i < l.length → HdR (l[i]?.getD nd0).h) :
  Calls Tryz.prog 31 #[.pointer (some ⟨pb, 0, none⟩), .agg #[x]] w (OpSaid w pb) := by
 obtain ⟨xa, xc, rfl, _⟩ := RdV.sliced r
 have hpb := h.lt
 have HH : Hid (∀ W, CurAt W pb → w.grownBy W (some pb) → Calls Tryz.prog 78 #[.pointer (some ⟨pb, 0, none⟩), .agg #[(.slice xa l.length xc)]] W (HdSaid W pb)) := fun W hc hg => handle4_any pb _ l S W hc (RdV.keep ((Turned.ofGrown (S := fun b => b = pb) hg (fun k hk => by cases hk; rfl)).keeps (fun b hb e => hS b hb e)) r) hS hl hP
 have HD : Hid (∀ W, CurAt W pb → w.grownBy W (some pb) → Calls Tryz.prog 76 #[.pointer (some ⟨pb, 0, none⟩), .agg #[(.slice xa l.length xc)]] W (HdSaid W pb)) := fun W hc hg => dir4_any pb _ l S W hc (RdV.keep ((Turned.ofGrown (S := fun b => b = pb) hg (fun k hk => by cases hk; rfl)).keeps (fun b hb e => hS b hb e)) r) hS hl hP
 have HC : Hid (CurAt w pb) := h
 clear r h hP hS
 go_enter Tryz.func31, Tryz.ntmps31
 go_wp2
 obtain ⟨w0, hw0⟩ : ∃ W, W = (w.alloc (.cells #[(.slice xa l.length xc)] 25)).alloc (.cells #[.i 0, .i 0, .i 0, .bool false, .n0, .i 0, .i 0, .bool false, .n0, .i 0] 29) := ⟨_, rfl⟩
 have B0 : Below w.heap.size w w0 := by rw [hw0]; exact Below.newH2 _ _
 have VT0 : VarA w0 w.heap.size 25 #[(.slice xa l.length xc)] := by rw [hw0]; exact (VarA.new w _ _).alloc _
 have VR0 : VarA w0 (w.heap.size + 1) 29 #[.i 0, .i 0, .i 0, .bool false, .n0, .i 0, .i 0, .bool false, .n0, .i 0] := by rw [hw0]; have := VarA.new (w.alloc (.cells #[(.slice xa l.length xc)] 25)) 29 #[.i 0, .i 0, .i 0, .bool false, .n0, .i 0, .i 0, .bool false, .n0, .i 0]; simpa using this
 have z0 := VR0.lt
 rw [← hw0]
 have C0 : CurAt w0 pb := HC.out.below B0
 have G0 : w.grownBy w0 (some pb) := grown_below B0
 clear hw0 B0
 refine wp_region_noPanic ?_
 refine wp_region_held_drew (S := fun W => W.cell? ⟨w.heap.size, 0, none⟩ = some (.slice xa l.length xc)) (by kernel_rfl) (VT0.step (Below.drew (Below.refl w0.heap.size w0))).l1 (fun hHeld => ?_)
 apply tkh 0 _ rfl (by kernel_rfl) rfl (by assumption)
 ·(intro _ h; (try dsimp only at h); go_simp; try with_reducible rfl)
 try simp only [qz]
 apply tkh 2 _ rfl (by kernel_rfl) rfl (by assumption)
 ·(intro _ h; (try dsimp only at h); go_simp; try with_reducible rfl)
 try simp only [qz]
 apply tkh 3 _ rfl (by kernel_rfl) rfl (by assumption)
 ·(intro _ h; (try dsimp only at h); go_simp; try with_reducible rfl)
 try simp only [qz]
 refine wpAnyH_ready (rs := [1, 6]) (by kernel_rfl) (by simp) ?_
 refine AllReadyH.cons rfl (fun K hK => ?_) ?_
 focus
  go_simp
  refine Calls.mono (below_any pb 8 _ (C0.below (Below.drew (Below.refl w0.heap.size w0))) (by omega) (by omega)) ?_
  rintro e_u0 u0 ⟨kd, rfl, hk0, hk1, c_u0, g_u0⟩
  dsimp only
  have t_u0 := Turned.ofGrown (S := fun b => b = pb) g_u0 (fun k hk => by cases hk; rfl)
  have vt_u0 := (VT0.step (Below.drew (Below.refl w0.heap.size w0))).turn t_u0 (by show w.heap.size ≠ pb; omega)
  have vr_u0 := (VR0.step (Below.drew (Below.refl w0.heap.size w0))).turn t_u0 (by show w.heap.size + 1 ≠ pb; omega)
  have gg_u0 := grown_trans (grown_trans G0 (grown_below (Below.drew (Below.refl w0.heap.size w0)))) g_u0
  refine hK.out _ _ vt_u0.l1 (fun hHeld => ?_)
  clear hK K
  try simp only [qz]
  refine wpAnyH_ready (rs := [4, 6]) (by kernel_rfl) (by simp) ?_
  refine AllReadyH.cons rfl (fun K hK => ?_) ?_
  focus
   go_simp
   refine Calls.mono (HD.out _ c_u0 gg_u0) ?_
   rintro e_u1 u1 ⟨⟨p1, q1, d1⟩, rfl, hr1, c_u1, g_u1⟩
   dsimp only
   have t_u1 := Turned.ofGrown (S := fun b => b = pb) g_u1 (fun k hk => by cases hk; rfl)
   have vt_u1 := vt_u0.turn t_u1 (by show w.heap.size ≠ pb; omega)
   have vr_u1 := vr_u0.turn t_u1 (by show w.heap.size + 1 ≠ pb; omega)
   have gg_u1 := grown_trans gg_u0 g_u1
   refine hK.out _ _ vt_u1.l1 (fun hHeld => ?_)
   clear hK K
   try simp only [qz]
   apply tkh 5 _ rfl (by kernel_rfl) rfl (by assumption)
   ·(intro _ h; (try dsimp only at h); go_simp; try with_reducible rfl)
   try simp only [qz]
   refine doH 6 (by kernel_rfl) rfl fun K hK => ?_
   go_simp
   obtain ⟨O, hO⟩ : ∃ n, n = u1.heap.size := ⟨_, rfl⟩
   obtain ⟨u2, hu2⟩ : ∃ W, W = World.alloc u1 (.cells #[.i 0, .i 0, .i 0, .bool false, .n0, .i 0, .i 0, .bool false, .n0, .i 0] 29) := ⟨_, rfl⟩
   have hOz : w.heap.size + 2 ≤ O := by rw [hO]; have := (gg_u1).size; have := (vr_u1).lt; omega
   have b_u2 : Below (u1).heap.size u1 u2 := by rw [hu2]; exact Below.newH (w := u1) _
   have vo_u2 : VarA u2 O 29 #[.i 0, .i 0, .i 0, .bool false, .n0, .i 0, .i 0, .bool false, .n0, .i 0] := by rw [hO, hu2]; exact VarA.new u1 _ _
   have vt_u2 := (vt_u1).step b_u2
   have vr_u2 := (vr_u1).step b_u2
   have gg_u2 := grown_trans gg_u1 (grown_below b_u2)
   have c_u2 := CurAt.below c_u1 b_u2
   rw [← hu2, ← hO]
   clear hu2 hO
   refine hK.out _ _ vt_u2.l1 (fun hHeld => ?_)
   clear hK K
   try simp only [qz]
   refine doH 7 (by kernel_rfl) rfl fun K hK => ?_
   refine step_stF2 vo_u2 (by rfl) (by rfl) (by kernel_rfl) rfl (of_decide_eq_true rfl) rfl ?_
   intro wL vL tL
   have HOD : Hid (OD w wL pb O (.slice xa l.length xc) #[.i kd, .i p1, .i q1, .bool d1, .n0, .i 0, .i 0, .bool false, .n0, .i 0]) := OD.put ⟨c_u2, gg_u2, vt_u2, vr_u2, vo_u2⟩ tL vL hpb hOz
   refine hK.out _ _ HOD.out.vT.l1 (fun hHeld => ?_)
   clear hK K
   try simp only [qz]
   refine wpAnyH_done (by kernel_rfl) (NoPanic.normal ?_) _
   clear hHeld
  rotate_left 1
  refine AllReadyH.cons rfl (fun K hK => ?_) AllReadyH.nil
  go_simp
  obtain ⟨O, hO⟩ : ∃ n, n = u0.heap.size := ⟨_, rfl⟩
  obtain ⟨u1, hu1⟩ : ∃ W, W = World.alloc u0 (.cells #[.i 0, .i 0, .i 0, .bool false, .n0, .i 0, .i 0, .bool false, .n0, .i 0] 29) := ⟨_, rfl⟩
  have hOz : w.heap.size + 2 ≤ O := by rw [hO]; have := (gg_u0).size; have := (vr_u0).lt; omega
  have b_u1 : Below (u0).heap.size u0 u1 := by rw [hu1]; exact Below.newH (w := u0) _
  have vo_u1 : VarA u1 O 29 #[.i 0, .i 0, .i 0, .bool false, .n0, .i 0, .i 0, .bool false, .n0, .i 0] := by rw [hO, hu1]; exact VarA.new u0 _ _
  have vt_u1 := (vt_u0).step b_u1
  have vr_u1 := (vr_u0).step b_u1
  have gg_u1 := grown_trans gg_u0 (grown_below b_u1)
  have c_u1 := CurAt.below c_u0 b_u1
  rw [← hu1, ← hO]
  clear hu1 hO
  refine hK.out _ _ vt_u1.l1 (fun hHeld => ?_)
  clear hK K
  try simp only [qz]
  refine doH 4 (by kernel_rfl) rfl fun K hK => ?_
  go_simp
  refine Calls.mono (HD.out _ c_u1 gg_u1) ?_
  rintro e_u2 u2 ⟨⟨p1, q1, d1⟩, rfl, hr1, c_u2, g_u2⟩
  dsimp only
  have t_u2 := Turned.ofGrown (S := fun b => b = pb) g_u2 (fun k hk => by cases hk; rfl)
  have vt_u2 := vt_u1.turn t_u2 (by show w.heap.size ≠ pb; omega)
  have vr_u2 := vr_u1.turn t_u2 (by show w.heap.size + 1 ≠ pb; omega)
  have gg_u2 := grown_trans gg_u1 g_u2
  have vo_u2 := VarA.turn vo_u1 t_u2 (by show O ≠ pb; omega)
  refine hK.out _ _ vt_u2.l1 (fun hHeld => ?_)
  clear hK K
  try simp only [qz]
  apply tkh 5 _ rfl (by kernel_rfl) rfl (by assumption)
  ·(intro _ h; (try dsimp only at h); go_simp; try with_reducible rfl)
  try simp only [qz]
  refine doH 7 (by kernel_rfl) rfl fun K hK => ?_
  refine step_stF2 vo_u2 (by rfl) (by rfl) (by kernel_rfl) rfl (of_decide_eq_true rfl) rfl ?_
  intro wL vL tL
  have HOD : Hid (OD w wL pb O (.slice xa l.length xc) #[.i kd, .i p1, .i q1, .bool d1, .n0, .i 0, .i 0, .bool false, .n0, .i 0]) := OD.put ⟨c_u2, gg_u2, vt_u2, vr_u2, vo_u2⟩ tL vL hpb hOz
  refine hK.out _ _ HOD.out.vT.l1 (fun hHeld => ?_)
  clear hK K
  try simp only [qz]
  refine wpAnyH_done (by kernel_rfl) (NoPanic.normal ?_) _
  clear hHeld
 rotate_left 2
 refine AllReadyH.cons rfl (fun K hK => ?_) AllReadyH.nil
 go_simp
 obtain ⟨O, hO⟩ : ∃ n, n = w0.heap.size := ⟨_, rfl⟩
 obtain ⟨u0, hu0⟩ : ∃ W, W = (World.alloc w0 (.cells #[.i 0, .i 0, .i 0, .bool false, .n0, .i 0, .i 0, .bool false, .n0, .i 0] 29)).drew := ⟨_, rfl⟩
 have hOz : w.heap.size + 2 ≤ O := by rw [hO]; have := ((grown_trans G0 (grown_below (Below.drew (Below.refl w0.heap.size w0))))).size; have := ((VR0.step (Below.drew (Below.refl w0.heap.size w0)))).lt; omega
 have b_u0 : Below (w0.drew).heap.size w0.drew u0 := by rw [hu0]; exact Below.newH (w := w0.drew) _
 have vo_u0 : VarA u0 O 29 #[.i 0, .i 0, .i 0, .bool false, .n0, .i 0, .i 0, .bool false, .n0, .i 0] := by rw [hO, hu0]; exact VarA.new w0.drew _ _
 have vt_u0 := ((VT0.step (Below.drew (Below.refl w0.heap.size w0)))).step b_u0
 have vr_u0 := ((VR0.step (Below.drew (Below.refl w0.heap.size w0)))).step b_u0
 have gg_u0 := grown_trans (grown_trans G0 (grown_below (Below.drew (Below.refl w0.heap.size w0)))) (grown_below b_u0)
 have c_u0 := CurAt.below (C0.below (Below.drew (Below.refl w0.heap.size w0))) b_u0
 rw [← hu0, ← hO]
 clear hu0 hO
 refine hK.out _ _ vt_u0.l1 (fun hHeld => ?_)
 clear hK K
 try simp only [qz]
 refine doH 1 (by kernel_rfl) rfl fun K hK => ?_
 go_simp
 refine Calls.mono (below_any pb 8 _ c_u0 (by omega) (by omega)) ?_
 rintro e_u1 u1 ⟨kd, rfl, hk0, hk1, c_u1, g_u1⟩
 dsimp only
 have t_u1 := Turned.ofGrown (S := fun b => b = pb) g_u1 (fun k hk => by cases hk; rfl)
 have vt_u1 := vt_u0.turn t_u1 (by show w.heap.size ≠ pb; omega)
 have vr_u1 := vr_u0.turn t_u1 (by show w.heap.size + 1 ≠ pb; omega)
 have gg_u1 := grown_trans gg_u0 g_u1
 have vo_u1 := VarA.turn vo_u0 t_u1 (by show O ≠ pb; omega)
 refine hK.out _ _ vt_u1.l1 (fun hHeld => ?_)
 clear hK K
 try simp only [qz]
 refine doH 4 (by kernel_rfl) rfl fun K hK => ?_
 go_simp
 refine Calls.mono (HD.out _ c_u1 gg_u1) ?_
 rintro e_u2 u2 ⟨⟨p1, q1, d1⟩, rfl, hr1, c_u2, g_u2⟩
 dsimp only
 have t_u2 := Turned.ofGrown (S := fun b => b = pb) g_u2 (fun k hk => by cases hk; rfl)
 have vt_u2 := vt_u1.turn t_u2 (by show w.heap.size ≠ pb; omega)
 have vr_u2 := vr_u1.turn t_u2 (by show w.heap.size + 1 ≠ pb; omega)
 have gg_u2 := grown_trans gg_u1 g_u2
 have vo_u2 := VarA.turn vo_u1 t_u2 (by show O ≠ pb; omega)
 refine hK.out _ _ vt_u2.l1 (fun hHeld => ?_)
 clear hK K
 try simp only [qz]
 apply tkh 5 _ rfl (by kernel_rfl) rfl (by assumption)
 ·(intro _ h; (try dsimp only at h); go_simp; try with_reducible rfl)
 try simp only [qz]
 refine doH 7 (by kernel_rfl) rfl fun K hK => ?_
 refine step_stF2 vo_u2 (by rfl) (by rfl) (by kernel_rfl) rfl (of_decide_eq_true rfl) rfl ?_
 intro wL vL tL
 have HOD : Hid (OD w wL pb O (.slice xa l.length xc) #[.i kd, .i p1, .i q1, .bool d1, .n0, .i 0, .i 0, .bool false, .n0, .i 0]) := OD.put ⟨c_u2, gg_u2, vt_u2, vr_u2, vo_u2⟩ tL vL hpb hOz
 refine hK.out _ _ HOD.out.vT.l1 (fun hHeld => ?_)
 clear hK K
 try simp only [qz]
 refine wpAnyH_done (by kernel_rfl) (NoPanic.normal ?_) _
 clear hHeld
 all_goals
  go_wp2_with fail
  refine Calls.mono (once_any pb 4 _ HOD.out.c (by omega) (by omega)) ?_
  rintro e5 w5 ⟨b5, rfl, c5, g5⟩
  have H5 : Hid (OD w w5 pb O (.slice xa l.length xc) #[.i kd, .i p1, .i q1, .bool d1, .n0, .i 0, .i 0, .bool false, .n0, .i 0]) := HOD.out.grow c5 g5 hpb (by omega)
  clear c5 g5
  cases b5 with
  | true =>
   go_wp2_with ((with_reducible refine gS 3 ?_); refine wpList_storeG H5.out.vO rfl rfl rfl (by kernel_rfl) rfl (of_decide_eq_true rfl) rfl ?_; intro w6 v6 t6; have H6 : Hid (OD w w6 pb O (.slice xa l.length xc) #[.i 4, .i p1, .i q1, .bool d1, .n0, .i 0, .i 0, .bool false, .n0, .i 0]) := OD.put H5.out t6 v6 hpb hOz; have o0 := H6.out.vO.c 0 rfl; have tt := H6.out.vT.l1)
   refine Calls.mono (parts4 _) ?_
   rintro ep wp ⟨rfl, rfl⟩
   go_wp2_with fail
   refine Calls.mono (draws4_any pb _ H6.out.c) ?_
   rintro e4_1 w4_1 ⟨na4_1, nn4_1, nc4_1, nz4_1, rfl, rr4_1, ln4_1, c4_1, g4_1⟩
   clear o0 tt
   have H4_1 : Hid (OD w w4_1 pb O (.slice xa l.length xc) #[.i 4, .i p1, .i q1, .bool d1, .n0, .i 0, .i 0, .bool false, .n0, .i 0]) := H6.out.grow c4_1 g4_1 hpb (by omega)
   have zO4_1 := H6.out.vO.lt
   have o0 := H4_1.out.vO.c 0 rfl
   have tt := H4_1.out.vT.l1
   have RR4_1 : Hid (RdV w4_1 (fun b => O < b ∧ b < w4_1.heap.size) (.slice na4_1 nn4_1 nc4_1) (.bytes nz4_1)) := RdV.mono (fun b hb => ⟨by omega, hb.2⟩) rr4_1
   clear rr4_1
   go_wp2_with ((with_reducible refine gS 22 ?_); refine wpList_storeG H4_1.out.vO rfl rfl rfl (by kernel_rfl) rfl (of_decide_eq_true rfl) rfl ?_; intro y4_2 vy4_2 ty4_2; have H4_2 : Hid (OD w y4_2 pb O (.slice xa l.length xc) #[.i 4, .i p1, .i q1, .bool d1, .slice na4_1 nn4_1 nc4_1, .i 0, .i 0, .bool false, .n0, .i 0]) := OD.put H4_1.out ty4_2 vy4_2 hpb hOz; have RN4_2 : Hid _ := rd_carry RR4_1.out ty4_2 (Nat.le_refl _); have o0 := H4_2.out.vO.c 0 rfl; have tt := H4_2.out.vT.l1)
   refine Calls.mono (HD.out _ H4_2.out.c H4_2.out.g) ?_
   rintro e4_3 w4_3 ⟨⟨p4_3, q4_3, d4_3⟩, rfl, hr4_3, c4_3, g4_3⟩
   clear o0 tt
   have H4_3 : Hid (OD w w4_3 pb O (.slice xa l.length xc) #[.i 4, .i p1, .i q1, .bool d1, .slice na4_1 nn4_1 nc4_1, .i 0, .i 0, .bool false, .n0, .i 0]) := H4_2.out.grow c4_3 g4_3 hpb (by omega)
   have zO4_3 := H4_2.out.vO.lt
   have RN4_3 : Hid _ := rd_carry RN4_2.out (Turned.ofGrown (S := fun b => b = pb) g4_3 (fun k hk => by cases hk; rfl)) (by omega)
   have o0 := H4_3.out.vO.c 0 rfl
   have tt := H4_3.out.vT.l1
   go_wp2_with ((with_reducible refine gS 27 ?_); refine wpList_storeG H4_3.out.vO rfl rfl rfl (by kernel_rfl) rfl (of_decide_eq_true rfl) rfl ?_; intro y4_4 vy4_4 ty4_4; have H4_4 : Hid (OD w y4_4 pb O (.slice xa l.length xc) #[.i 4, .i p1, .i q1, .bool d1, .slice na4_1 nn4_1 nc4_1, .i p4_3, .i q4_3, .bool d4_3, .n0, .i 0]) := OD.put H4_3.out ty4_4 vy4_4 hpb hOz; have RN4_4 : Hid _ := rd_carry RN4_3.out ty4_4 (Nat.le_refl _); have o0 := H4_4.out.vO.c 0 rfl; have tt := H4_4.out.vT.l1)
   refine Calls.mono (below_any pb 4 _ H4_4.out.c (by omega) (by omega)) ?_
   rintro e4_5 w4_5 ⟨x4_5, rfl, xa4_5, xb4_5, c4_5, g4_5⟩
   clear o0 tt
   have H4_5 : Hid (OD w w4_5 pb O (.slice xa l.length xc) #[.i 4, .i p1, .i q1, .bool d1, .slice na4_1 nn4_1 nc4_1, .i p4_3, .i q4_3, .bool d4_3, .n0, .i 0]) := H4_4.out.grow c4_5 g4_5 hpb (by omega)
   have zO4_5 := H4_4.out.vO.lt
   have RN4_5 : Hid _ := rd_carry RN4_4.out (Turned.ofGrown (S := fun b => b = pb) g4_5 (fun k hk => by cases hk; rfl)) (by omega)
   have o0 := H4_5.out.vO.c 0 rfl
   have tt := H4_5.out.vT.l1
   go_wp2_with fail
   refine Calls.mono (once_any pb 2 _ H4_5.out.c (by omega) (by omega)) ?_
   rintro e4_6 w4_6 ⟨b4_6, rfl, c4_6, g4_6⟩
   clear o0 tt
   have H4_6 : Hid (OD w w4_6 pb O (.slice xa l.length xc) #[.i 4, .i p1, .i q1, .bool d1, .slice na4_1 nn4_1 nc4_1, .i p4_3, .i q4_3, .bool d4_3, .n0, .i 0]) := H4_5.out.grow c4_6 g4_6 hpb (by omega)
   have zO4_6 := H4_5.out.vO.lt
   have RN4_6 : Hid _ := rd_carry RN4_5.out (Turned.ofGrown (S := fun b => b = pb) g4_6 (fun k hk => by cases hk; rfl)) (by omega)
   have o0 := H4_6.out.vO.c 0 rfl
   have tt := H4_6.out.vT.l1
   go_wp2_with (first | ((with_reducible refine gS 29 ?_); refine sF H4_7.out.vR rfl rfl (by kernel_rfl) rfl rfl ?_; intro wz vZ t_) | ((with_reducible refine gS 27 ?_); refine wpList_storeG H4_6.out.vO rfl rfl rfl (by kernel_rfl) rfl (of_decide_eq_true rfl) rfl ?_; intro y4_7 vy4_7 ty4_7; have H4_7 : Hid (OD w y4_7 pb O (.slice xa l.length xc) #[.i 4, .i p1, .i q1, .bool d1, .slice na4_1 nn4_1 nc4_1, .i x4_5, .i 0, .bool b4_6, .n0, .i 0]) := OD.put H4_6.out ty4_7 vy4_7 hpb hOz; have RN4_7 : Hid _ := rd_carry RN4_6.out ty4_7 (Nat.le_refl _); obtain ⟨o0, o1, o2, o3, o4, o5, o6, o7, o8, o9⟩ := H4_7.out.vO.l10; have tt := H4_7.out.vT.l1))
   refine bpR Tryz.results31 vZ Tryz.underlying29 rfl rfl (by kernel_rfl) rfl ?_
   exact ⟨⟨4, (p1, q1, d1), nz4_1, (x4_5, 0, b4_6), [], 0⟩, (.slice na4_1 nn4_1 nc4_1), (.n0), rfl, ⟨⟨by show (0 : Int) ≤ 4; omega, by show (4 : Int) ≤ 7; omega⟩, hr1, ⟨by show 0 ≤ x4_5; omega, by show x4_5 < 4; omega, by show (0 : Int) ≤ 0; omega, by show (0 : Int) ≤ 2147483648; omega⟩, ln4_1, by simp, ⟨by show (0 : Int) ≤ 0; omega, by show (0 : Int) ≤ 98; omega⟩⟩, RdV.mono (fun b hb => ⟨by omega, hb.2⟩) (rd_carry RN4_7.out t_ (by omega)), rdb_nil _ _, cur_keep H4_7.out.c t_ (by omega), grown_keep H4_7.out.g t_ (by omega)⟩
  | false =>
   have hx : kd = 0 ∨ kd = 1 ∨ kd = 2 ∨ kd = 3 ∨ kd = 4 ∨ kd = 5 ∨ kd = 6 ∨ kd = 7 := by omega
   rcases hx with rfl | rfl | rfl | rfl | rfl | rfl | rfl | rfl
   ·have o0 := H5.out.vO.c 0 rfl
    have tt := H5.out.vT.l1
    go_wp2_with fail
    refine Calls.mono (parts0 _) ?_
    rintro ep wp ⟨rfl, rfl⟩
    go_wp2_with fail
    refine Calls.mono (draws4_any pb _ H5.out.c) ?_
    rintro e0_1 w0_1 ⟨na0_1, nn0_1, nc0_1, nz0_1, rfl, rr0_1, ln0_1, c0_1, g0_1⟩
    clear o0 tt
    have H0_1 : Hid (OD w w0_1 pb O (.slice xa l.length xc) #[.i 0, .i p1, .i q1, .bool d1, .n0, .i 0, .i 0, .bool false, .n0, .i 0]) := H5.out.grow c0_1 g0_1 hpb (by omega)
    have zO0_1 := H5.out.vO.lt
    have o0 := H0_1.out.vO.c 0 rfl
    have tt := H0_1.out.vT.l1
    have RR0_1 : Hid (RdV w0_1 (fun b => O < b ∧ b < w0_1.heap.size) (.slice na0_1 nn0_1 nc0_1) (.bytes nz0_1)) := RdV.mono (fun b hb => ⟨by omega, hb.2⟩) rr0_1
    clear rr0_1
    go_wp2_with (first | ((with_reducible refine gS 29 ?_); refine sF H0_2.out.vR rfl rfl (by kernel_rfl) rfl rfl ?_; intro wz vZ t_) | ((with_reducible refine gS 22 ?_); refine wpList_storeG H0_1.out.vO rfl rfl rfl (by kernel_rfl) rfl (of_decide_eq_true rfl) rfl ?_; intro y0_2 vy0_2 ty0_2; have H0_2 : Hid (OD w y0_2 pb O (.slice xa l.length xc) #[.i 0, .i p1, .i q1, .bool d1, .slice na0_1 nn0_1 nc0_1, .i 0, .i 0, .bool false, .n0, .i 0]) := OD.put H0_1.out ty0_2 vy0_2 hpb hOz; have RN0_2 : Hid _ := rd_carry RR0_1.out ty0_2 (Nat.le_refl _); obtain ⟨o0, o1, o2, o3, o4, o5, o6, o7, o8, o9⟩ := H0_2.out.vO.l10; have tt := H0_2.out.vT.l1))
    refine bpR Tryz.results31 vZ Tryz.underlying29 rfl rfl (by kernel_rfl) rfl ?_
    exact ⟨⟨0, (p1, q1, d1), nz0_1, (0, 0, false), [], 0⟩, (.slice na0_1 nn0_1 nc0_1), (.n0), rfl, ⟨⟨by show (0 : Int) ≤ 0; omega, by show (0 : Int) ≤ 7; omega⟩, hr1, hdR0, ln0_1, by simp, ⟨by show (0 : Int) ≤ 0; omega, by show (0 : Int) ≤ 98; omega⟩⟩, RdV.mono (fun b hb => ⟨by omega, hb.2⟩) (rd_carry RN0_2.out t_ (by omega)), rdb_nil _ _, cur_keep H0_2.out.c t_ (by omega), grown_keep H0_2.out.g t_ (by omega)⟩
   ·have o0 := H5.out.vO.c 0 rfl
    have tt := H5.out.vT.l1
    go_wp2_with fail
    refine Calls.mono (parts1 _) ?_
    rintro ep wp ⟨rfl, rfl⟩
    clear o0 tt
    obtain ⟨o0, o1, o2, o3, o4, o5, o6, o7, o8, o9⟩ := H5.out.vO.l10
    go_wp2_with ((with_reducible refine gS 29 ?_); refine sF H5.out.vR rfl rfl (by kernel_rfl) rfl rfl ?_; intro wz vZ t_)
    refine bpR Tryz.results31 vZ Tryz.underlying29 rfl rfl (by kernel_rfl) rfl ?_
    exact ⟨⟨1, (p1, q1, d1), [], (0, 0, false), [], 0⟩, (.n0), (.n0), rfl, ⟨⟨by show (0 : Int) ≤ 1; omega, by show (1 : Int) ≤ 7; omega⟩, hr1, hdR0, by simp, by simp, ⟨by show (0 : Int) ≤ 0; omega, by show (0 : Int) ≤ 98; omega⟩⟩, rdb_nil _ _, rdb_nil _ _, cur_keep H5.out.c t_ (by omega), grown_keep H5.out.g t_ (by omega)⟩
   ·have o0 := H5.out.vO.c 0 rfl
    have tt := H5.out.vT.l1
    go_wp2_with fail
    refine Calls.mono (HH.out _ H5.out.c H5.out.g) ?_
    rintro e2_1 w2_1 ⟨⟨p2_1, q2_1, d2_1⟩, rfl, hr2_1, c2_1, g2_1⟩
    clear o0 tt
    have H2_1 : Hid (OD w w2_1 pb O (.slice xa l.length xc) #[.i 2, .i p1, .i q1, .bool d1, .n0, .i 0, .i 0, .bool false, .n0, .i 0]) := H5.out.grow c2_1 g2_1 hpb (by omega)
    have zO2_1 := H5.out.vO.lt
    have o0 := H2_1.out.vO.c 0 rfl
    have tt := H2_1.out.vT.l1
    go_wp2_with ((with_reducible refine gS 27 ?_); refine wpList_storeG H2_1.out.vO rfl rfl rfl (by kernel_rfl) rfl (of_decide_eq_true rfl) rfl ?_; intro y2_2 vy2_2 ty2_2; have H2_2 : Hid (OD w y2_2 pb O (.slice xa l.length xc) #[.i 2, .i p2_1, .i q2_1, .bool d2_1, .n0, .i 0, .i 0, .bool false, .n0, .i 0]) := OD.put H2_1.out ty2_2 vy2_2 hpb hOz; have o0 := H2_2.out.vO.c 0 rfl; have tt := H2_2.out.vT.l1)
    refine Calls.mono (parts2 _) ?_
    rintro ep wp ⟨rfl, rfl⟩
    clear o0 tt
    obtain ⟨o0, o1, o2, o3, o4, o5, o6, o7, o8, o9⟩ := H2_2.out.vO.l10
    go_wp2_with ((with_reducible refine gS 29 ?_); refine sF H2_2.out.vR rfl rfl (by kernel_rfl) rfl rfl ?_; intro wz vZ t_)
    refine bpR Tryz.results31 vZ Tryz.underlying29 rfl rfl (by kernel_rfl) rfl ?_
    exact ⟨⟨2, (p2_1, q2_1, d2_1), [], (0, 0, false), [], 0⟩, (.n0), (.n0), rfl, ⟨⟨by show (0 : Int) ≤ 2; omega, by show (2 : Int) ≤ 7; omega⟩, hr2_1, hdR0, by simp, by simp, ⟨by show (0 : Int) ≤ 0; omega, by show (0 : Int) ≤ 98; omega⟩⟩, rdb_nil _ _, rdb_nil _ _, cur_keep H2_2.out.c t_ (by omega), grown_keep H2_2.out.g t_ (by omega)⟩
   ·have o0 := H5.out.vO.c 0 rfl
    have tt := H5.out.vT.l1
    go_wp2_with fail
    refine Calls.mono (HH.out _ H5.out.c H5.out.g) ?_
    rintro e3_1 w3_1 ⟨⟨p3_1, q3_1, d3_1⟩, rfl, hr3_1, c3_1, g3_1⟩
    clear o0 tt
    have H3_1 : Hid (OD w w3_1 pb O (.slice xa l.length xc) #[.i 3, .i p1, .i q1, .bool d1, .n0, .i 0, .i 0, .bool false, .n0, .i 0]) := H5.out.grow c3_1 g3_1 hpb (by omega)
    have zO3_1 := H5.out.vO.lt
    have o0 := H3_1.out.vO.c 0 rfl
    have tt := H3_1.out.vT.l1
    go_wp2_with ((with_reducible refine gS 27 ?_); refine wpList_storeG H3_1.out.vO rfl rfl rfl (by kernel_rfl) rfl (of_decide_eq_true rfl) rfl ?_; intro y3_2 vy3_2 ty3_2; have H3_2 : Hid (OD w y3_2 pb O (.slice xa l.length xc) #[.i 3, .i p3_1, .i q3_1, .bool d3_1, .n0, .i 0, .i 0, .bool false, .n0, .i 0]) := OD.put H3_1.out ty3_2 vy3_2 hpb hOz; have o0 := H3_2.out.vO.c 0 rfl; have tt := H3_2.out.vT.l1)
    refine Calls.mono (parts3 _) ?_
    rintro ep wp ⟨rfl, rfl⟩
    go_wp2_with fail
    refine Calls.mono (below_any pb 99 _ H3_2.out.c (by omega) (by omega)) ?_
    rintro e3_3 w3_3 ⟨x3_3, rfl, xa3_3, xb3_3, c3_3, g3_3⟩
    clear o0 tt
    have H3_3 : Hid (OD w w3_3 pb O (.slice xa l.length xc) #[.i 3, .i p3_1, .i q3_1, .bool d3_1, .n0, .i 0, .i 0, .bool false, .n0, .i 0]) := H3_2.out.grow c3_3 g3_3 hpb (by omega)
    have zO3_3 := H3_2.out.vO.lt
    have o0 := H3_3.out.vO.c 0 rfl
    have tt := H3_3.out.vT.l1
    go_wp2_with (first | ((with_reducible refine gS 29 ?_); refine sF H3_4.out.vR rfl rfl (by kernel_rfl) rfl rfl ?_; intro wz vZ t_) | ((with_reducible refine gS 3 ?_); refine wpList_storeG H3_3.out.vO rfl rfl rfl (by kernel_rfl) rfl (of_decide_eq_true rfl) rfl ?_; intro y3_4 vy3_4 ty3_4; have H3_4 : Hid (OD w y3_4 pb O (.slice xa l.length xc) #[.i 3, .i p3_1, .i q3_1, .bool d3_1, .n0, .i 0, .i 0, .bool false, .n0, .i x3_3]) := OD.put H3_3.out ty3_4 vy3_4 hpb hOz; obtain ⟨o0, o1, o2, o3, o4, o5, o6, o7, o8, o9⟩ := H3_4.out.vO.l10; have tt := H3_4.out.vT.l1))
    refine bpR Tryz.results31 vZ Tryz.underlying29 rfl rfl (by kernel_rfl) rfl ?_
    exact ⟨⟨3, (p3_1, q3_1, d3_1), [], (0, 0, false), [], x3_3⟩, (.n0), (.n0), rfl, ⟨⟨by show (0 : Int) ≤ 3; omega, by show (3 : Int) ≤ 7; omega⟩, hr3_1, hdR0, by simp, by simp, ⟨by show 0 ≤ x3_3; omega, by show x3_3 ≤ 98; omega⟩⟩, rdb_nil _ _, rdb_nil _ _, cur_keep H3_4.out.c t_ (by omega), grown_keep H3_4.out.g t_ (by omega)⟩
   ·have o0 := H5.out.vO.c 0 rfl
    have tt := H5.out.vT.l1
    go_wp2_with fail
    refine Calls.mono (parts4 _) ?_
    rintro ep wp ⟨rfl, rfl⟩
    go_wp2_with fail
    refine Calls.mono (draws4_any pb _ H5.out.c) ?_
    rintro e4_1 w4_1 ⟨na4_1, nn4_1, nc4_1, nz4_1, rfl, rr4_1, ln4_1, c4_1, g4_1⟩
    clear o0 tt
    have H4_1 : Hid (OD w w4_1 pb O (.slice xa l.length xc) #[.i 4, .i p1, .i q1, .bool d1, .n0, .i 0, .i 0, .bool false, .n0, .i 0]) := H5.out.grow c4_1 g4_1 hpb (by omega)
    have zO4_1 := H5.out.vO.lt
    have o0 := H4_1.out.vO.c 0 rfl
    have tt := H4_1.out.vT.l1
    have RR4_1 : Hid (RdV w4_1 (fun b => O < b ∧ b < w4_1.heap.size) (.slice na4_1 nn4_1 nc4_1) (.bytes nz4_1)) := RdV.mono (fun b hb => ⟨by omega, hb.2⟩) rr4_1
    clear rr4_1
    go_wp2_with ((with_reducible refine gS 22 ?_); refine wpList_storeG H4_1.out.vO rfl rfl rfl (by kernel_rfl) rfl (of_decide_eq_true rfl) rfl ?_; intro y4_2 vy4_2 ty4_2; have H4_2 : Hid (OD w y4_2 pb O (.slice xa l.length xc) #[.i 4, .i p1, .i q1, .bool d1, .slice na4_1 nn4_1 nc4_1, .i 0, .i 0, .bool false, .n0, .i 0]) := OD.put H4_1.out ty4_2 vy4_2 hpb hOz; have RN4_2 : Hid _ := rd_carry RR4_1.out ty4_2 (Nat.le_refl _); have o0 := H4_2.out.vO.c 0 rfl; have tt := H4_2.out.vT.l1)
    refine Calls.mono (HD.out _ H4_2.out.c H4_2.out.g) ?_
    rintro e4_3 w4_3 ⟨⟨p4_3, q4_3, d4_3⟩, rfl, hr4_3, c4_3, g4_3⟩
    clear o0 tt
    have H4_3 : Hid (OD w w4_3 pb O (.slice xa l.length xc) #[.i 4, .i p1, .i q1, .bool d1, .slice na4_1 nn4_1 nc4_1, .i 0, .i 0, .bool false, .n0, .i 0]) := H4_2.out.grow c4_3 g4_3 hpb (by omega)
    have zO4_3 := H4_2.out.vO.lt
    have RN4_3 : Hid _ := rd_carry RN4_2.out (Turned.ofGrown (S := fun b => b = pb) g4_3 (fun k hk => by cases hk; rfl)) (by omega)
    have o0 := H4_3.out.vO.c 0 rfl
    have tt := H4_3.out.vT.l1
    go_wp2_with ((with_reducible refine gS 27 ?_); refine wpList_storeG H4_3.out.vO rfl rfl rfl (by kernel_rfl) rfl (of_decide_eq_true rfl) rfl ?_; intro y4_4 vy4_4 ty4_4; have H4_4 : Hid (OD w y4_4 pb O (.slice xa l.length xc) #[.i 4, .i p1, .i q1, .bool d1, .slice na4_1 nn4_1 nc4_1, .i p4_3, .i q4_3, .bool d4_3, .n0, .i 0]) := OD.put H4_3.out ty4_4 vy4_4 hpb hOz; have RN4_4 : Hid _ := rd_carry RN4_3.out ty4_4 (Nat.le_refl _); have o0 := H4_4.out.vO.c 0 rfl; have tt := H4_4.out.vT.l1)
    refine Calls.mono (below_any pb 4 _ H4_4.out.c (by omega) (by omega)) ?_
    rintro e4_5 w4_5 ⟨x4_5, rfl, xa4_5, xb4_5, c4_5, g4_5⟩
    clear o0 tt
    have H4_5 : Hid (OD w w4_5 pb O (.slice xa l.length xc) #[.i 4, .i p1, .i q1, .bool d1, .slice na4_1 nn4_1 nc4_1, .i p4_3, .i q4_3, .bool d4_3, .n0, .i 0]) := H4_4.out.grow c4_5 g4_5 hpb (by omega)
    have zO4_5 := H4_4.out.vO.lt
    have RN4_5 : Hid _ := rd_carry RN4_4.out (Turned.ofGrown (S := fun b => b = pb) g4_5 (fun k hk => by cases hk; rfl)) (by omega)
    have o0 := H4_5.out.vO.c 0 rfl
    have tt := H4_5.out.vT.l1
    go_wp2_with fail
    refine Calls.mono (once_any pb 2 _ H4_5.out.c (by omega) (by omega)) ?_
    rintro e4_6 w4_6 ⟨b4_6, rfl, c4_6, g4_6⟩
    clear o0 tt
    have H4_6 : Hid (OD w w4_6 pb O (.slice xa l.length xc) #[.i 4, .i p1, .i q1, .bool d1, .slice na4_1 nn4_1 nc4_1, .i p4_3, .i q4_3, .bool d4_3, .n0, .i 0]) := H4_5.out.grow c4_6 g4_6 hpb (by omega)
    have zO4_6 := H4_5.out.vO.lt
    have RN4_6 : Hid _ := rd_carry RN4_5.out (Turned.ofGrown (S := fun b => b = pb) g4_6 (fun k hk => by cases hk; rfl)) (by omega)
    have o0 := H4_6.out.vO.c 0 rfl
    have tt := H4_6.out.vT.l1
    go_wp2_with (first | ((with_reducible refine gS 29 ?_); refine sF H4_7.out.vR rfl rfl (by kernel_rfl) rfl rfl ?_; intro wz vZ t_) | ((with_reducible refine gS 27 ?_); refine wpList_storeG H4_6.out.vO rfl rfl rfl (by kernel_rfl) rfl (of_decide_eq_true rfl) rfl ?_; intro y4_7 vy4_7 ty4_7; have H4_7 : Hid (OD w y4_7 pb O (.slice xa l.length xc) #[.i 4, .i p1, .i q1, .bool d1, .slice na4_1 nn4_1 nc4_1, .i x4_5, .i 0, .bool b4_6, .n0, .i 0]) := OD.put H4_6.out ty4_7 vy4_7 hpb hOz; have RN4_7 : Hid _ := rd_carry RN4_6.out ty4_7 (Nat.le_refl _); obtain ⟨o0, o1, o2, o3, o4, o5, o6, o7, o8, o9⟩ := H4_7.out.vO.l10; have tt := H4_7.out.vT.l1))
    refine bpR Tryz.results31 vZ Tryz.underlying29 rfl rfl (by kernel_rfl) rfl ?_
    exact ⟨⟨4, (p1, q1, d1), nz4_1, (x4_5, 0, b4_6), [], 0⟩, (.slice na4_1 nn4_1 nc4_1), (.n0), rfl, ⟨⟨by show (0 : Int) ≤ 4; omega, by show (4 : Int) ≤ 7; omega⟩, hr1, ⟨by show 0 ≤ x4_5; omega, by show x4_5 < 4; omega, by show (0 : Int) ≤ 0; omega, by show (0 : Int) ≤ 2147483648; omega⟩, ln4_1, by simp, ⟨by show (0 : Int) ≤ 0; omega, by show (0 : Int) ≤ 98; omega⟩⟩, RdV.mono (fun b hb => ⟨by omega, hb.2⟩) (rd_carry RN4_7.out t_ (by omega)), rdb_nil _ _, cur_keep H4_7.out.c t_ (by omega), grown_keep H4_7.out.g t_ (by omega)⟩
   ·have o0 := H5.out.vO.c 0 rfl
    have tt := H5.out.vT.l1
    go_wp2_with fail
    refine Calls.mono (parts5 _) ?_
    rintro ep wp ⟨rfl, rfl⟩
    go_wp2_with fail
    refine Calls.mono (draws4_any pb _ H5.out.c) ?_
    rintro e5_1 w5_1 ⟨na5_1, nn5_1, nc5_1, nz5_1, rfl, rr5_1, ln5_1, c5_1, g5_1⟩
    clear o0 tt
    have H5_1 : Hid (OD w w5_1 pb O (.slice xa l.length xc) #[.i 5, .i p1, .i q1, .bool d1, .n0, .i 0, .i 0, .bool false, .n0, .i 0]) := H5.out.grow c5_1 g5_1 hpb (by omega)
    have zO5_1 := H5.out.vO.lt
    have o0 := H5_1.out.vO.c 0 rfl
    have tt := H5_1.out.vT.l1
    have RR5_1 : Hid (RdV w5_1 (fun b => O < b ∧ b < w5_1.heap.size) (.slice na5_1 nn5_1 nc5_1) (.bytes nz5_1)) := RdV.mono (fun b hb => ⟨by omega, hb.2⟩) rr5_1
    clear rr5_1
    go_wp2_with (first | ((with_reducible refine gS 29 ?_); refine sF H5_2.out.vR rfl rfl (by kernel_rfl) rfl rfl ?_; intro wz vZ t_) | ((with_reducible refine gS 22 ?_); refine wpList_storeG H5_1.out.vO rfl rfl rfl (by kernel_rfl) rfl (of_decide_eq_true rfl) rfl ?_; intro y5_2 vy5_2 ty5_2; have H5_2 : Hid (OD w y5_2 pb O (.slice xa l.length xc) #[.i 5, .i p1, .i q1, .bool d1, .slice na5_1 nn5_1 nc5_1, .i 0, .i 0, .bool false, .n0, .i 0]) := OD.put H5_1.out ty5_2 vy5_2 hpb hOz; have RN5_2 : Hid _ := rd_carry RR5_1.out ty5_2 (Nat.le_refl _); obtain ⟨o0, o1, o2, o3, o4, o5, o6, o7, o8, o9⟩ := H5_2.out.vO.l10; have tt := H5_2.out.vT.l1))
    refine bpR Tryz.results31 vZ Tryz.underlying29 rfl rfl (by kernel_rfl) rfl ?_
    exact ⟨⟨5, (p1, q1, d1), nz5_1, (0, 0, false), [], 0⟩, (.slice na5_1 nn5_1 nc5_1), (.n0), rfl, ⟨⟨by show (0 : Int) ≤ 5; omega, by show (5 : Int) ≤ 7; omega⟩, hr1, hdR0, ln5_1, by simp, ⟨by show (0 : Int) ≤ 0; omega, by show (0 : Int) ≤ 98; omega⟩⟩, RdV.mono (fun b hb => ⟨by omega, hb.2⟩) (rd_carry RN5_2.out t_ (by omega)), rdb_nil _ _, cur_keep H5_2.out.c t_ (by omega), grown_keep H5_2.out.g t_ (by omega)⟩
   ·have o0 := H5.out.vO.c 0 rfl
    have tt := H5.out.vT.l1
    go_wp2_with fail
    refine Calls.mono (parts6 _) ?_
    rintro ep wp ⟨rfl, rfl⟩
    go_wp2_with fail
    refine Calls.mono (draws4_any pb _ H5.out.c) ?_
    rintro e6_1 w6_1 ⟨na6_1, nn6_1, nc6_1, nz6_1, rfl, rr6_1, ln6_1, c6_1, g6_1⟩
    clear o0 tt
    have H6_1 : Hid (OD w w6_1 pb O (.slice xa l.length xc) #[.i 6, .i p1, .i q1, .bool d1, .n0, .i 0, .i 0, .bool false, .n0, .i 0]) := H5.out.grow c6_1 g6_1 hpb (by omega)
    have zO6_1 := H5.out.vO.lt
    have o0 := H6_1.out.vO.c 0 rfl
    have tt := H6_1.out.vT.l1
    have RR6_1 : Hid (RdV w6_1 (fun b => O < b ∧ b < w6_1.heap.size) (.slice na6_1 nn6_1 nc6_1) (.bytes nz6_1)) := RdV.mono (fun b hb => ⟨by omega, hb.2⟩) rr6_1
    clear rr6_1
    go_wp2_with ((with_reducible refine gS 22 ?_); refine wpList_storeG H6_1.out.vO rfl rfl rfl (by kernel_rfl) rfl (of_decide_eq_true rfl) rfl ?_; intro y6_2 vy6_2 ty6_2; have H6_2 : Hid (OD w y6_2 pb O (.slice xa l.length xc) #[.i 6, .i p1, .i q1, .bool d1, .slice na6_1 nn6_1 nc6_1, .i 0, .i 0, .bool false, .n0, .i 0]) := OD.put H6_1.out ty6_2 vy6_2 hpb hOz; have RN6_2 : Hid _ := rd_carry RR6_1.out ty6_2 (Nat.le_refl _); have o0 := H6_2.out.vO.c 0 rfl; have tt := H6_2.out.vT.l1)
    refine Calls.mono (HD.out _ H6_2.out.c H6_2.out.g) ?_
    rintro e6_3 w6_3 ⟨⟨p6_3, q6_3, d6_3⟩, rfl, hr6_3, c6_3, g6_3⟩
    clear o0 tt
    have H6_3 : Hid (OD w w6_3 pb O (.slice xa l.length xc) #[.i 6, .i p1, .i q1, .bool d1, .slice na6_1 nn6_1 nc6_1, .i 0, .i 0, .bool false, .n0, .i 0]) := H6_2.out.grow c6_3 g6_3 hpb (by omega)
    have zO6_3 := H6_2.out.vO.lt
    have RN6_3 : Hid _ := rd_carry RN6_2.out (Turned.ofGrown (S := fun b => b = pb) g6_3 (fun k hk => by cases hk; rfl)) (by omega)
    have o0 := H6_3.out.vO.c 0 rfl
    have tt := H6_3.out.vT.l1
    go_wp2_with ((with_reducible refine gS 27 ?_); refine wpList_storeG H6_3.out.vO rfl rfl rfl (by kernel_rfl) rfl (of_decide_eq_true rfl) rfl ?_; intro y6_4 vy6_4 ty6_4; have H6_4 : Hid (OD w y6_4 pb O (.slice xa l.length xc) #[.i 6, .i p1, .i q1, .bool d1, .slice na6_1 nn6_1 nc6_1, .i p6_3, .i q6_3, .bool d6_3, .n0, .i 0]) := OD.put H6_3.out ty6_4 vy6_4 hpb hOz; have RN6_4 : Hid _ := rd_carry RN6_3.out ty6_4 (Nat.le_refl _); have o0 := H6_4.out.vO.c 0 rfl; have tt := H6_4.out.vT.l1)
    refine Calls.mono (HH.out _ H6_4.out.c H6_4.out.g) ?_
    rintro e6_5 w6_5 ⟨⟨p6_5, q6_5, d6_5⟩, rfl, hr6_5, c6_5, g6_5⟩
    clear o0 tt
    have H6_5 : Hid (OD w w6_5 pb O (.slice xa l.length xc) #[.i 6, .i p1, .i q1, .bool d1, .slice na6_1 nn6_1 nc6_1, .i p6_3, .i q6_3, .bool d6_3, .n0, .i 0]) := H6_4.out.grow c6_5 g6_5 hpb (by omega)
    have zO6_5 := H6_4.out.vO.lt
    have RN6_5 : Hid _ := rd_carry RN6_4.out (Turned.ofGrown (S := fun b => b = pb) g6_5 (fun k hk => by cases hk; rfl)) (by omega)
    have o0 := H6_5.out.vO.c 0 rfl
    have tt := H6_5.out.vT.l1
    go_wp2_with (first | ((with_reducible refine gS 29 ?_); refine sF H6_6.out.vR rfl rfl (by kernel_rfl) rfl rfl ?_; intro wz vZ t_) | ((with_reducible refine gS 27 ?_); refine wpList_storeG H6_5.out.vO rfl rfl rfl (by kernel_rfl) rfl (of_decide_eq_true rfl) rfl ?_; intro y6_6 vy6_6 ty6_6; have H6_6 : Hid (OD w y6_6 pb O (.slice xa l.length xc) #[.i 6, .i p1, .i q1, .bool d1, .slice na6_1 nn6_1 nc6_1, .i p6_5, .i q6_5, .bool d6_5, .n0, .i 0]) := OD.put H6_5.out ty6_6 vy6_6 hpb hOz; have RN6_6 : Hid _ := rd_carry RN6_5.out ty6_6 (Nat.le_refl _); obtain ⟨o0, o1, o2, o3, o4, o5, o6, o7, o8, o9⟩ := H6_6.out.vO.l10; have tt := H6_6.out.vT.l1))
    refine bpR Tryz.results31 vZ Tryz.underlying29 rfl rfl (by kernel_rfl) rfl ?_
    exact ⟨⟨6, (p1, q1, d1), nz6_1, (p6_5, q6_5, d6_5), [], 0⟩, (.slice na6_1 nn6_1 nc6_1), (.n0), rfl, ⟨⟨by show (0 : Int) ≤ 6; omega, by show (6 : Int) ≤ 7; omega⟩, hr1, hr6_5, ln6_1, by simp, ⟨by show (0 : Int) ≤ 0; omega, by show (0 : Int) ≤ 98; omega⟩⟩, RdV.mono (fun b hb => ⟨by omega, hb.2⟩) (rd_carry RN6_6.out t_ (by omega)), rdb_nil _ _, cur_keep H6_6.out.c t_ (by omega), grown_keep H6_6.out.g t_ (by omega)⟩
   ·have o0 := H5.out.vO.c 0 rfl
    have tt := H5.out.vT.l1
    go_wp2_with fail
    refine Calls.mono (parts7 _) ?_
    rintro ep wp ⟨rfl, rfl⟩
    go_wp2_with fail
    refine Calls.mono (draws4_any pb _ H5.out.c) ?_
    rintro e7_1 w7_1 ⟨na7_1, nn7_1, nc7_1, nz7_1, rfl, rr7_1, ln7_1, c7_1, g7_1⟩
    clear o0 tt
    have H7_1 : Hid (OD w w7_1 pb O (.slice xa l.length xc) #[.i 7, .i p1, .i q1, .bool d1, .n0, .i 0, .i 0, .bool false, .n0, .i 0]) := H5.out.grow c7_1 g7_1 hpb (by omega)
    have zO7_1 := H5.out.vO.lt
    have o0 := H7_1.out.vO.c 0 rfl
    have tt := H7_1.out.vT.l1
    have RR7_1 : Hid (RdV w7_1 (fun b => O < b ∧ b < w7_1.heap.size) (.slice na7_1 nn7_1 nc7_1) (.bytes nz7_1)) := RdV.mono (fun b hb => ⟨by omega, hb.2⟩) rr7_1
    clear rr7_1
    go_wp2_with ((with_reducible refine gS 22 ?_); refine wpList_storeG H7_1.out.vO rfl rfl rfl (by kernel_rfl) rfl (of_decide_eq_true rfl) rfl ?_; intro y7_2 vy7_2 ty7_2; have H7_2 : Hid (OD w y7_2 pb O (.slice xa l.length xc) #[.i 7, .i p1, .i q1, .bool d1, .slice na7_1 nn7_1 nc7_1, .i 0, .i 0, .bool false, .n0, .i 0]) := OD.put H7_1.out ty7_2 vy7_2 hpb hOz; have RN7_2 : Hid _ := rd_carry RR7_1.out ty7_2 (Nat.le_refl _); have o0 := H7_2.out.vO.c 0 rfl; have tt := H7_2.out.vT.l1)
    refine Calls.mono (HD.out _ H7_2.out.c H7_2.out.g) ?_
    rintro e7_3 w7_3 ⟨⟨p7_3, q7_3, d7_3⟩, rfl, hr7_3, c7_3, g7_3⟩
    clear o0 tt
    have H7_3 : Hid (OD w w7_3 pb O (.slice xa l.length xc) #[.i 7, .i p1, .i q1, .bool d1, .slice na7_1 nn7_1 nc7_1, .i 0, .i 0, .bool false, .n0, .i 0]) := H7_2.out.grow c7_3 g7_3 hpb (by omega)
    have zO7_3 := H7_2.out.vO.lt
    have RN7_3 : Hid _ := rd_carry RN7_2.out (Turned.ofGrown (S := fun b => b = pb) g7_3 (fun k hk => by cases hk; rfl)) (by omega)
    have o0 := H7_3.out.vO.c 0 rfl
    have tt := H7_3.out.vT.l1
    go_wp2_with ((with_reducible refine gS 27 ?_); refine wpList_storeG H7_3.out.vO rfl rfl rfl (by kernel_rfl) rfl (of_decide_eq_true rfl) rfl ?_; intro y7_4 vy7_4 ty7_4; have H7_4 : Hid (OD w y7_4 pb O (.slice xa l.length xc) #[.i 7, .i p1, .i q1, .bool d1, .slice na7_1 nn7_1 nc7_1, .i p7_3, .i q7_3, .bool d7_3, .n0, .i 0]) := OD.put H7_3.out ty7_4 vy7_4 hpb hOz; have RN7_4 : Hid _ := rd_carry RN7_3.out ty7_4 (Nat.le_refl _); have o0 := H7_4.out.vO.c 0 rfl; have tt := H7_4.out.vT.l1)
    refine Calls.mono (draws4_any pb _ H7_4.out.c) ?_
    rintro e7_5 w7_5 ⟨na7_5, nn7_5, nc7_5, nz7_5, rfl, rr7_5, ln7_5, c7_5, g7_5⟩
    clear o0 tt
    have H7_5 : Hid (OD w w7_5 pb O (.slice xa l.length xc) #[.i 7, .i p1, .i q1, .bool d1, .slice na7_1 nn7_1 nc7_1, .i p7_3, .i q7_3, .bool d7_3, .n0, .i 0]) := H7_4.out.grow c7_5 g7_5 hpb (by omega)
    have zO7_5 := H7_4.out.vO.lt
    have RN7_5 : Hid _ := rd_carry RN7_4.out (Turned.ofGrown (S := fun b => b = pb) g7_5 (fun k hk => by cases hk; rfl)) (by omega)
    have o0 := H7_5.out.vO.c 0 rfl
    have tt := H7_5.out.vT.l1
    have RR7_5 : Hid (RdV w7_5 (fun b => O < b ∧ b < w7_5.heap.size) (.slice na7_5 nn7_5 nc7_5) (.bytes nz7_5)) := RdV.mono (fun b hb => ⟨by omega, hb.2⟩) rr7_5
    clear rr7_5
    go_wp2_with (first | ((with_reducible refine gS 29 ?_); refine sF H7_6.out.vR rfl rfl (by kernel_rfl) rfl rfl ?_; intro wz vZ t_) | ((with_reducible refine gS 22 ?_); refine wpList_storeG H7_5.out.vO rfl rfl rfl (by kernel_rfl) rfl (of_decide_eq_true rfl) rfl ?_; intro y7_6 vy7_6 ty7_6; have H7_6 : Hid (OD w y7_6 pb O (.slice xa l.length xc) #[.i 7, .i p1, .i q1, .bool d1, .slice na7_1 nn7_1 nc7_1, .i p7_3, .i q7_3, .bool d7_3, .slice na7_5 nn7_5 nc7_5, .i 0]) := OD.put H7_5.out ty7_6 vy7_6 hpb hOz; have RN7_6 : Hid _ := rd_carry RN7_5.out ty7_6 (Nat.le_refl _); have RA7_6 : Hid _ := rd_carry RR7_5.out ty7_6 (Nat.le_refl _); obtain ⟨o0, o1, o2, o3, o4, o5, o6, o7, o8, o9⟩ := H7_6.out.vO.l10; have tt := H7_6.out.vT.l1))
    refine bpR Tryz.results31 vZ Tryz.underlying29 rfl rfl (by kernel_rfl) rfl ?_
    exact ⟨⟨7, (p1, q1, d1), nz7_1, (p7_3, q7_3, d7_3), nz7_5, 0⟩, (.slice na7_1 nn7_1 nc7_1), (.slice na7_5 nn7_5 nc7_5), rfl, ⟨⟨by show (0 : Int) ≤ 7; omega, by show (7 : Int) ≤ 7; omega⟩, hr1, hr7_3, ln7_1, ln7_5, ⟨by show (0 : Int) ≤ 0; omega, by show (0 : Int) ≤ 98; omega⟩⟩, RdV.mono (fun b hb => ⟨by omega, hb.2⟩) (rd_carry RN7_6.out t_ (by omega)), RdV.mono (fun b hb => ⟨by omega, hb.2⟩) (rd_carry RA7_6.out t_ (by omega)), cur_keep H7_6.out.c t_ (by omega), grown_keep H7_6.out.g t_ (by omega)⟩
end Go.Proofs.YtcicadfhfojdpaaGreat
