/- Proved: for every record that a caller can hand in, the law FnExactRecordBytes returns true, and its argument reads as before. Conditions: none. -/
import Derived.Test.YtmjfnmlfamikgaaRows
import Derived.Test.YtmjfnmlfamikgaaOpenR
import Derived.Test.YtmjfnmlfamikgaaK02
import Derived.Test.YtmjfnmlfamikgaaK03
import Derived.Test.YtmjfnmlfamikgaaRTo
import Derived.Test.YtmjfnmlfamikgaaREq
import Derived.Test.YtmjfnmlfamikgaaRSz
import Derived.Test.YtmjfnmlfamikgaaVarL
import Derived.WalkKit
import Derived.ProofKit
import Derived.OpenShut
import Derived.ShutString
import Derived.ChangeOld
import Derived.Below
namespace Go.Proofs.Ytmjfnmlfamikgaa.fnExactRecordBytes
open Go.ChangeShapes Go.WideShapes Go.ChangeAt Go.RowKit
set_option linter.unusedVariables false
set_option linter.unusedSimpArgs false

theorem own : ownKnob Try.prog.godebug = none := by kernel_rfl
theorem rcRest_len (m : MsD) (h12 : m.rp.list.length ≤ 12) : (rcRest m).length ≤ 1100 := by
  have g0 := putB_len m.fr; have g1 := putB_len m.req; have g2 := opB_len m.op; have g3 := rpB_len m.rp h12; have g4 := txB_len m.tx; have g5 := ptB_len m.pt; have g6 := putB_len m.code; have g7 := hdB_len m.h
  unfold rcRest
  repeat' split
  all_goals (try simp only [List.length_append, List.length_nil]) <;> omega
theorem outR_len (m : MsD) : (outR m).length ≤ 2097152 := by
  unfold outR
  split
  · rename_i h
    have g0 := rcRest_len m (COk_12 h); have g1 := putB_len m.kind
    unfold rcB; simp only [List.length_append]; omega
  · simp
theorem laidOut : laidOutB Try.prog = true := by kernel_rfl

set_option maxRecDepth 100000 in
set_option maxHeartbeats 8000000 in
theorem walk (v0 : Value) (m : MsD) (w : World) (e0 : ∃ x y z u, v0 = rcV m x y z u ∧ RdM w (Old w) m x y z u) :
    Calls Try.prog 4 #[v0] w fun e w' => e = .returned (.bool true) ∧ Below w.heap.size w w' := by
  obtain ⟨x, y, z, u, rfl, r⟩ := e0
  have HZ : Hid (∀ W, Below w.heap.size w W → _) := fun W hW => szRecord_d x y z u m (Old w) 1048576 W (Nat.le_refl _) (r.step hW)
  by_cases hsz : szMs m ≤ 1048576
  case neg =>
    have hl : leftT (szMs m) 1048576 = -1 := by unfold leftT; rw [if_neg hsz]
    rw [hl] at HZ
    obtain ⟨a1, cap1, rfl⟩ := r.1.sliceB
    obtain ⟨a2, cap2, rfl⟩ := r.2.1.sliceB
    obtain ⟨a3, cap3, rfl, _⟩ := RdV.sliced r.2.2.1
    obtain ⟨a4, cap4, rfl⟩ := r.2.2.2.sliceB
    clear r hsz hl
    obtain ⟨kd, fr, to, rq, ⟨ok, ⟨op_, oq, od⟩, nm, ⟨tp, tq, td⟩, asn, ov⟩, ⟨rc, ⟨rp_, rq_, rd⟩, rv, es⟩, ⟨xs, xb, xn⟩, ⟨pk, ⟨pp, pq, pd⟩, pas, ⟨sp, sq, sd⟩⟩, cd, ⟨hp, hq, hd⟩⟩ := m
    dsimp only at HZ ⊢
    go_enter Try.func4, Try.ntmps4
    go_wp2_with ((with_reducible refine guardLoad (ty := 35) ?_); refine wpList_loadA (VarA.new w _ _) rfl Try.underlying35 rfl (by kernel_rfl) ?_)
    refine Calls.mono (HZ.out _ (Below.newH _)) ?_
    rintro e w2 ⟨rfl, b_⟩
    go_wp2
    go_ret
    exact ⟨rfl, (Below.newH (w := w) _).trans (b_.mono (by simp))⟩
  have hl : leftT (szMs m) 1048576 = ((1048576 - szMs m : Nat) : Int) := by unfold leftT; rw [if_pos hsz]; omega
  rw [hl] at HZ
  generalize 1048576 - szMs m = zz at HZ
  clear hl
  have h1 : szMs m ≤ 2097152 := by omega
  have HT : Hid (∀ W, Below w.heap.size w W → _) := fun W hW => toRecord_any x y z u m (Old w) W (r.step hW) h1
  have HS : Hid (∀ x y z u S W, RdM W S m x y z u → _) := fun x y z u S W q1 => specRecordBytes_any m x y z u S W q1 hsz
  have HI : Hid (∀ x y z u S W, RdM W S m x y z u → _) := fun x y z u S W q1 => implRecordBytes_any m x y z u S W q1 hsz
  have HE : Hid (∀ x y z u x2 y2 z2 u2 S S2 W, RdM W S m x y z u → RdM W S2 m x2 y2 z2 u2 → _) := fun x y z u x2 y2 z2 u2 S S2 W q1 q2 => eqRecord_same x y z u x2 y2 z2 u2 m S S2 W q1 q2 h1
  obtain ⟨a1, cap1, rfl⟩ := r.1.sliceB
  obtain ⟨a2, cap2, rfl⟩ := r.2.1.sliceB
  obtain ⟨a3, cap3, rfl, _⟩ := RdV.sliced r.2.2.1
  obtain ⟨a4, cap4, rfl⟩ := r.2.2.2.sliceB
  have HMK : Hid (∀ x y z u Q W, OwM W Q m x y z u → (∀ b, Q b → b < W.heap.size) → _) := fun x y z u Q W q1 q2 => markRecord_d m x y z u 1 Q W q1 q2 h1 (by omega)
  have hZl := outR_len m
  generalize outR m = Z at HS HI hZl
  generalize COk m = b at HS HI
  have hbb : (b != b) = false := by simp
  clear r hsz h1
  obtain ⟨kd, fr, to, rq, ⟨ok, ⟨op_, oq, od⟩, nm, ⟨tp, tq, td⟩, asn, ov⟩, ⟨rc, ⟨rp_, rq_, rd⟩, rv, es⟩, ⟨xs, xb, xn⟩, ⟨pk, ⟨pp, pq, pd⟩, pas, ⟨sp, sq, sd⟩⟩, cd, ⟨hp, hq, hd⟩⟩ := m
  dsimp only at HZ HT HS HI HE HMK ⊢
  generalize nm.length = n1 at *
  generalize asn.length = n2 at *
  generalize es.length = n3 at *
  generalize pas.length = n4 at *
  go_enter Try.func4, Try.ntmps4
  go_wp2_with ((with_reducible refine guardLoad (ty := 35) ?_); refine wpList_loadA (VarA.new w _ _) rfl Try.underlying35 rfl (by kernel_rfl) ?_)
  refine Calls.mono (HZ.out _ (Below.newH _)) ?_
  rintro e w2 ⟨rfl, b_⟩
  have vA : VarA w2 w.heap.size 35 #[.int .i64 kd, .int .i64 fr, .int .i64 rq, .int .i64 ok, .int .i64 op_, .int .i64 oq, .bool od, .slice a1 n1 cap1, .int .i64 tp, .int .i64 tq, .bool td, .slice a2 n2 cap2, .int .i64 ov, .int .i64 hp, .int .i64 hq, .bool hd, .int .i64 rc, .int .i64 rp_, .int .i64 rq_, .bool rd, .int .i64 rv, .slice a3 n3 cap3, .int .i64 xs, .int .i64 xb, .int .i64 xn, .int .i64 pk, .int .i64 pp, .int .i64 pq, .bool pd, .slice a4 n4 cap4, .int .i64 sp, .int .i64 sq, .bool sd, .int .i64 cd] := VarA.step (VarA.new w _ _) b_
  have HB : Hid (Below w.heap.size w w2) := (Below.newH (w := w) _).trans (b_.mono (by simp))
  clear b_ HZ
  go_wp2_with ((with_reducible refine guardLoad (ty := 35) ?_); refine wpList_loadA vA rfl Try.underlying35 rfl (by kernel_rfl) ?_)
  refine Calls.mono (HT.out _ HB.out) ?_
  rintro e w3 ⟨p1, q1, s1, p2, q2, s2, p3, q3, s3, p4, q4, s4, rfl, o1, b_⟩
  have vA_ := vA.step b_
  have HB_ : Hid _ := HB.out.trans (b_.mono HB.out.size)
  have HQ : Hid _ := HS.out _ _ _ _ _ _ o1.rd
  clear vA HB b_ o1 HS
  go_wp2_with fail
  refine Calls.mono HQ.out ?_
  rintro e w4 ⟨vw, rfl, zW, oW, b_⟩
  have HW : Hid (∀ W, Keeps (fun b => w3.heap.size ≤ b ∧ b < w4.heap.size) w4 W → OwV W (fun b => w3.heap.size ≤ b ∧ b < w4.heap.size) vw (.bytes Z)) := fun W hW => OwV.keep hW (OwV.ofOwns zW oW)
  clear zW oW
  have hs3 := vA_.lt
  have hs34 := b_.size
  have vA := vA_.step b_
  have HB : Hid _ := HB_.out.trans (b_.mono HB_.out.size)
  clear vA_ HB_ b_ HQ
  go_wp2_with ((with_reducible refine guardLoad (ty := 35) ?_); refine wpList_loadA vA rfl Try.underlying35 rfl (by kernel_rfl) ?_)
  refine Calls.mono (HT.out _ HB.out) ?_
  rintro e w5 ⟨x1, m1, d1, x2, m2, d2, x3, m3, d3, x4, m4, d4, rfl, o1, b_⟩
  have q1 := o1.rd.mono (S' := fun _ => True) (fun _ _ => trivial)
  have vA_ := vA.step b_
  have HB_ : Hid _ := HB.out.trans (b_.mono HB.out.size)
  have HQ : Hid (∀ W, Below w5.heap.size w5 W → RdM W (fun _ => True) _ (.slice x1 m1 d1) (.slice x2 m2 d2) (.slice x3 m3 d3) (.slice x4 m4 d4)) := fun W hW => q1.step hW
  have HOX : Hid (∀ W, Keeps (fun b => w4.heap.size ≤ b ∧ b < w5.heap.size) w5 W → OwM W (fun b => w4.heap.size ≤ b ∧ b < w5.heap.size) _ (.slice x1 m1 d1) (.slice x2 m2 d2) (.slice x3 m3 d3) (.slice x4 m4 d4)) := fun W hW => OwM.keep o1 hW
  have hs45 := b_.size
  have KW : Hid (Keeps (fun b => w3.heap.size ≤ b ∧ b < w4.heap.size) w4 w5) := Keeps.ofBelow b_
  clear vA HB b_ o1 q1
  have vA := vA_
  have HB := HB_
  clear vA_ HB_
  go_wp2_with (first | ((with_reducible refine guardStore (ty := 48) ?_); refine wpList_storeF (VarA.new w5 _ _) rfl rfl (by kernel_rfl) rfl (of_decide_eq_true rfl) rfl ?_; intro w5' vX t_) | ((with_reducible refine guardLoad (ty := 48) ?_); refine wpList_loadA vX rfl Try.underlying48 rfl (by kernel_rfl) ?_))
  have b5 : Below w5.heap.size w5 w5' := Turned.below (Below.newH (w := w5) _) (t_.one (S := fun b => w5.heap.size ≤ b) (by omega)) (by simp) (fun i hi => hi)
  have vX : VarA w5' w5.heap.size 48 #[.int .i64 kd, .int .i64 fr, .int .i64 rq, .int .i64 ok, .int .i64 op_, .int .i64 oq, .bool od, .slice x1 m1 d1, .int .i64 tp, .int .i64 tq, .bool td, .slice x2 m2 d2, .int .i64 ov, .int .i64 hp, .int .i64 hq, .bool hd, .int .i64 rc, .int .i64 rp_, .int .i64 rq_, .bool rd, .int .i64 rv, .slice x3 m3 d3, .int .i64 xs, .int .i64 xb, .int .i64 xn, .int .i64 pk, .int .i64 pp, .int .i64 pq, .bool pd, .slice x4 m4 d4, .int .i64 sp, .int .i64 sq, .bool sd, .int .i64 cd] := vX
  have vA_ := vA.step b5
  have HB_ : Hid _ := HB.out.trans (b5.mono HB.out.size)
  clear vA HB t_
  have hs5 := vX.lt
  refine Calls.mono (HI.out _ _ _ _ _ _ (HQ.out _ b5)) ?_
  rintro e w6' ⟨vg, rfl, zG, oG, b_⟩
  have HG : Hid (∀ W, Keeps (fun b => w5'.heap.size ≤ b ∧ b < w6'.heap.size) w6' W → OwV W (fun b => w5'.heap.size ≤ b ∧ b < w6'.heap.size) vg (.bytes Z)) := fun W hW => OwV.keep hW (OwV.ofOwns zG oG)
  clear zG oG
  have hs56 := b_.size
  have KW6 : Hid (Keeps (fun b => w3.heap.size ≤ b ∧ b < w4.heap.size) w4 w6') := KW.out.trans ((Keeps.ofBelow b5).trans (Keeps.ofBelow b_))
  have vA := vA_.step b_
  have vX_ := vX.step b_
  have HB5' : Hid (Below w5.heap.size w5 w6') := b5.trans (b_.mono b5.size)
  have HB : Hid _ := HB_.out.trans (b_.mono HB_.out.size)
  clear vA_ HB_ b_ b5 vX KW
  go_wp2_with fail
  refine Calls.mono (eqByteS_same _ _ Z _ _ _ (HG.out _ (Keeps.refl _ _)).rd (HW.out _ KW6.out).rd hZl) ?_
  rintro e w6 ⟨rfl, b_⟩
  have KW : Hid (Keeps (fun b => w3.heap.size ≤ b ∧ b < w4.heap.size) w4 w6) := KW6.out.trans (Keeps.ofBelow b_)
  have KG : Hid (Keeps (fun b => w5'.heap.size ≤ b ∧ b < w6'.heap.size) w6' w6) := Keeps.ofBelow b_
  have hs66 := b_.size
  have vA_ := vA.step b_
  have vX := vX_.step b_
  have HB5 : Hid (Below w5.heap.size w5 w6) := HB5'.out.trans (b_.mono HB5'.out.size)
  have HB_ : Hid _ := HB.out.trans (b_.mono HB.out.size)
  clear vA vX_ HB b_ KW6 HB5'
  have vA := vA_
  have HB := HB_
  clear vA_ HB_
  go_wp2_with fail
  refine wp_region_noPanic ?_
  refine wp_region_two (by kernel_rfl) vX vA (fun hHeld => ?_)
  refine wpAnyH_take (i := 0) (v := _) rfl (by kernel_rfl) (by kernel_rfl) (by kernel_rfl) (fun _ _ _ h => h) (Or.inl ⟨by rfl, fun w_ hS_ => loadOp_run hS_.1 rfl Try.underlying48 rfl (by kernel_rfl)⟩) (by assumption) ?_
  try simp only [Act.put, List.setIfInBounds_toArray, List.set_cons_zero, List.set_cons_succ, List.getElem_toArray, List.getElem_cons_zero, List.getElem_cons_succ]
  refine wpAnyH_take (i := 1) (v := _) rfl (by kernel_rfl) (by kernel_rfl) (by kernel_rfl) (fun _ _ _ h => h) (Or.inl ⟨by rfl, fun w_ hS_ => loadOp_run hS_.2 rfl Try.underlying35 rfl (by kernel_rfl)⟩) (by assumption) ?_
  try simp only [Act.put, List.setIfInBounds_toArray, List.set_cons_zero, List.set_cons_succ, List.getElem_toArray, List.getElem_cons_zero, List.getElem_cons_succ]
  refine wpAnyH_ready (rs := [2]) (by kernel_rfl) (by simp) ?_
  refine AllReadyH.cons rfl (fun K hK => ?_) AllReadyH.nil
  go_simp
  refine Calls.mono (HT.out w6.drew (HB.out.drew)) ?_
  rintro e w7 ⟨p1, q1, s1, p2, q2, s2, p3, q3, s3, p4, q4, s4, rfl, o1, b7⟩
  have b7' : Below w6.heap.size w6 w7 := (Below.drew (Below.refl _ _)).trans b7
  refine hK.out _ _ ⟨vX.step b7', vA.step b7'⟩ (fun hHeld => ?_)
  clear hK K
  try simp only [Act.put, List.setIfInBounds_toArray, List.set_cons_zero, List.set_cons_succ, List.getElem_toArray, List.getElem_cons_zero, List.getElem_cons_succ]
  refine wpAnyH_ready (rs := [3]) (by kernel_rfl) (by simp) ?_
  refine AllReadyH.cons rfl (fun K hK => ?_) AllReadyH.nil
  go_simp
  refine Calls.mono (HE.out _ _ _ _ _ _ _ _ _ _ _ (HQ.out _ (HB5.out.trans (b7'.mono HB5.out.size))) o1.rd) ?_
  rintro e w8 ⟨rfl, b8⟩
  have b8' : Below w6.heap.size w6 w8 := b7'.trans (b8.mono b7'.size)
  refine hK.out _ _ ⟨vX.step b8', vA.step b8'⟩ (fun hHeld => ?_)
  clear hK K
  try simp only [Act.put, List.setIfInBounds_toArray, List.set_cons_zero, List.set_cons_succ, List.getElem_toArray, List.getElem_cons_zero, List.getElem_cons_succ]
  refine wpAnyH_ready (rs := [4]) (by kernel_rfl) (by simp) ?_
  refine AllReadyH.cons rfl (fun K hK => ?_) AllReadyH.nil
  go_simp
  refine hK.out _ _ ⟨vX.step b8', vA.step b8'⟩ (fun hHeld => ?_)
  clear hK K
  try simp only [Act.put, List.setIfInBounds_toArray, List.set_cons_zero, List.set_cons_succ, List.getElem_toArray, List.getElem_cons_zero, List.getElem_cons_succ]
  refine wpAnyH_done (by kernel_rfl) (NoPanic.normal ?_) _
  have B8 : Hid (Below w.heap.size w w8) := HB.out.trans (b8'.mono HB.out.size)
  have vX8 := vX.step b8'
  have vA8 := vA.step b8'
  have KW8 : Hid (Keeps (fun b => w3.heap.size ≤ b ∧ b < w4.heap.size) w4 w8) := KW.out.trans (Keeps.ofBelow b8')
  have KG8 : Hid (Keeps (fun b => w5'.heap.size ≤ b ∧ b < w6'.heap.size) w6' w8) := KG.out.trans (Keeps.ofBelow b8')
  have hs68 := b8'.size
  have HOX8 : Hid _ := HOX.out w8 ((Keeps.ofBelow HB5.out).trans (Keeps.ofBelow b8'))
  clear vX vA hHeld KW KG HOX HB HB5 b7 b7' b8 b8' o1 HE HQ
  go_wp2_with ((with_reducible refine guardLoad (ty := 48) ?_); refine wpList_loadA vX8 rfl Try.underlying48 rfl (by kernel_rfl) ?_)
  refine Calls.mono (HMK.out _ _ _ _ _ _ HOX8.out (fun b hb => by omega)) ?_
  rintro e w9 ⟨⟨j, rfl, hj⟩, t9⟩
  have KW9 : Hid (Keeps (fun b => w3.heap.size ≤ b ∧ b < w4.heap.size) w4 w9) := KW8.out.trans (t9.keeps (fun b h1 h2 => by omega))
  have KG9 : Hid (Keeps (fun b => w5'.heap.size ≤ b ∧ b < w6'.heap.size) w6' w9) := KG8.out.trans (t9.keeps (fun b h1 h2 => by omega))
  have vA9 := vA8.turn t9 (fun h => by omega)
  have B9 : Hid (Below w.heap.size w w9) := Turned.below B8.out t9 B8.out.size (fun b h => by omega)
  have hs89 := t9.size
  clear KW8 KG8 vA8 vX8 B8 t9 HOX8 HMK
  go_wp2_with fail
  refine Calls.mono (eqByteS_same _ _ Z _ _ _ (HG.out _ KG9.out).rd (HW.out _ KW9.out).rd hZl) ?_
  rintro e w10 ⟨rfl, b_⟩
  have KW10 : Hid (Keeps (fun b => w3.heap.size ≤ b ∧ b < w4.heap.size) w4 w10) := KW9.out.trans (Keeps.ofBelow b_)
  have HG10 : Hid _ := HG.out _ (KG9.out.trans (Keeps.ofBelow b_))
  have vA10 := vA9.step b_
  have B10 : Hid (Below w.heap.size w w10) := B9.out.trans (b_.mono B9.out.size)
  clear KW9 KG9 HG vA9 B9 b_
  go_wp2_with fail
  refine Calls.mono (mark_d _ _ 1 _ _ HG10.out hZl (by omega)) ?_
  rintro e w11 ⟨rfl, oG11, t11⟩
  have HG11 : Hid (OwV w11 (fun b => w5'.heap.size ≤ b ∧ b < w6'.heap.size) vg (.bytes (marks Z.length 1))) := oG11
  have KW11 : Hid (Keeps (fun b => w3.heap.size ≤ b ∧ b < w4.heap.size) w4 w11) := KW10.out.trans (t11.keeps (fun b h1 h2 => by omega))
  have vA11 := vA10.turn t11 (fun h => by omega)
  have B11 : Hid (Below w.heap.size w w11) := Turned.below B10.out t11 B10.out.size (fun b h => by omega)
  clear KW10 HG10 vA10 B10 t11 oG11
  go_wp2_with fail
  refine Calls.mono (held_d _ _ 1 _ _ HG11.out.rd hZl (by omega)) ?_
  rintro e w12 ⟨rfl, rfl⟩
  go_wp2_with ((with_reducible refine guardLoad (ty := 35) ?_); refine wpList_loadA vA11 rfl Try.underlying35 rfl (by kernel_rfl) ?_)
  refine Calls.mono (HT.out _ B11.out) ?_
  rintro e w13 ⟨p1, q1, s1, p2, q2, s2, p3, q3, s3, p4, q4, s4, rfl, o1, b_⟩
  have KW13 : Hid (Keeps (fun b => w3.heap.size ≤ b ∧ b < w4.heap.size) w4 w13) := KW11.out.trans (Keeps.ofBelow b_)
  have HG13 : Hid (OwV w13 (fun b => w5'.heap.size ≤ b ∧ b < w6'.heap.size) vg (.bytes (marks Z.length 1))) := OwV.step HG11.out b_
  have B13 : Hid (Below w.heap.size w w13) := B11.out.trans (b_.mono B11.out.size)
  have HQ : Hid _ := HI.out _ _ _ _ _ _ (o1.rd.mono (S' := fun _ => True) (fun _ _ => trivial))
  clear KW11 HG11 vA11 B11 b_ o1 HI HT
  go_wp2_with fail
  refine Calls.mono HQ.out ?_
  rintro e w14 ⟨vh, rfl, zH, oH, b_⟩
  have KW14 : Hid (Keeps (fun b => w3.heap.size ≤ b ∧ b < w4.heap.size) w4 w14) := KW13.out.trans (Keeps.ofBelow b_)
  have HG14 : Hid (OwV w14 (fun b => w5'.heap.size ≤ b ∧ b < w6'.heap.size) vg (.bytes (marks Z.length 1))) := OwV.step HG13.out b_
  have HH : Hid (RdV w14 (fun _ => True) vh (.bytes Z)) := oH.rdT zH
  have B14 : Hid (Below w.heap.size w w14) := B13.out.trans (b_.mono B13.out.size)
  clear KW13 HG13 B13 b_ zH oH HQ
  go_wp2_with fail
  refine Calls.mono (eqByteS_same _ _ Z _ _ _ HH.out (HW.out _ KW14.out).rd hZl) ?_
  rintro e w15 ⟨rfl, b_⟩
  have HG15 : Hid (OwV w15 (fun b => w5'.heap.size ≤ b ∧ b < w6'.heap.size) vg (.bytes (marks Z.length 1))) := OwV.step HG14.out b_
  have B15 : Hid (Below w.heap.size w w15) := B14.out.trans (b_.mono B14.out.size)
  clear KW14 HG14 B14 b_ HH HW
  go_wp2_with fail
  refine Calls.mono (held_d _ _ 1 _ _ HG15.out.rd hZl (by omega)) ?_
  rintro e w16 ⟨rfl, rfl⟩
  go_wp2
  go_ret
  exact ⟨rfl, B15.out⟩

set_option maxRecDepth 100000 in
theorem lifted (os : Os) (started : os.Started) (H : Type) (enc : TypeId × Value → H) :
    ReturnsInHanded {} Try.checked os 4 .any (Rows.fnExactRecordBytesSpec.pre6 enc Try.prog Try.f4 Rows.fnExactRecordBytesRow.domain false) (Rows.fnExactRecordBytesSpec.post enc Try.prog Try.f4 false true false false) := by
  refine returnsInHanded_of_change (C := Try.checked) own started (by kernel_rfl) Try.func4
    (ChangeSpec.witness6 (enc := enc) (C := Try.checked) false ⟨#[], #[.agg #[.int .i64 0, .int .i64 0, .int .i64 0, .int .i64 0, .int .i64 0, .int .i64 0, .bool false, .slice none 0 0, .int .i64 0, .int .i64 0, .bool false, .slice none 0 0, .int .i64 0, .int .i64 0, .int .i64 0, .bool false, .int .i64 0, .int .i64 0, .int .i64 0, .bool false, .int .i64 0, .slice none 0 0, .int .i64 0, .int .i64 0, .int .i64 0, .int .i64 0, .int .i64 0, .int .i64 0, .bool false, .slice none 0 0, .int .i64 0, .int .i64 0, .bool false, .int .i64 0]], []⟩ 8 (by kernel_rfl) (by kernel_rfl) (by kernel_rfl) (by kernel_rfl)) ?_
  intro W base args ds gs before hval0 hW hcnd _
  have hval : ∀ (j : Nat) t v, Try.f4.params[j]? = some t → args[j]? = some v → Value.okWide Try.prog W .any base t v := hval0
  have hW' := hW
  obtain ⟨p, q, hA0, hV, rfl, hfz, hnd⟩ := hW
  have hA : DataW.TrodAll enc Try.prog W 0 (fun _ => true) true Try.f4.params.toList args.toList ds p := hA0
  rw [Try.params4] at hA hval
  obtain ⟨v0, vs0, x0, ds0, p0, q0, hargs, rfl, rfl, h0, r0⟩ := trodAll_cons hA
  obtain ⟨rfl, rfl, rfl⟩ := trodAll_nil r0
  obtain rfl : args = #[v0] := by cases args; simp_all
  obtain ⟨rfl, rfl⟩ := trodVars_none hV
  have k0 := h0
  have lt0 : ∀ x ∈ p0, x.block < W.heap.size := by obtain ⟨m, hm⟩ := k0; exact DataW.trod_lt m _ _ _ hm
  obtain ⟨d0, e0⟩ := open_recA (hval 0 35 v0 rfl rfl) h0
  clear hA0 hval0
  refine (walk v0 d0 W e0).mono fun e W' ⟨he, bel⟩ => ?_
  subst he
  exact ⟨_, rfl, _, _, _, [], _, [], hW', trodAll_mk1 (shut_bool Try.underlying4 _), (trodAll_cons_mk (Below.trod laidOut (by kernel_rfl) (of_decide_eq_true (by kernel_rfl)) k0 bel lt0) trodAll_mk0), rfl, bel.frame _, fun h => by cases h⟩

theorem over : Rows.fnExactRecordBytesRow.holds Try.pinned (OpenSpec.ofChange Rows.fnExactRecordBytesSpec) :=
  OpenClaim.holds_of_wide 4 Try.f4 rfl rfl rfl rfl rfl rfl rfl ⟨rfl, rfl, rfl, rfl, rfl⟩ rfl rfl rfl rfl rfl (by kernel_rfl) Try.func4 (by kernel_rfl)
    (of_decide_eq_true (by kernel_rfl)) (by unfold Func.isWrapper; first | (rw [if_pos (by decide +kernel)]; kernel_rfl) | (rw [if_neg (by decide +kernel)]; exact ⟨rfl, rfl⟩))
    (fun os started H enc _ => lifted os started H enc)
end Go.Proofs.Ytmjfnmlfamikgaa.fnExactRecordBytes

namespace Go.Proofs.Ytmjfnmlfamikgaa
/-- The given statement. -/
theorem fnExactRecordBytes_holds : Rows.FnExactRecordBytesSaid := fnExactRecordBytes.over
#print axioms fnExactRecordBytes_holds
end Go.Proofs.Ytmjfnmlfamikgaa
