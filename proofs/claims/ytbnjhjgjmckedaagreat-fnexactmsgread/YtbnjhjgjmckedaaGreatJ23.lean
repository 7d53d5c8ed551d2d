/- Joined: MdR0. -/
import Derived.Test.YtbnjhjgjmckedaaGreatJ15
import Derived.Test.YtbnjhjgjmckedaaGreatJ21
import Derived.Test.YtbnjhjgjmckedaaGreatJ22

section
/- The program's MsgRead, kind by kind. Condition: at most 2,000,000 bytes. -/
namespace Go.Proofs.YtbnjhjgjmckedaaGreat
open Go.RowKit
set_option linter.unusedVariables false
set_option linter.unusedSimpArgs false
set_option maxRecDepth 100000

set_option maxHeartbeats 16000000 in
theorem implMRead0 (v : Value) (zs : List Int) (S : Nat → Prop) (w : World) (r : RdV w S v (.bytes zs)) (hl : zs.length ≤ 2000000) (hk : (getNum zs 0).1 = 0) :
    Calls Tryz.prog 9 #[v] w fun e w' => ∃ a1 n1 c1 a2 n2 c2 a3 n3 c3 a4 n4 c4, e = .returned (.tuple #[msV (msRead zs).1 (.slice a1 n1 c1) (.slice a2 n2 c2) (.slice a3 n3 c3) (.slice a4 n4 c4), .bool (msRead zs).2]) ∧ OwM w' (fun b => w.heap.size ≤ b ∧ b < w'.heap.size) (msRead zs).1 (.slice a1 n1 c1) (.slice a2 n2 c2) (.slice a3 n3 c3) (.slice a4 n4 c4) ∧ Below w.heap.size w w' := by
  obtain ⟨va, vcap, rfl⟩ := r.sliceB
  obtain ⟨v, hv⟩ : ∃ v, v = Value.slice va zs.length vcap := ⟨_, rfl⟩
  rw [← hv] at r
  have HS : Hid (∀ o, CurV 69 (w.heap.size + 1) zs v 0 ((w.alloc o).alloc (.cells #[v, .int .i64 0] 69))) := fun o => CurV.start _ o r
  have HEN : Hid (∀ p W, CurV 69 (w.heap.size + 1) zs v p W → _) := fun p W hW => implEndC (w.heap.size + 1) zs v p W hW hl
  clear r
  obtain ⟨n0, q0, e0⟩ : ∃ x q, getNum zs 0 = (x, q) := ⟨_, _, rfl⟩
  have H0 : Hid (∀ W, CurV 69 (w.heap.size + 1) zs v 0 W → _) := fun W hW => by have h_ := implNumC (w.heap.size + 1) zs v 0 W hW hl; rw [e0] at h_; exact h_
  obtain ⟨n1, q1, e1⟩ : ∃ x q, getNum zs q0 = (x, q) := ⟨_, _, rfl⟩
  have H1 : Hid (∀ W, CurV 69 (w.heap.size + 1) zs v q0 W → _) := fun W hW => by have h_ := implNumC (w.heap.size + 1) zs v q0 W hW hl; rw [e1] at h_; exact h_
  obtain ⟨n2, q2, e2⟩ : ∃ x q, getNum zs q1 = (x, q) := ⟨_, _, rfl⟩
  have H2 : Hid (∀ W, CurV 69 (w.heap.size + 1) zs v q1 W → _) := fun W hW => by have h_ := implNumC (w.heap.size + 1) zs v q1 W hW hl; rw [e2] at h_; exact h_
  obtain ⟨n3, q3, e3⟩ : ∃ x q, getNum zs q2 = (x, q) := ⟨_, _, rfl⟩
  obtain ⟨⟨ok4, ⟨op4, oq4, od4⟩, nm4, ⟨tp4, tq4, td4⟩, asn4, ov4⟩, q4, e4⟩ : ∃ x q, rdOp zs q3 = (x, q) := ⟨_, _, rfl⟩
  rw [e0] at hk
  dsimp only at hk
  subst hk
  have hsz := szMd (rdEnP zs) (szP zs) zs
  have hR : rdMs (rdEnP zs) zs = (⟨0, n1, n2, n3, ⟨ok4, (op4, oq4, od4), nm4, (tp4, tq4, td4), asn4, ov4⟩, rp0, tx0, pt0, 0, hd0⟩, q4) := by simp [rdMs, e0, e1, e2, e3, e4]
  have hMR : msRead zs = if (rdMs (rdEnP zs) zs).2 = zs.length ∧ MOk (rdMs (rdEnP zs) zs).1 = true then ((rdMs (rdEnP zs) zs).1, true) else (ms0, false) := rfl
  rw [hR] at hMR hsz
  rw [hMR]
  dsimp only at hsz ⊢
  clear hR hMR
  have HCT : Hid (∀ W, CurV 69 (w.heap.size + 1) zs v q2 W → _) := fun W hW => contentC0 (w.heap.size + 1) zs v q2 n1 n2 W hW hl n3 ok4 op4 oq4 tp4 tq4 ov4 od4 td4 nm4 asn4 q3 q4 e3 e4
  have HOK : Hid (∀ x y z u S W, RdM W S ⟨0, n1, n2, n3, ⟨ok4, (op4, oq4, od4), nm4, (tp4, tq4, td4), asn4, ov4⟩, rp0, tx0, pt0, 0, hd0⟩ x y z u → _) := fun x y z u S W hW => implMsgOk_any x y z u _ S W hW (by omega)
  have HWI : Hid (∀ (b1 b2 b3 b4 : Option Addr) (u1 u2 u3 u4 d1 d2 d3 d4 : Nat) (W : World), _) := fun b1 b2 b3 b4 u1 u2 u3 u4 d1 d2 d3 d4 W => with0 ⟨0, n1, n2, n3, ⟨ok4, (op4, oq4, od4), nm4, (tp4, tq4, td4), asn4, ov4⟩, rp0, tx0, pt0, 0, hd0⟩ b1 b2 b3 b4 u1 u2 u3 u4 d1 d2 d3 d4 W
  obtain ⟨mR, bR, hRR⟩ : ∃ a b, (if q4 = zs.length ∧ MOk ⟨0, n1, n2, n3, ⟨ok4, (op4, oq4, od4), nm4, (tp4, tq4, td4), asn4, ov4⟩, rp0, tx0, pt0, 0, hd0⟩ = true then (⟨0, n1, n2, n3, ⟨ok4, (op4, oq4, od4), nm4, (tp4, tq4, td4), asn4, ov4⟩, rp0, tx0, pt0, 0, hd0⟩, true) else (ms0, false)) = (a, b) := ⟨_, _, rfl⟩
  rw [hRR]
  have HRR : Hid ((if q4 = zs.length ∧ MOk ⟨0, n1, n2, n3, ⟨ok4, (op4, oq4, od4), nm4, (tp4, tq4, td4), asn4, ov4⟩, rp0, tx0, pt0, 0, hd0⟩ = true then (⟨0, n1, n2, n3, ⟨ok4, (op4, oq4, od4), nm4, (tp4, tq4, td4), asn4, ov4⟩, rp0, tx0, pt0, 0, hd0⟩, true) else (ms0, false)) = (mR, bR)) := hRR
  clear hRR hsz
  generalize MOk ⟨0, n1, n2, n3, ⟨ok4, (op4, oq4, od4), nm4, (tp4, tq4, td4), asn4, ov4⟩, rp0, tx0, pt0, 0, hd0⟩ = okB at HOK HRR
  clear e0 e1 e2 e3 e4
  dsimp only
  subst hv
  simp only [op0, rp0, tx0, pt0, hd0] at HWI HOK HCT HRR
  try dsimp only at HWI
  go_enter Tryz.func9, Tryz.ntmps9
  go_wp2_with fail
  refine Calls.mono (H0.out _ (HS.out _)) ?_
  rintro e w1 ⟨rfl, hc_, t_⟩
  have hx0 := t_.size
  simp at hx0
  have HT : Hid (Below w.heap.size w w1) := Turned.below ((Below.new1 (w := w) _).trans ((Below.new1 (w := w.alloc _) _).mono (by simp))) t_ (by simp <;> omega) (fun i hi => by omega)
  have vR : VarA w1 w.heap.size 35 #[.int .i64 0, .int .i64 0, .int .i64 0, .int .i64 0, .int .i64 0, .int .i64 0, .int .i64 0, .bool false, .slice none 0 0, .int .i64 0, .int .i64 0, .bool false, .slice none 0 0, .int .i64 0, .int .i64 0, .int .i64 0, .int .i64 0, .bool false, .int .i64 0, .slice none 0 0, .int .i64 0, .int .i64 0, .int .i64 0, .int .i64 0, .int .i64 0, .int .i64 0, .bool false, .slice none 0 0, .int .i64 0, .int .i64 0, .bool false, .int .i64 0, .int .i64 0, .int .i64 0, .bool false] := VarA.turn ((VarA.new w _ _).alloc _) t_ (by omega)
  clear HS
  have HC1 : Hid (CurV 69 (w.heap.size + 1) zs (.slice va zs.length vcap) q0 w1) := hc_
  clear hc_ t_ H0
  go_wp2_with fail
  refine Calls.mono (H1.out _ HC1.out) ?_
  rintro e w2 ⟨rfl, hc_, t_⟩
  have HT_ : Hid (Below w.heap.size w w2) := Turned.below HT.out t_ HT.out.size (fun i hi => by omega)
  clear HT
  have HT := HT_
  clear HT_
  have vR_ := vR.turn t_ (by omega)
  clear vR
  have vR := vR_
  clear vR_
  have hx1 := t_.size
  have HC2 : Hid (CurV 69 (w.heap.size + 1) zs (.slice va zs.length vcap) q1 w2) := hc_
  clear hc_ t_ H1 HC1
  go_wp2_with fail
  refine Calls.mono (H2.out _ HC2.out) ?_
  rintro e w3 ⟨rfl, hc_, t_⟩
  have HT_ : Hid (Below w.heap.size w w3) := Turned.below HT.out t_ HT.out.size (fun i hi => by omega)
  clear HT
  have HT := HT_
  clear HT_
  have vR_ := vR.turn t_ (by omega)
  clear vR
  have vR := vR_
  clear vR_
  have hx2 := t_.size
  have HC3 : Hid (CurV 69 (w.heap.size + 1) zs (.slice va zs.length vcap) q2 w3) := hc_
  clear hc_ t_ H2 HC2
  dsimp only
  repeat (first | ((with_reducible refine guardStore (ty := 35) ?_); refine wpList_storeF (VarA.new w3 _ _) rfl rfl (by kernel_rfl) rfl (of_decide_eq_true rfl) rfl ?_; intro w4 vM_ t_) | go_values | go_skip | go_guarded | go_step | go_upon)
  have vM : VarA w4 w3.heap.size 35 #[.int .i64 0, .int .i64 n1, .int .i64 n2, .int .i64 0, .int .i64 0, .int .i64 0, .int .i64 0, .bool false, .slice none 0 0, .int .i64 0, .int .i64 0, .bool false, .slice none 0 0, .int .i64 0, .int .i64 0, .int .i64 0, .int .i64 0, .bool false, .int .i64 0, .slice none 0 0, .int .i64 0, .int .i64 0, .int .i64 0, .int .i64 0, .int .i64 0, .int .i64 0, .bool false, .slice none 0 0, .int .i64 0, .int .i64 0, .bool false, .int .i64 0, .int .i64 0, .int .i64 0, .bool false] := vM_
  have t1 : Turned (fun b => b = w3.heap.size) w3 w4 := (Turned.ofBelow (Below.new1 (w := w3) _)).trans t_
  have hx3 := t1.size
  have hlM := VarA.lt vM
  have HT4 : Hid (Below w.heap.size w w4) := Turned.below HT.out t1 HT.out.size (fun i hi => by omega)
  have vR4 := vR.turn t1 (by omega)
  have HC4 : Hid (CurV 69 (w.heap.size + 1) zs (.slice va zs.length vcap) q2 w4) := HC3.out.keep t1 (fun b hb => by omega)
  clear vM_ t_ t1 HT vR HC3
  have k0_ := vM.c 0 rfl
  try simp only [Act.put]
  refine wp_region_noPanic ?_
  refine wp_region_held_drew (S := fun _ => True) (by kernel_rfl) trivial (fun hHeld => ?_)
  clear hHeld
  refine wpAnyH_take (i := 1) (v := ?_) rfl (by kernel_rfl) (by kernel_rfl) (by kernel_rfl) (fun _ _ _ h => h) (Or.inl ⟨by rfl, ?_⟩) trivial ?_
  rotate_left
  · (intro w_ hSw_; (try dsimp only at hSw_); go_simp; try with_reducible rfl)
  try simp only [Act.put, List.setIfInBounds_toArray, List.set_cons_zero, List.set_cons_succ, List.getElem_toArray, List.getElem_cons_zero, List.getElem_cons_succ]
  refine wpAnyH_take (i := 2) (v := ?_) rfl (by kernel_rfl) (by kernel_rfl) (by kernel_rfl) (fun _ _ _ h => h) (Or.inl ⟨by rfl, ?_⟩) trivial ?_
  rotate_left
  · (intro w_ hSw_; (try dsimp only at hSw_); go_simp; try with_reducible rfl)
  try simp only [Act.put, List.setIfInBounds_toArray, List.set_cons_zero, List.set_cons_succ, List.getElem_toArray, List.getElem_cons_zero, List.getElem_cons_succ]
  refine wpAnyH_ready (rs := [0, 3]) (by kernel_rfl) (by simp) ?_
  refine AllReadyH.cons rfl (fun K hK => ?_) ?_
  focus
    refine step_loadA (VarA.dr vM) rfl Tryz.underlying35 rfl (by kernel_rfl) ?_
    refine hK.out _ _ trivial (fun hHeld => ?_)
    clear hK K hHeld
    try simp only [Act.put, List.setIfInBounds_toArray, List.set_cons_zero, List.set_cons_succ, List.getElem_toArray, List.getElem_cons_zero, List.getElem_cons_succ]
    refine wpAnyH_ready (rs := [3]) (by kernel_rfl) (by simp) ?_
    refine AllReadyH.cons rfl (fun K hK => ?_) AllReadyH.nil
    go_simp
    refine hK.out _ _ trivial (fun hHeld => ?_)
    clear hK K hHeld
    try simp only [Act.put, List.setIfInBounds_toArray, List.set_cons_zero, List.set_cons_succ, List.getElem_toArray, List.getElem_cons_zero, List.getElem_cons_succ]
    refine wpAnyH_ready (rs := [4]) (by kernel_rfl) (by simp) ?_
    refine AllReadyH.cons rfl (fun K hK => ?_) AllReadyH.nil
    go_simp
    refine Calls.mono (HCT.out _ HC4.out.dr) ?_
    rintro e w5 ⟨a4, l4, c4, a4y, l4y, c4y, rfl, o5, hc5, t5⟩
    have t5' : Turned (fun b => b = w.heap.size + 1) w4 w5 := (Turned.drew1 _ _).trans t5
    have hx4 := t5'.size
    have vM5 := vM.turn t5' (by omega)
    have vR5 := vR4.turn t5' (by omega)
    have B5 : Hid (Below w.heap.size w w5) := Turned.below HT4.out t5' HT4.out.size (fun i hi => by omega)
    have HO5 : Hid (OwM w5 (fun b => w4.heap.size ≤ b ∧ b < w5.heap.size) _ (.slice a4 l4 c4) (.slice a4y l4y c4y) (.slice none 0 0) (.slice none 0 0)) := o5
    have HC5 : Hid (CurV 69 (w.heap.size + 1) zs (.slice va zs.length vcap) q4 w5) := hc5
    clear o5 hc5 t5 t5'
    refine hK.out _ _ trivial (fun hHeld => ?_)
    clear hK K hHeld
    try simp only [Act.put, List.setIfInBounds_toArray, List.set_cons_zero, List.set_cons_succ, List.getElem_toArray, List.getElem_cons_zero, List.getElem_cons_succ]
    refine wpAnyH_ready (rs := [5]) (by kernel_rfl) (by simp) ?_
    refine AllReadyH.cons rfl (fun K hK => ?_) AllReadyH.nil
    go_simp
    refine Calls.mono (HWI.out a4 a4y none none l4 l4y 0 0 c4 c4y 0 0 _) ?_
    rintro e w6 ⟨rfl, b6⟩
    have vM6 := vM5.step b6
    have vR6 := vR5.step b6
    have B6 : Hid (Below w.heap.size w w6) := B5.out.trans (b6.mono B5.out.size)
    have HO6 : Hid (OwM w6 (fun b => w4.heap.size ≤ b ∧ b < w5.heap.size) _ (.slice a4 l4 c4) (.slice a4y l4y c4y) (.slice none 0 0) (.slice none 0 0)) := HO5.out.keep (Keeps.ofBelow b6)
    have HC6 : Hid (CurV 69 (w.heap.size + 1) zs (.slice va zs.length vcap) q4 w6) := HC5.out.step b6
    have hx5 := b6.size
    clear b6 vM5 vR5 B5 HO5 HC5
    refine hK.out _ _ trivial (fun hHeld => ?_)
    clear hK K hHeld
    try simp only [Act.put, List.setIfInBounds_toArray, List.set_cons_zero, List.set_cons_succ, List.getElem_toArray, List.getElem_cons_zero, List.getElem_cons_succ]
    refine wpAnyH_ready (rs := [6]) (by kernel_rfl) (by simp) ?_
    refine AllReadyH.cons rfl (fun K hK => ?_) AllReadyH.nil
    refine step_storeF vM6 rfl rfl (by kernel_rfl) rfl (of_decide_eq_true rfl) rfl ?_
    intro w7 vM7_ t7
    refine hK.out _ _ trivial (fun hHeld => ?_)
    clear hK K hHeld
    try simp only [Act.put, List.setIfInBounds_toArray, List.set_cons_zero, List.set_cons_succ, List.getElem_toArray, List.getElem_cons_zero, List.getElem_cons_succ]
    refine wpAnyH_done (by kernel_rfl) (NoPanic.normal ?_) _
  rotate_left
  refine AllReadyH.cons rfl (fun K hK => ?_) AllReadyH.nil
  go_simp
  refine hK.out _ _ trivial (fun hHeld => ?_)
  clear hK K hHeld
  try simp only [Act.put, List.setIfInBounds_toArray, List.set_cons_zero, List.set_cons_succ, List.getElem_toArray, List.getElem_cons_zero, List.getElem_cons_succ]
  refine wpAnyH_ready (rs := [0, 4]) (by kernel_rfl) (by simp) ?_
  refine AllReadyH.cons rfl (fun K hK => ?_) ?_
  focus
    refine step_loadA (VarA.dr vM) rfl Tryz.underlying35 rfl (by kernel_rfl) ?_
    refine hK.out _ _ trivial (fun hHeld => ?_)
    clear hK K hHeld
    try simp only [Act.put, List.setIfInBounds_toArray, List.set_cons_zero, List.set_cons_succ, List.getElem_toArray, List.getElem_cons_zero, List.getElem_cons_succ]
    refine wpAnyH_ready (rs := [4]) (by kernel_rfl) (by simp) ?_
    refine AllReadyH.cons rfl (fun K hK => ?_) AllReadyH.nil
    go_simp
    refine Calls.mono (HCT.out _ HC4.out.dr) ?_
    rintro e w5 ⟨a4, l4, c4, a4y, l4y, c4y, rfl, o5, hc5, t5⟩
    have t5' : Turned (fun b => b = w.heap.size + 1) w4 w5 := (Turned.drew1 _ _).trans t5
    have hx4 := t5'.size
    have vM5 := vM.turn t5' (by omega)
    have vR5 := vR4.turn t5' (by omega)
    have B5 : Hid (Below w.heap.size w w5) := Turned.below HT4.out t5' HT4.out.size (fun i hi => by omega)
    have HO5 : Hid (OwM w5 (fun b => w4.heap.size ≤ b ∧ b < w5.heap.size) _ (.slice a4 l4 c4) (.slice a4y l4y c4y) (.slice none 0 0) (.slice none 0 0)) := o5
    have HC5 : Hid (CurV 69 (w.heap.size + 1) zs (.slice va zs.length vcap) q4 w5) := hc5
    clear o5 hc5 t5 t5'
    refine hK.out _ _ trivial (fun hHeld => ?_)
    clear hK K hHeld
    try simp only [Act.put, List.setIfInBounds_toArray, List.set_cons_zero, List.set_cons_succ, List.getElem_toArray, List.getElem_cons_zero, List.getElem_cons_succ]
    refine wpAnyH_ready (rs := [5]) (by kernel_rfl) (by simp) ?_
    refine AllReadyH.cons rfl (fun K hK => ?_) AllReadyH.nil
    go_simp
    refine Calls.mono (HWI.out a4 a4y none none l4 l4y 0 0 c4 c4y 0 0 _) ?_
    rintro e w6 ⟨rfl, b6⟩
    have vM6 := vM5.step b6
    have vR6 := vR5.step b6
    have B6 : Hid (Below w.heap.size w w6) := B5.out.trans (b6.mono B5.out.size)
    have HO6 : Hid (OwM w6 (fun b => w4.heap.size ≤ b ∧ b < w5.heap.size) _ (.slice a4 l4 c4) (.slice a4y l4y c4y) (.slice none 0 0) (.slice none 0 0)) := HO5.out.keep (Keeps.ofBelow b6)
    have HC6 : Hid (CurV 69 (w.heap.size + 1) zs (.slice va zs.length vcap) q4 w6) := HC5.out.step b6
    have hx5 := b6.size
    clear b6 vM5 vR5 B5 HO5 HC5
    refine hK.out _ _ trivial (fun hHeld => ?_)
    clear hK K hHeld
    try simp only [Act.put, List.setIfInBounds_toArray, List.set_cons_zero, List.set_cons_succ, List.getElem_toArray, List.getElem_cons_zero, List.getElem_cons_succ]
    refine wpAnyH_ready (rs := [6]) (by kernel_rfl) (by simp) ?_
    refine AllReadyH.cons rfl (fun K hK => ?_) AllReadyH.nil
    refine step_storeF vM6 rfl rfl (by kernel_rfl) rfl (of_decide_eq_true rfl) rfl ?_
    intro w7 vM7_ t7
    refine hK.out _ _ trivial (fun hHeld => ?_)
    clear hK K hHeld
    try simp only [Act.put, List.setIfInBounds_toArray, List.set_cons_zero, List.set_cons_succ, List.getElem_toArray, List.getElem_cons_zero, List.getElem_cons_succ]
    refine wpAnyH_done (by kernel_rfl) (NoPanic.normal ?_) _
  rotate_left
  refine AllReadyH.cons rfl (fun K hK => ?_) AllReadyH.nil
  go_simp
  refine Calls.mono (HCT.out _ HC4.out.dr) ?_
  rintro e w5 ⟨a4, l4, c4, a4y, l4y, c4y, rfl, o5, hc5, t5⟩
  have t5' : Turned (fun b => b = w.heap.size + 1) w4 w5 := (Turned.drew1 _ _).trans t5
  have hx4 := t5'.size
  have vM5 := vM.turn t5' (by omega)
  have vR5 := vR4.turn t5' (by omega)
  have B5 : Hid (Below w.heap.size w w5) := Turned.below HT4.out t5' HT4.out.size (fun i hi => by omega)
  have HO5 : Hid (OwM w5 (fun b => w4.heap.size ≤ b ∧ b < w5.heap.size) _ (.slice a4 l4 c4) (.slice a4y l4y c4y) (.slice none 0 0) (.slice none 0 0)) := o5
  have HC5 : Hid (CurV 69 (w.heap.size + 1) zs (.slice va zs.length vcap) q4 w5) := hc5
  clear o5 hc5 t5 t5'
  refine hK.out _ _ trivial (fun hHeld => ?_)
  clear hK K hHeld
  try simp only [Act.put, List.setIfInBounds_toArray, List.set_cons_zero, List.set_cons_succ, List.getElem_toArray, List.getElem_cons_zero, List.getElem_cons_succ]
  refine wpAnyH_ready (rs := [0]) (by kernel_rfl) (by simp) ?_
  refine AllReadyH.cons rfl (fun K hK => ?_) AllReadyH.nil
  refine step_loadA vM5 rfl Tryz.underlying35 rfl (by kernel_rfl) ?_
  refine hK.out _ _ trivial (fun hHeld => ?_)
  clear hK K hHeld
  try simp only [Act.put, List.setIfInBounds_toArray, List.set_cons_zero, List.set_cons_succ, List.getElem_toArray, List.getElem_cons_zero, List.getElem_cons_succ]
  refine wpAnyH_ready (rs := [5]) (by kernel_rfl) (by simp) ?_
  refine AllReadyH.cons rfl (fun K hK => ?_) AllReadyH.nil
  go_simp
  refine Calls.mono (HWI.out a4 a4y none none l4 l4y 0 0 c4 c4y 0 0 _) ?_
  rintro e w6 ⟨rfl, b6⟩
  have vM6 := vM5.step b6
  have vR6 := vR5.step b6
  have B6 : Hid (Below w.heap.size w w6) := B5.out.trans (b6.mono B5.out.size)
  have HO6 : Hid (OwM w6 (fun b => w4.heap.size ≤ b ∧ b < w5.heap.size) _ (.slice a4 l4 c4) (.slice a4y l4y c4y) (.slice none 0 0) (.slice none 0 0)) := HO5.out.keep (Keeps.ofBelow b6)
  have HC6 : Hid (CurV 69 (w.heap.size + 1) zs (.slice va zs.length vcap) q4 w6) := HC5.out.step b6
  have hx5 := b6.size
  clear b6 vM5 vR5 B5 HO5 HC5
  refine hK.out _ _ trivial (fun hHeld => ?_)
  clear hK K hHeld
  try simp only [Act.put, List.setIfInBounds_toArray, List.set_cons_zero, List.set_cons_succ, List.getElem_toArray, List.getElem_cons_zero, List.getElem_cons_succ]
  refine wpAnyH_ready (rs := [6]) (by kernel_rfl) (by simp) ?_
  refine AllReadyH.cons rfl (fun K hK => ?_) AllReadyH.nil
  refine step_storeF vM6 rfl rfl (by kernel_rfl) rfl (of_decide_eq_true rfl) rfl ?_
  intro w7 vM7_ t7
  refine hK.out _ _ trivial (fun hHeld => ?_)
  clear hK K hHeld
  try simp only [Act.put, List.setIfInBounds_toArray, List.set_cons_zero, List.set_cons_succ, List.getElem_toArray, List.getElem_cons_zero, List.getElem_cons_succ]
  refine wpAnyH_done (by kernel_rfl) (NoPanic.normal ?_) _
  all_goals
    have vM7 : VarA w7 w3.heap.size 35 #[.int .i64 0, .int .i64 n1, .int .i64 n2, .int .i64 n3, .int .i64 ok4, .int .i64 op4, .int .i64 oq4, .bool od4, .slice a4 l4 c4, .int .i64 tp4, .int .i64 tq4, .bool td4, .slice a4y l4y c4y, .int .i64 ov4, .int .i64 0, .int .i64 0, .int .i64 0, .bool false, .int .i64 0, .slice none 0 0, .int .i64 0, .int .i64 0, .int .i64 0, .int .i64 0, .int .i64 0, .int .i64 0, .bool false, .slice none 0 0, .int .i64 0, .int .i64 0, .bool false, .int .i64 0, .int .i64 0, .int .i64 0, .bool false] := vM7_
    have hx6 := t7.size
    have vR7 := vR6.turn t7 (by omega)
    have B7 : Hid (Below w.heap.size w w7) := Turned.below B6.out t7 B6.out.size (fun i hi => by omega)
    have HC7 : Hid (CurV 69 (w.heap.size + 1) zs (.slice va zs.length vcap) q4 w7) := HC6.out.keep t7 (fun b hb => by omega)
    have HO7 : Hid (OwM w7 (fun b => w4.heap.size ≤ b ∧ b < w5.heap.size) _ (.slice a4 l4 c4) (.slice a4y l4y c4y) (.slice none 0 0) (.slice none 0 0)) := HO6.out.keep (t7.keeps (fun b hb hs => by omega))
    clear vM7_ t7 vM6 vR6 B6 HC6 HWI HCT vM vR4 HT4 HC4 k0_ HO6
    go_wp2_with fail
    refine Calls.mono (HEN.out _ _ HC7.out) ?_
    rintro e w8 ⟨rfl, b8⟩
    have vM8 := vM7.step b8
    have vR8 := vR7.step b8
    have B8 : Hid (Below w.heap.size w w8) := B7.out.trans (b8.mono B7.out.size)
    have hx7 := b8.size
    have HO8 : Hid (OwM w8 (fun b => w4.heap.size ≤ b ∧ b < w5.heap.size) _ (.slice a4 l4 c4) (.slice a4y l4y c4y) (.slice none 0 0) (.slice none 0 0)) := HO7.out.keep (Keeps.ofBelow b8)
    clear vM7 vR7 B7 HC7 b8 HEN HO7
    by_cases hqq : q4 = zs.length
    case neg =>
      have h_ := HRR.out
      rw [if_neg (fun h => hqq h.1)] at h_
      simp only [Prod.mk.injEq] at h_
      obtain ⟨rfl, rfl⟩ := h_
      have hdd : decide (q4 = (zs.length : Int)) = false := by simpa using hqq
      rw [hdd]
      have vR9 := vR8
      have B9 := B8
      dsimp only
      repeat (first | ((with_reducible refine guardStore (ty := 35) ?_); refine wpList_storeF vR9 rfl rfl (by kernel_rfl) rfl (of_decide_eq_true rfl) rfl ?_; intro w' vR_ t_) | go_values | go_skip | go_guarded | go_step | go_upon)
      refine bodyPost_ret (results_row_tmp Tryz.results9 _ _ _ _ _ _ rfl vR_ Tryz.underlying35 rfl (by kernel_rfl)) rfl ?_
      exact ⟨none, 0, 0, none, 0, 0, none, 0, 0, none, 0, 0, rfl, OwM.nil _ _, Turned.below B9.out t_ B9.out.size (fun i hi => by omega)⟩
    have hdd : decide (q4 = (zs.length : Int)) = true := by simpa using hqq
    rw [hdd]
    cases okB
    · have h_ := HRR.out
      rw [if_neg (fun h => by cases h.2)] at h_
      simp only [Prod.mk.injEq] at h_
      obtain ⟨rfl, rfl⟩ := h_
      dsimp only
      repeat (first | ((with_reducible refine guardLoadW (ty := 35) ?_); refine wpList_loadW rfl vM8 rfl Tryz.underlying35 rfl (by kernel_rfl) ?_) | go_values | go_skip | go_guarded | go_step | go_upon)
      refine Calls.mono (HOK.out _ _ _ _ _ _ HO8.out.rd) ?_
      rintro e w9 ⟨rfl, b9⟩
      have vR9 := vR8.step b9
      have B9 : Hid (Below w.heap.size w w9) := B8.out.trans (b9.mono B8.out.size)
      dsimp only
      repeat (first | ((with_reducible refine guardStore (ty := 35) ?_); refine wpList_storeF vR9 rfl rfl (by kernel_rfl) rfl (of_decide_eq_true rfl) rfl ?_; intro w' vR_ t_) | go_values | go_skip | go_guarded | go_step | go_upon)
      refine bodyPost_ret (results_row_tmp Tryz.results9 _ _ _ _ _ _ rfl vR_ Tryz.underlying35 rfl (by kernel_rfl)) rfl ?_
      exact ⟨none, 0, 0, none, 0, 0, none, 0, 0, none, 0, 0, rfl, OwM.nil _ _, Turned.below B9.out t_ B9.out.size (fun i hi => by omega)⟩
    · have h_ := HRR.out
      rw [if_pos ⟨hqq, rfl⟩] at h_
      simp only [Prod.mk.injEq] at h_
      obtain ⟨rfl, rfl⟩ := h_
      dsimp only
      repeat (first | ((with_reducible refine guardLoadW (ty := 35) ?_); refine wpList_loadW rfl vM8 rfl Tryz.underlying35 rfl (by kernel_rfl) ?_) | go_values | go_skip | go_guarded | go_step | go_upon)
      refine Calls.mono (HOK.out _ _ _ _ _ _ HO8.out.rd) ?_
      rintro e w9 ⟨rfl, b9⟩
      have vR9 := vR8.step b9
      have vM9 := vM8.step b9
      have B9 : Hid (Below w.heap.size w w9) := B8.out.trans (b9.mono B8.out.size)
      have HO9 : Hid (OwM w9 (fun b => w4.heap.size ≤ b ∧ b < w5.heap.size) _ (.slice a4 l4 c4) (.slice a4y l4y c4y) (.slice none 0 0) (.slice none 0 0)) := HO8.out.keep (Keeps.ofBelow b9)
      have hx8 := b9.size
      dsimp only
      repeat (first | ((with_reducible refine guardLoad (ty := 35) ?_); refine wpList_loadA vM9 rfl Tryz.underlying35 rfl (by kernel_rfl) ?_) | ((with_reducible refine guardStore (ty := 35) ?_); refine wpList_storeF vR9 rfl rfl (by kernel_rfl) rfl (of_decide_eq_true rfl) rfl ?_; intro w' vR_ t_) | go_values | go_skip | go_guarded | go_step | go_upon)
      refine bodyPost_ret (results_row_tmp Tryz.results9 _ _ _ _ _ _ rfl vR_ Tryz.underlying35 rfl (by kernel_rfl)) rfl ?_
      have hx9 := t_.size
      exact ⟨_, _, _, _, _, _, _, _, _, _, _, _, rfl, (HO9.out.keep (t_.keeps (fun b hb hs => by omega))).mono (fun b hb => ⟨by omega, by omega⟩), Turned.below B9.out t_ B9.out.size (fun i hi => by omega)⟩
set_option maxHeartbeats 16000000 in
theorem implMRead1 (v : Value) (zs : List Int) (S : Nat → Prop) (w : World) (r : RdV w S v (.bytes zs)) (hl : zs.length ≤ 2000000) (hk : (getNum zs 0).1 = 1) :
    Calls Tryz.prog 9 #[v] w fun e w' => ∃ a1 n1 c1 a2 n2 c2 a3 n3 c3 a4 n4 c4, e = .returned (.tuple #[msV (msRead zs).1 (.slice a1 n1 c1) (.slice a2 n2 c2) (.slice a3 n3 c3) (.slice a4 n4 c4), .bool (msRead zs).2]) ∧ OwM w' (fun b => w.heap.size ≤ b ∧ b < w'.heap.size) (msRead zs).1 (.slice a1 n1 c1) (.slice a2 n2 c2) (.slice a3 n3 c3) (.slice a4 n4 c4) ∧ Below w.heap.size w w' := by
  obtain ⟨va, vcap, rfl⟩ := r.sliceB
  obtain ⟨v, hv⟩ : ∃ v, v = Value.slice va zs.length vcap := ⟨_, rfl⟩
  rw [← hv] at r
  have HS : Hid (∀ o, CurV 69 (w.heap.size + 1) zs v 0 ((w.alloc o).alloc (.cells #[v, .int .i64 0] 69))) := fun o => CurV.start _ o r
  have HEN : Hid (∀ p W, CurV 69 (w.heap.size + 1) zs v p W → _) := fun p W hW => implEndC (w.heap.size + 1) zs v p W hW hl
  clear r
  obtain ⟨n0, q0, e0⟩ : ∃ x q, getNum zs 0 = (x, q) := ⟨_, _, rfl⟩
  have H0 : Hid (∀ W, CurV 69 (w.heap.size + 1) zs v 0 W → _) := fun W hW => by have h_ := implNumC (w.heap.size + 1) zs v 0 W hW hl; rw [e0] at h_; exact h_
  obtain ⟨n1, q1, e1⟩ : ∃ x q, getNum zs q0 = (x, q) := ⟨_, _, rfl⟩
  have H1 : Hid (∀ W, CurV 69 (w.heap.size + 1) zs v q0 W → _) := fun W hW => by have h_ := implNumC (w.heap.size + 1) zs v q0 W hW hl; rw [e1] at h_; exact h_
  obtain ⟨n2, q2, e2⟩ : ∃ x q, getNum zs q1 = (x, q) := ⟨_, _, rfl⟩
  have H2 : Hid (∀ W, CurV 69 (w.heap.size + 1) zs v q1 W → _) := fun W hW => by have h_ := implNumC (w.heap.size + 1) zs v q1 W hW hl; rw [e2] at h_; exact h_
  obtain ⟨n3, q3, e3⟩ : ∃ x q, getNum zs q2 = (x, q) := ⟨_, _, rfl⟩
  obtain ⟨⟨rc4, ⟨rp4, rq4, rd4⟩, rv4, es4⟩, q4, e4⟩ : ∃ x q, rdRp (rdEnP zs) zs q3 = (x, q) := ⟨_, _, rfl⟩
  rw [e0] at hk
  dsimp only at hk
  subst hk
  have hsz := szMd (rdEnP zs) (szP zs) zs
  have hR : rdMs (rdEnP zs) zs = (⟨1, n1, n2, n3, op0, ⟨rc4, (rp4, rq4, rd4), rv4, es4⟩, tx0, pt0, 0, hd0⟩, q4) := by simp [rdMs, e0, e1, e2, e3, e4]
  have hMR : msRead zs = if (rdMs (rdEnP zs) zs).2 = zs.length ∧ MOk (rdMs (rdEnP zs) zs).1 = true then ((rdMs (rdEnP zs) zs).1, true) else (ms0, false) := rfl
  rw [hR] at hMR hsz
  rw [hMR]
  dsimp only at hsz ⊢
  clear hR hMR
  have HCT : Hid (∀ W, CurV 69 (w.heap.size + 1) zs v q2 W → _) := fun W hW => contentC1 (w.heap.size + 1) zs v q2 n1 n2 W hW hl n3 rc4 rp4 rq4 rv4 rd4 es4 q3 q4 e3 e4
  have HOK : Hid (∀ x y z u S W, RdM W S ⟨1, n1, n2, n3, op0, ⟨rc4, (rp4, rq4, rd4), rv4, es4⟩, tx0, pt0, 0, hd0⟩ x y z u → _) := fun x y z u S W hW => implMsgOk_any x y z u _ S W hW (by omega)
  have HWI : Hid (∀ (b1 b2 b3 b4 : Option Addr) (u1 u2 u3 u4 d1 d2 d3 d4 : Nat) (W : World), _) := fun b1 b2 b3 b4 u1 u2 u3 u4 d1 d2 d3 d4 W => with1 ⟨1, n1, n2, n3, op0, ⟨rc4, (rp4, rq4, rd4), rv4, es4⟩, tx0, pt0, 0, hd0⟩ b1 b2 b3 b4 u1 u2 u3 u4 d1 d2 d3 d4 W
  obtain ⟨mR, bR, hRR⟩ : ∃ a b, (if q4 = zs.length ∧ MOk ⟨1, n1, n2, n3, op0, ⟨rc4, (rp4, rq4, rd4), rv4, es4⟩, tx0, pt0, 0, hd0⟩ = true then (⟨1, n1, n2, n3, op0, ⟨rc4, (rp4, rq4, rd4), rv4, es4⟩, tx0, pt0, 0, hd0⟩, true) else (ms0, false)) = (a, b) := ⟨_, _, rfl⟩
  rw [hRR]
  have HRR : Hid ((if q4 = zs.length ∧ MOk ⟨1, n1, n2, n3, op0, ⟨rc4, (rp4, rq4, rd4), rv4, es4⟩, tx0, pt0, 0, hd0⟩ = true then (⟨1, n1, n2, n3, op0, ⟨rc4, (rp4, rq4, rd4), rv4, es4⟩, tx0, pt0, 0, hd0⟩, true) else (ms0, false)) = (mR, bR)) := hRR
  clear hRR hsz
  generalize MOk ⟨1, n1, n2, n3, op0, ⟨rc4, (rp4, rq4, rd4), rv4, es4⟩, tx0, pt0, 0, hd0⟩ = okB at HOK HRR
  clear e0 e1 e2 e3 e4
  dsimp only
  subst hv
  simp only [op0, rp0, tx0, pt0, hd0] at HWI HOK HCT HRR
  try dsimp only at HWI
  go_enter Tryz.func9, Tryz.ntmps9
  go_wp2_with fail
  refine Calls.mono (H0.out _ (HS.out _)) ?_
  rintro e w1 ⟨rfl, hc_, t_⟩
  have hx0 := t_.size
  simp at hx0
  have HT : Hid (Below w.heap.size w w1) := Turned.below ((Below.new1 (w := w) _).trans ((Below.new1 (w := w.alloc _) _).mono (by simp))) t_ (by simp <;> omega) (fun i hi => by omega)
  have vR : VarA w1 w.heap.size 35 #[.int .i64 0, .int .i64 0, .int .i64 0, .int .i64 0, .int .i64 0, .int .i64 0, .int .i64 0, .bool false, .slice none 0 0, .int .i64 0, .int .i64 0, .bool false, .slice none 0 0, .int .i64 0, .int .i64 0, .int .i64 0, .int .i64 0, .bool false, .int .i64 0, .slice none 0 0, .int .i64 0, .int .i64 0, .int .i64 0, .int .i64 0, .int .i64 0, .int .i64 0, .bool false, .slice none 0 0, .int .i64 0, .int .i64 0, .bool false, .int .i64 0, .int .i64 0, .int .i64 0, .bool false] := VarA.turn ((VarA.new w _ _).alloc _) t_ (by omega)
  clear HS
  have HC1 : Hid (CurV 69 (w.heap.size + 1) zs (.slice va zs.length vcap) q0 w1) := hc_
  clear hc_ t_ H0
  go_wp2_with fail
  refine Calls.mono (H1.out _ HC1.out) ?_
  rintro e w2 ⟨rfl, hc_, t_⟩
  have HT_ : Hid (Below w.heap.size w w2) := Turned.below HT.out t_ HT.out.size (fun i hi => by omega)
  clear HT
  have HT := HT_
  clear HT_
  have vR_ := vR.turn t_ (by omega)
  clear vR
  have vR := vR_
  clear vR_
  have hx1 := t_.size
  have HC2 : Hid (CurV 69 (w.heap.size + 1) zs (.slice va zs.length vcap) q1 w2) := hc_
  clear hc_ t_ H1 HC1
  go_wp2_with fail
  refine Calls.mono (H2.out _ HC2.out) ?_
  rintro e w3 ⟨rfl, hc_, t_⟩
  have HT_ : Hid (Below w.heap.size w w3) := Turned.below HT.out t_ HT.out.size (fun i hi => by omega)
  clear HT
  have HT := HT_
  clear HT_
  have vR_ := vR.turn t_ (by omega)
  clear vR
  have vR := vR_
  clear vR_
  have hx2 := t_.size
  have HC3 : Hid (CurV 69 (w.heap.size + 1) zs (.slice va zs.length vcap) q2 w3) := hc_
  clear hc_ t_ H2 HC2
  dsimp only
  repeat (first | ((with_reducible refine guardStore (ty := 35) ?_); refine wpList_storeF (VarA.new w3 _ _) rfl rfl (by kernel_rfl) rfl (of_decide_eq_true rfl) rfl ?_; intro w4 vM_ t_) | go_values | go_skip | go_guarded | go_step | go_upon)
  have vM : VarA w4 w3.heap.size 35 #[.int .i64 1, .int .i64 n1, .int .i64 n2, .int .i64 0, .int .i64 0, .int .i64 0, .int .i64 0, .bool false, .slice none 0 0, .int .i64 0, .int .i64 0, .bool false, .slice none 0 0, .int .i64 0, .int .i64 0, .int .i64 0, .int .i64 0, .bool false, .int .i64 0, .slice none 0 0, .int .i64 0, .int .i64 0, .int .i64 0, .int .i64 0, .int .i64 0, .int .i64 0, .bool false, .slice none 0 0, .int .i64 0, .int .i64 0, .bool false, .int .i64 0, .int .i64 0, .int .i64 0, .bool false] := vM_
  have t1 : Turned (fun b => b = w3.heap.size) w3 w4 := (Turned.ofBelow (Below.new1 (w := w3) _)).trans t_
  have hx3 := t1.size
  have hlM := VarA.lt vM
  have HT4 : Hid (Below w.heap.size w w4) := Turned.below HT.out t1 HT.out.size (fun i hi => by omega)
  have vR4 := vR.turn t1 (by omega)
  have HC4 : Hid (CurV 69 (w.heap.size + 1) zs (.slice va zs.length vcap) q2 w4) := HC3.out.keep t1 (fun b hb => by omega)
  clear vM_ t_ t1 HT vR HC3
  have k0_ := vM.c 0 rfl
  try simp only [Act.put]
  refine wp_region_noPanic ?_
  refine wp_region_held_drew (S := fun _ => True) (by kernel_rfl) trivial (fun hHeld => ?_)
  clear hHeld
  refine wpAnyH_take (i := 1) (v := ?_) rfl (by kernel_rfl) (by kernel_rfl) (by kernel_rfl) (fun _ _ _ h => h) (Or.inl ⟨by rfl, ?_⟩) trivial ?_
  rotate_left
  · (intro w_ hSw_; (try dsimp only at hSw_); go_simp; try with_reducible rfl)
  try simp only [Act.put, List.setIfInBounds_toArray, List.set_cons_zero, List.set_cons_succ, List.getElem_toArray, List.getElem_cons_zero, List.getElem_cons_succ]
  refine wpAnyH_take (i := 2) (v := ?_) rfl (by kernel_rfl) (by kernel_rfl) (by kernel_rfl) (fun _ _ _ h => h) (Or.inl ⟨by rfl, ?_⟩) trivial ?_
  rotate_left
  · (intro w_ hSw_; (try dsimp only at hSw_); go_simp; try with_reducible rfl)
  try simp only [Act.put, List.setIfInBounds_toArray, List.set_cons_zero, List.set_cons_succ, List.getElem_toArray, List.getElem_cons_zero, List.getElem_cons_succ]
  refine wpAnyH_ready (rs := [0, 3]) (by kernel_rfl) (by simp) ?_
  refine AllReadyH.cons rfl (fun K hK => ?_) ?_
  focus
    refine step_loadA (VarA.dr vM) rfl Tryz.underlying35 rfl (by kernel_rfl) ?_
    refine hK.out _ _ trivial (fun hHeld => ?_)
    clear hK K hHeld
    try simp only [Act.put, List.setIfInBounds_toArray, List.set_cons_zero, List.set_cons_succ, List.getElem_toArray, List.getElem_cons_zero, List.getElem_cons_succ]
    refine wpAnyH_ready (rs := [3]) (by kernel_rfl) (by simp) ?_
    refine AllReadyH.cons rfl (fun K hK => ?_) AllReadyH.nil
    go_simp
    refine hK.out _ _ trivial (fun hHeld => ?_)
    clear hK K hHeld
    try simp only [Act.put, List.setIfInBounds_toArray, List.set_cons_zero, List.set_cons_succ, List.getElem_toArray, List.getElem_cons_zero, List.getElem_cons_succ]
    refine wpAnyH_ready (rs := [4]) (by kernel_rfl) (by simp) ?_
    refine AllReadyH.cons rfl (fun K hK => ?_) AllReadyH.nil
    go_simp
    refine Calls.mono (HCT.out _ HC4.out.dr) ?_
    rintro e w5 ⟨a4, l4, c4, rfl, o5, hc5, t5⟩
    have t5' : Turned (fun b => b = w.heap.size + 1) w4 w5 := (Turned.drew1 _ _).trans t5
    have hx4 := t5'.size
    have vM5 := vM.turn t5' (by omega)
    have vR5 := vR4.turn t5' (by omega)
    have B5 : Hid (Below w.heap.size w w5) := Turned.below HT4.out t5' HT4.out.size (fun i hi => by omega)
    have HO5 : Hid (OwM w5 (fun b => w4.heap.size ≤ b ∧ b < w5.heap.size) _ (.slice none 0 0) (.slice none 0 0) (.slice a4 l4 c4) (.slice none 0 0)) := o5
    have HC5 : Hid (CurV 69 (w.heap.size + 1) zs (.slice va zs.length vcap) q4 w5) := hc5
    clear o5 hc5 t5 t5'
    refine hK.out _ _ trivial (fun hHeld => ?_)
    clear hK K hHeld
    try simp only [Act.put, List.setIfInBounds_toArray, List.set_cons_zero, List.set_cons_succ, List.getElem_toArray, List.getElem_cons_zero, List.getElem_cons_succ]
    refine wpAnyH_ready (rs := [5]) (by kernel_rfl) (by simp) ?_
    refine AllReadyH.cons rfl (fun K hK => ?_) AllReadyH.nil
    go_simp
    refine Calls.mono (HWI.out none none a4 none 0 0 l4 0 0 0 c4 0 _) ?_
    rintro e w6 ⟨rfl, b6⟩
    have vM6 := vM5.step b6
    have vR6 := vR5.step b6
    have B6 : Hid (Below w.heap.size w w6) := B5.out.trans (b6.mono B5.out.size)
    have HO6 : Hid (OwM w6 (fun b => w4.heap.size ≤ b ∧ b < w5.heap.size) _ (.slice none 0 0) (.slice none 0 0) (.slice a4 l4 c4) (.slice none 0 0)) := HO5.out.keep (Keeps.ofBelow b6)
    have HC6 : Hid (CurV 69 (w.heap.size + 1) zs (.slice va zs.length vcap) q4 w6) := HC5.out.step b6
    have hx5 := b6.size
    clear b6 vM5 vR5 B5 HO5 HC5
    refine hK.out _ _ trivial (fun hHeld => ?_)
    clear hK K hHeld
    try simp only [Act.put, List.setIfInBounds_toArray, List.set_cons_zero, List.set_cons_succ, List.getElem_toArray, List.getElem_cons_zero, List.getElem_cons_succ]
    refine wpAnyH_ready (rs := [6]) (by kernel_rfl) (by simp) ?_
    refine AllReadyH.cons rfl (fun K hK => ?_) AllReadyH.nil
    refine step_storeF vM6 rfl rfl (by kernel_rfl) rfl (of_decide_eq_true rfl) rfl ?_
    intro w7 vM7_ t7
    refine hK.out _ _ trivial (fun hHeld => ?_)
    clear hK K hHeld
    try simp only [Act.put, List.setIfInBounds_toArray, List.set_cons_zero, List.set_cons_succ, List.getElem_toArray, List.getElem_cons_zero, List.getElem_cons_succ]
    refine wpAnyH_done (by kernel_rfl) (NoPanic.normal ?_) _
  rotate_left
  refine AllReadyH.cons rfl (fun K hK => ?_) AllReadyH.nil
  go_simp
  refine hK.out _ _ trivial (fun hHeld => ?_)
  clear hK K hHeld
  try simp only [Act.put, List.setIfInBounds_toArray, List.set_cons_zero, List.set_cons_succ, List.getElem_toArray, List.getElem_cons_zero, List.getElem_cons_succ]
  refine wpAnyH_ready (rs := [0, 4]) (by kernel_rfl) (by simp) ?_
  refine AllReadyH.cons rfl (fun K hK => ?_) ?_
  focus
    refine step_loadA (VarA.dr vM) rfl Tryz.underlying35 rfl (by kernel_rfl) ?_
    refine hK.out _ _ trivial (fun hHeld => ?_)
    clear hK K hHeld
    try simp only [Act.put, List.setIfInBounds_toArray, List.set_cons_zero, List.set_cons_succ, List.getElem_toArray, List.getElem_cons_zero, List.getElem_cons_succ]
    refine wpAnyH_ready (rs := [4]) (by kernel_rfl) (by simp) ?_
    refine AllReadyH.cons rfl (fun K hK => ?_) AllReadyH.nil
    go_simp
    refine Calls.mono (HCT.out _ HC4.out.dr) ?_
    rintro e w5 ⟨a4, l4, c4, rfl, o5, hc5, t5⟩
    have t5' : Turned (fun b => b = w.heap.size + 1) w4 w5 := (Turned.drew1 _ _).trans t5
    have hx4 := t5'.size
    have vM5 := vM.turn t5' (by omega)
    have vR5 := vR4.turn t5' (by omega)
    have B5 : Hid (Below w.heap.size w w5) := Turned.below HT4.out t5' HT4.out.size (fun i hi => by omega)
    have HO5 : Hid (OwM w5 (fun b => w4.heap.size ≤ b ∧ b < w5.heap.size) _ (.slice none 0 0) (.slice none 0 0) (.slice a4 l4 c4) (.slice none 0 0)) := o5
    have HC5 : Hid (CurV 69 (w.heap.size + 1) zs (.slice va zs.length vcap) q4 w5) := hc5
    clear o5 hc5 t5 t5'
    refine hK.out _ _ trivial (fun hHeld => ?_)
    clear hK K hHeld
    try simp only [Act.put, List.setIfInBounds_toArray, List.set_cons_zero, List.set_cons_succ, List.getElem_toArray, List.getElem_cons_zero, List.getElem_cons_succ]
    refine wpAnyH_ready (rs := [5]) (by kernel_rfl) (by simp) ?_
    refine AllReadyH.cons rfl (fun K hK => ?_) AllReadyH.nil
    go_simp
    refine Calls.mono (HWI.out none none a4 none 0 0 l4 0 0 0 c4 0 _) ?_
    rintro e w6 ⟨rfl, b6⟩
    have vM6 := vM5.step b6
    have vR6 := vR5.step b6
    have B6 : Hid (Below w.heap.size w w6) := B5.out.trans (b6.mono B5.out.size)
    have HO6 : Hid (OwM w6 (fun b => w4.heap.size ≤ b ∧ b < w5.heap.size) _ (.slice none 0 0) (.slice none 0 0) (.slice a4 l4 c4) (.slice none 0 0)) := HO5.out.keep (Keeps.ofBelow b6)
    have HC6 : Hid (CurV 69 (w.heap.size + 1) zs (.slice va zs.length vcap) q4 w6) := HC5.out.step b6
    have hx5 := b6.size
    clear b6 vM5 vR5 B5 HO5 HC5
    refine hK.out _ _ trivial (fun hHeld => ?_)
    clear hK K hHeld
    try simp only [Act.put, List.setIfInBounds_toArray, List.set_cons_zero, List.set_cons_succ, List.getElem_toArray, List.getElem_cons_zero, List.getElem_cons_succ]
    refine wpAnyH_ready (rs := [6]) (by kernel_rfl) (by simp) ?_
    refine AllReadyH.cons rfl (fun K hK => ?_) AllReadyH.nil
    refine step_storeF vM6 rfl rfl (by kernel_rfl) rfl (of_decide_eq_true rfl) rfl ?_
    intro w7 vM7_ t7
    refine hK.out _ _ trivial (fun hHeld => ?_)
    clear hK K hHeld
    try simp only [Act.put, List.setIfInBounds_toArray, List.set_cons_zero, List.set_cons_succ, List.getElem_toArray, List.getElem_cons_zero, List.getElem_cons_succ]
    refine wpAnyH_done (by kernel_rfl) (NoPanic.normal ?_) _
  rotate_left
  refine AllReadyH.cons rfl (fun K hK => ?_) AllReadyH.nil
  go_simp
  refine Calls.mono (HCT.out _ HC4.out.dr) ?_
  rintro e w5 ⟨a4, l4, c4, rfl, o5, hc5, t5⟩
  have t5' : Turned (fun b => b = w.heap.size + 1) w4 w5 := (Turned.drew1 _ _).trans t5
  have hx4 := t5'.size
  have vM5 := vM.turn t5' (by omega)
  have vR5 := vR4.turn t5' (by omega)
  have B5 : Hid (Below w.heap.size w w5) := Turned.below HT4.out t5' HT4.out.size (fun i hi => by omega)
  have HO5 : Hid (OwM w5 (fun b => w4.heap.size ≤ b ∧ b < w5.heap.size) _ (.slice none 0 0) (.slice none 0 0) (.slice a4 l4 c4) (.slice none 0 0)) := o5
  have HC5 : Hid (CurV 69 (w.heap.size + 1) zs (.slice va zs.length vcap) q4 w5) := hc5
  clear o5 hc5 t5 t5'
  refine hK.out _ _ trivial (fun hHeld => ?_)
  clear hK K hHeld
  try simp only [Act.put, List.setIfInBounds_toArray, List.set_cons_zero, List.set_cons_succ, List.getElem_toArray, List.getElem_cons_zero, List.getElem_cons_succ]
  refine wpAnyH_ready (rs := [0]) (by kernel_rfl) (by simp) ?_
  refine AllReadyH.cons rfl (fun K hK => ?_) AllReadyH.nil
  refine step_loadA vM5 rfl Tryz.underlying35 rfl (by kernel_rfl) ?_
  refine hK.out _ _ trivial (fun hHeld => ?_)
  clear hK K hHeld
  try simp only [Act.put, List.setIfInBounds_toArray, List.set_cons_zero, List.set_cons_succ, List.getElem_toArray, List.getElem_cons_zero, List.getElem_cons_succ]
  refine wpAnyH_ready (rs := [5]) (by kernel_rfl) (by simp) ?_
  refine AllReadyH.cons rfl (fun K hK => ?_) AllReadyH.nil
  go_simp
  refine Calls.mono (HWI.out none none a4 none 0 0 l4 0 0 0 c4 0 _) ?_
  rintro e w6 ⟨rfl, b6⟩
  have vM6 := vM5.step b6
  have vR6 := vR5.step b6
  have B6 : Hid (Below w.heap.size w w6) := B5.out.trans (b6.mono B5.out.size)
  have HO6 : Hid (OwM w6 (fun b => w4.heap.size ≤ b ∧ b < w5.heap.size) _ (.slice none 0 0) (.slice none 0 0) (.slice a4 l4 c4) (.slice none 0 0)) := HO5.out.keep (Keeps.ofBelow b6)
  have HC6 : Hid (CurV 69 (w.heap.size + 1) zs (.slice va zs.length vcap) q4 w6) := HC5.out.step b6
  have hx5 := b6.size
  clear b6 vM5 vR5 B5 HO5 HC5
  refine hK.out _ _ trivial (fun hHeld => ?_)
  clear hK K hHeld
  try simp only [Act.put, List.setIfInBounds_toArray, List.set_cons_zero, List.set_cons_succ, List.getElem_toArray, List.getElem_cons_zero, List.getElem_cons_succ]
  refine wpAnyH_ready (rs := [6]) (by kernel_rfl) (by simp) ?_
  refine AllReadyH.cons rfl (fun K hK => ?_) AllReadyH.nil
  refine step_storeF vM6 rfl rfl (by kernel_rfl) rfl (of_decide_eq_true rfl) rfl ?_
  intro w7 vM7_ t7
  refine hK.out _ _ trivial (fun hHeld => ?_)
  clear hK K hHeld
  try simp only [Act.put, List.setIfInBounds_toArray, List.set_cons_zero, List.set_cons_succ, List.getElem_toArray, List.getElem_cons_zero, List.getElem_cons_succ]
  refine wpAnyH_done (by kernel_rfl) (NoPanic.normal ?_) _
  all_goals
    have vM7 : VarA w7 w3.heap.size 35 #[.int .i64 1, .int .i64 n1, .int .i64 n2, .int .i64 n3, .int .i64 0, .int .i64 0, .int .i64 0, .bool false, .slice none 0 0, .int .i64 0, .int .i64 0, .bool false, .slice none 0 0, .int .i64 0, .int .i64 rc4, .int .i64 rp4, .int .i64 rq4, .bool rd4, .int .i64 rv4, .slice a4 l4 c4, .int .i64 0, .int .i64 0, .int .i64 0, .int .i64 0, .int .i64 0, .int .i64 0, .bool false, .slice none 0 0, .int .i64 0, .int .i64 0, .bool false, .int .i64 0, .int .i64 0, .int .i64 0, .bool false] := vM7_
    have hx6 := t7.size
    have vR7 := vR6.turn t7 (by omega)
    have B7 : Hid (Below w.heap.size w w7) := Turned.below B6.out t7 B6.out.size (fun i hi => by omega)
    have HC7 : Hid (CurV 69 (w.heap.size + 1) zs (.slice va zs.length vcap) q4 w7) := HC6.out.keep t7 (fun b hb => by omega)
    have HO7 : Hid (OwM w7 (fun b => w4.heap.size ≤ b ∧ b < w5.heap.size) _ (.slice none 0 0) (.slice none 0 0) (.slice a4 l4 c4) (.slice none 0 0)) := HO6.out.keep (t7.keeps (fun b hb hs => by omega))
    clear vM7_ t7 vM6 vR6 B6 HC6 HWI HCT vM vR4 HT4 HC4 k0_ HO6
    go_wp2_with fail
    refine Calls.mono (HEN.out _ _ HC7.out) ?_
    rintro e w8 ⟨rfl, b8⟩
    have vM8 := vM7.step b8
    have vR8 := vR7.step b8
    have B8 : Hid (Below w.heap.size w w8) := B7.out.trans (b8.mono B7.out.size)
    have hx7 := b8.size
    have HO8 : Hid (OwM w8 (fun b => w4.heap.size ≤ b ∧ b < w5.heap.size) _ (.slice none 0 0) (.slice none 0 0) (.slice a4 l4 c4) (.slice none 0 0)) := HO7.out.keep (Keeps.ofBelow b8)
    clear vM7 vR7 B7 HC7 b8 HEN HO7
    by_cases hqq : q4 = zs.length
    case neg =>
      have h_ := HRR.out
      rw [if_neg (fun h => hqq h.1)] at h_
      simp only [Prod.mk.injEq] at h_
      obtain ⟨rfl, rfl⟩ := h_
      have hdd : decide (q4 = (zs.length : Int)) = false := by simpa using hqq
      rw [hdd]
      have vR9 := vR8
      have B9 := B8
      dsimp only
      repeat (first | ((with_reducible refine guardStore (ty := 35) ?_); refine wpList_storeF vR9 rfl rfl (by kernel_rfl) rfl (of_decide_eq_true rfl) rfl ?_; intro w' vR_ t_) | go_values | go_skip | go_guarded | go_step | go_upon)
      refine bodyPost_ret (results_row_tmp Tryz.results9 _ _ _ _ _ _ rfl vR_ Tryz.underlying35 rfl (by kernel_rfl)) rfl ?_
      exact ⟨none, 0, 0, none, 0, 0, none, 0, 0, none, 0, 0, rfl, OwM.nil _ _, Turned.below B9.out t_ B9.out.size (fun i hi => by omega)⟩
    have hdd : decide (q4 = (zs.length : Int)) = true := by simpa using hqq
    rw [hdd]
    cases okB
    · have h_ := HRR.out
      rw [if_neg (fun h => by cases h.2)] at h_
      simp only [Prod.mk.injEq] at h_
      obtain ⟨rfl, rfl⟩ := h_
      dsimp only
      repeat (first | ((with_reducible refine guardLoadW (ty := 35) ?_); refine wpList_loadW rfl vM8 rfl Tryz.underlying35 rfl (by kernel_rfl) ?_) | go_values | go_skip | go_guarded | go_step | go_upon)
      refine Calls.mono (HOK.out _ _ _ _ _ _ HO8.out.rd) ?_
      rintro e w9 ⟨rfl, b9⟩
      have vR9 := vR8.step b9
      have B9 : Hid (Below w.heap.size w w9) := B8.out.trans (b9.mono B8.out.size)
      dsimp only
      repeat (first | ((with_reducible refine guardStore (ty := 35) ?_); refine wpList_storeF vR9 rfl rfl (by kernel_rfl) rfl (of_decide_eq_true rfl) rfl ?_; intro w' vR_ t_) | go_values | go_skip | go_guarded | go_step | go_upon)
      refine bodyPost_ret (results_row_tmp Tryz.results9 _ _ _ _ _ _ rfl vR_ Tryz.underlying35 rfl (by kernel_rfl)) rfl ?_
      exact ⟨none, 0, 0, none, 0, 0, none, 0, 0, none, 0, 0, rfl, OwM.nil _ _, Turned.below B9.out t_ B9.out.size (fun i hi => by omega)⟩
    · have h_ := HRR.out
      rw [if_pos ⟨hqq, rfl⟩] at h_
      simp only [Prod.mk.injEq] at h_
      obtain ⟨rfl, rfl⟩ := h_
      dsimp only
      repeat (first | ((with_reducible refine guardLoadW (ty := 35) ?_); refine wpList_loadW rfl vM8 rfl Tryz.underlying35 rfl (by kernel_rfl) ?_) | go_values | go_skip | go_guarded | go_step | go_upon)
      refine Calls.mono (HOK.out _ _ _ _ _ _ HO8.out.rd) ?_
      rintro e w9 ⟨rfl, b9⟩
      have vR9 := vR8.step b9
      have vM9 := vM8.step b9
      have B9 : Hid (Below w.heap.size w w9) := B8.out.trans (b9.mono B8.out.size)
      have HO9 : Hid (OwM w9 (fun b => w4.heap.size ≤ b ∧ b < w5.heap.size) _ (.slice none 0 0) (.slice none 0 0) (.slice a4 l4 c4) (.slice none 0 0)) := HO8.out.keep (Keeps.ofBelow b9)
      have hx8 := b9.size
      dsimp only
      repeat (first | ((with_reducible refine guardLoad (ty := 35) ?_); refine wpList_loadA vM9 rfl Tryz.underlying35 rfl (by kernel_rfl) ?_) | ((with_reducible refine guardStore (ty := 35) ?_); refine wpList_storeF vR9 rfl rfl (by kernel_rfl) rfl (of_decide_eq_true rfl) rfl ?_; intro w' vR_ t_) | go_values | go_skip | go_guarded | go_step | go_upon)
      refine bodyPost_ret (results_row_tmp Tryz.results9 _ _ _ _ _ _ rfl vR_ Tryz.underlying35 rfl (by kernel_rfl)) rfl ?_
      have hx9 := t_.size
      exact ⟨_, _, _, _, _, _, _, _, _, _, _, _, rfl, (HO9.out.keep (t_.keeps (fun b hb hs => by omega))).mono (fun b hb => ⟨by omega, by omega⟩), Turned.below B9.out t_ B9.out.size (fun i hi => by omega)⟩
end Go.Proofs.YtbnjhjgjmckedaaGreat
end
