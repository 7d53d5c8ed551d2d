/- The program's MsgRead, once for all kinds. Condition: at most 2,000,000 bytes. -/
import Derived.Test.YtklhikadhohjbaaGreatMA01
import Derived.Test.YtklhikadhohjbaaGreatMA06
import Derived.Test.YtklhikadhohjbaaGreatMA07
import Derived.Test.YtklhikadhohjbaaGreatMA08
namespace Go.Proofs.YtklhikadhohjbaaGreat
open Go.RowKit
set_option linter.unusedVariables false
set_option linter.unusedSimpArgs false
set_option maxRecDepth 100000

abbrev MRd (zs : List Int) (w : World) : Ending → World → Prop := fun e w' => ∃ a1 n1 c1 a2 n2 c2 a3 n3 c3 a4 n4 c4, e = .returned (.tuple #[msV (msRead zs).1 (.slice a1 n1 c1) (.slice a2 n2 c2) (.slice a3 n3 c3) (.slice a4 n4 c4), .bool (msRead zs).2]) ∧ OwM w' (fun b => w.heap.size ≤ b ∧ b < w'.heap.size) (msRead zs).1 (.slice a1 n1 c1) (.slice a2 n2 c2) (.slice a3 n3 c3) (.slice a4 n4 c4) ∧ Below w.heap.size w w'
abbrev Z35 : Array Value := #[.i 0, .i 0, .i 0, .i 0, .i 0, .i 0, .i 0, .bool false, .slice none 0 0, .i 0, .i 0, .bool false, .slice none 0 0, .i 0, .i 0, .i 0, .i 0, .bool false, .i 0, .slice none 0 0, .i 0, .i 0, .i 0, .i 0, .i 0, .i 0, .bool false, .slice none 0 0, .i 0, .i 0, .bool false, .i 0, .i 0, .i 0, .bool false]
set_option maxHeartbeats 16000000 in
theorem implMReadG (v : Value) (zs : List Int) (S : Nat → Prop) (w : World) (r : RdV w S v (.bytes zs)) (hl : zs.length ≤ 2000000) (k n1 n2 q0 q1 q2 q5 : Int) (M : MsD) (e0 : getNum zs 0 = (k, q0)) (e1 : getNum zs q0 = (n1, q1)) (e2 : getNum zs q1 = (n2, q2)) (hR : rdMs (rdEnP zs) zs = (M, q5))
  (HC : ∀ W, CurV 108 (w.heap.size + 1) zs v q2 W → Calls Tryz.prog 69 #[.pointer (some ⟨w.heap.size + 1, 0, none⟩), .i k] W fun e w' => ∃ cv a1 u1 d1 a2 u2 d2 a3 u3 d3 a4 u4 d4, e = .returned cv ∧ OwM w' (fun b => W.heap.size ≤ b ∧ b < w'.heap.size) M (.slice a1 u1 d1) (.slice a2 u2 d2) (.slice a3 u3 d3) (.slice a4 u4 d4) ∧ Gone 108 (w.heap.size + 1) zs v q5 W w' ∧
   ∀ W', Calls Tryz.prog 67 #[msV ⟨k, n1, n2, 0, op0, rp0, tx0, pt0, 0, hd0⟩ (.slice none 0 0) (.slice none 0 0) (.slice none 0 0) (.slice none 0 0), cv] W' fun e w'' => e = .returned (msV M (.slice a1 u1 d1) (.slice a2 u2 d2) (.slice a3 u3 d3) (.slice a4 u4 d4)) ∧ Below W'.heap.size W' w'') :
  Calls Tryz.prog 13 #[v] w (MRd zs w) := by
 obtain ⟨va, vcap, rfl⟩ := r.sliceB
 obtain ⟨v, hv⟩ : ∃ v, v = Value.slice va zs.length vcap := ⟨_, rfl⟩
 rw [← hv] at r HC
 have HS : Hid (∀ o, CurV 108 (w.heap.size + 1) zs v 0 ((w.alloc o).alloc (.cells #[v, .i 0] 108))) := fun o => CurV.start _ o r
 have HEN : Hid (∀ p W, CurV 108 (w.heap.size + 1) zs v p W → _) := fun p W hW => implEndC (w.heap.size + 1) zs v p W hW hl
 clear r
 have H0 : Hid (∀ W, CurV 108 (w.heap.size + 1) zs v 0 W → _) := fun W hW => by have h_ := implNumC (w.heap.size + 1) zs v 0 W hW hl; rw [e0] at h_; exact h_
 have H1 : Hid (∀ W, CurV 108 (w.heap.size + 1) zs v q0 W → _) := fun W hW => by have h_ := implNumC (w.heap.size + 1) zs v q0 W hW hl; rw [e1] at h_; exact h_
 have H2 : Hid (∀ W, CurV 108 (w.heap.size + 1) zs v q1 W → _) := fun W hW => by have h_ := implNumC (w.heap.size + 1) zs v q1 W hW hl; rw [e2] at h_; exact h_
 have hsz := szMd (rdEnP zs) (szP zs) zs
 have hMR : msRead zs = if (rdMs (rdEnP zs) zs).2 = zs.length ∧ MOk (rdMs (rdEnP zs) zs).1 = true then ((rdMs (rdEnP zs) zs).1, true) else (ms0, false) := rfl
 rw [hR] at hMR hsz
 unfold MRd
 rw [hMR]
 dsimp only at hsz ⊢
 clear hR hMR
 have HCT : Hid _ := HC
 have HOK : Hid (∀ x y z u S W, RdM W S M x y z u → _) := fun x y z u S W hW => implMsgOk_any x y z u _ S W hW (by omega)
 obtain ⟨mR, bR, hRR⟩ : ∃ a b, (if q5 = zs.length ∧ MOk M = true then (M, true) else (ms0, false)) = (a, b) := ⟨_, _, rfl⟩
 rw [hRR]
 have HRR : Hid ((if q5 = zs.length ∧ MOk M = true then (M, true) else (ms0, false)) = (mR, bR)) := hRR
 clear hRR hsz HC
 generalize MOk M = okB at HOK HRR
 clear e0 e1 e2
 dsimp only
 subst hv
 simp only [op0, rp0, tx0, pt0, hd0] at HCT
 go_enter Tryz.func13, Tryz.ntmps13
 go_wp2_with fail
 refine Calls.mono (H0.out _ (HS.out _)) ?_
 rintro e w1 ⟨rfl, hc_, t_⟩
 have hx0 := t_.size
 simp at hx0
 have HT : Hid (Below w.heap.size w w1) := Turned.below ((Below.new1 (w := w) _).trans ((Below.new1 (w := w.alloc _) _).mono (by simp))) t_ (by simp <;> omega) (fun i hi => by omega)
 have vR : VarA w1 w.heap.size 35 Z35 := VarA.turn ((VarA.new w _ _).alloc _) t_ (by omega)
 clear HS
 have HC1 : Hid (CurV 108 (w.heap.size + 1) zs (.slice va zs.length vcap) q0 w1) := hc_
 clear hc_ t_ H0
 go_wp2_with fail
 refine Calls.mono (H1.out _ HC1.out) ?_
 rintro e w2 ⟨rfl, hc_, t_⟩
 have HT_ : Hid (Below w.heap.size w w2) := Turned.below HT.out t_ HT.out.size (fun i hi => by omega)
 clear HT
 have HT := HT_
 clear HT_
 have vR_ := vR.turn t_ (by omega)
 clear vR
 have vR := vR_
 clear vR_
 have hx1 := t_.size
 have HC2 : Hid (CurV 108 (w.heap.size + 1) zs (.slice va zs.length vcap) q1 w2) := hc_
 clear hc_ t_ H1 HC1
 go_wp2_with fail
 refine Calls.mono (H2.out _ HC2.out) ?_
 rintro e w3 ⟨rfl, hc_, t_⟩
 have HT_ : Hid (Below w.heap.size w w3) := Turned.below HT.out t_ HT.out.size (fun i hi => by omega)
 clear HT
 have HT := HT_
 clear HT_
 have vR_ := vR.turn t_ (by omega)
 clear vR
 have vR := vR_
 clear vR_
 have hx2 := t_.size
 have HC3 : Hid (CurV 108 (w.heap.size + 1) zs (.slice va zs.length vcap) q2 w3) := hc_
 clear hc_ t_ H2 HC2
 dsimp only
 repeat (first | ((with_reducible refine gS 35 ?_); refine sF (VarA.new w3 _ _) rfl rfl (by kernel_rfl) rfl rfl ?_; intro w4 vM_ t_) | go_values | go_skip | go_guarded | go_step | go_upon)
 have vM := vM_
 have t1 : Turned (fun b => b = w3.heap.size) w3 w4 := (Turned.ofBelow (Below.new1 (w := w3) _)).trans t_
 have hx3 := t1.size
 have hlM := VarA.lt vM
 have HT4 : Hid (Below w.heap.size w w4) := Turned.below HT.out t1 HT.out.size (fun i hi => by omega)
 have vR4 := vR.turn t1 (by omega)
 have HC4 : Hid (CurV 108 (w.heap.size + 1) zs (.slice va zs.length vcap) q2 w4) := HC3.out.keep t1 (fun b hb => by omega)
 clear vM_ t_ t1 HT vR HC3
 have k0_ := vM.c 0 rfl
 try simp only [Act.put]
 refine wp_region_noPanic ?_
 refine wp_region_held_drew (S := fun _ => True) (by kernel_rfl) trivial (fun hHeld => ?_)
 clear hHeld
 refine tkh 1 ?_ rfl (by kernel_rfl) rfl trivial ?_ ?_
 rotate_left
 ·(intro _ h; (try dsimp only at h); go_simp; try with_reducible rfl)
 try simp only [Act.put, qz1, qz2, qz3, qz4, qz5, qz6]
 refine tkh 2 ?_ rfl (by kernel_rfl) rfl trivial ?_ ?_
 rotate_left
 ·(intro _ h; (try dsimp only at h); go_simp; try with_reducible rfl)
 try simp only [Act.put, qz1, qz2, qz3, qz4, qz5, qz6]
 refine wpAnyH_ready (rs := [0, 3]) (by kernel_rfl) (by simp) ?_
 refine AllReadyH.cons rfl (fun K hK => ?_) ?_
 focus
  refine step_loadA (VarA.dr vM) rfl Tryz.underlying35 rfl (by kernel_rfl) ?_
  refine hK.out _ _ trivial (fun hHeld => ?_)
  clear hK K hHeld
  try simp only [Act.put, qz1, qz2, qz3, qz4, qz5, qz6]
  refine doH 3 (by kernel_rfl) rfl fun K hK => ?_
  go_simp
  refine hK.out _ _ trivial (fun hHeld => ?_)
  clear hK K hHeld
  try simp only [Act.put, qz1, qz2, qz3, qz4, qz5, qz6]
  refine doH 4 (by kernel_rfl) rfl fun K hK => ?_
  go_simp
  refine Calls.mono (HCT.out _ HC4.out.dr) ?_
  rintro e w5 ⟨cv, a1, u1, d1, a2, u2, d2, a3, u3, d3, a4, u4, d4, rfl, o5, ⟨hc5, t5⟩, hwi⟩
  have HWI : Hid _ := hwi
  clear hwi
  have t5' : Turned (fun b => b = w.heap.size + 1) w4 w5 := (Turned.drew1 _ _).trans t5
  have hx4 := t5'.size
  have vM5 := vM.turn t5' (by omega)
  have vR5 := vR4.turn t5' (by omega)
  have B5 : Hid (Below w.heap.size w w5) := Turned.below HT4.out t5' HT4.out.size (fun i hi => by omega)
  have HO5 : Hid (OwM w5 (fun b => w4.heap.size ≤ b ∧ b < w5.heap.size) M (.slice a1 u1 d1) (.slice a2 u2 d2) (.slice a3 u3 d3) (.slice a4 u4 d4)) := o5
  have HC5 : Hid (CurV 108 (w.heap.size + 1) zs (.slice va zs.length vcap) q5 w5) := hc5
  clear o5 hc5 t5 t5'
  refine hK.out _ _ trivial (fun hHeld => ?_)
  clear hK K hHeld
  try simp only [Act.put, qz1, qz2, qz3, qz4, qz5, qz6]
  refine doH 5 (by kernel_rfl) rfl fun K hK => ?_
  go_simp
  refine Calls.mono (HWI.out _) ?_
  rintro e w6 ⟨rfl, b6⟩
  have vM6 := vM5.step b6
  have vR6 := vR5.step b6
  have B6 : Hid (Below w.heap.size w w6) := B5.out.trans (b6.mono B5.out.size)
  have HO6 : Hid (OwM w6 (fun b => w4.heap.size ≤ b ∧ b < w5.heap.size) M (.slice a1 u1 d1) (.slice a2 u2 d2) (.slice a3 u3 d3) (.slice a4 u4 d4)) := HO5.out.keep (Keeps.ofBelow b6)
  have HC6 : Hid (CurV 108 (w.heap.size + 1) zs (.slice va zs.length vcap) q5 w6) := HC5.out.step b6
  have hx5 := b6.size
  clear b6 vM5 vR5 B5 HO5 HC5
  refine hK.out _ _ trivial (fun hHeld => ?_)
  clear hK K hHeld
  try simp only [Act.put, qz1, qz2, qz3, qz4, qz5, qz6]
  refine doH 6 (by kernel_rfl) rfl fun K hK => ?_
  refine step_storeF vM6 rfl rfl (by kernel_rfl) rfl (of_decide_eq_true rfl) rfl ?_
  intro w7 vM7_ t7
  refine hK.out _ _ trivial (fun hHeld => ?_)
  clear hK K hHeld
  try simp only [Act.put, qz1, qz2, qz3, qz4, qz5, qz6]
  refine wpAnyH_done (by kernel_rfl) (NoPanic.normal ?_) _
 rotate_left
 refine AllReadyH.cons rfl (fun K hK => ?_) AllReadyH.nil
 go_simp
 refine hK.out _ _ trivial (fun hHeld => ?_)
 clear hK K hHeld
 try simp only [Act.put, qz1, qz2, qz3, qz4, qz5, qz6]
 refine wpAnyH_ready (rs := [0, 4]) (by kernel_rfl) (by simp) ?_
 refine AllReadyH.cons rfl (fun K hK => ?_) ?_
 focus
  refine step_loadA (VarA.dr vM) rfl Tryz.underlying35 rfl (by kernel_rfl) ?_
  refine hK.out _ _ trivial (fun hHeld => ?_)
  clear hK K hHeld
  try simp only [Act.put, qz1, qz2, qz3, qz4, qz5, qz6]
  refine doH 4 (by kernel_rfl) rfl fun K hK => ?_
  go_simp
  refine Calls.mono (HCT.out _ HC4.out.dr) ?_
  rintro e w5 ⟨cv, a1, u1, d1, a2, u2, d2, a3, u3, d3, a4, u4, d4, rfl, o5, ⟨hc5, t5⟩, hwi⟩
  have HWI : Hid _ := hwi
  clear hwi
  have t5' : Turned (fun b => b = w.heap.size + 1) w4 w5 := (Turned.drew1 _ _).trans t5
  have hx4 := t5'.size
  have vM5 := vM.turn t5' (by omega)
  have vR5 := vR4.turn t5' (by omega)
  have B5 : Hid (Below w.heap.size w w5) := Turned.below HT4.out t5' HT4.out.size (fun i hi => by omega)
  have HO5 : Hid (OwM w5 (fun b => w4.heap.size ≤ b ∧ b < w5.heap.size) M (.slice a1 u1 d1) (.slice a2 u2 d2) (.slice a3 u3 d3) (.slice a4 u4 d4)) := o5
  have HC5 : Hid (CurV 108 (w.heap.size + 1) zs (.slice va zs.length vcap) q5 w5) := hc5
  clear o5 hc5 t5 t5'
  refine hK.out _ _ trivial (fun hHeld => ?_)
  clear hK K hHeld
  try simp only [Act.put, qz1, qz2, qz3, qz4, qz5, qz6]
  refine doH 5 (by kernel_rfl) rfl fun K hK => ?_
  go_simp
  refine Calls.mono (HWI.out _) ?_
  rintro e w6 ⟨rfl, b6⟩
  have vM6 := vM5.step b6
  have vR6 := vR5.step b6
  have B6 : Hid (Below w.heap.size w w6) := B5.out.trans (b6.mono B5.out.size)
  have HO6 : Hid (OwM w6 (fun b => w4.heap.size ≤ b ∧ b < w5.heap.size) M (.slice a1 u1 d1) (.slice a2 u2 d2) (.slice a3 u3 d3) (.slice a4 u4 d4)) := HO5.out.keep (Keeps.ofBelow b6)
  have HC6 : Hid (CurV 108 (w.heap.size + 1) zs (.slice va zs.length vcap) q5 w6) := HC5.out.step b6
  have hx5 := b6.size
  clear b6 vM5 vR5 B5 HO5 HC5
  refine hK.out _ _ trivial (fun hHeld => ?_)
  clear hK K hHeld
  try simp only [Act.put, qz1, qz2, qz3, qz4, qz5, qz6]
  refine doH 6 (by kernel_rfl) rfl fun K hK => ?_
  refine step_storeF vM6 rfl rfl (by kernel_rfl) rfl (of_decide_eq_true rfl) rfl ?_
  intro w7 vM7_ t7
  refine hK.out _ _ trivial (fun hHeld => ?_)
  clear hK K hHeld
  try simp only [Act.put, qz1, qz2, qz3, qz4, qz5, qz6]
  refine wpAnyH_done (by kernel_rfl) (NoPanic.normal ?_) _
 rotate_left
 refine AllReadyH.cons rfl (fun K hK => ?_) AllReadyH.nil
 go_simp
 refine Calls.mono (HCT.out _ HC4.out.dr) ?_
 rintro e w5 ⟨cv, a1, u1, d1, a2, u2, d2, a3, u3, d3, a4, u4, d4, rfl, o5, ⟨hc5, t5⟩, hwi⟩
 have HWI : Hid _ := hwi
 clear hwi
 have t5' : Turned (fun b => b = w.heap.size + 1) w4 w5 := (Turned.drew1 _ _).trans t5
 have hx4 := t5'.size
 have vM5 := vM.turn t5' (by omega)
 have vR5 := vR4.turn t5' (by omega)
 have B5 : Hid (Below w.heap.size w w5) := Turned.below HT4.out t5' HT4.out.size (fun i hi => by omega)
 have HO5 : Hid (OwM w5 (fun b => w4.heap.size ≤ b ∧ b < w5.heap.size) M (.slice a1 u1 d1) (.slice a2 u2 d2) (.slice a3 u3 d3) (.slice a4 u4 d4)) := o5
 have HC5 : Hid (CurV 108 (w.heap.size + 1) zs (.slice va zs.length vcap) q5 w5) := hc5
 clear o5 hc5 t5 t5'
 refine hK.out _ _ trivial (fun hHeld => ?_)
 clear hK K hHeld
 try simp only [Act.put, qz1, qz2, qz3, qz4, qz5, qz6]
 refine doH 0 (by kernel_rfl) rfl fun K hK => ?_
 refine step_loadA vM5 rfl Tryz.underlying35 rfl (by kernel_rfl) ?_
 refine hK.out _ _ trivial (fun hHeld => ?_)
 clear hK K hHeld
 try simp only [Act.put, qz1, qz2, qz3, qz4, qz5, qz6]
 refine doH 5 (by kernel_rfl) rfl fun K hK => ?_
 go_simp
 refine Calls.mono (HWI.out _) ?_
 rintro e w6 ⟨rfl, b6⟩
 have vM6 := vM5.step b6
 have vR6 := vR5.step b6
 have B6 : Hid (Below w.heap.size w w6) := B5.out.trans (b6.mono B5.out.size)
 have HO6 : Hid (OwM w6 (fun b => w4.heap.size ≤ b ∧ b < w5.heap.size) M (.slice a1 u1 d1) (.slice a2 u2 d2) (.slice a3 u3 d3) (.slice a4 u4 d4)) := HO5.out.keep (Keeps.ofBelow b6)
 have HC6 : Hid (CurV 108 (w.heap.size + 1) zs (.slice va zs.length vcap) q5 w6) := HC5.out.step b6
 have hx5 := b6.size
 clear b6 vM5 vR5 B5 HO5 HC5
 refine hK.out _ _ trivial (fun hHeld => ?_)
 clear hK K hHeld
 try simp only [Act.put, qz1, qz2, qz3, qz4, qz5, qz6]
 refine doH 6 (by kernel_rfl) rfl fun K hK => ?_
 refine step_storeF vM6 rfl rfl (by kernel_rfl) rfl (of_decide_eq_true rfl) rfl ?_
 intro w7 vM7_ t7
 refine hK.out _ _ trivial (fun hHeld => ?_)
 clear hK K hHeld
 try simp only [Act.put, qz1, qz2, qz3, qz4, qz5, qz6]
 refine wpAnyH_done (by kernel_rfl) (NoPanic.normal ?_) _
 all_goals
  have vM7 := vM7_
  have hx6 := t7.size
  have vR7 := vR6.turn t7 (by omega)
  have B7 : Hid (Below w.heap.size w w7) := Turned.below B6.out t7 B6.out.size (fun i hi => by omega)
  have HC7 : Hid (CurV 108 (w.heap.size + 1) zs (.slice va zs.length vcap) q5 w7) := HC6.out.keep t7 (fun b hb => by omega)
  have HO7 : Hid (OwM w7 (fun b => w4.heap.size ≤ b ∧ b < w5.heap.size) M (.slice a1 u1 d1) (.slice a2 u2 d2) (.slice a3 u3 d3) (.slice a4 u4 d4)) := HO6.out.keep (t7.keeps (fun b hb hs => by omega))
  clear vM7_ t7 vM6 vR6 B6 HC6 HWI HCT vM vR4 HT4 HC4 k0_ HO6
  go_wp2_with fail
  refine Calls.mono (HEN.out _ _ HC7.out) ?_
  rintro e w8 ⟨rfl, b8⟩
  have vM8 := vM7.step b8
  have vR8 := vR7.step b8
  have B8 : Hid (Below w.heap.size w w8) := B7.out.trans (b8.mono B7.out.size)
  have hx7 := b8.size
  have HO8 : Hid (OwM w8 (fun b => w4.heap.size ≤ b ∧ b < w5.heap.size) M (.slice a1 u1 d1) (.slice a2 u2 d2) (.slice a3 u3 d3) (.slice a4 u4 d4)) := HO7.out.keep (Keeps.ofBelow b8)
  clear vM7 vR7 B7 HC7 b8 HEN HO7
  by_cases hqq : q5 = zs.length
  case neg =>
   have h_ := HRR.out
   rw [if_neg (fun h => hqq h.1)] at h_
   simp only [Prod.mk.injEq] at h_
   obtain ⟨rfl, rfl⟩ := h_
   have hdd : decide (q5 = (zs.length : Int)) = false := by simpa using hqq
   rw [hdd]
   have vR9 := vR8
   have B9 := B8
   dsimp only
   repeat (first | ((with_reducible refine gS 35 ?_); refine sF vR9 rfl rfl (by kernel_rfl) rfl rfl ?_; intro w' vR_ t_) | go_values | go_skip | go_guarded | go_step | go_upon)
   refine bodyPost_ret (results_row_tmp Tryz.results13 _ _ _ _ _ _ rfl vR_ Tryz.underlying35 rfl (by kernel_rfl)) rfl ?_
   exact ⟨none, 0, 0, none, 0, 0, none, 0, 0, none, 0, 0, rfl, OwM.nil _ _, Turned.below B9.out t_ B9.out.size (fun i hi => by omega)⟩
  have hdd : decide (q5 = (zs.length : Int)) = true := by simpa using hqq
  rw [hdd]
  cases okB
  ·have h_ := HRR.out
   rw [if_neg (fun h => by cases h.2)] at h_
   simp only [Prod.mk.injEq] at h_
   obtain ⟨rfl, rfl⟩ := h_
   dsimp only
   repeat (first | ((with_reducible refine guardLoadW (ty := 35) ?_); refine wpList_loadW rfl vM8 rfl Tryz.underlying35 rfl (by kernel_rfl) ?_) | go_values | go_skip | go_guarded | go_step | go_upon)
   refine Calls.mono (HOK.out _ _ _ _ _ _ HO8.out.rd) ?_
   rintro e w9 ⟨rfl, b9⟩
   have vR9 := vR8.step b9
   have B9 : Hid (Below w.heap.size w w9) := B8.out.trans (b9.mono B8.out.size)
   dsimp only
   repeat (first | ((with_reducible refine gS 35 ?_); refine sF vR9 rfl rfl (by kernel_rfl) rfl rfl ?_; intro w' vR_ t_) | go_values | go_skip | go_guarded | go_step | go_upon)
   refine bodyPost_ret (results_row_tmp Tryz.results13 _ _ _ _ _ _ rfl vR_ Tryz.underlying35 rfl (by kernel_rfl)) rfl ?_
   exact ⟨none, 0, 0, none, 0, 0, none, 0, 0, none, 0, 0, rfl, OwM.nil _ _, Turned.below B9.out t_ B9.out.size (fun i hi => by omega)⟩
  ·have h_ := HRR.out
   rw [if_pos ⟨hqq, rfl⟩] at h_
   simp only [Prod.mk.injEq] at h_
   obtain ⟨rfl, rfl⟩ := h_
   dsimp only
   repeat (first | ((with_reducible refine guardLoadW (ty := 35) ?_); refine wpList_loadW rfl vM8 rfl Tryz.underlying35 rfl (by kernel_rfl) ?_) | go_values | go_skip | go_guarded | go_step | go_upon)
   refine Calls.mono (HOK.out _ _ _ _ _ _ HO8.out.rd) ?_
   rintro e w9 ⟨rfl, b9⟩
   have vR9 := vR8.step b9
   have vM9 := vM8.step b9
   have B9 : Hid (Below w.heap.size w w9) := B8.out.trans (b9.mono B8.out.size)
   have HO9 : Hid (OwM w9 (fun b => w4.heap.size ≤ b ∧ b < w5.heap.size) M (.slice a1 u1 d1) (.slice a2 u2 d2) (.slice a3 u3 d3) (.slice a4 u4 d4)) := HO8.out.keep (Keeps.ofBelow b9)
   have hx8 := b9.size
   dsimp only
   repeat (first | ((with_reducible refine guardLoad (ty := 35) ?_); refine wpList_loadA vM9 rfl Tryz.underlying35 rfl (by kernel_rfl) ?_) | ((with_reducible refine gS 35 ?_); refine sF vR9 rfl rfl (by kernel_rfl) rfl rfl ?_; intro w' vR_ t_) | go_values | go_skip | go_guarded | go_step | go_upon)
   refine bodyPost_ret (results_row_tmp Tryz.results13 _ _ _ _ _ _ rfl vR_ Tryz.underlying35 rfl (by kernel_rfl)) rfl ?_
   have hx9 := t_.size
   exact ⟨_, _, _, _, _, _, _, _, _, _, _, _, rfl, (HO9.out.keep (t_.keeps (fun b hb hs => by omega))).mono (fun b hb => ⟨by omega, by omega⟩), Turned.below B9.out t_ B9.out.size (fun i hi => by omega)⟩
theorem implMRead0 (v : Value) (zs : List Int) (S : Nat → Prop) (w : World) (r : RdV w S v (.bytes zs)) (hl : zs.length ≤ 2000000) (hk : (getNum zs 0).1 = 0) :
  Calls Tryz.prog 13 #[v] w (MRd zs w) := by
 obtain ⟨n0, q0, e0⟩ : ∃ x q, getNum zs 0 = (x, q) := ⟨_, _, rfl⟩
 obtain ⟨n1, q1, e1⟩ : ∃ x q, getNum zs q0 = (x, q) := ⟨_, _, rfl⟩
 obtain ⟨n2, q2, e2⟩ : ∃ x q, getNum zs q1 = (x, q) := ⟨_, _, rfl⟩
 obtain ⟨n3, q3, e3⟩ : ∃ x q, getNum zs q2 = (x, q) := ⟨_, _, rfl⟩
 obtain ⟨⟨ok4, ⟨op4, oq4, od4⟩, nm4, ⟨tp4, tq4, td4⟩, asn4, ov4⟩, q4, e4⟩ : ∃ x q, rdOp zs q3 = (x, q) := ⟨_, _, rfl⟩
 rw [e0] at hk
 dsimp only at hk
 subst hk
 have hR : rdMs (rdEnP zs) zs = (⟨0, n1, n2, n3, ⟨ok4, (op4, oq4, od4), nm4, (tp4, tq4, td4), asn4, ov4⟩, rp0, tx0, pt0, 0, hd0⟩, q4) := by simp [rdMs, e0, e1, e2, e3, e4]
 exact implMReadG v zs S w r hl 0 n1 n2 q0 q1 q2 q4 _ e0 e1 e2 hR (fun W hW => (contentC0 (w.heap.size + 1) zs v q2 n1 n2 W hW hl n3 ok4 op4 oq4 tp4 tq4 ov4 od4 td4 nm4 asn4 q3 q4 e3 e4).mono fun e w' ⟨a4, l4, c4, a4y, l4y, c4y, he, o5, hg⟩ => ⟨_, a4, l4, c4, a4y, l4y, c4y, none, 0, 0, none, 0, 0, he, o5, hg, fun W' => with0 ⟨0, n1, n2, n3, ⟨ok4, (op4, oq4, od4), nm4, (tp4, tq4, td4), asn4, ov4⟩, rp0, tx0, pt0, 0, hd0⟩ a4 a4y none none l4 l4y 0 0 c4 c4y 0 0 W'⟩)
theorem implMRead1 (v : Value) (zs : List Int) (S : Nat → Prop) (w : World) (r : RdV w S v (.bytes zs)) (hl : zs.length ≤ 2000000) (hk : (getNum zs 0).1 = 1) :
  Calls Tryz.prog 13 #[v] w (MRd zs w) := by
 obtain ⟨n0, q0, e0⟩ : ∃ x q, getNum zs 0 = (x, q) := ⟨_, _, rfl⟩
 obtain ⟨n1, q1, e1⟩ : ∃ x q, getNum zs q0 = (x, q) := ⟨_, _, rfl⟩
 obtain ⟨n2, q2, e2⟩ : ∃ x q, getNum zs q1 = (x, q) := ⟨_, _, rfl⟩
 obtain ⟨n3, q3, e3⟩ : ∃ x q, getNum zs q2 = (x, q) := ⟨_, _, rfl⟩
 obtain ⟨⟨rc4, ⟨rp4, rq4, rd4⟩, rv4, es4⟩, q4, e4⟩ : ∃ x q, rdRp (rdEnP zs) zs q3 = (x, q) := ⟨_, _, rfl⟩
 rw [e0] at hk
 dsimp only at hk
 subst hk
 have hR : rdMs (rdEnP zs) zs = (⟨1, n1, n2, n3, op0, ⟨rc4, (rp4, rq4, rd4), rv4, es4⟩, tx0, pt0, 0, hd0⟩, q4) := by simp [rdMs, e0, e1, e2, e3, e4]
 exact implMReadG v zs S w r hl 1 n1 n2 q0 q1 q2 q4 _ e0 e1 e2 hR (fun W hW => (contentC1 (w.heap.size + 1) zs v q2 n1 n2 W hW hl n3 rc4 rp4 rq4 rv4 rd4 es4 q3 q4 e3 e4).mono fun e w' ⟨a4, l4, c4, he, o5, hg⟩ => ⟨_, none, 0, 0, none, 0, 0, a4, l4, c4, none, 0, 0, he, o5, hg, fun W' => with1 ⟨1, n1, n2, n3, op0, ⟨rc4, (rp4, rq4, rd4), rv4, es4⟩, tx0, pt0, 0, hd0⟩ none none a4 none 0 0 l4 0 0 0 c4 0 W'⟩)
theorem implMRead2 (v : Value) (zs : List Int) (S : Nat → Prop) (w : World) (r : RdV w S v (.bytes zs)) (hl : zs.length ≤ 2000000) (hk : (getNum zs 0).1 = 2) :
  Calls Tryz.prog 13 #[v] w (MRd zs w) := by
 obtain ⟨n0, q0, e0⟩ : ∃ x q, getNum zs 0 = (x, q) := ⟨_, _, rfl⟩
 obtain ⟨n1, q1, e1⟩ : ∃ x q, getNum zs q0 = (x, q) := ⟨_, _, rfl⟩
 obtain ⟨n2, q2, e2⟩ : ∃ x q, getNum zs q1 = (x, q) := ⟨_, _, rfl⟩
 obtain ⟨⟨xs3, xb3, xn3⟩, q3, e3⟩ : ∃ x q, rdTx zs q2 = (x, q) := ⟨_, _, rfl⟩
 obtain ⟨⟨pk4, ⟨pp4, pq4, pd4⟩, pas4, ⟨sp4, sq4, sd4⟩⟩, q4, e4⟩ : ∃ x q, rdPt zs q3 = (x, q) := ⟨_, _, rfl⟩
 rw [e0] at hk
 dsimp only at hk
 subst hk
 have hR : rdMs (rdEnP zs) zs = (⟨2, n1, n2, 0, op0, rp0, (xs3, xb3, xn3), ⟨pk4, (pp4, pq4, pd4), pas4, (sp4, sq4, sd4)⟩, 0, hd0⟩, q4) := by simp [rdMs, e0, e1, e2, e3, e4]
 exact implMReadG v zs S w r hl 2 n1 n2 q0 q1 q2 q4 _ e0 e1 e2 hR (fun W hW => (contentC2 (w.heap.size + 1) zs v q2 n1 n2 W hW hl xs3 xb3 xn3 pk4 pp4 pq4 sp4 sq4 pd4 sd4 pas4 q3 q4 e3 e4).mono fun e w' ⟨a4, l4, c4, he, o5, hg⟩ => ⟨_, none, 0, 0, none, 0, 0, none, 0, 0, a4, l4, c4, he, o5, hg, fun W' => with2 ⟨2, n1, n2, 0, op0, rp0, (xs3, xb3, xn3), ⟨pk4, (pp4, pq4, pd4), pas4, (sp4, sq4, sd4)⟩, 0, hd0⟩ none none none a4 0 0 0 l4 0 0 0 c4 W'⟩)
theorem implMRead3 (v : Value) (zs : List Int) (S : Nat → Prop) (w : World) (r : RdV w S v (.bytes zs)) (hl : zs.length ≤ 2000000) (hk : (getNum zs 0).1 = 3) :
  Calls Tryz.prog 13 #[v] w (MRd zs w) := by
 obtain ⟨n0, q0, e0⟩ : ∃ x q, getNum zs 0 = (x, q) := ⟨_, _, rfl⟩
 obtain ⟨n1, q1, e1⟩ : ∃ x q, getNum zs q0 = (x, q) := ⟨_, _, rfl⟩
 obtain ⟨n2, q2, e2⟩ : ∃ x q, getNum zs q1 = (x, q) := ⟨_, _, rfl⟩
 obtain ⟨⟨xs3, xb3, xn3⟩, q3, e3⟩ : ∃ x q, rdTx zs q2 = (x, q) := ⟨_, _, rfl⟩
 obtain ⟨⟨pk4, ⟨pp4, pq4, pd4⟩, pas4, ⟨sp4, sq4, sd4⟩⟩, q4, e4⟩ : ∃ x q, rdPt zs q3 = (x, q) := ⟨_, _, rfl⟩
 obtain ⟨n5, q5, e5⟩ : ∃ x q, getNum zs q4 = (x, q) := ⟨_, _, rfl⟩
 obtain ⟨⟨hs6, hi6, hd6⟩, q6, e6⟩ : ∃ x q, rdHd zs q5 = (x, q) := ⟨_, _, rfl⟩
 rw [e0] at hk
 dsimp only at hk
 subst hk
 have hR : rdMs (rdEnP zs) zs = (⟨3, n1, n2, 0, op0, rp0, (xs3, xb3, xn3), ⟨pk4, (pp4, pq4, pd4), pas4, (sp4, sq4, sd4)⟩, n5, (hs6, hi6, hd6)⟩, q6) := by simp [rdMs, e0, e1, e2, e3, e4, e5, e6]
 exact implMReadG v zs S w r hl 3 n1 n2 q0 q1 q2 q6 _ e0 e1 e2 hR (fun W hW => (contentC3 (w.heap.size + 1) zs v q2 n1 n2 W hW hl xs3 xb3 xn3 pk4 pp4 pq4 sp4 sq4 n5 hs6 hi6 pd4 sd4 hd6 pas4 q3 q4 q5 q6 e3 e4 e5 e6).mono fun e w' ⟨a4, l4, c4, he, o5, hg⟩ => ⟨_, none, 0, 0, none, 0, 0, none, 0, 0, a4, l4, c4, he, o5, hg, fun W' => with3 ⟨3, n1, n2, 0, op0, rp0, (xs3, xb3, xn3), ⟨pk4, (pp4, pq4, pd4), pas4, (sp4, sq4, sd4)⟩, n5, (hs6, hi6, hd6)⟩ none none none a4 0 0 0 l4 0 0 0 c4 W'⟩)
theorem implMRead4 (v : Value) (zs : List Int) (S : Nat → Prop) (w : World) (r : RdV w S v (.bytes zs)) (hl : zs.length ≤ 2000000) (hk : (getNum zs 0).1 = 4) :
  Calls Tryz.prog 13 #[v] w (MRd zs w) := by
 obtain ⟨n0, q0, e0⟩ : ∃ x q, getNum zs 0 = (x, q) := ⟨_, _, rfl⟩
 obtain ⟨n1, q1, e1⟩ : ∃ x q, getNum zs q0 = (x, q) := ⟨_, _, rfl⟩
 obtain ⟨n2, q2, e2⟩ : ∃ x q, getNum zs q1 = (x, q) := ⟨_, _, rfl⟩
 obtain ⟨⟨xs3, xb3, xn3⟩, q3, e3⟩ : ∃ x q, rdTx zs q2 = (x, q) := ⟨_, _, rfl⟩
 rw [e0] at hk
 dsimp only at hk
 subst hk
 have hR : rdMs (rdEnP zs) zs = (⟨4, n1, n2, 0, op0, rp0, (xs3, xb3, xn3), pt0, 0, hd0⟩, q3) := by simp [rdMs, e0, e1, e2, e3]
 exact implMReadG v zs S w r hl 4 n1 n2 q0 q1 q2 q3 _ e0 e1 e2 hR (fun W hW => (contentC4 (w.heap.size + 1) zs v q2 n1 n2 W hW hl xs3 xb3 xn3 q3 e3).mono fun e w' ⟨he, o5, hg⟩ => ⟨_, none, 0, 0, none, 0, 0, none, 0, 0, none, 0, 0, he, o5, hg, fun W' => with4 ⟨4, n1, n2, 0, op0, rp0, (xs3, xb3, xn3), pt0, 0, hd0⟩ none none none none 0 0 0 0 0 0 0 0 W'⟩)
theorem implMRead5 (v : Value) (zs : List Int) (S : Nat → Prop) (w : World) (r : RdV w S v (.bytes zs)) (hl : zs.length ≤ 2000000) (hk : (getNum zs 0).1 = 5) :
  Calls Tryz.prog 13 #[v] w (MRd zs w) := by
 obtain ⟨n0, q0, e0⟩ : ∃ x q, getNum zs 0 = (x, q) := ⟨_, _, rfl⟩
 obtain ⟨n1, q1, e1⟩ : ∃ x q, getNum zs q0 = (x, q) := ⟨_, _, rfl⟩
 obtain ⟨n2, q2, e2⟩ : ∃ x q, getNum zs q1 = (x, q) := ⟨_, _, rfl⟩
 obtain ⟨⟨xs3, xb3, xn3⟩, q3, e3⟩ : ∃ x q, rdTx zs q2 = (x, q) := ⟨_, _, rfl⟩
 obtain ⟨n4, q4, e4⟩ : ∃ x q, getNum zs q3 = (x, q) := ⟨_, _, rfl⟩
 rw [e0] at hk
 dsimp only at hk
 subst hk
 have hR : rdMs (rdEnP zs) zs = (⟨5, n1, n2, 0, op0, rp0, (xs3, xb3, xn3), pt0, n4, hd0⟩, q4) := by simp [rdMs, e0, e1, e2, e3, e4]
 exact implMReadG v zs S w r hl 5 n1 n2 q0 q1 q2 q4 _ e0 e1 e2 hR (fun W hW => (contentC5 (w.heap.size + 1) zs v q2 n1 n2 W hW hl xs3 xb3 xn3 n4 q3 q4 e3 e4).mono fun e w' ⟨he, o5, hg⟩ => ⟨_, none, 0, 0, none, 0, 0, none, 0, 0, none, 0, 0, he, o5, hg, fun W' => with5 ⟨5, n1, n2, 0, op0, rp0, (xs3, xb3, xn3), pt0, n4, hd0⟩ none none none none 0 0 0 0 0 0 0 0 W'⟩)
theorem implMRead6 (v : Value) (zs : List Int) (S : Nat → Prop) (w : World) (r : RdV w S v (.bytes zs)) (hl : zs.length ≤ 2000000) (hk : (getNum zs 0).1 = 6) :
  Calls Tryz.prog 13 #[v] w (MRd zs w) := by
 obtain ⟨n0, q0, e0⟩ : ∃ x q, getNum zs 0 = (x, q) := ⟨_, _, rfl⟩
 obtain ⟨n1, q1, e1⟩ : ∃ x q, getNum zs q0 = (x, q) := ⟨_, _, rfl⟩
 obtain ⟨n2, q2, e2⟩ : ∃ x q, getNum zs q1 = (x, q) := ⟨_, _, rfl⟩
 obtain ⟨⟨xs3, xb3, xn3⟩, q3, e3⟩ : ∃ x q, rdTx zs q2 = (x, q) := ⟨_, _, rfl⟩
 obtain ⟨n4, q4, e4⟩ : ∃ x q, getNum zs q3 = (x, q) := ⟨_, _, rfl⟩
 obtain ⟨⟨hs5, hi5, hd5⟩, q5, e5⟩ : ∃ x q, rdHd zs q4 = (x, q) := ⟨_, _, rfl⟩
 rw [e0] at hk
 dsimp only at hk
 subst hk
 have hR : rdMs (rdEnP zs) zs = (⟨6, n1, n2, n4, op0, rp0, (xs3, xb3, xn3), pt0, 0, (hs5, hi5, hd5)⟩, q5) := by simp [rdMs, e0, e1, e2, e3, e4, e5]
 exact implMReadG v zs S w r hl 6 n1 n2 q0 q1 q2 q5 _ e0 e1 e2 hR (fun W hW => (contentC6 (w.heap.size + 1) zs v q2 n1 n2 W hW hl xs3 xb3 xn3 n4 hs5 hi5 hd5 q3 q4 q5 e3 e4 e5).mono fun e w' ⟨he, o5, hg⟩ => ⟨_, none, 0, 0, none, 0, 0, none, 0, 0, none, 0, 0, he, o5, hg, fun W' => with6 ⟨6, n1, n2, n4, op0, rp0, (xs3, xb3, xn3), pt0, 0, (hs5, hi5, hd5)⟩ none none none none 0 0 0 0 0 0 0 0 W'⟩)
theorem implMRead7 (v : Value) (zs : List Int) (S : Nat → Prop) (w : World) (r : RdV w S v (.bytes zs)) (hl : zs.length ≤ 2000000) (hk : (getNum zs 0).1 = 7) :
  Calls Tryz.prog 13 #[v] w (MRd zs w) := by
 obtain ⟨n0, q0, e0⟩ : ∃ x q, getNum zs 0 = (x, q) := ⟨_, _, rfl⟩
 obtain ⟨n1, q1, e1⟩ : ∃ x q, getNum zs q0 = (x, q) := ⟨_, _, rfl⟩
 obtain ⟨n2, q2, e2⟩ : ∃ x q, getNum zs q1 = (x, q) := ⟨_, _, rfl⟩
 obtain ⟨⟨xs3, xb3, xn3⟩, q3, e3⟩ : ∃ x q, rdTx zs q2 = (x, q) := ⟨_, _, rfl⟩
 obtain ⟨n4, q4, e4⟩ : ∃ x q, getNum zs q3 = (x, q) := ⟨_, _, rfl⟩
 obtain ⟨n5, q5, e5⟩ : ∃ x q, getNum zs q4 = (x, q) := ⟨_, _, rfl⟩
 obtain ⟨⟨hs6, hi6, hd6⟩, q6, e6⟩ : ∃ x q, rdHd zs q5 = (x, q) := ⟨_, _, rfl⟩
 rw [e0] at hk
 dsimp only at hk
 subst hk
 have hR : rdMs (rdEnP zs) zs = (⟨7, n1, n2, n4, op0, rp0, (xs3, xb3, xn3), pt0, n5, (hs6, hi6, hd6)⟩, q6) := by simp [rdMs, e0, e1, e2, e3, e4, e5, e6]
 exact implMReadG v zs S w r hl 7 n1 n2 q0 q1 q2 q6 _ e0 e1 e2 hR (fun W hW => (contentC7 (w.heap.size + 1) zs v q2 n1 n2 W hW hl xs3 xb3 xn3 n4 n5 hs6 hi6 hd6 q3 q4 q5 q6 e3 e4 e5 e6).mono fun e w' ⟨he, o5, hg⟩ => ⟨_, none, 0, 0, none, 0, 0, none, 0, 0, none, 0, 0, he, o5, hg, fun W' => with7 ⟨7, n1, n2, n4, op0, rp0, (xs3, xb3, xn3), pt0, n5, (hs6, hi6, hd6)⟩ none none none none 0 0 0 0 0 0 0 0 W'⟩)
set_option maxHeartbeats 16000000 in
theorem implMReadX (v : Value) (zs : List Int) (S : Nat → Prop) (w : World) (r : RdV w S v (.bytes zs)) (hl : zs.length ≤ 2000000) (hk : (getNum zs 0).1 < 0 ∨ 7 < (getNum zs 0).1) :
  Calls Tryz.prog 13 #[v] w (MRd zs w) := by
 obtain ⟨va, vcap, rfl⟩ := r.sliceB
 obtain ⟨v, hv⟩ : ∃ v, v = Value.slice va zs.length vcap := ⟨_, rfl⟩
 rw [← hv] at r
 have HS : Hid (∀ o, CurV 108 (w.heap.size + 1) zs v 0 ((w.alloc o).alloc (.cells #[v, .i 0] 108))) := fun o => CurV.start _ o r
 have HEN : Hid (∀ p W, CurV 108 (w.heap.size + 1) zs v p W → _) := fun p W hW => implEndC (w.heap.size + 1) zs v p W hW hl
 clear r
 obtain ⟨n0, q0, e0⟩ : ∃ x q, getNum zs 0 = (x, q) := ⟨_, _, rfl⟩
 have H0 : Hid (∀ W, CurV 108 (w.heap.size + 1) zs v 0 W → _) := fun W hW => by have h_ := implNumC (w.heap.size + 1) zs v 0 W hW hl; rw [e0] at h_; exact h_
 obtain ⟨n1, q1, e1⟩ : ∃ x q, getNum zs q0 = (x, q) := ⟨_, _, rfl⟩
 have H1 : Hid (∀ W, CurV 108 (w.heap.size + 1) zs v q0 W → _) := fun W hW => by have h_ := implNumC (w.heap.size + 1) zs v q0 W hW hl; rw [e1] at h_; exact h_
 obtain ⟨n2, q2, e2⟩ : ∃ x q, getNum zs q1 = (x, q) := ⟨_, _, rfl⟩
 have H2 : Hid (∀ W, CurV 108 (w.heap.size + 1) zs v q1 W → _) := fun W hW => by have h_ := implNumC (w.heap.size + 1) zs v q1 W hW hl; rw [e2] at h_; exact h_
 unfold MRd
 rw [msRead_out hk]
 rw [e0] at hk
 dsimp only at hk
 have HOK : Hid (∀ W, Calls Tryz.prog 12 #[msV ⟨n0, n1, n2, 0, op0, rp0, tx0, pt0, 0, hd0⟩ (.slice none 0 0) (.slice none 0 0) (.slice none 0 0) (.slice none 0 0)] W fun e w' => e = .returned (.bool false) ∧ Below W.heap.size W w') := fun W => by
  have h_ := implMsgBad ⟨n0, n1, n2, 0, op0, rp0, tx0, pt0, 0, hd0⟩ none none none none 0 0 0 0 0 0 0 0 W hk
  rw [MOk_out hk] at h_
  exact h_
 have HCT : Hid (∀ W, Calls Tryz.prog 69 #[.pointer (some ⟨w.heap.size + 1, 0, none⟩), .i n0] W fun e w' => e = .returned .nilIface ∧ w' = W) := fun W => contentX _ n0 W hk
 have HWI : Hid (∀ W, _) := fun W => withX n0 n1 n2 W
 have HKN : Hid (n0 < 0 ∨ 7 < n0) := hk
 clear hk
 simp only [op0, rp0, tx0, pt0, hd0] at HOK HWI
 clear e0 e1 e2
 dsimp only
 subst hv
 try dsimp only at HWI
 go_enter Tryz.func13, Tryz.ntmps13
 go_wp2_with fail
 refine Calls.mono (H0.out _ (HS.out _)) ?_
 rintro e w1 ⟨rfl, hc_, t_⟩
 have hx0 := t_.size
 simp at hx0
 have HT : Hid (Below w.heap.size w w1) := Turned.below ((Below.new1 (w := w) _).trans ((Below.new1 (w := w.alloc _) _).mono (by simp))) t_ (by simp <;> omega) (fun i hi => by omega)
 have vR : VarA w1 w.heap.size 35 #[.i 0, .i 0, .i 0, .i 0, .i 0, .i 0, .i 0, .bool false, .slice none 0 0, .i 0, .i 0, .bool false, .slice none 0 0, .i 0, .i 0, .i 0, .i 0, .bool false, .i 0, .slice none 0 0, .i 0, .i 0, .i 0, .i 0, .i 0, .i 0, .bool false, .slice none 0 0, .i 0, .i 0, .bool false, .i 0, .i 0, .i 0, .bool false] := VarA.turn ((VarA.new w _ _).alloc _) t_ (by omega)
 clear HS
 have HC1 : Hid (CurV 108 (w.heap.size + 1) zs (.slice va zs.length vcap) q0 w1) := hc_
 clear hc_ t_ H0
 go_wp2_with fail
 refine Calls.mono (H1.out _ HC1.out) ?_
 rintro e w2 ⟨rfl, hc_, t_⟩
 have HT_ : Hid (Below w.heap.size w w2) := Turned.below HT.out t_ HT.out.size (fun i hi => by omega)
 clear HT
 have HT := HT_
 clear HT_
 have vR_ := vR.turn t_ (by omega)
 clear vR
 have vR := vR_
 clear vR_
 have hx1 := t_.size
 have HC2 : Hid (CurV 108 (w.heap.size + 1) zs (.slice va zs.length vcap) q1 w2) := hc_
 clear hc_ t_ H1 HC1
 go_wp2_with fail
 refine Calls.mono (H2.out _ HC2.out) ?_
 rintro e w3 ⟨rfl, hc_, t_⟩
 have HT_ : Hid (Below w.heap.size w w3) := Turned.below HT.out t_ HT.out.size (fun i hi => by omega)
 clear HT
 have HT := HT_
 clear HT_
 have vR_ := vR.turn t_ (by omega)
 clear vR
 have vR := vR_
 clear vR_
 have hx2 := t_.size
 have HC3 : Hid (CurV 108 (w.heap.size + 1) zs (.slice va zs.length vcap) q2 w3) := hc_
 clear hc_ t_ H2 HC2
 dsimp only
 repeat (first | ((with_reducible refine gS 35 ?_); refine sF (VarA.new w3 _ _) rfl rfl (by kernel_rfl) rfl rfl ?_; intro w4 vM_ t_) | go_values | go_skip | go_guarded | go_step | go_upon)
 have vM : VarA w4 w3.heap.size 35 #[.i n0, .i n1, .i n2, .i 0, .i 0, .i 0, .i 0, .bool false, .slice none 0 0, .i 0, .i 0, .bool false, .slice none 0 0, .i 0, .i 0, .i 0, .i 0, .bool false, .i 0, .slice none 0 0, .i 0, .i 0, .i 0, .i 0, .i 0, .i 0, .bool false, .slice none 0 0, .i 0, .i 0, .bool false, .i 0, .i 0, .i 0, .bool false] := vM_
 have t1 : Turned (fun b => b = w3.heap.size) w3 w4 := (Turned.ofBelow (Below.new1 (w := w3) _)).trans t_
 have hx3 := t1.size
 have hlM := VarA.lt vM
 have HT4 : Hid (Below w.heap.size w w4) := Turned.below HT.out t1 HT.out.size (fun i hi => by omega)
 have vR4 := vR.turn t1 (by omega)
 have HC4 : Hid (CurV 108 (w.heap.size + 1) zs (.slice va zs.length vcap) q2 w4) := HC3.out.keep t1 (fun b hb => by omega)
 clear vM_ t_ t1 HT vR HC3
 have k0_ := vM.c 0 rfl
 try simp only [Act.put]
 refine wp_region_noPanic ?_
 refine wp_region_held_drew (S := fun _ => True) (by kernel_rfl) trivial (fun hHeld => ?_)
 clear hHeld
 refine tkh 1 ?_ rfl (by kernel_rfl) rfl trivial ?_ ?_
 rotate_left
 ·(intro _ h; (try dsimp only at h); go_simp; try with_reducible rfl)
 try simp only [Act.put, qz1, qz2, qz3, qz4, qz5, qz6]
 refine tkh 2 ?_ rfl (by kernel_rfl) rfl trivial ?_ ?_
 rotate_left
 ·(intro _ h; (try dsimp only at h); go_simp; try with_reducible rfl)
 try simp only [Act.put, qz1, qz2, qz3, qz4, qz5, qz6]
 refine wpAnyH_ready (rs := [0, 3]) (by kernel_rfl) (by simp) ?_
 refine AllReadyH.cons rfl (fun K hK => ?_) ?_
 focus
  refine step_loadA (VarA.dr vM) rfl Tryz.underlying35 rfl (by kernel_rfl) ?_
  refine hK.out _ _ trivial (fun hHeld => ?_)
  clear hK K hHeld
  try simp only [Act.put, qz1, qz2, qz3, qz4, qz5, qz6]
  refine doH 3 (by kernel_rfl) rfl fun K hK => ?_
  go_simp
  refine hK.out _ _ trivial (fun hHeld => ?_)
  clear hK K hHeld
  try simp only [Act.put, qz1, qz2, qz3, qz4, qz5, qz6]
  refine doH 4 (by kernel_rfl) rfl fun K hK => ?_
  go_simp
  refine Calls.mono (HCT.out _) ?_
  rintro e w5 ⟨rfl, hw5⟩
  have t5' : Turned (fun b => b = w.heap.size + 1) w4 w5 := by rw [hw5]; exact Turned.drew1 _ _
  have hx4 := t5'.size
  have vM5 := vM.turn t5' (by omega)
  have vR5 := vR4.turn t5' (by omega)
  have B5 : Hid (Below w.heap.size w w5) := Turned.below HT4.out t5' HT4.out.size (fun i hi => by omega)
  have HC5 : Hid (CurV 108 (w.heap.size + 1) zs (.slice va zs.length vcap) q2 w5) := by rw [hw5]; exact HC4.out.dr
  clear hw5 t5'
  refine hK.out _ _ trivial (fun hHeld => ?_)
  clear hK K hHeld
  try simp only [Act.put, qz1, qz2, qz3, qz4, qz5, qz6]
  refine doH 5 (by kernel_rfl) rfl fun K hK => ?_
  go_simp
  refine Calls.mono (HWI.out _) ?_
  rintro e w6 ⟨rfl, b6⟩
  have vM6 := vM5.step b6
  have vR6 := vR5.step b6
  have B6 : Hid (Below w.heap.size w w6) := B5.out.trans (b6.mono B5.out.size)
  have HC6 : Hid (CurV 108 (w.heap.size + 1) zs (.slice va zs.length vcap) q2 w6) := HC5.out.step b6
  have hx5 := b6.size
  clear b6 vM5 vR5 B5 HC5
  refine hK.out _ _ trivial (fun hHeld => ?_)
  clear hK K hHeld
  try simp only [Act.put, qz1, qz2, qz3, qz4, qz5, qz6]
  refine doH 6 (by kernel_rfl) rfl fun K hK => ?_
  refine step_storeF vM6 rfl rfl (by kernel_rfl) rfl (of_decide_eq_true rfl) rfl ?_
  intro w7 vM7_ t7
  refine hK.out _ _ trivial (fun hHeld => ?_)
  clear hK K hHeld
  try simp only [Act.put, qz1, qz2, qz3, qz4, qz5, qz6]
  refine wpAnyH_done (by kernel_rfl) (NoPanic.normal ?_) _
 rotate_left
 refine AllReadyH.cons rfl (fun K hK => ?_) AllReadyH.nil
 go_simp
 refine hK.out _ _ trivial (fun hHeld => ?_)
 clear hK K hHeld
 try simp only [Act.put, qz1, qz2, qz3, qz4, qz5, qz6]
 refine wpAnyH_ready (rs := [0, 4]) (by kernel_rfl) (by simp) ?_
 refine AllReadyH.cons rfl (fun K hK => ?_) ?_
 focus
  refine step_loadA (VarA.dr vM) rfl Tryz.underlying35 rfl (by kernel_rfl) ?_
  refine hK.out _ _ trivial (fun hHeld => ?_)
  clear hK K hHeld
  try simp only [Act.put, qz1, qz2, qz3, qz4, qz5, qz6]
  refine doH 4 (by kernel_rfl) rfl fun K hK => ?_
  go_simp
  refine Calls.mono (HCT.out _) ?_
  rintro e w5 ⟨rfl, hw5⟩
  have t5' : Turned (fun b => b = w.heap.size + 1) w4 w5 := by rw [hw5]; exact Turned.drew1 _ _
  have hx4 := t5'.size
  have vM5 := vM.turn t5' (by omega)
  have vR5 := vR4.turn t5' (by omega)
  have B5 : Hid (Below w.heap.size w w5) := Turned.below HT4.out t5' HT4.out.size (fun i hi => by omega)
  have HC5 : Hid (CurV 108 (w.heap.size + 1) zs (.slice va zs.length vcap) q2 w5) := by rw [hw5]; exact HC4.out.dr
  clear hw5 t5'
  refine hK.out _ _ trivial (fun hHeld => ?_)
  clear hK K hHeld
  try simp only [Act.put, qz1, qz2, qz3, qz4, qz5, qz6]
  refine doH 5 (by kernel_rfl) rfl fun K hK => ?_
  go_simp
  refine Calls.mono (HWI.out _) ?_
  rintro e w6 ⟨rfl, b6⟩
  have vM6 := vM5.step b6
  have vR6 := vR5.step b6
  have B6 : Hid (Below w.heap.size w w6) := B5.out.trans (b6.mono B5.out.size)
  have HC6 : Hid (CurV 108 (w.heap.size + 1) zs (.slice va zs.length vcap) q2 w6) := HC5.out.step b6
  have hx5 := b6.size
  clear b6 vM5 vR5 B5 HC5
  refine hK.out _ _ trivial (fun hHeld => ?_)
  clear hK K hHeld
  try simp only [Act.put, qz1, qz2, qz3, qz4, qz5, qz6]
  refine doH 6 (by kernel_rfl) rfl fun K hK => ?_
  refine step_storeF vM6 rfl rfl (by kernel_rfl) rfl (of_decide_eq_true rfl) rfl ?_
  intro w7 vM7_ t7
  refine hK.out _ _ trivial (fun hHeld => ?_)
  clear hK K hHeld
  try simp only [Act.put, qz1, qz2, qz3, qz4, qz5, qz6]
  refine wpAnyH_done (by kernel_rfl) (NoPanic.normal ?_) _
 rotate_left
 refine AllReadyH.cons rfl (fun K hK => ?_) AllReadyH.nil
 go_simp
 refine Calls.mono (HCT.out _) ?_
 rintro e w5 ⟨rfl, hw5⟩
 have t5' : Turned (fun b => b = w.heap.size + 1) w4 w5 := by rw [hw5]; exact Turned.drew1 _ _
 have hx4 := t5'.size
 have vM5 := vM.turn t5' (by omega)
 have vR5 := vR4.turn t5' (by omega)
 have B5 : Hid (Below w.heap.size w w5) := Turned.below HT4.out t5' HT4.out.size (fun i hi => by omega)
 have HC5 : Hid (CurV 108 (w.heap.size + 1) zs (.slice va zs.length vcap) q2 w5) := by rw [hw5]; exact HC4.out.dr
 clear hw5 t5'
 refine hK.out _ _ trivial (fun hHeld => ?_)
 clear hK K hHeld
 try simp only [Act.put, qz1, qz2, qz3, qz4, qz5, qz6]
 refine doH 0 (by kernel_rfl) rfl fun K hK => ?_
 refine step_loadA vM5 rfl Tryz.underlying35 rfl (by kernel_rfl) ?_
 refine hK.out _ _ trivial (fun hHeld => ?_)
 clear hK K hHeld
 try simp only [Act.put, qz1, qz2, qz3, qz4, qz5, qz6]
 refine doH 5 (by kernel_rfl) rfl fun K hK => ?_
 go_simp
 refine Calls.mono (HWI.out _) ?_
 rintro e w6 ⟨rfl, b6⟩
 have vM6 := vM5.step b6
 have vR6 := vR5.step b6
 have B6 : Hid (Below w.heap.size w w6) := B5.out.trans (b6.mono B5.out.size)
 have HC6 : Hid (CurV 108 (w.heap.size + 1) zs (.slice va zs.length vcap) q2 w6) := HC5.out.step b6
 have hx5 := b6.size
 clear b6 vM5 vR5 B5 HC5
 refine hK.out _ _ trivial (fun hHeld => ?_)
 clear hK K hHeld
 try simp only [Act.put, qz1, qz2, qz3, qz4, qz5, qz6]
 refine doH 6 (by kernel_rfl) rfl fun K hK => ?_
 refine step_storeF vM6 rfl rfl (by kernel_rfl) rfl (of_decide_eq_true rfl) rfl ?_
 intro w7 vM7_ t7
 refine hK.out _ _ trivial (fun hHeld => ?_)
 clear hK K hHeld
 try simp only [Act.put, qz1, qz2, qz3, qz4, qz5, qz6]
 refine wpAnyH_done (by kernel_rfl) (NoPanic.normal ?_) _
 all_goals
  have vM7 : VarA w7 w3.heap.size 35 #[.i n0, .i n1, .i n2, .i 0, .i 0, .i 0, .i 0, .bool false, .slice none 0 0, .i 0, .i 0, .bool false, .slice none 0 0, .i 0, .i 0, .i 0, .i 0, .bool false, .i 0, .slice none 0 0, .i 0, .i 0, .i 0, .i 0, .i 0, .i 0, .bool false, .slice none 0 0, .i 0, .i 0, .bool false, .i 0, .i 0, .i 0, .bool false] := vM7_
  have hx6 := t7.size
  have vR7 := vR6.turn t7 (by omega)
  have B7 : Hid (Below w.heap.size w w7) := Turned.below B6.out t7 B6.out.size (fun i hi => by omega)
  have HC7 : Hid (CurV 108 (w.heap.size + 1) zs (.slice va zs.length vcap) q2 w7) := HC6.out.keep t7 (fun b hb => by omega)
  clear vM7_ t7 vM6 vR6 B6 HC6 HWI HCT vM vR4 HT4 HC4 k0_
  go_wp2_with fail
  refine Calls.mono (HEN.out _ _ HC7.out) ?_
  rintro e w8 ⟨rfl, b8⟩
  have vM8 := vM7.step b8
  have vR8 := vR7.step b8
  have B8 : Hid (Below w.heap.size w w8) := B7.out.trans (b8.mono B7.out.size)
  have hx7 := b8.size
  clear vM7 vR7 B7 HC7 b8 HEN
  by_cases hqq : q2 = zs.length
  case neg =>
   have hdd : decide (q2 = (zs.length : Int)) = false := by simpa using hqq
   rw [hdd]
   have vR9 := vR8
   have B9 := B8
   dsimp only
   repeat (first | ((with_reducible refine gS 35 ?_); refine sF vR9 rfl rfl (by kernel_rfl) rfl rfl ?_; intro w' vR_ t_) | go_values | go_skip | go_guarded | go_step | go_upon)
   refine bodyPost_ret (results_row_tmp Tryz.results13 _ _ _ _ _ _ rfl vR_ Tryz.underlying35 rfl (by kernel_rfl)) rfl ?_
   exact ⟨none, 0, 0, none, 0, 0, none, 0, 0, none, 0, 0, rfl, OwM.nil _ _, Turned.below B9.out t_ B9.out.size (fun i hi => by omega)⟩
  have hdd : decide (q2 = (zs.length : Int)) = true := by simpa using hqq
  rw [hdd]
  dsimp only
  repeat (first | ((with_reducible refine guardLoadW (ty := 35) ?_); refine wpList_loadW rfl vM8 rfl Tryz.underlying35 rfl (by kernel_rfl) ?_) | go_values | go_skip | go_guarded | go_step | go_upon)
  refine Calls.mono (HOK.out _) ?_
  rintro e w9 ⟨rfl, b9⟩
  have vR9 := vR8.step b9
  have B9 : Hid (Below w.heap.size w w9) := B8.out.trans (b9.mono B8.out.size)
  dsimp only
  repeat (first | ((with_reducible refine gS 35 ?_); refine sF vR9 rfl rfl (by kernel_rfl) rfl rfl ?_; intro w' vR_ t_) | go_values | go_skip | go_guarded | go_step | go_upon)
  refine bodyPost_ret (results_row_tmp Tryz.results13 _ _ _ _ _ _ rfl vR_ Tryz.underlying35 rfl (by kernel_rfl)) rfl ?_
  exact ⟨none, 0, 0, none, 0, 0, none, 0, 0, none, 0, 0, rfl, OwM.nil _ _, Turned.below B9.out t_ B9.out.size (fun i hi => by omega)⟩
end Go.Proofs.YtklhikadhohjbaaGreat
