/- Joined: MdT4. -/
import Derived.Test.YtbnjhjgjmckedaaGreatJ15
import Derived.Test.YtbnjhjgjmckedaaGreatJ05
import Derived.Test.YtbnjhjgjmckedaaGreatJ14

section
/- The specification's MsgRead, kind by kind. Condition: at most 2,000,000 bytes. -/
namespace Go.Proofs.YtbnjhjgjmckedaaGreat
open Go.RowKit
set_option linter.unusedVariables false
set_option linter.unusedSimpArgs false
set_option maxRecDepth 100000

set_option maxHeartbeats 16000000 in
theorem specMRead7 (v : Value) (zs : List Int) (S : Nat → Prop) (w : World) (r : RdV w S v (.bytes zs)) (hl : zs.length ≤ 2000000) (hk : (getNum zs 0).1 = 7) :
    Calls Tryz.prog 13 #[v] w fun e w' => ∃ a1 n1 c1 a2 n2 c2 a3 n3 c3 a4 n4 c4, e = .returned (.tuple #[msV (msRead zs).1 (.slice a1 n1 c1) (.slice a2 n2 c2) (.slice a3 n3 c3) (.slice a4 n4 c4), .bool (msRead zs).2]) ∧ OwM w' (fun b => w.heap.size ≤ b ∧ b < w'.heap.size) (msRead zs).1 (.slice a1 n1 c1) (.slice a2 n2 c2) (.slice a3 n3 c3) (.slice a4 n4 c4) ∧ Below w.heap.size w w' := by
  have hz := RdV.zs r
  obtain ⟨va, vcap, rfl⟩ := r.sliceB
  obtain ⟨v, hv⟩ : ∃ v, v = Value.slice va zs.length vcap := ⟨_, rfl⟩
  rw [← hv] at r
  have HS : Hid (∀ o, CurV 77 (w.heap.size + 1) zs v 0 ((w.alloc o).alloc (.cells #[v, .int .i64 0] 77))) := fun o => CurV.start _ o r
  have hsz := szMd (rdEnS zs) (szS zs) zs
  rw [msRead_spec hz]
  clear r
  obtain ⟨n0, q0, e0⟩ : ∃ x q, getNum zs 0 = (x, q) := ⟨_, _, rfl⟩
  have H0 : Hid (∀ W, CurV 77 (w.heap.size + 1) zs v 0 W → _) := fun W hW => by have h_ := specNumC (w.heap.size + 1) zs v 0 W hW hl; rw [e0] at h_; exact h_
  obtain ⟨n1, q1, e1⟩ : ∃ x q, getNum zs q0 = (x, q) := ⟨_, _, rfl⟩
  have H1 : Hid (∀ W, CurV 77 (w.heap.size + 1) zs v q0 W → _) := fun W hW => by have h_ := specNumC (w.heap.size + 1) zs v q0 W hW hl; rw [e1] at h_; exact h_
  obtain ⟨n2, q2, e2⟩ : ∃ x q, getNum zs q1 = (x, q) := ⟨_, _, rfl⟩
  have H2 : Hid (∀ W, CurV 77 (w.heap.size + 1) zs v q1 W → _) := fun W hW => by have h_ := specNumC (w.heap.size + 1) zs v q1 W hW hl; rw [e2] at h_; exact h_
  obtain ⟨⟨xs3, xb3, xn3⟩, q3, e3⟩ : ∃ x q, rdTx zs q2 = (x, q) := ⟨_, _, rfl⟩
  have H3 : Hid (∀ W, CurV 77 (w.heap.size + 1) zs v q2 W → _) := fun W hW => by have h_ := specTxC (w.heap.size + 1) zs v q2 W hW hl; rw [e3] at h_; exact h_
  obtain ⟨n4, q4, e4⟩ : ∃ x q, getNum zs q3 = (x, q) := ⟨_, _, rfl⟩
  have H4 : Hid (∀ W, CurV 77 (w.heap.size + 1) zs v q3 W → _) := fun W hW => by have h_ := specNumC (w.heap.size + 1) zs v q3 W hW hl; rw [e4] at h_; exact h_
  obtain ⟨n5, q5, e5⟩ : ∃ x q, getNum zs q4 = (x, q) := ⟨_, _, rfl⟩
  have H5 : Hid (∀ W, CurV 77 (w.heap.size + 1) zs v q4 W → _) := fun W hW => by have h_ := specNumC (w.heap.size + 1) zs v q4 W hW hl; rw [e5] at h_; exact h_
  obtain ⟨⟨hs6, hi6, hd6⟩, q6, e6⟩ : ∃ x q, rdHd zs q5 = (x, q) := ⟨_, _, rfl⟩
  have H6 : Hid (∀ W, CurV 77 (w.heap.size + 1) zs v q5 W → _) := fun W hW => by have h_ := specHandC (w.heap.size + 1) zs v q5 W hW hl; rw [e6] at h_; exact h_
  rw [e0] at hk
  dsimp only at hk
  subst hk
  have hR : rdMs (rdEnS zs) zs = (⟨7, n1, n2, n4, op0, rp0, (xs3, xb3, xn3), pt0, n5, (hs6, hi6, hd6)⟩, q6) := by simp [rdMs, e0, e1, e2, e3, e4, e5, e6]
  rw [hR] at hsz ⊢
  clear hR e0 e1 e2 e3 e4 e5 e6
  dsimp only at hsz ⊢
  have HOK : Hid (∀ x y z u S W, RdM W S ⟨7, n1, n2, n4, op0, rp0, (xs3, xb3, xn3), pt0, n5, (hs6, hi6, hd6)⟩ x y z u → _) := fun x y z u S W hW => specMsgOk_any x y z u _ S W hW (by omega)
  have HBY : Hid (∀ x y z u S W, RdM W S ⟨7, n1, n2, n4, op0, rp0, (xs3, xb3, xn3), pt0, n5, (hs6, hi6, hd6)⟩ x y z u → MOk ⟨7, n1, n2, n4, op0, rp0, (xs3, xb3, xn3), pt0, n5, (hs6, hi6, hd6)⟩ = true → _) := fun x y z u S W hW ho => specBytes_any _ x y z u S W hW (by omega) ho
  obtain ⟨mR, bR, hRR⟩ : ∃ a b, (if q6 = zs.length ∧ MOk ⟨7, n1, n2, n4, op0, rp0, (xs3, xb3, xn3), pt0, n5, (hs6, hi6, hd6)⟩ = true ∧ msB ⟨7, n1, n2, n4, op0, rp0, (xs3, xb3, xn3), pt0, n5, (hs6, hi6, hd6)⟩ = zs then (⟨7, n1, n2, n4, op0, rp0, (xs3, xb3, xn3), pt0, n5, (hs6, hi6, hd6)⟩, true) else (ms0, false)) = (a, b) := ⟨_, _, rfl⟩
  rw [hRR]
  have HRR : Hid ((if q6 = zs.length ∧ MOk ⟨7, n1, n2, n4, op0, rp0, (xs3, xb3, xn3), pt0, n5, (hs6, hi6, hd6)⟩ = true ∧ msB ⟨7, n1, n2, n4, op0, rp0, (xs3, xb3, xn3), pt0, n5, (hs6, hi6, hd6)⟩ = zs then (⟨7, n1, n2, n4, op0, rp0, (xs3, xb3, xn3), pt0, n5, (hs6, hi6, hd6)⟩, true) else (ms0, false)) = (mR, bR)) := hRR
  clear hRR hsz
  generalize MOk ⟨7, n1, n2, n4, op0, rp0, (xs3, xb3, xn3), pt0, n5, (hs6, hi6, hd6)⟩ = okB at HOK HBY HRR
  generalize msB ⟨7, n1, n2, n4, op0, rp0, (xs3, xb3, xn3), pt0, n5, (hs6, hi6, hd6)⟩ = zB at HBY HRR
  dsimp only
  subst hv
  go_enter Tryz.func13, Tryz.ntmps13
  go_wp2_with fail
  refine Calls.mono (H0.out _ (HS.out _)) ?_
  rintro e w1 ⟨rfl, hc_, t_⟩
  have hx0 := t_.size
  simp at hx0
  have HT : Hid (Below w.heap.size w w1) := Turned.below ((Below.new1 (w := w) _).trans ((Below.new1 (w := w.alloc _) _).mono (by simp))) t_ (by simp <;> omega) (fun i hi => by omega)
  have vR : VarA w1 w.heap.size 35 #[.int .i64 0, .int .i64 0, .int .i64 0, .int .i64 0, .int .i64 0, .int .i64 0, .int .i64 0, .bool false, .slice none 0 0, .int .i64 0, .int .i64 0, .bool false, .slice none 0 0, .int .i64 0, .int .i64 0, .int .i64 0, .int .i64 0, .bool false, .int .i64 0, .slice none 0 0, .int .i64 0, .int .i64 0, .int .i64 0, .int .i64 0, .int .i64 0, .int .i64 0, .bool false, .slice none 0 0, .int .i64 0, .int .i64 0, .bool false, .int .i64 0, .int .i64 0, .int .i64 0, .bool false] := VarA.turn ((VarA.new w _ _).alloc _) t_ (by omega)
  clear HS
  have HC1 : Hid (CurV 77 (w.heap.size + 1) zs _ q0 w1) := hc_
  clear hc_ t_ H0
  dsimp only
  repeat (first | ((with_reducible refine guardStore (ty := 35) ?_); refine wpList_storeF (VarA.new w1 _ _) rfl rfl (by kernel_rfl) rfl (of_decide_eq_true rfl) rfl ?_; intro w1' vO_ t_; have k0_ := vO_.c 0 rfl) | go_values | go_skip | go_guarded | go_step | go_upon)
  clear k0_
  have vO1 : VarA w1' w1.heap.size 35 #[.int .i64 7, .int .i64 0, .int .i64 0, .int .i64 0, .int .i64 0, .int .i64 0, .int .i64 0, .bool false, .slice none 0 0, .int .i64 0, .int .i64 0, .bool false, .slice none 0 0, .int .i64 0, .int .i64 0, .int .i64 0, .int .i64 0, .bool false, .int .i64 0, .slice none 0 0, .int .i64 0, .int .i64 0, .int .i64 0, .int .i64 0, .int .i64 0, .int .i64 0, .bool false, .slice none 0 0, .int .i64 0, .int .i64 0, .bool false, .int .i64 0, .int .i64 0, .int .i64 0, .bool false] := vO_
  clear vO_
  have vO := vO1
  clear vO1
  have t1 : Turned (fun b => b = w1.heap.size) w1 w1' := (Turned.ofBelow (Below.new1 (w := w1) _)).trans t_
  clear t_
  have HC1' : Hid (CurV 77 (w.heap.size + 1) zs _ q0 w1') := HC1.out.keep t1 (fun b hb => by omega)
  have vR_ := vR.turn t1 (by omega)
  clear vR
  have vR := vR_
  clear vR_
  have HT_ : Hid (Below w.heap.size w w1') := Turned.below HT.out t1 HT.out.size (fun i hi => by omega)
  clear HT
  have HT := HT_
  clear HT_
  have hy1 := t1.size
  have hob := VarA.lt vO
  clear t1 HC1
  have HC1 := HC1'
  clear HC1'
  refine Calls.mono (H1.out _ HC1.out) ?_
  rintro e w2 ⟨rfl, hc_, t_⟩
  have HT_ : Hid (Below w.heap.size w w2) := Turned.below HT.out t_ HT.out.size (fun i hi => by omega)
  clear HT
  have HT := HT_
  clear HT_
  have vR_ := vR.turn t_ (by omega)
  clear vR
  have vR := vR_
  clear vR_
  have hx1 := t_.size
  have vO_ := vO.turn t_ (by omega)
  clear vO
  have vO := vO_
  clear vO_
  have HC2 : Hid (CurV 77 (w.heap.size + 1) zs _ q1 w2) := hc_
  clear hc_ t_ H1 HC1
  dsimp only
  repeat (first | ((with_reducible refine guardStore (ty := 3) ?_); refine wpList_storeG vO rfl rfl rfl (by kernel_rfl) rfl (of_decide_eq_true rfl) rfl ?_; intro w2' vO_ t_; have k0_ := vO_.c 0 rfl) | go_values | go_skip | go_guarded | go_step | go_upon)
  clear k0_
  have vO1 : VarA w2' w1.heap.size 35 #[.int .i64 7, .int .i64 n1, .int .i64 0, .int .i64 0, .int .i64 0, .int .i64 0, .int .i64 0, .bool false, .slice none 0 0, .int .i64 0, .int .i64 0, .bool false, .slice none 0 0, .int .i64 0, .int .i64 0, .int .i64 0, .int .i64 0, .bool false, .int .i64 0, .slice none 0 0, .int .i64 0, .int .i64 0, .int .i64 0, .int .i64 0, .int .i64 0, .int .i64 0, .bool false, .slice none 0 0, .int .i64 0, .int .i64 0, .bool false, .int .i64 0, .int .i64 0, .int .i64 0, .bool false] := vO_
  clear vO_ vO
  have vO := vO1
  clear vO1
  have t1 : Turned (fun b => b = w1.heap.size) w2 w2' := t_
  clear t_
  have HC2' : Hid (CurV 77 (w.heap.size + 1) zs _ q1 w2') := HC2.out.keep t1 (fun b hb => by omega)
  have vR_ := vR.turn t1 (by omega)
  clear vR
  have vR := vR_
  clear vR_
  have HT_ : Hid (Below w.heap.size w w2') := Turned.below HT.out t1 HT.out.size (fun i hi => by omega)
  clear HT
  have HT := HT_
  clear HT_
  have hy2 := t1.size
  clear t1 HC2
  have HC2 := HC2'
  clear HC2'
  refine Calls.mono (H2.out _ HC2.out) ?_
  rintro e w3 ⟨rfl, hc_, t_⟩
  have HT_ : Hid (Below w.heap.size w w3) := Turned.below HT.out t_ HT.out.size (fun i hi => by omega)
  clear HT
  have HT := HT_
  clear HT_
  have vR_ := vR.turn t_ (by omega)
  clear vR
  have vR := vR_
  clear vR_
  have hx2 := t_.size
  have vO_ := vO.turn t_ (by omega)
  clear vO
  have vO := vO_
  clear vO_
  have HC3 : Hid (CurV 77 (w.heap.size + 1) zs _ q2 w3) := hc_
  clear hc_ t_ H2 HC2
  dsimp only
  repeat (first | ((with_reducible refine guardStore (ty := 3) ?_); refine wpList_storeG vO rfl rfl rfl (by kernel_rfl) rfl (of_decide_eq_true rfl) rfl ?_; intro w3' vO_ t_; have k0_ := vO_.c 0 rfl) | go_values | go_skip | go_guarded | go_step | go_upon)
  clear k0_
  have vO1 : VarA w3' w1.heap.size 35 #[.int .i64 7, .int .i64 n1, .int .i64 n2, .int .i64 0, .int .i64 0, .int .i64 0, .int .i64 0, .bool false, .slice none 0 0, .int .i64 0, .int .i64 0, .bool false, .slice none 0 0, .int .i64 0, .int .i64 0, .int .i64 0, .int .i64 0, .bool false, .int .i64 0, .slice none 0 0, .int .i64 0, .int .i64 0, .int .i64 0, .int .i64 0, .int .i64 0, .int .i64 0, .bool false, .slice none 0 0, .int .i64 0, .int .i64 0, .bool false, .int .i64 0, .int .i64 0, .int .i64 0, .bool false] := vO_
  clear vO_ vO
  have vO := vO1
  clear vO1
  have t1 : Turned (fun b => b = w1.heap.size) w3 w3' := t_
  clear t_
  have HC3' : Hid (CurV 77 (w.heap.size + 1) zs _ q2 w3') := HC3.out.keep t1 (fun b hb => by omega)
  have vR_ := vR.turn t1 (by omega)
  clear vR
  have vR := vR_
  clear vR_
  have HT_ : Hid (Below w.heap.size w w3') := Turned.below HT.out t1 HT.out.size (fun i hi => by omega)
  clear HT
  have HT := HT_
  clear HT_
  have hy3 := t1.size
  clear t1 HC3
  have HC3 := HC3'
  clear HC3'
  refine Calls.mono (H3.out _ HC3.out) ?_
  rintro e w4 ⟨rfl, hc_, t_⟩
  have HT_ : Hid (Below w.heap.size w w4) := Turned.below HT.out t_ HT.out.size (fun i hi => by omega)
  clear HT
  have HT := HT_
  clear HT_
  have vR_ := vR.turn t_ (by omega)
  clear vR
  have vR := vR_
  clear vR_
  have hx3 := t_.size
  have vO_ := vO.turn t_ (by omega)
  clear vO
  have vO := vO_
  clear vO_
  have HC4 : Hid (CurV 77 (w.heap.size + 1) zs _ q3 w4) := hc_
  clear hc_ t_ H3 HC3
  dsimp only
  repeat (first | ((with_reducible refine guardStore (ty := 31) ?_); refine wpList_storeG vO rfl rfl rfl (by kernel_rfl) rfl (of_decide_eq_true rfl) rfl ?_; intro w4' vO_ t_; have k0_ := vO_.c 0 rfl) | go_values | go_skip | go_guarded | go_step | go_upon)
  clear k0_
  have vO1 : VarA w4' w1.heap.size 35 #[.int .i64 7, .int .i64 n1, .int .i64 n2, .int .i64 0, .int .i64 0, .int .i64 0, .int .i64 0, .bool false, .slice none 0 0, .int .i64 0, .int .i64 0, .bool false, .slice none 0 0, .int .i64 0, .int .i64 0, .int .i64 0, .int .i64 0, .bool false, .int .i64 0, .slice none 0 0, .int .i64 xs3, .int .i64 xb3, .int .i64 xn3, .int .i64 0, .int .i64 0, .int .i64 0, .bool false, .slice none 0 0, .int .i64 0, .int .i64 0, .bool false, .int .i64 0, .int .i64 0, .int .i64 0, .bool false] := vO_
  clear vO_ vO
  have vO := vO1
  clear vO1
  have t1 : Turned (fun b => b = w1.heap.size) w4 w4' := t_
  clear t_
  have HC4' : Hid (CurV 77 (w.heap.size + 1) zs _ q3 w4') := HC4.out.keep t1 (fun b hb => by omega)
  have vR_ := vR.turn t1 (by omega)
  clear vR
  have vR := vR_
  clear vR_
  have HT_ : Hid (Below w.heap.size w w4') := Turned.below HT.out t1 HT.out.size (fun i hi => by omega)
  clear HT
  have HT := HT_
  clear HT_
  have hy4 := t1.size
  clear t1 HC4
  have HC4 := HC4'
  clear HC4'
  refine Calls.mono (H4.out _ HC4.out) ?_
  rintro e w5 ⟨rfl, hc_, t_⟩
  have HT_ : Hid (Below w.heap.size w w5) := Turned.below HT.out t_ HT.out.size (fun i hi => by omega)
  clear HT
  have HT := HT_
  clear HT_
  have vR_ := vR.turn t_ (by omega)
  clear vR
  have vR := vR_
  clear vR_
  have hx4 := t_.size
  have vO_ := vO.turn t_ (by omega)
  clear vO
  have vO := vO_
  clear vO_
  have HC5 : Hid (CurV 77 (w.heap.size + 1) zs _ q4 w5) := hc_
  clear hc_ t_ H4 HC4
  dsimp only
  repeat (first | ((with_reducible refine guardStore (ty := 3) ?_); refine wpList_storeG vO rfl rfl rfl (by kernel_rfl) rfl (of_decide_eq_true rfl) rfl ?_; intro w5' vO_ t_; have k0_ := vO_.c 0 rfl) | go_values | go_skip | go_guarded | go_step | go_upon)
  clear k0_
  have vO1 : VarA w5' w1.heap.size 35 #[.int .i64 7, .int .i64 n1, .int .i64 n2, .int .i64 n4, .int .i64 0, .int .i64 0, .int .i64 0, .bool false, .slice none 0 0, .int .i64 0, .int .i64 0, .bool false, .slice none 0 0, .int .i64 0, .int .i64 0, .int .i64 0, .int .i64 0, .bool false, .int .i64 0, .slice none 0 0, .int .i64 xs3, .int .i64 xb3, .int .i64 xn3, .int .i64 0, .int .i64 0, .int .i64 0, .bool false, .slice none 0 0, .int .i64 0, .int .i64 0, .bool false, .int .i64 0, .int .i64 0, .int .i64 0, .bool false] := vO_
  clear vO_ vO
  have vO := vO1
  clear vO1
  have t1 : Turned (fun b => b = w1.heap.size) w5 w5' := t_
  clear t_
  have HC5' : Hid (CurV 77 (w.heap.size + 1) zs _ q4 w5') := HC5.out.keep t1 (fun b hb => by omega)
  have vR_ := vR.turn t1 (by omega)
  clear vR
  have vR := vR_
  clear vR_
  have HT_ : Hid (Below w.heap.size w w5') := Turned.below HT.out t1 HT.out.size (fun i hi => by omega)
  clear HT
  have HT := HT_
  clear HT_
  have hy5 := t1.size
  clear t1 HC5
  have HC5 := HC5'
  clear HC5'
  refine Calls.mono (H5.out _ HC5.out) ?_
  rintro e w6 ⟨rfl, hc_, t_⟩
  have HT_ : Hid (Below w.heap.size w w6) := Turned.below HT.out t_ HT.out.size (fun i hi => by omega)
  clear HT
  have HT := HT_
  clear HT_
  have vR_ := vR.turn t_ (by omega)
  clear vR
  have vR := vR_
  clear vR_
  have hx5 := t_.size
  have vO_ := vO.turn t_ (by omega)
  clear vO
  have vO := vO_
  clear vO_
  have HC6 : Hid (CurV 77 (w.heap.size + 1) zs _ q5 w6) := hc_
  clear hc_ t_ H5 HC5
  dsimp only
  repeat (first | ((with_reducible refine guardStore (ty := 3) ?_); refine wpList_storeG vO rfl rfl rfl (by kernel_rfl) rfl (of_decide_eq_true rfl) rfl ?_; intro w6' vO_ t_; have k0_ := vO_.c 0 rfl) | go_values | go_skip | go_guarded | go_step | go_upon)
  clear k0_
  have vO1 : VarA w6' w1.heap.size 35 #[.int .i64 7, .int .i64 n1, .int .i64 n2, .int .i64 n4, .int .i64 0, .int .i64 0, .int .i64 0, .bool false, .slice none 0 0, .int .i64 0, .int .i64 0, .bool false, .slice none 0 0, .int .i64 0, .int .i64 0, .int .i64 0, .int .i64 0, .bool false, .int .i64 0, .slice none 0 0, .int .i64 xs3, .int .i64 xb3, .int .i64 xn3, .int .i64 0, .int .i64 0, .int .i64 0, .bool false, .slice none 0 0, .int .i64 0, .int .i64 0, .bool false, .int .i64 n5, .int .i64 0, .int .i64 0, .bool false] := vO_
  clear vO_ vO
  have vO := vO1
  clear vO1
  have t1 : Turned (fun b => b = w1.heap.size) w6 w6' := t_
  clear t_
  have HC6' : Hid (CurV 77 (w.heap.size + 1) zs _ q5 w6') := HC6.out.keep t1 (fun b hb => by omega)
  have vR_ := vR.turn t1 (by omega)
  clear vR
  have vR := vR_
  clear vR_
  have HT_ : Hid (Below w.heap.size w w6') := Turned.below HT.out t1 HT.out.size (fun i hi => by omega)
  clear HT
  have HT := HT_
  clear HT_
  have hy6 := t1.size
  clear t1 HC6
  have HC6 := HC6'
  clear HC6'
  refine Calls.mono (H6.out _ HC6.out) ?_
  rintro e w7 ⟨rfl, hc_, t_⟩
  have HT_ : Hid (Below w.heap.size w w7) := Turned.below HT.out t_ HT.out.size (fun i hi => by omega)
  clear HT
  have HT := HT_
  clear HT_
  have vR_ := vR.turn t_ (by omega)
  clear vR
  have vR := vR_
  clear vR_
  have hx6 := t_.size
  have vO_ := vO.turn t_ (by omega)
  clear vO
  have vO := vO_
  clear vO_
  have HC7 : Hid (CurV 77 (w.heap.size + 1) zs _ q6 w7) := hc_
  clear hc_ t_ H6 HC6
  dsimp only
  repeat (first | ((with_reducible refine guardStore (ty := 24) ?_); refine wpList_storeG vO rfl rfl rfl (by kernel_rfl) rfl (of_decide_eq_true rfl) rfl ?_; intro wz vO_ t_; have k0_ := vO_.c 0 rfl) | go_values | go_skip | go_guarded | go_step | go_upon)
  clear k0_
  have vZ : VarA wz w1.heap.size 35 #[.int .i64 7, .int .i64 n1, .int .i64 n2, .int .i64 n4, .int .i64 0, .int .i64 0, .int .i64 0, .bool false, .slice none 0 0, .int .i64 0, .int .i64 0, .bool false, .slice none 0 0, .int .i64 0, .int .i64 0, .int .i64 0, .int .i64 0, .bool false, .int .i64 0, .slice none 0 0, .int .i64 xs3, .int .i64 xb3, .int .i64 xn3, .int .i64 0, .int .i64 0, .int .i64 0, .bool false, .slice none 0 0, .int .i64 0, .int .i64 0, .bool false, .int .i64 n5, .int .i64 hs6, .int .i64 hi6, .bool hd6] := vO_
  have t1 : Turned (fun b => b = w1.heap.size) w7 wz := t_
  have HCz : Hid (CurV 77 (w.heap.size + 1) zs (.slice va zs.length vcap) q6 wz) := HC7.out.keep t1 (fun b hb => by omega)
  have vRz := vR.turn t1 (by omega)
  have HTz : Hid (Below w.heap.size w wz) := Turned.below HT.out t1 HT.out.size (fun i hi => by omega)
  have hsz := t1.size
  have HOM : Hid (OwM wz (fun b => w1.heap.size + 1 ≤ b ∧ b < wz.heap.size) ⟨7, n1, n2, n4, op0, rp0, (xs3, xb3, xn3), pt0, n5, (hs6, hi6, hd6)⟩ (.slice none 0 0) (.slice none 0 0) (.slice none 0 0) (.slice none 0 0)) := by
    refine ⟨fun _ => False, fun _ => False, fun _ => False, fun _ => False, OwV.nilB _ _, OwV.nilB _ _, OwV.nilR _ _ _ _ _, OwV.nilB _ _, ?_, ?_, ?_, ?_⟩
    · intro b hb
      rcases hb with hb | hb | hb | hb <;> first | exact hb.elim | exact ⟨by omega, by omega⟩
    · intro b hb
      refine ⟨fun h => ?_, fun h => ?_, fun h => ?_⟩ <;> first | exact hb.elim | exact h.elim | omega
    · intro b hb
      refine ⟨fun h => ?_, fun h => ?_⟩ <;> first | exact hb.elim | exact h.elim | omega
    · intro b hb h
      first | exact hb.elim | exact h.elim | omega
  clear  vO_ t_ t1 vR HT HC7 vO
  try simp only [Act.put]
  obtain ⟨c0, c1⟩ := VarA.l2 HCz.out.1
  have hltc := HCz.out.lt
  haveI : Nonempty (Cls wz) := Cls.ne wz
  have k1_ := Cls.cell hltc c1
  have hVM : ∀ W, (∃ i : Cls wz, W = i.W) → VarA W w1.heap.size 35 #[.int .i64 7, .int .i64 n1, .int .i64 n2, .int .i64 n4, .int .i64 0, .int .i64 0, .int .i64 0, .bool false, .slice none 0 0, .int .i64 0, .int .i64 0, .bool false, .slice none 0 0, .int .i64 0, .int .i64 0, .int .i64 0, .int .i64 0, .bool false, .int .i64 0, .slice none 0 0, .int .i64 xs3, .int .i64 xb3, .int .i64 xn3, .int .i64 0, .int .i64 0, .int .i64 0, .bool false, .slice none 0 0, .int .i64 0, .int .i64 0, .bool false, .int .i64 n5, .int .i64 hs6, .int .i64 hi6, .bool hd6] := fun W ⟨i, hi⟩ => by rw [hi]; exact VarA.step vZ i.h
  by_cases hqq : q6 = zs.length
  case neg =>
    have h_ := HRR.out
    rw [if_neg (fun h => hqq h.1)] at h_
    simp only [Prod.mk.injEq] at h_
    obtain ⟨rfl, rfl⟩ := h_
    clear HRR
    have f1 : (q6 == (zs.length : Int)) = false := by simpa using hqq
    have f2 : (q6 != (zs.length : Int)) = true := by simpa using hqq
    have f3 : decide (q6 = (zs.length : Int)) = false := by simpa using hqq
    refine wp_region_cls (by kernel_rfl) (by kernel_rfl) ?_
    repeat (go_big_quiet_step (fail))
    refine wpQuiet_nil ?_
    rintro w' ⟨⟨w', b_⟩, rfl⟩
    have vR9 := vRz.step b_
    have B9 : Hid (Below w.heap.size w w') := HTz.out.trans (b_.mono HTz.out.size)
    clear vRz HTz vZ HCz HOM HOK HBY b_ this hVM k1_
    repeat (first | ((with_reducible refine guardStore (ty := 35) ?_); refine wpList_storeF vR9 rfl rfl (by kernel_rfl) rfl (of_decide_eq_true rfl) rfl ?_; intro w' vR_ t_) | go_values | go_skip | go_guarded | go_step | go_upon)
    refine bodyPost_ret (results_row_tmp Tryz.results13 _ _ _ _ _ _ rfl vR_ Tryz.underlying35 rfl (by kernel_rfl)) rfl ?_
    exact ⟨none, 0, 0, none, 0, 0, none, 0, 0, none, 0, 0, rfl, OwM.nil _ _, Turned.below B9.out t_ B9.out.size (fun i hi => by omega)⟩
  have f1 : (q6 == (zs.length : Int)) = true := by simpa using hqq
  have f2 : (q6 != (zs.length : Int)) = false := by simpa using hqq
  have f3 : decide (q6 = (zs.length : Int)) = true := by simpa using hqq
  cases okB
  · have h_ := HRR.out
    rw [if_neg (fun h => by cases h.2.1)] at h_
    simp only [Prod.mk.injEq] at h_
    obtain ⟨rfl, rfl⟩ := h_
    clear HRR
    refine wp_region_cls (by kernel_rfl) (by kernel_rfl) ?_
    repeat (go_big_quiet_step (fail))
    (refine wpQuiet_loadA hVM rfl rfl Tryz.underlying35 rfl (by kernel_rfl) ?_); simp only [Act.put, List.setIfInBounds_toArray, List.set_cons_succ, List.set_cons_zero]
    repeat (go_big_quiet_step (first | (go_at_call 7; exact Calls.cls (HOK.out _ _ _ _ _ _ (HOM.out.rd.step (Cls.h _))))))
    refine wpQuiet_nil ?_
    rintro w' ⟨⟨w', b_⟩, rfl⟩
    have vR9 := vRz.step b_
    have B9 : Hid (Below w.heap.size w w') := HTz.out.trans (b_.mono HTz.out.size)
    clear vRz HTz vZ HCz HOM HOK HBY b_ this hVM k1_
    repeat (first | ((with_reducible refine guardStore (ty := 35) ?_); refine wpList_storeF vR9 rfl rfl (by kernel_rfl) rfl (of_decide_eq_true rfl) rfl ?_; intro w' vR_ t_) | go_values | go_skip | go_guarded | go_step | go_upon)
    refine bodyPost_ret (results_row_tmp Tryz.results13 _ _ _ _ _ _ rfl vR_ Tryz.underlying35 rfl (by kernel_rfl)) rfl ?_
    exact ⟨none, 0, 0, none, 0, 0, none, 0, 0, none, 0, 0, rfl, OwM.nil _ _, Turned.below B9.out t_ B9.out.size (fun i hi => by omega)⟩
  · clear k1_ this hVM
    obtain ⟨bz, hbz⟩ : ∃ b : Bool, decide (zB = zs) = b := ⟨_, rfl⟩
    refine wp_region_noPanic ?_
    refine wp_region_cur (by kernel_rfl) HCz.out vZ (fun hHeld => ?_)
    refine wpAnyH_take (i := 0) (v := ?_) rfl (by kernel_rfl) (by kernel_rfl) (by kernel_rfl) (fun _ _ _ h => h) (Or.inl ⟨by rfl, ?_⟩) (by assumption) ?_
    rotate_left
    · (intro w_ hSw_; go_simp; try with_reducible rfl)
    try simp only [Act.put, List.setIfInBounds_toArray, List.set_cons_zero, List.set_cons_succ, List.getElem_toArray, List.getElem_cons_zero, List.getElem_cons_succ]
    refine wpAnyH_take (i := 1) (v := ?_) rfl (by kernel_rfl) (by kernel_rfl) (by kernel_rfl) (fun _ _ _ h => h) (Or.inl ⟨by rfl, ?_⟩) (by assumption) ?_
    rotate_left
    · (intro w_ hSw_; go_simp; try with_reducible rfl)
    try simp only [Act.put, List.setIfInBounds_toArray, List.set_cons_zero, List.set_cons_succ, List.getElem_toArray, List.getElem_cons_zero, List.getElem_cons_succ]
    refine wpAnyH_take (i := 2) (v := ?_) rfl (by kernel_rfl) (by kernel_rfl) (by kernel_rfl) (fun _ _ _ h => h) (Or.inl ⟨by rfl, ?_⟩) (by assumption) ?_
    rotate_left
    · (intro w_ hSw_; go_simp; try with_reducible rfl)
    try simp only [Act.put, List.setIfInBounds_toArray, List.set_cons_zero, List.set_cons_succ, List.getElem_toArray, List.getElem_cons_zero, List.getElem_cons_succ]
    refine wpAnyH_take (i := 3) (v := ?_) rfl (by kernel_rfl) (by kernel_rfl) (by kernel_rfl) (fun _ _ _ h => h) (Or.inl ⟨by rfl, ?_⟩) (by assumption) ?_
    rotate_left
    · (intro w_ hSw_; have q_ := VarA.c hSw_.1.1 1 rfl; go_simp; try with_reducible rfl)
    try simp only [Act.put, List.setIfInBounds_toArray, List.set_cons_zero, List.set_cons_succ, List.getElem_toArray, List.getElem_cons_zero, List.getElem_cons_succ]
    refine wpAnyH_take (i := 4) (v := ?_) rfl (by kernel_rfl) (by kernel_rfl) (by kernel_rfl) (fun _ _ _ h => h) (Or.inl ⟨by rfl, ?_⟩) (by assumption) ?_
    rotate_left
    · (intro w_ hSw_; go_simp; try with_reducible rfl)
    try simp only [Act.put, List.setIfInBounds_toArray, List.set_cons_zero, List.set_cons_succ, List.getElem_toArray, List.getElem_cons_zero, List.getElem_cons_succ]
    refine wpAnyH_take (i := 5) (v := ?_) rfl (by kernel_rfl) (by kernel_rfl) (by kernel_rfl) (fun _ _ _ h => h) (Or.inl ⟨by rfl, ?_⟩) (by assumption) ?_
    rotate_left
    · (intro w_ hSw_; go_simp; try with_reducible rfl)
    try simp only [Act.put, List.setIfInBounds_toArray, List.set_cons_zero, List.set_cons_succ, List.getElem_toArray, List.getElem_cons_zero, List.getElem_cons_succ]
    refine wpAnyH_take (i := 6) (v := ?_) rfl (by kernel_rfl) (by kernel_rfl) (by kernel_rfl) (fun _ _ _ h => h) (Or.inl ⟨by rfl, ?_⟩) (by assumption) ?_
    rotate_left
    · (intro w_ hSw_; go_simp; try with_reducible rfl)
    try simp only [Act.put, List.setIfInBounds_toArray, List.set_cons_zero, List.set_cons_succ, List.getElem_toArray, List.getElem_cons_zero, List.getElem_cons_succ]
    refine wpAnyH_take (i := 7) (v := ?_) rfl (by kernel_rfl) (by kernel_rfl) (by kernel_rfl) (fun _ _ _ h => h) (Or.inl ⟨by rfl, ?_⟩) (by assumption) ?_
    rotate_left
    · (intro w_ hSw_; go_simp; try with_reducible rfl)
    try simp only [Act.put, List.setIfInBounds_toArray, List.set_cons_zero, List.set_cons_succ, List.getElem_toArray, List.getElem_cons_zero, List.getElem_cons_succ]
    refine wpAnyH_take (i := 8) (v := _) rfl (by kernel_rfl) (by kernel_rfl) (by kernel_rfl) (fun _ _ _ h => h) (Or.inl ⟨by rfl, fun w_ hS_ => loadOp_run hS_.2 rfl Tryz.underlying35 rfl (by kernel_rfl)⟩) (by assumption) ?_
    try simp only [Act.put, List.setIfInBounds_toArray, List.set_cons_zero, List.set_cons_succ, List.getElem_toArray, List.getElem_cons_zero, List.getElem_cons_succ]
    refine wpAnyH_ready (rs := [9]) (by kernel_rfl) (by simp) ?_
    refine AllReadyH.cons rfl (fun K hK => ?_) AllReadyH.nil
    go_simp
    refine Calls.mono (HOK.out _ _ _ _ _ wz.drew (HOM.out.rd.step (Below.drew (Below.refl _ _)))) ?_
    rintro e wy ⟨rfl, b_⟩
    have by_ : Below wz.heap.size wz wy := (Below.drew (Below.refl _ _)).trans b_
    have hcy := HCz.out.step by_
    have vy := vZ.step by_
    clear b_
    refine hK.out _ _ ⟨hcy, vy⟩ (fun hHeld => ?_)
    clear hK K
    try simp only [Act.put, List.setIfInBounds_toArray, List.set_cons_zero, List.set_cons_succ, List.getElem_toArray, List.getElem_cons_zero, List.getElem_cons_succ]
    refine wpAnyH_take (i := 10) (v := ?_) rfl (by kernel_rfl) (by kernel_rfl) (by kernel_rfl) (fun _ _ _ h => h) (Or.inl ⟨by rfl, ?_⟩) (by assumption) ?_
    rotate_left
    · (intro w_ hSw_; go_simp; try with_reducible rfl)
    try simp only [Act.put, List.setIfInBounds_toArray, List.set_cons_zero, List.set_cons_succ, List.getElem_toArray, List.getElem_cons_zero, List.getElem_cons_succ]
    refine wpAnyH_take (i := 11) (v := ?_) rfl (by kernel_rfl) (by kernel_rfl) (by kernel_rfl) (fun _ _ _ h => h) (Or.inl ⟨by rfl, ?_⟩) (by assumption) ?_
    rotate_left
    · (intro w_ hSw_; go_simp; try with_reducible rfl)
    try simp only [Act.put, List.setIfInBounds_toArray, List.set_cons_zero, List.set_cons_succ, List.getElem_toArray, List.getElem_cons_zero, List.getElem_cons_succ]
    refine wpAnyH_take (i := 12) (v := ?_) rfl (by kernel_rfl) (by kernel_rfl) (by kernel_rfl) (fun _ _ _ h => h) (Or.inl ⟨by rfl, ?_⟩) (by assumption) ?_
    rotate_left
    · (intro w_ hSw_; go_simp; try with_reducible rfl)
    try simp only [Act.put, List.setIfInBounds_toArray, List.set_cons_zero, List.set_cons_succ, List.getElem_toArray, List.getElem_cons_zero, List.getElem_cons_succ]
    refine wpAnyH_take (i := 13) (v := _) rfl (by kernel_rfl) (by kernel_rfl) (by kernel_rfl) (fun _ _ _ h => h) (Or.inl ⟨by rfl, fun w_ hS_ => loadOp_run hS_.2 rfl Tryz.underlying35 rfl (by kernel_rfl)⟩) (by assumption) ?_
    try simp only [Act.put, List.setIfInBounds_toArray, List.set_cons_zero, List.set_cons_succ, List.getElem_toArray, List.getElem_cons_zero, List.getElem_cons_succ]
    refine wpAnyH_take (i := 16) (v := ?_) rfl (by kernel_rfl) (by kernel_rfl) (by kernel_rfl) (fun _ _ _ h => h) (Or.inl ⟨by rfl, ?_⟩) (by assumption) ?_
    rotate_left
    · (intro w_ hSw_; go_simp; try with_reducible rfl)
    try simp only [Act.put, List.setIfInBounds_toArray, List.set_cons_zero, List.set_cons_succ, List.getElem_toArray, List.getElem_cons_zero, List.getElem_cons_succ]
    refine wpAnyH_take (i := 17) (v := ?_) rfl (by kernel_rfl) (by kernel_rfl) (by kernel_rfl) (fun _ _ _ h => h) (Or.inl ⟨by rfl, ?_⟩) (by assumption) ?_
    rotate_left
    · (intro w_ hSw_; have q_ := conv_any _ zs _ vcap w_ (RdV.rd0 hSw_.1.2.1) rfl; go_simp; try with_reducible rfl)
    try simp only [Act.put, List.setIfInBounds_toArray, List.set_cons_zero, List.set_cons_succ, List.getElem_toArray, List.getElem_cons_zero, List.getElem_cons_succ]
    refine wpAnyH_ready (rs := [14]) (by kernel_rfl) (by simp) ?_
    refine AllReadyH.cons rfl (fun K hK => ?_) AllReadyH.nil
    go_simp
    refine Calls.mono (HBY.out _ _ _ _ _ _ (HOM.out.rd.step by_) rfl) ?_
    rintro e wx ⟨u, rfl, zu, ou, b_⟩
    obtain ⟨ua, ul, uc, rfl, rfl, hur, _⟩ := ou.openNil zu
    have hcu := conv_any ua zB _ uc wx hur rfl
    have hst := (str_eq zB zs zu hz).trans hbz
    have bx_ : Below wz.heap.size wz wx := by_.trans (b_.mono by_.size)
    have hcx := HCz.out.step bx_
    have vx := vZ.step bx_
    clear b_ ou
    refine hK.out _ _ ⟨hcx, vx⟩ (fun hHeld => ?_)
    clear hK K
    try simp only [Act.put, List.setIfInBounds_toArray, List.set_cons_zero, List.set_cons_succ, List.getElem_toArray, List.getElem_cons_zero, List.getElem_cons_succ]
    refine wpAnyH_ready (rs := [15]) (by kernel_rfl) (by simp) ?_
    refine AllReadyH.cons rfl (fun K hK => ?_) AllReadyH.nil
    go_simp
    refine hK.out _ _ ⟨hcx, vx⟩ (fun hHeld => ?_)
    clear hK K
    try simp only [Act.put, List.setIfInBounds_toArray, List.set_cons_zero, List.set_cons_succ, List.getElem_toArray, List.getElem_cons_zero, List.getElem_cons_succ]
    refine wpAnyH_take (i := 18) (v := ?_) rfl (by kernel_rfl) (by kernel_rfl) (by kernel_rfl) (fun _ _ _ h => h) (Or.inl ⟨by rfl, ?_⟩) (by assumption) ?_
    rotate_left
    · (intro w_ hSw_; go_simp; try with_reducible rfl)
    try simp only [Act.put, List.setIfInBounds_toArray, List.set_cons_zero, List.set_cons_succ, List.getElem_toArray, List.getElem_cons_zero, List.getElem_cons_succ]
    refine wpAnyH_take (i := 19) (v := ?_) rfl (by kernel_rfl) (by kernel_rfl) (by kernel_rfl) (fun _ _ _ h => h) (Or.inl ⟨by rfl, ?_⟩) (by assumption) ?_
    rotate_left
    · (intro w_ hSw_; go_simp; try with_reducible rfl)
    try simp only [Act.put, List.setIfInBounds_toArray, List.set_cons_zero, List.set_cons_succ, List.getElem_toArray, List.getElem_cons_zero, List.getElem_cons_succ]
    refine wpAnyH_done (by kernel_rfl) (NoPanic.normal ?_) _
    have vR9 := vRz.step bx_
    have B9 : Hid (Below w.heap.size w wx) := HTz.out.trans (bx_.mono HTz.out.size)
    have HO9 : Hid (OwM wx (fun b => w1.heap.size + 1 ≤ b ∧ b < wz.heap.size) ⟨7, n1, n2, n4, op0, rp0, (xs3, xb3, xn3), pt0, n5, (hs6, hi6, hd6)⟩ (.slice none 0 0) (.slice none 0 0) (.slice none 0 0) (.slice none 0 0)) := HOM.out.keep (Keeps.ofBelow bx_)
    have hs9 := bx_.size
    clear hHeld hcx hcy vy vRz HTz vZ HCz HOM HOK HBY hcu hst bx_ by_
    cases bz
    · have hzB : ¬ zB = zs := by simpa using hbz
      have h_ := HRR.out
      rw [if_neg (fun h => hzB h.2.2)] at h_
      simp only [Prod.mk.injEq] at h_
      obtain ⟨rfl, rfl⟩ := h_
      clear HRR vx HO9
      repeat (first | ((with_reducible refine guardStore (ty := 35) ?_); refine wpList_storeF vR9 rfl rfl (by kernel_rfl) rfl (of_decide_eq_true rfl) rfl ?_; intro w' vR_ t_) | go_values | go_skip | go_guarded | go_step | go_upon)
      refine bodyPost_ret (results_row_tmp Tryz.results13 _ _ _ _ _ _ rfl vR_ Tryz.underlying35 rfl (by kernel_rfl)) rfl ?_
      exact ⟨none, 0, 0, none, 0, 0, none, 0, 0, none, 0, 0, rfl, OwM.nil _ _, Turned.below B9.out t_ B9.out.size (fun i hi => by omega)⟩
    · have hzB : zB = zs := by simpa using hbz
      have h_ := HRR.out
      rw [if_pos ⟨hqq, rfl, hzB⟩] at h_
      simp only [Prod.mk.injEq] at h_
      obtain ⟨rfl, rfl⟩ := h_
      clear HRR
      repeat (first | ((with_reducible refine guardLoad (ty := 35) ?_); refine wpList_loadA vx rfl Tryz.underlying35 rfl (by kernel_rfl) ?_) | ((with_reducible refine guardStore (ty := 35) ?_); refine wpList_storeF vR9 rfl rfl (by kernel_rfl) rfl (of_decide_eq_true rfl) rfl ?_; intro w' vR_ t_) | go_values | go_skip | go_guarded | go_step | go_upon)
      refine bodyPost_ret (results_row_tmp Tryz.results13 _ _ _ _ _ _ rfl vR_ Tryz.underlying35 rfl (by kernel_rfl)) rfl ?_
      have hs10 := t_.size
      exact ⟨_, _, _, _, _, _, _, _, _, _, _, _, rfl, (HO9.out.keep (t_.keeps (fun b hb hs => by omega))).mono (fun b hb => ⟨by omega, by omega⟩), Turned.below B9.out t_ B9.out.size (fun i hi => by omega)⟩
set_option maxHeartbeats 16000000 in
theorem specMReadX (v : Value) (zs : List Int) (S : Nat → Prop) (w : World) (r : RdV w S v (.bytes zs)) (hl : zs.length ≤ 2000000) (hk : (getNum zs 0).1 ≠ 0 ∧ (getNum zs 0).1 ≠ 1 ∧ (getNum zs 0).1 ≠ 2 ∧ (getNum zs 0).1 ≠ 3 ∧ (getNum zs 0).1 ≠ 5 ∧ (getNum zs 0).1 ≠ 6 ∧ (getNum zs 0).1 ≠ 7) :
    Calls Tryz.prog 13 #[v] w fun e w' => ∃ a1 n1 c1 a2 n2 c2 a3 n3 c3 a4 n4 c4, e = .returned (.tuple #[msV (msRead zs).1 (.slice a1 n1 c1) (.slice a2 n2 c2) (.slice a3 n3 c3) (.slice a4 n4 c4), .bool (msRead zs).2]) ∧ OwM w' (fun b => w.heap.size ≤ b ∧ b < w'.heap.size) (msRead zs).1 (.slice a1 n1 c1) (.slice a2 n2 c2) (.slice a3 n3 c3) (.slice a4 n4 c4) ∧ Below w.heap.size w w' := by
  have hz := RdV.zs r
  obtain ⟨va, vcap, rfl⟩ := r.sliceB
  obtain ⟨v, hv⟩ : ∃ v, v = Value.slice va zs.length vcap := ⟨_, rfl⟩
  rw [← hv] at r
  have HS : Hid (∀ o, CurV 77 (w.heap.size + 1) zs v 0 ((w.alloc o).alloc (.cells #[v, .int .i64 0] 77))) := fun o => CurV.start _ o r
  have hsz := szMd (rdEnS zs) (szS zs) zs
  rw [msRead_spec hz]
  clear r
  obtain ⟨n0, q0, e0⟩ : ∃ x q, getNum zs 0 = (x, q) := ⟨_, _, rfl⟩
  have H0 : Hid (∀ W, CurV 77 (w.heap.size + 1) zs v 0 W → _) := fun W hW => by have h_ := specNumC (w.heap.size + 1) zs v 0 W hW hl; rw [e0] at h_; exact h_
  obtain ⟨n1, q1, e1⟩ : ∃ x q, getNum zs q0 = (x, q) := ⟨_, _, rfl⟩
  have H1 : Hid (∀ W, CurV 77 (w.heap.size + 1) zs v q0 W → _) := fun W hW => by have h_ := specNumC (w.heap.size + 1) zs v q0 W hW hl; rw [e1] at h_; exact h_
  obtain ⟨n2, q2, e2⟩ : ∃ x q, getNum zs q1 = (x, q) := ⟨_, _, rfl⟩
  have H2 : Hid (∀ W, CurV 77 (w.heap.size + 1) zs v q1 W → _) := fun W hW => by have h_ := specNumC (w.heap.size + 1) zs v q1 W hW hl; rw [e2] at h_; exact h_
  obtain ⟨⟨xs3, xb3, xn3⟩, q3, e3⟩ : ∃ x q, rdTx zs q2 = (x, q) := ⟨_, _, rfl⟩
  have H3 : Hid (∀ W, CurV 77 (w.heap.size + 1) zs v q2 W → _) := fun W hW => by have h_ := specTxC (w.heap.size + 1) zs v q2 W hW hl; rw [e3] at h_; exact h_
  rw [e0] at hk
  dsimp only at hk
  have hR : rdMs (rdEnS zs) zs = (⟨n0, n1, n2, 0, op0, rp0, (xs3, xb3, xn3), pt0, 0, hd0⟩, q3) := by simp [rdMs, e0, e1, e2, e3, hk.1, hk.2.1, hk.2.2.1, hk.2.2.2.1, hk.2.2.2.2.1, hk.2.2.2.2.2.1, hk.2.2.2.2.2.2]
  rw [hR] at hsz ⊢
  clear hR e0 e1 e2 e3
  dsimp only at hsz ⊢
  have HOK : Hid (∀ x y z u S W, RdM W S ⟨n0, n1, n2, 0, op0, rp0, (xs3, xb3, xn3), pt0, 0, hd0⟩ x y z u → _) := fun x y z u S W hW => specMsgOk_any x y z u _ S W hW (by omega)
  have HBY : Hid (∀ x y z u S W, RdM W S ⟨n0, n1, n2, 0, op0, rp0, (xs3, xb3, xn3), pt0, 0, hd0⟩ x y z u → MOk ⟨n0, n1, n2, 0, op0, rp0, (xs3, xb3, xn3), pt0, 0, hd0⟩ = true → _) := fun x y z u S W hW ho => specBytes_any _ x y z u S W hW (by omega) ho
  obtain ⟨mR, bR, hRR⟩ : ∃ a b, (if q3 = zs.length ∧ MOk ⟨n0, n1, n2, 0, op0, rp0, (xs3, xb3, xn3), pt0, 0, hd0⟩ = true ∧ msB ⟨n0, n1, n2, 0, op0, rp0, (xs3, xb3, xn3), pt0, 0, hd0⟩ = zs then (⟨n0, n1, n2, 0, op0, rp0, (xs3, xb3, xn3), pt0, 0, hd0⟩, true) else (ms0, false)) = (a, b) := ⟨_, _, rfl⟩
  rw [hRR]
  have HRR : Hid ((if q3 = zs.length ∧ MOk ⟨n0, n1, n2, 0, op0, rp0, (xs3, xb3, xn3), pt0, 0, hd0⟩ = true ∧ msB ⟨n0, n1, n2, 0, op0, rp0, (xs3, xb3, xn3), pt0, 0, hd0⟩ = zs then (⟨n0, n1, n2, 0, op0, rp0, (xs3, xb3, xn3), pt0, 0, hd0⟩, true) else (ms0, false)) = (mR, bR)) := hRR
  clear hRR hsz
  generalize MOk ⟨n0, n1, n2, 0, op0, rp0, (xs3, xb3, xn3), pt0, 0, hd0⟩ = okB at HOK HBY HRR
  generalize msB ⟨n0, n1, n2, 0, op0, rp0, (xs3, xb3, xn3), pt0, 0, hd0⟩ = zB at HBY HRR
  have dk0 : (n0 == 0) = false := by simpa using hk.1
  have dk1 : (n0 == 1) = false := by simpa using hk.2.1
  have dk2 : (n0 == 2) = false := by simpa using hk.2.2.1
  have dk3 : (n0 == 3) = false := by simpa using hk.2.2.2.1
  have dk5 : (n0 == 5) = false := by simpa using hk.2.2.2.2.1
  have dk6 : (n0 == 6) = false := by simpa using hk.2.2.2.2.2.1
  have dk7 : (n0 == 7) = false := by simpa using hk.2.2.2.2.2.2
  dsimp only
  subst hv
  go_enter Tryz.func13, Tryz.ntmps13
  go_wp2_with fail
  refine Calls.mono (H0.out _ (HS.out _)) ?_
  rintro e w1 ⟨rfl, hc_, t_⟩
  have hx0 := t_.size
  simp at hx0
  have HT : Hid (Below w.heap.size w w1) := Turned.below ((Below.new1 (w := w) _).trans ((Below.new1 (w := w.alloc _) _).mono (by simp))) t_ (by simp <;> omega) (fun i hi => by omega)
  have vR : VarA w1 w.heap.size 35 #[.int .i64 0, .int .i64 0, .int .i64 0, .int .i64 0, .int .i64 0, .int .i64 0, .int .i64 0, .bool false, .slice none 0 0, .int .i64 0, .int .i64 0, .bool false, .slice none 0 0, .int .i64 0, .int .i64 0, .int .i64 0, .int .i64 0, .bool false, .int .i64 0, .slice none 0 0, .int .i64 0, .int .i64 0, .int .i64 0, .int .i64 0, .int .i64 0, .int .i64 0, .bool false, .slice none 0 0, .int .i64 0, .int .i64 0, .bool false, .int .i64 0, .int .i64 0, .int .i64 0, .bool false] := VarA.turn ((VarA.new w _ _).alloc _) t_ (by omega)
  clear HS
  have HC1 : Hid (CurV 77 (w.heap.size + 1) zs _ q0 w1) := hc_
  clear hc_ t_ H0
  dsimp only
  repeat (first | ((with_reducible refine guardStore (ty := 35) ?_); refine wpList_storeF (VarA.new w1 _ _) rfl rfl (by kernel_rfl) rfl (of_decide_eq_true rfl) rfl ?_; intro w1' vO_ t_; have k0_ := vO_.c 0 rfl) | go_values | go_skip | go_guarded | go_step | go_upon)
  clear k0_
  have vO1 : VarA w1' w1.heap.size 35 #[.int .i64 n0, .int .i64 0, .int .i64 0, .int .i64 0, .int .i64 0, .int .i64 0, .int .i64 0, .bool false, .slice none 0 0, .int .i64 0, .int .i64 0, .bool false, .slice none 0 0, .int .i64 0, .int .i64 0, .int .i64 0, .int .i64 0, .bool false, .int .i64 0, .slice none 0 0, .int .i64 0, .int .i64 0, .int .i64 0, .int .i64 0, .int .i64 0, .int .i64 0, .bool false, .slice none 0 0, .int .i64 0, .int .i64 0, .bool false, .int .i64 0, .int .i64 0, .int .i64 0, .bool false] := vO_
  clear vO_
  have vO := vO1
  clear vO1
  have t1 : Turned (fun b => b = w1.heap.size) w1 w1' := (Turned.ofBelow (Below.new1 (w := w1) _)).trans t_
  clear t_
  have HC1' : Hid (CurV 77 (w.heap.size + 1) zs _ q0 w1') := HC1.out.keep t1 (fun b hb => by omega)
  have vR_ := vR.turn t1 (by omega)
  clear vR
  have vR := vR_
  clear vR_
  have HT_ : Hid (Below w.heap.size w w1') := Turned.below HT.out t1 HT.out.size (fun i hi => by omega)
  clear HT
  have HT := HT_
  clear HT_
  have hy1 := t1.size
  have hob := VarA.lt vO
  clear t1 HC1
  have HC1 := HC1'
  clear HC1'
  refine Calls.mono (H1.out _ HC1.out) ?_
  rintro e w2 ⟨rfl, hc_, t_⟩
  have HT_ : Hid (Below w.heap.size w w2) := Turned.below HT.out t_ HT.out.size (fun i hi => by omega)
  clear HT
  have HT := HT_
  clear HT_
  have vR_ := vR.turn t_ (by omega)
  clear vR
  have vR := vR_
  clear vR_
  have hx1 := t_.size
  have vO_ := vO.turn t_ (by omega)
  clear vO
  have vO := vO_
  clear vO_
  have HC2 : Hid (CurV 77 (w.heap.size + 1) zs _ q1 w2) := hc_
  clear hc_ t_ H1 HC1
  dsimp only
  repeat (first | ((with_reducible refine guardStore (ty := 3) ?_); refine wpList_storeG vO rfl rfl rfl (by kernel_rfl) rfl (of_decide_eq_true rfl) rfl ?_; intro w2' vO_ t_; have k0_ := vO_.c 0 rfl) | go_values | go_skip | go_guarded | go_step | go_upon)
  clear k0_
  have vO1 : VarA w2' w1.heap.size 35 #[.int .i64 n0, .int .i64 n1, .int .i64 0, .int .i64 0, .int .i64 0, .int .i64 0, .int .i64 0, .bool false, .slice none 0 0, .int .i64 0, .int .i64 0, .bool false, .slice none 0 0, .int .i64 0, .int .i64 0, .int .i64 0, .int .i64 0, .bool false, .int .i64 0, .slice none 0 0, .int .i64 0, .int .i64 0, .int .i64 0, .int .i64 0, .int .i64 0, .int .i64 0, .bool false, .slice none 0 0, .int .i64 0, .int .i64 0, .bool false, .int .i64 0, .int .i64 0, .int .i64 0, .bool false] := vO_
  clear vO_ vO
  have vO := vO1
  clear vO1
  have t1 : Turned (fun b => b = w1.heap.size) w2 w2' := t_
  clear t_
  have HC2' : Hid (CurV 77 (w.heap.size + 1) zs _ q1 w2') := HC2.out.keep t1 (fun b hb => by omega)
  have vR_ := vR.turn t1 (by omega)
  clear vR
  have vR := vR_
  clear vR_
  have HT_ : Hid (Below w.heap.size w w2') := Turned.below HT.out t1 HT.out.size (fun i hi => by omega)
  clear HT
  have HT := HT_
  clear HT_
  have hy2 := t1.size
  clear t1 HC2
  have HC2 := HC2'
  clear HC2'
  refine Calls.mono (H2.out _ HC2.out) ?_
  rintro e w3 ⟨rfl, hc_, t_⟩
  have HT_ : Hid (Below w.heap.size w w3) := Turned.below HT.out t_ HT.out.size (fun i hi => by omega)
  clear HT
  have HT := HT_
  clear HT_
  have vR_ := vR.turn t_ (by omega)
  clear vR
  have vR := vR_
  clear vR_
  have hx2 := t_.size
  have vO_ := vO.turn t_ (by omega)
  clear vO
  have vO := vO_
  clear vO_
  have HC3 : Hid (CurV 77 (w.heap.size + 1) zs _ q2 w3) := hc_
  clear hc_ t_ H2 HC2
  dsimp only
  repeat (first | ((with_reducible refine guardStore (ty := 3) ?_); refine wpList_storeG vO rfl rfl rfl (by kernel_rfl) rfl (of_decide_eq_true rfl) rfl ?_; intro w3' vO_ t_; have k0_ := vO_.c 0 rfl) | go_values | go_skip | go_guarded | go_step | go_upon)
  clear k0_
  have vO1 : VarA w3' w1.heap.size 35 #[.int .i64 n0, .int .i64 n1, .int .i64 n2, .int .i64 0, .int .i64 0, .int .i64 0, .int .i64 0, .bool false, .slice none 0 0, .int .i64 0, .int .i64 0, .bool false, .slice none 0 0, .int .i64 0, .int .i64 0, .int .i64 0, .int .i64 0, .bool false, .int .i64 0, .slice none 0 0, .int .i64 0, .int .i64 0, .int .i64 0, .int .i64 0, .int .i64 0, .int .i64 0, .bool false, .slice none 0 0, .int .i64 0, .int .i64 0, .bool false, .int .i64 0, .int .i64 0, .int .i64 0, .bool false] := vO_
  clear vO_ vO
  have vO := vO1
  clear vO1
  have t1 : Turned (fun b => b = w1.heap.size) w3 w3' := t_
  clear t_
  have HC3' : Hid (CurV 77 (w.heap.size + 1) zs _ q2 w3') := HC3.out.keep t1 (fun b hb => by omega)
  have vR_ := vR.turn t1 (by omega)
  clear vR
  have vR := vR_
  clear vR_
  have HT_ : Hid (Below w.heap.size w w3') := Turned.below HT.out t1 HT.out.size (fun i hi => by omega)
  clear HT
  have HT := HT_
  clear HT_
  have hy3 := t1.size
  clear t1 HC3
  have HC3 := HC3'
  clear HC3'
  refine Calls.mono (H3.out _ HC3.out) ?_
  rintro e w4 ⟨rfl, hc_, t_⟩
  have HT_ : Hid (Below w.heap.size w w4) := Turned.below HT.out t_ HT.out.size (fun i hi => by omega)
  clear HT
  have HT := HT_
  clear HT_
  have vR_ := vR.turn t_ (by omega)
  clear vR
  have vR := vR_
  clear vR_
  have hx3 := t_.size
  have vO_ := vO.turn t_ (by omega)
  clear vO
  have vO := vO_
  clear vO_
  have HC4 : Hid (CurV 77 (w.heap.size + 1) zs _ q3 w4) := hc_
  clear hc_ t_ H3 HC3
  dsimp only
  repeat (first | ((with_reducible refine guardStore (ty := 31) ?_); refine wpList_storeG vO rfl rfl rfl (by kernel_rfl) rfl (of_decide_eq_true rfl) rfl ?_; intro wz vO_ t_; have k0_ := vO_.c 0 rfl) | go_values | go_skip | go_guarded | go_step | go_upon)
  clear k0_
  have vZ : VarA wz w1.heap.size 35 #[.int .i64 n0, .int .i64 n1, .int .i64 n2, .int .i64 0, .int .i64 0, .int .i64 0, .int .i64 0, .bool false, .slice none 0 0, .int .i64 0, .int .i64 0, .bool false, .slice none 0 0, .int .i64 0, .int .i64 0, .int .i64 0, .int .i64 0, .bool false, .int .i64 0, .slice none 0 0, .int .i64 xs3, .int .i64 xb3, .int .i64 xn3, .int .i64 0, .int .i64 0, .int .i64 0, .bool false, .slice none 0 0, .int .i64 0, .int .i64 0, .bool false, .int .i64 0, .int .i64 0, .int .i64 0, .bool false] := vO_
  have t1 : Turned (fun b => b = w1.heap.size) w4 wz := t_
  have HCz : Hid (CurV 77 (w.heap.size + 1) zs (.slice va zs.length vcap) q3 wz) := HC4.out.keep t1 (fun b hb => by omega)
  have vRz := vR.turn t1 (by omega)
  have HTz : Hid (Below w.heap.size w wz) := Turned.below HT.out t1 HT.out.size (fun i hi => by omega)
  have hsz := t1.size
  have HOM : Hid (OwM wz (fun b => w1.heap.size + 1 ≤ b ∧ b < wz.heap.size) ⟨n0, n1, n2, 0, op0, rp0, (xs3, xb3, xn3), pt0, 0, hd0⟩ (.slice none 0 0) (.slice none 0 0) (.slice none 0 0) (.slice none 0 0)) := by
    refine ⟨fun _ => False, fun _ => False, fun _ => False, fun _ => False, OwV.nilB _ _, OwV.nilB _ _, OwV.nilR _ _ _ _ _, OwV.nilB _ _, ?_, ?_, ?_, ?_⟩
    · intro b hb
      rcases hb with hb | hb | hb | hb <;> first | exact hb.elim | exact ⟨by omega, by omega⟩
    · intro b hb
      refine ⟨fun h => ?_, fun h => ?_, fun h => ?_⟩ <;> first | exact hb.elim | exact h.elim | omega
    · intro b hb
      refine ⟨fun h => ?_, fun h => ?_⟩ <;> first | exact hb.elim | exact h.elim | omega
    · intro b hb h
      first | exact hb.elim | exact h.elim | omega
  clear  vO_ t_ t1 vR HT HC4 vO dk0 dk1 dk2 dk3 dk5 dk6 dk7
  try simp only [Act.put]
  obtain ⟨c0, c1⟩ := VarA.l2 HCz.out.1
  have hltc := HCz.out.lt
  haveI : Nonempty (Cls wz) := Cls.ne wz
  have k1_ := Cls.cell hltc c1
  have hVM : ∀ W, (∃ i : Cls wz, W = i.W) → VarA W w1.heap.size 35 #[.int .i64 n0, .int .i64 n1, .int .i64 n2, .int .i64 0, .int .i64 0, .int .i64 0, .int .i64 0, .bool false, .slice none 0 0, .int .i64 0, .int .i64 0, .bool false, .slice none 0 0, .int .i64 0, .int .i64 0, .int .i64 0, .int .i64 0, .bool false, .int .i64 0, .slice none 0 0, .int .i64 xs3, .int .i64 xb3, .int .i64 xn3, .int .i64 0, .int .i64 0, .int .i64 0, .bool false, .slice none 0 0, .int .i64 0, .int .i64 0, .bool false, .int .i64 0, .int .i64 0, .int .i64 0, .bool false] := fun W ⟨i, hi⟩ => by rw [hi]; exact VarA.step vZ i.h
  by_cases hqq : q3 = zs.length
  case neg =>
    have h_ := HRR.out
    rw [if_neg (fun h => hqq h.1)] at h_
    simp only [Prod.mk.injEq] at h_
    obtain ⟨rfl, rfl⟩ := h_
    clear HRR
    have f1 : (q3 == (zs.length : Int)) = false := by simpa using hqq
    have f2 : (q3 != (zs.length : Int)) = true := by simpa using hqq
    have f3 : decide (q3 = (zs.length : Int)) = false := by simpa using hqq
    refine wp_region_cls (by kernel_rfl) (by kernel_rfl) ?_
    repeat (go_big_quiet_step (fail))
    refine wpQuiet_nil ?_
    rintro w' ⟨⟨w', b_⟩, rfl⟩
    have vR9 := vRz.step b_
    have B9 : Hid (Below w.heap.size w w') := HTz.out.trans (b_.mono HTz.out.size)
    clear vRz HTz vZ HCz HOM HOK HBY b_ this hVM k1_
    repeat (first | ((with_reducible refine guardStore (ty := 35) ?_); refine wpList_storeF vR9 rfl rfl (by kernel_rfl) rfl (of_decide_eq_true rfl) rfl ?_; intro w' vR_ t_) | go_values | go_skip | go_guarded | go_step | go_upon)
    refine bodyPost_ret (results_row_tmp Tryz.results13 _ _ _ _ _ _ rfl vR_ Tryz.underlying35 rfl (by kernel_rfl)) rfl ?_
    exact ⟨none, 0, 0, none, 0, 0, none, 0, 0, none, 0, 0, rfl, OwM.nil _ _, Turned.below B9.out t_ B9.out.size (fun i hi => by omega)⟩
  have f1 : (q3 == (zs.length : Int)) = true := by simpa using hqq
  have f2 : (q3 != (zs.length : Int)) = false := by simpa using hqq
  have f3 : decide (q3 = (zs.length : Int)) = true := by simpa using hqq
  cases okB
  · have h_ := HRR.out
    rw [if_neg (fun h => by cases h.2.1)] at h_
    simp only [Prod.mk.injEq] at h_
    obtain ⟨rfl, rfl⟩ := h_
    clear HRR
    refine wp_region_cls (by kernel_rfl) (by kernel_rfl) ?_
    repeat (go_big_quiet_step (fail))
    (refine wpQuiet_loadA hVM rfl rfl Tryz.underlying35 rfl (by kernel_rfl) ?_); simp only [Act.put, List.setIfInBounds_toArray, List.set_cons_succ, List.set_cons_zero]
    repeat (go_big_quiet_step (first | (go_at_call 7; exact Calls.cls (HOK.out _ _ _ _ _ _ (HOM.out.rd.step (Cls.h _))))))
    refine wpQuiet_nil ?_
    rintro w' ⟨⟨w', b_⟩, rfl⟩
    have vR9 := vRz.step b_
    have B9 : Hid (Below w.heap.size w w') := HTz.out.trans (b_.mono HTz.out.size)
    clear vRz HTz vZ HCz HOM HOK HBY b_ this hVM k1_
    repeat (first | ((with_reducible refine guardStore (ty := 35) ?_); refine wpList_storeF vR9 rfl rfl (by kernel_rfl) rfl (of_decide_eq_true rfl) rfl ?_; intro w' vR_ t_) | go_values | go_skip | go_guarded | go_step | go_upon)
    refine bodyPost_ret (results_row_tmp Tryz.results13 _ _ _ _ _ _ rfl vR_ Tryz.underlying35 rfl (by kernel_rfl)) rfl ?_
    exact ⟨none, 0, 0, none, 0, 0, none, 0, 0, none, 0, 0, rfl, OwM.nil _ _, Turned.below B9.out t_ B9.out.size (fun i hi => by omega)⟩
  · clear k1_ this hVM
    obtain ⟨bz, hbz⟩ : ∃ b : Bool, decide (zB = zs) = b := ⟨_, rfl⟩
    refine wp_region_noPanic ?_
    refine wp_region_cur (by kernel_rfl) HCz.out vZ (fun hHeld => ?_)
    refine wpAnyH_take (i := 0) (v := ?_) rfl (by kernel_rfl) (by kernel_rfl) (by kernel_rfl) (fun _ _ _ h => h) (Or.inl ⟨by rfl, ?_⟩) (by assumption) ?_
    rotate_left
    · (intro w_ hSw_; go_simp; try with_reducible rfl)
    try simp only [Act.put, List.setIfInBounds_toArray, List.set_cons_zero, List.set_cons_succ, List.getElem_toArray, List.getElem_cons_zero, List.getElem_cons_succ]
    refine wpAnyH_take (i := 1) (v := ?_) rfl (by kernel_rfl) (by kernel_rfl) (by kernel_rfl) (fun _ _ _ h => h) (Or.inl ⟨by rfl, ?_⟩) (by assumption) ?_
    rotate_left
    · (intro w_ hSw_; go_simp; try with_reducible rfl)
    try simp only [Act.put, List.setIfInBounds_toArray, List.set_cons_zero, List.set_cons_succ, List.getElem_toArray, List.getElem_cons_zero, List.getElem_cons_succ]
    refine wpAnyH_take (i := 2) (v := ?_) rfl (by kernel_rfl) (by kernel_rfl) (by kernel_rfl) (fun _ _ _ h => h) (Or.inl ⟨by rfl, ?_⟩) (by assumption) ?_
    rotate_left
    · (intro w_ hSw_; go_simp; try with_reducible rfl)
    try simp only [Act.put, List.setIfInBounds_toArray, List.set_cons_zero, List.set_cons_succ, List.getElem_toArray, List.getElem_cons_zero, List.getElem_cons_succ]
    refine wpAnyH_take (i := 3) (v := ?_) rfl (by kernel_rfl) (by kernel_rfl) (by kernel_rfl) (fun _ _ _ h => h) (Or.inl ⟨by rfl, ?_⟩) (by assumption) ?_
    rotate_left
    · (intro w_ hSw_; have q_ := VarA.c hSw_.1.1 1 rfl; go_simp; try with_reducible rfl)
    try simp only [Act.put, List.setIfInBounds_toArray, List.set_cons_zero, List.set_cons_succ, List.getElem_toArray, List.getElem_cons_zero, List.getElem_cons_succ]
    refine wpAnyH_take (i := 4) (v := ?_) rfl (by kernel_rfl) (by kernel_rfl) (by kernel_rfl) (fun _ _ _ h => h) (Or.inl ⟨by rfl, ?_⟩) (by assumption) ?_
    rotate_left
    · (intro w_ hSw_; go_simp; try with_reducible rfl)
    try simp only [Act.put, List.setIfInBounds_toArray, List.set_cons_zero, List.set_cons_succ, List.getElem_toArray, List.getElem_cons_zero, List.getElem_cons_succ]
    refine wpAnyH_take (i := 5) (v := ?_) rfl (by kernel_rfl) (by kernel_rfl) (by kernel_rfl) (fun _ _ _ h => h) (Or.inl ⟨by rfl, ?_⟩) (by assumption) ?_
    rotate_left
    · (intro w_ hSw_; go_simp; try with_reducible rfl)
    try simp only [Act.put, List.setIfInBounds_toArray, List.set_cons_zero, List.set_cons_succ, List.getElem_toArray, List.getElem_cons_zero, List.getElem_cons_succ]
    refine wpAnyH_take (i := 6) (v := ?_) rfl (by kernel_rfl) (by kernel_rfl) (by kernel_rfl) (fun _ _ _ h => h) (Or.inl ⟨by rfl, ?_⟩) (by assumption) ?_
    rotate_left
    · (intro w_ hSw_; go_simp; try with_reducible rfl)
    try simp only [Act.put, List.setIfInBounds_toArray, List.set_cons_zero, List.set_cons_succ, List.getElem_toArray, List.getElem_cons_zero, List.getElem_cons_succ]
    refine wpAnyH_take (i := 7) (v := ?_) rfl (by kernel_rfl) (by kernel_rfl) (by kernel_rfl) (fun _ _ _ h => h) (Or.inl ⟨by rfl, ?_⟩) (by assumption) ?_
    rotate_left
    · (intro w_ hSw_; go_simp; try with_reducible rfl)
    try simp only [Act.put, List.setIfInBounds_toArray, List.set_cons_zero, List.set_cons_succ, List.getElem_toArray, List.getElem_cons_zero, List.getElem_cons_succ]
    refine wpAnyH_take (i := 8) (v := _) rfl (by kernel_rfl) (by kernel_rfl) (by kernel_rfl) (fun _ _ _ h => h) (Or.inl ⟨by rfl, fun w_ hS_ => loadOp_run hS_.2 rfl Tryz.underlying35 rfl (by kernel_rfl)⟩) (by assumption) ?_
    try simp only [Act.put, List.setIfInBounds_toArray, List.set_cons_zero, List.set_cons_succ, List.getElem_toArray, List.getElem_cons_zero, List.getElem_cons_succ]
    refine wpAnyH_ready (rs := [9]) (by kernel_rfl) (by simp) ?_
    refine AllReadyH.cons rfl (fun K hK => ?_) AllReadyH.nil
    go_simp
    refine Calls.mono (HOK.out _ _ _ _ _ wz.drew (HOM.out.rd.step (Below.drew (Below.refl _ _)))) ?_
    rintro e wy ⟨rfl, b_⟩
    have by_ : Below wz.heap.size wz wy := (Below.drew (Below.refl _ _)).trans b_
    have hcy := HCz.out.step by_
    have vy := vZ.step by_
    clear b_
    refine hK.out _ _ ⟨hcy, vy⟩ (fun hHeld => ?_)
    clear hK K
    try simp only [Act.put, List.setIfInBounds_toArray, List.set_cons_zero, List.set_cons_succ, List.getElem_toArray, List.getElem_cons_zero, List.getElem_cons_succ]
    refine wpAnyH_take (i := 10) (v := ?_) rfl (by kernel_rfl) (by kernel_rfl) (by kernel_rfl) (fun _ _ _ h => h) (Or.inl ⟨by rfl, ?_⟩) (by assumption) ?_
    rotate_left
    · (intro w_ hSw_; go_simp; try with_reducible rfl)
    try simp only [Act.put, List.setIfInBounds_toArray, List.set_cons_zero, List.set_cons_succ, List.getElem_toArray, List.getElem_cons_zero, List.getElem_cons_succ]
    refine wpAnyH_take (i := 11) (v := ?_) rfl (by kernel_rfl) (by kernel_rfl) (by kernel_rfl) (fun _ _ _ h => h) (Or.inl ⟨by rfl, ?_⟩) (by assumption) ?_
    rotate_left
    · (intro w_ hSw_; go_simp; try with_reducible rfl)
    try simp only [Act.put, List.setIfInBounds_toArray, List.set_cons_zero, List.set_cons_succ, List.getElem_toArray, List.getElem_cons_zero, List.getElem_cons_succ]
    refine wpAnyH_take (i := 12) (v := ?_) rfl (by kernel_rfl) (by kernel_rfl) (by kernel_rfl) (fun _ _ _ h => h) (Or.inl ⟨by rfl, ?_⟩) (by assumption) ?_
    rotate_left
    · (intro w_ hSw_; go_simp; try with_reducible rfl)
    try simp only [Act.put, List.setIfInBounds_toArray, List.set_cons_zero, List.set_cons_succ, List.getElem_toArray, List.getElem_cons_zero, List.getElem_cons_succ]
    refine wpAnyH_take (i := 13) (v := _) rfl (by kernel_rfl) (by kernel_rfl) (by kernel_rfl) (fun _ _ _ h => h) (Or.inl ⟨by rfl, fun w_ hS_ => loadOp_run hS_.2 rfl Tryz.underlying35 rfl (by kernel_rfl)⟩) (by assumption) ?_
    try simp only [Act.put, List.setIfInBounds_toArray, List.set_cons_zero, List.set_cons_succ, List.getElem_toArray, List.getElem_cons_zero, List.getElem_cons_succ]
    refine wpAnyH_take (i := 16) (v := ?_) rfl (by kernel_rfl) (by kernel_rfl) (by kernel_rfl) (fun _ _ _ h => h) (Or.inl ⟨by rfl, ?_⟩) (by assumption) ?_
    rotate_left
    · (intro w_ hSw_; go_simp; try with_reducible rfl)
    try simp only [Act.put, List.setIfInBounds_toArray, List.set_cons_zero, List.set_cons_succ, List.getElem_toArray, List.getElem_cons_zero, List.getElem_cons_succ]
    refine wpAnyH_take (i := 17) (v := ?_) rfl (by kernel_rfl) (by kernel_rfl) (by kernel_rfl) (fun _ _ _ h => h) (Or.inl ⟨by rfl, ?_⟩) (by assumption) ?_
    rotate_left
    · (intro w_ hSw_; have q_ := conv_any _ zs _ vcap w_ (RdV.rd0 hSw_.1.2.1) rfl; go_simp; try with_reducible rfl)
    try simp only [Act.put, List.setIfInBounds_toArray, List.set_cons_zero, List.set_cons_succ, List.getElem_toArray, List.getElem_cons_zero, List.getElem_cons_succ]
    refine wpAnyH_ready (rs := [14]) (by kernel_rfl) (by simp) ?_
    refine AllReadyH.cons rfl (fun K hK => ?_) AllReadyH.nil
    go_simp
    refine Calls.mono (HBY.out _ _ _ _ _ _ (HOM.out.rd.step by_) rfl) ?_
    rintro e wx ⟨u, rfl, zu, ou, b_⟩
    obtain ⟨ua, ul, uc, rfl, rfl, hur, _⟩ := ou.openNil zu
    have hcu := conv_any ua zB _ uc wx hur rfl
    have hst := (str_eq zB zs zu hz).trans hbz
    have bx_ : Below wz.heap.size wz wx := by_.trans (b_.mono by_.size)
    have hcx := HCz.out.step bx_
    have vx := vZ.step bx_
    clear b_ ou
    refine hK.out _ _ ⟨hcx, vx⟩ (fun hHeld => ?_)
    clear hK K
    try simp only [Act.put, List.setIfInBounds_toArray, List.set_cons_zero, List.set_cons_succ, List.getElem_toArray, List.getElem_cons_zero, List.getElem_cons_succ]
    refine wpAnyH_ready (rs := [15]) (by kernel_rfl) (by simp) ?_
    refine AllReadyH.cons rfl (fun K hK => ?_) AllReadyH.nil
    go_simp
    refine hK.out _ _ ⟨hcx, vx⟩ (fun hHeld => ?_)
    clear hK K
    try simp only [Act.put, List.setIfInBounds_toArray, List.set_cons_zero, List.set_cons_succ, List.getElem_toArray, List.getElem_cons_zero, List.getElem_cons_succ]
    refine wpAnyH_take (i := 18) (v := ?_) rfl (by kernel_rfl) (by kernel_rfl) (by kernel_rfl) (fun _ _ _ h => h) (Or.inl ⟨by rfl, ?_⟩) (by assumption) ?_
    rotate_left
    · (intro w_ hSw_; go_simp; try with_reducible rfl)
    try simp only [Act.put, List.setIfInBounds_toArray, List.set_cons_zero, List.set_cons_succ, List.getElem_toArray, List.getElem_cons_zero, List.getElem_cons_succ]
    refine wpAnyH_take (i := 19) (v := ?_) rfl (by kernel_rfl) (by kernel_rfl) (by kernel_rfl) (fun _ _ _ h => h) (Or.inl ⟨by rfl, ?_⟩) (by assumption) ?_
    rotate_left
    · (intro w_ hSw_; go_simp; try with_reducible rfl)
    try simp only [Act.put, List.setIfInBounds_toArray, List.set_cons_zero, List.set_cons_succ, List.getElem_toArray, List.getElem_cons_zero, List.getElem_cons_succ]
    refine wpAnyH_done (by kernel_rfl) (NoPanic.normal ?_) _
    have vR9 := vRz.step bx_
    have B9 : Hid (Below w.heap.size w wx) := HTz.out.trans (bx_.mono HTz.out.size)
    have HO9 : Hid (OwM wx (fun b => w1.heap.size + 1 ≤ b ∧ b < wz.heap.size) ⟨n0, n1, n2, 0, op0, rp0, (xs3, xb3, xn3), pt0, 0, hd0⟩ (.slice none 0 0) (.slice none 0 0) (.slice none 0 0) (.slice none 0 0)) := HOM.out.keep (Keeps.ofBelow bx_)
    have hs9 := bx_.size
    clear hHeld hcx hcy vy vRz HTz vZ HCz HOM HOK HBY hcu hst bx_ by_
    cases bz
    · have hzB : ¬ zB = zs := by simpa using hbz
      have h_ := HRR.out
      rw [if_neg (fun h => hzB h.2.2)] at h_
      simp only [Prod.mk.injEq] at h_
      obtain ⟨rfl, rfl⟩ := h_
      clear HRR vx HO9
      repeat (first | ((with_reducible refine guardStore (ty := 35) ?_); refine wpList_storeF vR9 rfl rfl (by kernel_rfl) rfl (of_decide_eq_true rfl) rfl ?_; intro w' vR_ t_) | go_values | go_skip | go_guarded | go_step | go_upon)
      refine bodyPost_ret (results_row_tmp Tryz.results13 _ _ _ _ _ _ rfl vR_ Tryz.underlying35 rfl (by kernel_rfl)) rfl ?_
      exact ⟨none, 0, 0, none, 0, 0, none, 0, 0, none, 0, 0, rfl, OwM.nil _ _, Turned.below B9.out t_ B9.out.size (fun i hi => by omega)⟩
    · have hzB : zB = zs := by simpa using hbz
      have h_ := HRR.out
      rw [if_pos ⟨hqq, rfl, hzB⟩] at h_
      simp only [Prod.mk.injEq] at h_
      obtain ⟨rfl, rfl⟩ := h_
      clear HRR
      repeat (first | ((with_reducible refine guardLoad (ty := 35) ?_); refine wpList_loadA vx rfl Tryz.underlying35 rfl (by kernel_rfl) ?_) | ((with_reducible refine guardStore (ty := 35) ?_); refine wpList_storeF vR9 rfl rfl (by kernel_rfl) rfl (of_decide_eq_true rfl) rfl ?_; intro w' vR_ t_) | go_values | go_skip | go_guarded | go_step | go_upon)
      refine bodyPost_ret (results_row_tmp Tryz.results13 _ _ _ _ _ _ rfl vR_ Tryz.underlying35 rfl (by kernel_rfl)) rfl ?_
      have hs10 := t_.size
      exact ⟨_, _, _, _, _, _, _, _, _, _, _, _, rfl, (HO9.out.keep (t_.keeps (fun b hb hs => by omega))).mono (fun b hb => ⟨by omega, by omega⟩), Turned.below B9.out t_ B9.out.size (fun i hi => by omega)⟩
end Go.Proofs.YtbnjhjgjmckedaaGreat
end
