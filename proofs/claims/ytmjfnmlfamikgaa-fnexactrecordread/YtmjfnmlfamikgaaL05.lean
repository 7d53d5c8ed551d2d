/- Joined: RdT1 RdT2 RdT3. -/
import Derived.Test.YtmjfnmlfamikgaaL04

section
/- The specification's RecordRead, kind by kind. Condition: at most 2,000,000 bytes. -/
namespace Go.Proofs.Ytmjfnmlfamikgaa
open Go.RowKit
set_option linter.unusedVariables false
set_option linter.unusedSimpArgs false
set_option maxRecDepth 100000

set_option maxHeartbeats 16000000 in
theorem specRead1 (v : Value) (zs : List Int) (S : Nat → Prop) (w : World) (r : RdV w S v (.bytes zs)) (hl : zs.length ≤ 2000000) (hk : (getNum zs 0).1 = 1) :
    Calls Try.prog 17 #[v] w fun e w' => ∃ a1 n1 c1 a2 n2 c2 a3 n3 c3 a4 n4 c4, e = .returned (.tuple #[rcV (recRead zs).1 (.slice a1 n1 c1) (.slice a2 n2 c2) (.slice a3 n3 c3) (.slice a4 n4 c4), .bool (recRead zs).2]) ∧ OwM w' (fun b => w.heap.size ≤ b ∧ b < w'.heap.size) (recRead zs).1 (.slice a1 n1 c1) (.slice a2 n2 c2) (.slice a3 n3 c3) (.slice a4 n4 c4) ∧ Below w.heap.size w w' := by
  have hz := RdV.zs r
  obtain ⟨va, vcap, rfl⟩ := r.sliceB
  obtain ⟨v, hv⟩ : ∃ v, v = Value.slice va zs.length vcap := ⟨_, rfl⟩
  rw [← hv] at r
  have HS : Hid (∀ o, CurV 91 (w.heap.size + 1) zs v 0 ((w.alloc o).alloc (.cells #[v, .int .i64 0] 91))) := fun o => CurV.start _ o r
  have hsz := szRc (rdEnS zs) (szS zs) zs
  rw [recRead_spec hz]
  clear r
  obtain ⟨n0, q0, e0⟩ : ∃ x q, getNum zs 0 = (x, q) := ⟨_, _, rfl⟩
  have H0 : Hid (∀ W, CurV 91 (w.heap.size + 1) zs v 0 W → _) := fun W hW => by have h_ := specNumC (w.heap.size + 1) zs v 0 W hW hl; rw [e0] at h_; exact h_
  obtain ⟨n1, q1, e1⟩ : ∃ x q, getNum zs q0 = (x, q) := ⟨_, _, rfl⟩
  have H1 : Hid (∀ W, CurV 91 (w.heap.size + 1) zs v q0 W → _) := fun W hW => by have h_ := specNumC (w.heap.size + 1) zs v q0 W hW hl; rw [e1] at h_; exact h_
  obtain ⟨n2, q2, e2⟩ : ∃ x q, getNum zs q1 = (x, q) := ⟨_, _, rfl⟩
  have H2 : Hid (∀ W, CurV 91 (w.heap.size + 1) zs v q1 W → _) := fun W hW => by have h_ := specNumC (w.heap.size + 1) zs v q1 W hW hl; rw [e2] at h_; exact h_
  obtain ⟨⟨ok3, ⟨op3, oq3, od3⟩, nm3, ⟨tp3, tq3, td3⟩, asn3, ov3⟩, q3, e3⟩ : ∃ x q, rdOp zs q2 = (x, q) := ⟨_, _, rfl⟩
  have H3 : Hid (∀ W, CurV 91 (w.heap.size + 1) zs v q2 W → _) := fun W hW => by have h_ := specOpC (w.heap.size + 1) zs v q2 W hW hl; rw [e3] at h_; exact h_
  obtain ⟨⟨hs4, hi4, hd4⟩, q4, e4⟩ : ∃ x q, rdHd zs q3 = (x, q) := ⟨_, _, rfl⟩
  have H4 : Hid (∀ W, CurV 91 (w.heap.size + 1) zs v q3 W → _) := fun W hW => by have h_ := specHandC (w.heap.size + 1) zs v q3 W hW hl; rw [e4] at h_; exact h_
  obtain ⟨⟨rc5, ⟨rp5, rq5, rd5⟩, rv5, es5⟩, q5, e5⟩ : ∃ x q, rdRp (rdEnS zs) zs q4 = (x, q) := ⟨_, _, rfl⟩
  have H5 : Hid (∀ W, CurV 91 (w.heap.size + 1) zs v q4 W → _) := fun W hW => by have h_ := specReplyC (w.heap.size + 1) zs v q4 W hW hl; rw [e5] at h_; exact h_
  rw [e0] at hk
  dsimp only at hk
  subst hk
  have hR : rdRc (rdEnS zs) zs = (⟨1, n1, 0, n2, ⟨ok3, (op3, oq3, od3), nm3, (tp3, tq3, td3), asn3, ov3⟩, ⟨rc5, (rp5, rq5, rd5), rv5, es5⟩, tx0, pt0, 0, (hs4, hi4, hd4)⟩, q5) := by simp [rdRc, e0, e1, e2, e3, e4, e5]
  rw [hR] at hsz ⊢
  clear hR e0 e1 e2 e3 e4 e5
  dsimp only at hsz ⊢
  have HOK : Hid (∀ x y z u S W, RdM W S ⟨1, n1, 0, n2, ⟨ok3, (op3, oq3, od3), nm3, (tp3, tq3, td3), asn3, ov3⟩, ⟨rc5, (rp5, rq5, rd5), rv5, es5⟩, tx0, pt0, 0, (hs4, hi4, hd4)⟩ x y z u → _) := fun x y z u S W hW => specRecordOk_any x y z u _ S W hW (by omega)
  have HBY : Hid (∀ x y z u S W, RdM W S ⟨1, n1, 0, n2, ⟨ok3, (op3, oq3, od3), nm3, (tp3, tq3, td3), asn3, ov3⟩, ⟨rc5, (rp5, rq5, rd5), rv5, es5⟩, tx0, pt0, 0, (hs4, hi4, hd4)⟩ x y z u → COk ⟨1, n1, 0, n2, ⟨ok3, (op3, oq3, od3), nm3, (tp3, tq3, td3), asn3, ov3⟩, ⟨rc5, (rp5, rq5, rd5), rv5, es5⟩, tx0, pt0, 0, (hs4, hi4, hd4)⟩ = true → _) := fun x y z u S W hW ho => specRecB_any _ x y z u S W hW (by omega) ho
  obtain ⟨mR, bR, hRR⟩ : ∃ a b, (if q5 = zs.length ∧ COk ⟨1, n1, 0, n2, ⟨ok3, (op3, oq3, od3), nm3, (tp3, tq3, td3), asn3, ov3⟩, ⟨rc5, (rp5, rq5, rd5), rv5, es5⟩, tx0, pt0, 0, (hs4, hi4, hd4)⟩ = true ∧ rcB ⟨1, n1, 0, n2, ⟨ok3, (op3, oq3, od3), nm3, (tp3, tq3, td3), asn3, ov3⟩, ⟨rc5, (rp5, rq5, rd5), rv5, es5⟩, tx0, pt0, 0, (hs4, hi4, hd4)⟩ = zs then (⟨1, n1, 0, n2, ⟨ok3, (op3, oq3, od3), nm3, (tp3, tq3, td3), asn3, ov3⟩, ⟨rc5, (rp5, rq5, rd5), rv5, es5⟩, tx0, pt0, 0, (hs4, hi4, hd4)⟩, true) else (ms0, false)) = (a, b) := ⟨_, _, rfl⟩
  rw [hRR]
  have HRR : Hid ((if q5 = zs.length ∧ COk ⟨1, n1, 0, n2, ⟨ok3, (op3, oq3, od3), nm3, (tp3, tq3, td3), asn3, ov3⟩, ⟨rc5, (rp5, rq5, rd5), rv5, es5⟩, tx0, pt0, 0, (hs4, hi4, hd4)⟩ = true ∧ rcB ⟨1, n1, 0, n2, ⟨ok3, (op3, oq3, od3), nm3, (tp3, tq3, td3), asn3, ov3⟩, ⟨rc5, (rp5, rq5, rd5), rv5, es5⟩, tx0, pt0, 0, (hs4, hi4, hd4)⟩ = zs then (⟨1, n1, 0, n2, ⟨ok3, (op3, oq3, od3), nm3, (tp3, tq3, td3), asn3, ov3⟩, ⟨rc5, (rp5, rq5, rd5), rv5, es5⟩, tx0, pt0, 0, (hs4, hi4, hd4)⟩, true) else (ms0, false)) = (mR, bR)) := hRR
  clear hRR hsz
  generalize COk ⟨1, n1, 0, n2, ⟨ok3, (op3, oq3, od3), nm3, (tp3, tq3, td3), asn3, ov3⟩, ⟨rc5, (rp5, rq5, rd5), rv5, es5⟩, tx0, pt0, 0, (hs4, hi4, hd4)⟩ = okB at HOK HBY HRR
  generalize rcB ⟨1, n1, 0, n2, ⟨ok3, (op3, oq3, od3), nm3, (tp3, tq3, td3), asn3, ov3⟩, ⟨rc5, (rp5, rq5, rd5), rv5, es5⟩, tx0, pt0, 0, (hs4, hi4, hd4)⟩ = zB at HBY HRR
  dsimp only
  subst hv
  go_enter Try.func17, Try.ntmps17
  go_wp2_with fail
  refine Calls.mono (H0.out _ (HS.out _)) ?_
  rintro e w1 ⟨rfl, hc_, t_⟩
  have hx0 := t_.size
  simp at hx0
  have HT : Hid (Below w.heap.size w w1) := Turned.below ((Below.new1 (w := w) _).trans ((Below.new1 (w := w.alloc _) _).mono (by simp))) t_ (by simp <;> omega) (fun i hi => by omega)
  have vR : VarA w1 w.heap.size 48 #[.int .i64 0, .int .i64 0, .int .i64 0, .int .i64 0, .int .i64 0, .int .i64 0, .bool false, .slice none 0 0, .int .i64 0, .int .i64 0, .bool false, .slice none 0 0, .int .i64 0, .int .i64 0, .int .i64 0, .bool false, .int .i64 0, .int .i64 0, .int .i64 0, .bool false, .int .i64 0, .slice none 0 0, .int .i64 0, .int .i64 0, .int .i64 0, .int .i64 0, .int .i64 0, .int .i64 0, .bool false, .slice none 0 0, .int .i64 0, .int .i64 0, .bool false, .int .i64 0] := VarA.turn ((VarA.new w _ _).alloc _) t_ (by omega)
  clear HS
  have HC1 : Hid (CurV 91 (w.heap.size + 1) zs _ q0 w1) := hc_
  clear hc_ t_ H0
  dsimp only
  repeat (first | ((with_reducible refine guardStore (ty := 48) ?_); refine wpList_storeF (VarA.new w1 _ _) rfl rfl (by kernel_rfl) rfl (of_decide_eq_true rfl) rfl ?_; intro w1' vO t_; have k0_ := vO.c 0 rfl) | go_values | go_skip | go_guarded | go_step | go_upon)
  clear k0_
  have vO_ : VarA w1' w1.heap.size 48 #[.int .i64 1, .int .i64 0, .int .i64 0, .int .i64 0, .int .i64 0, .int .i64 0, .bool false, .slice none 0 0, .int .i64 0, .int .i64 0, .bool false, .slice none 0 0, .int .i64 0, .int .i64 0, .int .i64 0, .bool false, .int .i64 0, .int .i64 0, .int .i64 0, .bool false, .int .i64 0, .slice none 0 0, .int .i64 0, .int .i64 0, .int .i64 0, .int .i64 0, .int .i64 0, .int .i64 0, .bool false, .slice none 0 0, .int .i64 0, .int .i64 0, .bool false, .int .i64 0] := vO
  clear vO
  have t1 : Turned (fun b => b = w1.heap.size) w1 w1' := (Turned.ofBelow (Below.new1 (w := w1) _)).trans t_
  clear t_
  have vO := vO_
  clear vO_
  have HC1' : Hid (CurV 91 (w.heap.size + 1) zs _ q0 w1') := HC1.out.keep t1 (fun b hb => by omega)
  have vR_ := vR.turn t1 (by omega)
  clear vR
  have vR := vR_
  clear vR_
  have HT_ : Hid (Below w.heap.size w w1') := Turned.below HT.out t1 HT.out.size (fun i hi => by omega)
  clear HT
  have HT := HT_
  clear HT_
  have hy1 := t1.size
  have hob := VarA.lt vO
  clear t1 HC1
  have HC1 := HC1'
  clear HC1'
  refine Calls.mono (H1.out _ HC1.out) ?_
  rintro e w2 ⟨rfl, hc_, t_⟩
  have HT_ : Hid (Below w.heap.size w w2) := Turned.below HT.out t_ HT.out.size (fun i hi => by omega)
  clear HT
  have HT := HT_
  clear HT_
  have vR_ := vR.turn t_ (by omega)
  clear vR
  have vR := vR_
  clear vR_
  have hx1 := t_.size
  have vO_ := vO.turn t_ (by omega)
  clear vO
  have vO := vO_
  clear vO_
  have HC2 : Hid (CurV 91 (w.heap.size + 1) zs _ q1 w2) := hc_
  clear hc_ t_ H1 HC1
  dsimp only
  repeat (first | ((with_reducible refine guardStore (ty := 3) ?_); refine wpList_storeG vO rfl rfl rfl (by kernel_rfl) rfl (of_decide_eq_true rfl) rfl ?_; intro w2' vO_ t_) | go_values | go_skip | go_guarded | go_step | go_upon)
  have vO1 : VarA w2' w1.heap.size 48 #[.int .i64 1, .int .i64 n1, .int .i64 0, .int .i64 0, .int .i64 0, .int .i64 0, .bool false, .slice none 0 0, .int .i64 0, .int .i64 0, .bool false, .slice none 0 0, .int .i64 0, .int .i64 0, .int .i64 0, .bool false, .int .i64 0, .int .i64 0, .int .i64 0, .bool false, .int .i64 0, .slice none 0 0, .int .i64 0, .int .i64 0, .int .i64 0, .int .i64 0, .int .i64 0, .int .i64 0, .bool false, .slice none 0 0, .int .i64 0, .int .i64 0, .bool false, .int .i64 0] := vO_
  clear vO_ vO
  have vO_ := vO1
  clear vO1
  have t1 : Turned (fun b => b = w1.heap.size) w2 w2' := t_
  clear t_
  have vO := vO_
  clear vO_
  have HC2' : Hid (CurV 91 (w.heap.size + 1) zs _ q1 w2') := HC2.out.keep t1 (fun b hb => by omega)
  have vR_ := vR.turn t1 (by omega)
  clear vR
  have vR := vR_
  clear vR_
  have HT_ : Hid (Below w.heap.size w w2') := Turned.below HT.out t1 HT.out.size (fun i hi => by omega)
  clear HT
  have HT := HT_
  clear HT_
  have hy2 := t1.size
  clear t1 HC2
  have HC2 := HC2'
  clear HC2'
  refine Calls.mono (H2.out _ HC2.out) ?_
  rintro e w3 ⟨rfl, hc_, t_⟩
  have HT_ : Hid (Below w.heap.size w w3) := Turned.below HT.out t_ HT.out.size (fun i hi => by omega)
  clear HT
  have HT := HT_
  clear HT_
  have vR_ := vR.turn t_ (by omega)
  clear vR
  have vR := vR_
  clear vR_
  have hx2 := t_.size
  have vO_ := vO.turn t_ (by omega)
  clear vO
  have vO := vO_
  clear vO_
  have HC3 : Hid (CurV 91 (w.heap.size + 1) zs _ q2 w3) := hc_
  clear hc_ t_ H2 HC2
  dsimp only
  repeat (first | ((with_reducible refine guardStore (ty := 3) ?_); refine wpList_storeG vO rfl rfl rfl (by kernel_rfl) rfl (of_decide_eq_true rfl) rfl ?_; intro w3' vO_ t_) | go_values | go_skip | go_guarded | go_step | go_upon)
  have vO1 : VarA w3' w1.heap.size 48 #[.int .i64 1, .int .i64 n1, .int .i64 n2, .int .i64 0, .int .i64 0, .int .i64 0, .bool false, .slice none 0 0, .int .i64 0, .int .i64 0, .bool false, .slice none 0 0, .int .i64 0, .int .i64 0, .int .i64 0, .bool false, .int .i64 0, .int .i64 0, .int .i64 0, .bool false, .int .i64 0, .slice none 0 0, .int .i64 0, .int .i64 0, .int .i64 0, .int .i64 0, .int .i64 0, .int .i64 0, .bool false, .slice none 0 0, .int .i64 0, .int .i64 0, .bool false, .int .i64 0] := vO_
  clear vO_ vO
  have vO_ := vO1
  clear vO1
  have t1 : Turned (fun b => b = w1.heap.size) w3 w3' := t_
  clear t_
  have vO := vO_
  clear vO_
  have HC3' : Hid (CurV 91 (w.heap.size + 1) zs _ q2 w3') := HC3.out.keep t1 (fun b hb => by omega)
  have vR_ := vR.turn t1 (by omega)
  clear vR
  have vR := vR_
  clear vR_
  have HT_ : Hid (Below w.heap.size w w3') := Turned.below HT.out t1 HT.out.size (fun i hi => by omega)
  clear HT
  have HT := HT_
  clear HT_
  have hy3 := t1.size
  clear t1 HC3
  have HC3 := HC3'
  clear HC3'
  refine Calls.mono (H3.out _ HC3.out) ?_
  rintro e w4 ⟨a3, l3, c3, a3y, l3y, c3y, M3, rfl, o3, o3y, hM3, hN3, hc_, t_⟩
  have HT_ : Hid (Below w.heap.size w w4) := Turned.below HT.out t_ HT.out.size (fun i hi => by omega)
  clear HT
  have HT := HT_
  clear HT_
  have vR_ := vR.turn t_ (by omega)
  clear vR
  have vR := vR_
  clear vR_
  have hx3 := t_.size
  have vO_ := vO.turn t_ (by omega)
  clear vO
  have vO := vO_
  clear vO_
  have HO3 : Hid (OwV w4 (fun b => w3'.heap.size ≤ b ∧ b < M3) (.slice a3 l3 c3) (.bytes nm3)) := o3
  clear o3
  have HO3y : Hid (OwV w4 (fun b => M3 ≤ b ∧ b < w4.heap.size) (.slice a3y l3y c3y) (.bytes asn3)) := o3y
  clear o3y
  have HC4 : Hid (CurV 91 (w.heap.size + 1) zs _ q3 w4) := hc_
  clear hc_ t_ H3 HC3
  dsimp only
  repeat (first | ((with_reducible refine guardStore (ty := 40) ?_); refine wpList_storeG vO rfl rfl rfl (by kernel_rfl) rfl (of_decide_eq_true rfl) rfl ?_; intro w4' vO_ t_) | go_values | go_skip | go_guarded | go_step | go_upon)
  have vO1 : VarA w4' w1.heap.size 48 #[.int .i64 1, .int .i64 n1, .int .i64 n2, .int .i64 ok3, .int .i64 op3, .int .i64 oq3, .bool od3, .slice a3 l3 c3, .int .i64 tp3, .int .i64 tq3, .bool td3, .slice a3y l3y c3y, .int .i64 ov3, .int .i64 0, .int .i64 0, .bool false, .int .i64 0, .int .i64 0, .int .i64 0, .bool false, .int .i64 0, .slice none 0 0, .int .i64 0, .int .i64 0, .int .i64 0, .int .i64 0, .int .i64 0, .int .i64 0, .bool false, .slice none 0 0, .int .i64 0, .int .i64 0, .bool false, .int .i64 0] := vO_
  clear vO_ vO
  have vO_ := vO1
  clear vO1
  have t1 : Turned (fun b => b = w1.heap.size) w4 w4' := t_
  clear t_
  have vO := vO_
  clear vO_
  have HC4' : Hid (CurV 91 (w.heap.size + 1) zs _ q3 w4') := HC4.out.keep t1 (fun b hb => by omega)
  have vR_ := vR.turn t1 (by omega)
  clear vR
  have vR := vR_
  clear vR_
  have HT_ : Hid (Below w.heap.size w w4') := Turned.below HT.out t1 HT.out.size (fun i hi => by omega)
  clear HT
  have HT := HT_
  clear HT_
  have hy4 := t1.size
  have HO3_ : Hid (OwV w4' (fun b => w3'.heap.size ≤ b ∧ b < M3) (.slice a3 l3 c3) (.bytes nm3)) := HO3.out.keep (t1.keeps (fun b hb hs => by omega))
  clear HO3
  have HO3 := HO3_
  clear HO3_
  have HO3y_ : Hid (OwV w4' (fun b => M3 ≤ b ∧ b < w4.heap.size) (.slice a3y l3y c3y) (.bytes asn3)) := HO3y.out.keep (t1.keeps (fun b hb hs => by omega))
  clear HO3y
  have HO3y := HO3y_
  clear HO3y_
  clear t1 HC4
  have HC4 := HC4'
  clear HC4'
  refine Calls.mono (H4.out _ HC4.out) ?_
  rintro e w5 ⟨rfl, hc_, t_⟩
  have HT_ : Hid (Below w.heap.size w w5) := Turned.below HT.out t_ HT.out.size (fun i hi => by omega)
  clear HT
  have HT := HT_
  clear HT_
  have vR_ := vR.turn t_ (by omega)
  clear vR
  have vR := vR_
  clear vR_
  have hx4 := t_.size
  have vO_ := vO.turn t_ (by omega)
  clear vO
  have vO := vO_
  clear vO_
  have HO3_ : Hid (OwV w5 (fun b => w3'.heap.size ≤ b ∧ b < M3) (.slice a3 l3 c3) (.bytes nm3)) := HO3.out.keep (t_.keeps (fun b hb hs => by omega))
  clear HO3
  have HO3 := HO3_
  clear HO3_
  have HO3y_ : Hid (OwV w5 (fun b => M3 ≤ b ∧ b < w4.heap.size) (.slice a3y l3y c3y) (.bytes asn3)) := HO3y.out.keep (t_.keeps (fun b hb hs => by omega))
  clear HO3y
  have HO3y := HO3y_
  clear HO3y_
  have HC5 : Hid (CurV 91 (w.heap.size + 1) zs _ q4 w5) := hc_
  clear hc_ t_ H4 HC4
  dsimp only
  repeat (first | ((with_reducible refine guardStore (ty := 38) ?_); refine wpList_storeG vO rfl rfl rfl (by kernel_rfl) rfl (of_decide_eq_true rfl) rfl ?_; intro w5' vO_ t_) | go_values | go_skip | go_guarded | go_step | go_upon)
  have vO1 : VarA w5' w1.heap.size 48 #[.int .i64 1, .int .i64 n1, .int .i64 n2, .int .i64 ok3, .int .i64 op3, .int .i64 oq3, .bool od3, .slice a3 l3 c3, .int .i64 tp3, .int .i64 tq3, .bool td3, .slice a3y l3y c3y, .int .i64 ov3, .int .i64 hs4, .int .i64 hi4, .bool hd4, .int .i64 0, .int .i64 0, .int .i64 0, .bool false, .int .i64 0, .slice none 0 0, .int .i64 0, .int .i64 0, .int .i64 0, .int .i64 0, .int .i64 0, .int .i64 0, .bool false, .slice none 0 0, .int .i64 0, .int .i64 0, .bool false, .int .i64 0] := vO_
  clear vO_ vO
  have vO_ := vO1
  clear vO1
  have t1 : Turned (fun b => b = w1.heap.size) w5 w5' := t_
  clear t_
  have vO := vO_
  clear vO_
  have HC5' : Hid (CurV 91 (w.heap.size + 1) zs _ q4 w5') := HC5.out.keep t1 (fun b hb => by omega)
  have vR_ := vR.turn t1 (by omega)
  clear vR
  have vR := vR_
  clear vR_
  have HT_ : Hid (Below w.heap.size w w5') := Turned.below HT.out t1 HT.out.size (fun i hi => by omega)
  clear HT
  have HT := HT_
  clear HT_
  have hy5 := t1.size
  have HO3_ : Hid (OwV w5' (fun b => w3'.heap.size ≤ b ∧ b < M3) (.slice a3 l3 c3) (.bytes nm3)) := HO3.out.keep (t1.keeps (fun b hb hs => by omega))
  clear HO3
  have HO3 := HO3_
  clear HO3_
  have HO3y_ : Hid (OwV w5' (fun b => M3 ≤ b ∧ b < w4.heap.size) (.slice a3y l3y c3y) (.bytes asn3)) := HO3y.out.keep (t1.keeps (fun b hb hs => by omega))
  clear HO3y
  have HO3y := HO3y_
  clear HO3y_
  clear t1 HC5
  have HC5 := HC5'
  clear HC5'
  refine Calls.mono (H5.out _ HC5.out) ?_
  rintro e w6 ⟨a5, l5, c5, rfl, o5, hc_, t_⟩
  have HT_ : Hid (Below w.heap.size w w6) := Turned.below HT.out t_ HT.out.size (fun i hi => by omega)
  clear HT
  have HT := HT_
  clear HT_
  have vR_ := vR.turn t_ (by omega)
  clear vR
  have vR := vR_
  clear vR_
  have hx5 := t_.size
  have vO_ := vO.turn t_ (by omega)
  clear vO
  have vO := vO_
  clear vO_
  have HO3_ : Hid (OwV w6 (fun b => w3'.heap.size ≤ b ∧ b < M3) (.slice a3 l3 c3) (.bytes nm3)) := HO3.out.keep (t_.keeps (fun b hb hs => by omega))
  clear HO3
  have HO3 := HO3_
  clear HO3_
  have HO3y_ : Hid (OwV w6 (fun b => M3 ≤ b ∧ b < w4.heap.size) (.slice a3y l3y c3y) (.bytes asn3)) := HO3y.out.keep (t_.keeps (fun b hb hs => by omega))
  clear HO3y
  have HO3y := HO3y_
  clear HO3y_
  have HO5 : Hid (OwV w6 (fun b => w5'.heap.size ≤ b ∧ b < w6.heap.size) (.slice a5 l5 c5) (ensDt es5)) := o5
  clear o5
  have HC6 : Hid (CurV 91 (w.heap.size + 1) zs _ q5 w6) := hc_
  clear hc_ t_ H5 HC5
  dsimp only
  repeat (first | ((with_reducible refine guardStore (ty := 43) ?_); refine wpList_storeG vO rfl rfl rfl (by kernel_rfl) rfl (of_decide_eq_true rfl) rfl ?_; intro wz vO_ t_) | go_values | go_skip | go_guarded | go_step | go_upon)
  have vZ : VarA wz w1.heap.size 48 #[.int .i64 1, .int .i64 n1, .int .i64 n2, .int .i64 ok3, .int .i64 op3, .int .i64 oq3, .bool od3, .slice a3 l3 c3, .int .i64 tp3, .int .i64 tq3, .bool td3, .slice a3y l3y c3y, .int .i64 ov3, .int .i64 hs4, .int .i64 hi4, .bool hd4, .int .i64 rc5, .int .i64 rp5, .int .i64 rq5, .bool rd5, .int .i64 rv5, .slice a5 l5 c5, .int .i64 0, .int .i64 0, .int .i64 0, .int .i64 0, .int .i64 0, .int .i64 0, .bool false, .slice none 0 0, .int .i64 0, .int .i64 0, .bool false, .int .i64 0] := vO_
  have t1 : Turned (fun b => b = w1.heap.size) w6 wz := t_
  have HCz : Hid (CurV 91 (w.heap.size + 1) zs (.slice va zs.length vcap) q5 wz) := HC6.out.keep t1 (fun b hb => by omega)
  have vRz := vR.turn t1 (by omega)
  have HTz : Hid (Below w.heap.size w wz) := Turned.below HT.out t1 HT.out.size (fun i hi => by omega)
  have hsz := t1.size
  have HO3_ : OwV wz (fun b => w3'.heap.size ≤ b ∧ b < M3) (.slice a3 l3 c3) (.bytes nm3) := HO3.out.keep (t1.keeps (fun b hb hs => by omega))
  have HO3y_ : OwV wz (fun b => M3 ≤ b ∧ b < w4.heap.size) (.slice a3y l3y c3y) (.bytes asn3) := HO3y.out.keep (t1.keeps (fun b hb hs => by omega))
  have HO5_ : OwV wz (fun b => w5'.heap.size ≤ b ∧ b < w6.heap.size) (.slice a5 l5 c5) (ensDt es5) := HO5.out.keep (t1.keeps (fun b hb hs => by omega))
  have HOM : Hid (OwM wz (fun b => w1.heap.size + 1 ≤ b ∧ b < wz.heap.size) ⟨1, n1, 0, n2, ⟨ok3, (op3, oq3, od3), nm3, (tp3, tq3, td3), asn3, ov3⟩, ⟨rc5, (rp5, rq5, rd5), rv5, es5⟩, tx0, pt0, 0, (hs4, hi4, hd4)⟩ (.slice a3 l3 c3) (.slice a3y l3y c3y) (.slice a5 l5 c5) (.slice none 0 0)) := by
    refine ⟨fun b => w3'.heap.size ≤ b ∧ b < M3, fun b => M3 ≤ b ∧ b < w4.heap.size, fun b => w5'.heap.size ≤ b ∧ b < w6.heap.size, fun _ => False, HO3_, HO3y_, HO5_, OwV.nilB _ _, ?_, ?_, ?_, ?_⟩
    · intro b hb
      rcases hb with hb | hb | hb | hb <;> first | exact hb.elim | exact ⟨by omega, by omega⟩
    · intro b hb
      refine ⟨fun h => ?_, fun h => ?_, fun h => ?_⟩ <;> first | exact hb.elim | exact h.elim | omega
    · intro b hb
      refine ⟨fun h => ?_, fun h => ?_⟩ <;> first | exact hb.elim | exact h.elim | omega
    · intro b hb h
      first | exact hb.elim | exact h.elim | omega
  clear HO3 HO3_ HO3y HO3y_ HO5 HO5_ vO_ t_ t1 vR HT HC6 vO
  try simp only [Act.put]
  obtain ⟨c0, c1⟩ := VarA.l2 HCz.out.1
  have hltc := HCz.out.lt
  haveI : Nonempty (Cls wz) := Cls.ne wz
  have k1_ := Cls.cell hltc c1
  have hVM : ∀ W, (∃ i : Cls wz, W = i.W) → VarA W w1.heap.size 48 #[.int .i64 1, .int .i64 n1, .int .i64 n2, .int .i64 ok3, .int .i64 op3, .int .i64 oq3, .bool od3, .slice a3 l3 c3, .int .i64 tp3, .int .i64 tq3, .bool td3, .slice a3y l3y c3y, .int .i64 ov3, .int .i64 hs4, .int .i64 hi4, .bool hd4, .int .i64 rc5, .int .i64 rp5, .int .i64 rq5, .bool rd5, .int .i64 rv5, .slice a5 l5 c5, .int .i64 0, .int .i64 0, .int .i64 0, .int .i64 0, .int .i64 0, .int .i64 0, .bool false, .slice none 0 0, .int .i64 0, .int .i64 0, .bool false, .int .i64 0] := fun W ⟨i, hi⟩ => by rw [hi]; exact VarA.step vZ i.h
  by_cases hqq : q5 = zs.length
  case neg =>
    have h_ := HRR.out
    rw [if_neg (fun h => hqq h.1)] at h_
    simp only [Prod.mk.injEq] at h_
    obtain ⟨rfl, rfl⟩ := h_
    clear HRR
    have f1 : (q5 == (zs.length : Int)) = false := by simpa using hqq
    have f2 : (q5 != (zs.length : Int)) = true := by simpa using hqq
    have f3 : decide (q5 = (zs.length : Int)) = false := by simpa using hqq
    refine wp_region_cls (by kernel_rfl) (by kernel_rfl) ?_
    repeat (go_big_quiet_step (fail))
    refine wpQuiet_nil ?_
    rintro w' ⟨⟨w', b_⟩, rfl⟩
    have vR9 := vRz.step b_
    have B9 : Hid (Below w.heap.size w w') := HTz.out.trans (b_.mono HTz.out.size)
    clear vRz HTz vZ HCz HOM HOK HBY b_ this hVM k1_
    repeat (first | ((with_reducible refine guardStore (ty := 48) ?_); refine wpList_storeF vR9 rfl rfl (by kernel_rfl) rfl (of_decide_eq_true rfl) rfl ?_; intro w' vR_ t_) | go_values | go_skip | go_guarded | go_step | go_upon)
    refine bodyPost_ret (results_row_tmp Try.results17 _ _ _ _ _ _ rfl vR_ Try.underlying48 rfl (by kernel_rfl)) rfl ?_
    exact ⟨none, 0, 0, none, 0, 0, none, 0, 0, none, 0, 0, rfl, OwM.nil _ _, Turned.below B9.out t_ B9.out.size (fun i hi => by omega)⟩
  have f1 : (q5 == (zs.length : Int)) = true := by simpa using hqq
  have f2 : (q5 != (zs.length : Int)) = false := by simpa using hqq
  have f3 : decide (q5 = (zs.length : Int)) = true := by simpa using hqq
  cases okB
  · have h_ := HRR.out
    rw [if_neg (fun h => by cases h.2.1)] at h_
    simp only [Prod.mk.injEq] at h_
    obtain ⟨rfl, rfl⟩ := h_
    clear HRR
    refine wp_region_cls (by kernel_rfl) (by kernel_rfl) ?_
    repeat (go_big_quiet_step (fail))
    (refine wpQuiet_loadA hVM rfl rfl Try.underlying48 rfl (by kernel_rfl) ?_); simp only [Act.put, List.setIfInBounds_toArray, List.set_cons_succ, List.set_cons_zero]
    repeat (go_big_quiet_step (first | (go_at_call 7; exact Calls.cls (HOK.out _ _ _ _ _ _ (HOM.out.rd.step (Cls.h _))))))
    refine wpQuiet_nil ?_
    rintro w' ⟨⟨w', b_⟩, rfl⟩
    have vR9 := vRz.step b_
    have B9 : Hid (Below w.heap.size w w') := HTz.out.trans (b_.mono HTz.out.size)
    clear vRz HTz vZ HCz HOM HOK HBY b_ this hVM k1_
    repeat (first | ((with_reducible refine guardStore (ty := 48) ?_); refine wpList_storeF vR9 rfl rfl (by kernel_rfl) rfl (of_decide_eq_true rfl) rfl ?_; intro w' vR_ t_) | go_values | go_skip | go_guarded | go_step | go_upon)
    refine bodyPost_ret (results_row_tmp Try.results17 _ _ _ _ _ _ rfl vR_ Try.underlying48 rfl (by kernel_rfl)) rfl ?_
    exact ⟨none, 0, 0, none, 0, 0, none, 0, 0, none, 0, 0, rfl, OwM.nil _ _, Turned.below B9.out t_ B9.out.size (fun i hi => by omega)⟩
  · clear k1_ this hVM
    obtain ⟨bz, hbz⟩ : ∃ b : Bool, decide (zB = zs) = b := ⟨_, rfl⟩
    refine wp_region_noPanic ?_
    refine wp_region_cur (by kernel_rfl) HCz.out vZ (fun hHeld => ?_)
    refine wpAnyH_take (i := 0) (v := ?_) rfl (by kernel_rfl) (by kernel_rfl) (by kernel_rfl) (fun _ _ _ h => h) (Or.inl ⟨by rfl, ?_⟩) (by assumption) ?_
    rotate_left
    · (intro w_ hSw_; go_simp; try with_reducible rfl)
    try simp only [Act.put, List.setIfInBounds_toArray, List.set_cons_zero, List.set_cons_succ, List.getElem_toArray, List.getElem_cons_zero, List.getElem_cons_succ]
    refine wpAnyH_take (i := 1) (v := ?_) rfl (by kernel_rfl) (by kernel_rfl) (by kernel_rfl) (fun _ _ _ h => h) (Or.inl ⟨by rfl, ?_⟩) (by assumption) ?_
    rotate_left
    · (intro w_ hSw_; go_simp; try with_reducible rfl)
    try simp only [Act.put, List.setIfInBounds_toArray, List.set_cons_zero, List.set_cons_succ, List.getElem_toArray, List.getElem_cons_zero, List.getElem_cons_succ]
    refine wpAnyH_take (i := 2) (v := ?_) rfl (by kernel_rfl) (by kernel_rfl) (by kernel_rfl) (fun _ _ _ h => h) (Or.inl ⟨by rfl, ?_⟩) (by assumption) ?_
    rotate_left
    · (intro w_ hSw_; go_simp; try with_reducible rfl)
    try simp only [Act.put, List.setIfInBounds_toArray, List.set_cons_zero, List.set_cons_succ, List.getElem_toArray, List.getElem_cons_zero, List.getElem_cons_succ]
    refine wpAnyH_take (i := 3) (v := ?_) rfl (by kernel_rfl) (by kernel_rfl) (by kernel_rfl) (fun _ _ _ h => h) (Or.inl ⟨by rfl, ?_⟩) (by assumption) ?_
    rotate_left
    · (intro w_ hSw_; have q_ := VarA.c hSw_.1.1 1 rfl; go_simp; try with_reducible rfl)
    try simp only [Act.put, List.setIfInBounds_toArray, List.set_cons_zero, List.set_cons_succ, List.getElem_toArray, List.getElem_cons_zero, List.getElem_cons_succ]
    refine wpAnyH_take (i := 4) (v := ?_) rfl (by kernel_rfl) (by kernel_rfl) (by kernel_rfl) (fun _ _ _ h => h) (Or.inl ⟨by rfl, ?_⟩) (by assumption) ?_
    rotate_left
    · (intro w_ hSw_; go_simp; try with_reducible rfl)
    try simp only [Act.put, List.setIfInBounds_toArray, List.set_cons_zero, List.set_cons_succ, List.getElem_toArray, List.getElem_cons_zero, List.getElem_cons_succ]
    refine wpAnyH_take (i := 5) (v := ?_) rfl (by kernel_rfl) (by kernel_rfl) (by kernel_rfl) (fun _ _ _ h => h) (Or.inl ⟨by rfl, ?_⟩) (by assumption) ?_
    rotate_left
    · (intro w_ hSw_; go_simp; try with_reducible rfl)
    try simp only [Act.put, List.setIfInBounds_toArray, List.set_cons_zero, List.set_cons_succ, List.getElem_toArray, List.getElem_cons_zero, List.getElem_cons_succ]
    refine wpAnyH_take (i := 6) (v := ?_) rfl (by kernel_rfl) (by kernel_rfl) (by kernel_rfl) (fun _ _ _ h => h) (Or.inl ⟨by rfl, ?_⟩) (by assumption) ?_
    rotate_left
    · (intro w_ hSw_; go_simp; try with_reducible rfl)
    try simp only [Act.put, List.setIfInBounds_toArray, List.set_cons_zero, List.set_cons_succ, List.getElem_toArray, List.getElem_cons_zero, List.getElem_cons_succ]
    refine wpAnyH_take (i := 7) (v := ?_) rfl (by kernel_rfl) (by kernel_rfl) (by kernel_rfl) (fun _ _ _ h => h) (Or.inl ⟨by rfl, ?_⟩) (by assumption) ?_
    rotate_left
    · (intro w_ hSw_; go_simp; try with_reducible rfl)
    try simp only [Act.put, List.setIfInBounds_toArray, List.set_cons_zero, List.set_cons_succ, List.getElem_toArray, List.getElem_cons_zero, List.getElem_cons_succ]
    refine wpAnyH_take (i := 8) (v := _) rfl (by kernel_rfl) (by kernel_rfl) (by kernel_rfl) (fun _ _ _ h => h) (Or.inl ⟨by rfl, fun w_ hS_ => loadOp_run hS_.2 rfl Try.underlying48 rfl (by kernel_rfl)⟩) (by assumption) ?_
    try simp only [Act.put, List.setIfInBounds_toArray, List.set_cons_zero, List.set_cons_succ, List.getElem_toArray, List.getElem_cons_zero, List.getElem_cons_succ]
    refine wpAnyH_ready (rs := [9]) (by kernel_rfl) (by simp) ?_
    refine AllReadyH.cons rfl (fun K hK => ?_) AllReadyH.nil
    go_simp
    refine Calls.mono (HOK.out _ _ _ _ _ wz.drew (HOM.out.rd.step (Below.drew (Below.refl _ _)))) ?_
    rintro e wy ⟨rfl, b_⟩
    have by_ : Below wz.heap.size wz wy := (Below.drew (Below.refl _ _)).trans b_
    have hcy := HCz.out.step by_
    have vy := vZ.step by_
    clear b_
    refine hK.out _ _ ⟨hcy, vy⟩ (fun hHeld => ?_)
    clear hK K
    try simp only [Act.put, List.setIfInBounds_toArray, List.set_cons_zero, List.set_cons_succ, List.getElem_toArray, List.getElem_cons_zero, List.getElem_cons_succ]
    refine wpAnyH_take (i := 10) (v := ?_) rfl (by kernel_rfl) (by kernel_rfl) (by kernel_rfl) (fun _ _ _ h => h) (Or.inl ⟨by rfl, ?_⟩) (by assumption) ?_
    rotate_left
    · (intro w_ hSw_; go_simp; try with_reducible rfl)
    try simp only [Act.put, List.setIfInBounds_toArray, List.set_cons_zero, List.set_cons_succ, List.getElem_toArray, List.getElem_cons_zero, List.getElem_cons_succ]
    refine wpAnyH_take (i := 11) (v := ?_) rfl (by kernel_rfl) (by kernel_rfl) (by kernel_rfl) (fun _ _ _ h => h) (Or.inl ⟨by rfl, ?_⟩) (by assumption) ?_
    rotate_left
    · (intro w_ hSw_; go_simp; try with_reducible rfl)
    try simp only [Act.put, List.setIfInBounds_toArray, List.set_cons_zero, List.set_cons_succ, List.getElem_toArray, List.getElem_cons_zero, List.getElem_cons_succ]
    refine wpAnyH_take (i := 12) (v := ?_) rfl (by kernel_rfl) (by kernel_rfl) (by kernel_rfl) (fun _ _ _ h => h) (Or.inl ⟨by rfl, ?_⟩) (by assumption) ?_
    rotate_left
    · (intro w_ hSw_; go_simp; try with_reducible rfl)
    try simp only [Act.put, List.setIfInBounds_toArray, List.set_cons_zero, List.set_cons_succ, List.getElem_toArray, List.getElem_cons_zero, List.getElem_cons_succ]
    refine wpAnyH_take (i := 13) (v := _) rfl (by kernel_rfl) (by kernel_rfl) (by kernel_rfl) (fun _ _ _ h => h) (Or.inl ⟨by rfl, fun w_ hS_ => loadOp_run hS_.2 rfl Try.underlying48 rfl (by kernel_rfl)⟩) (by assumption) ?_
    try simp only [Act.put, List.setIfInBounds_toArray, List.set_cons_zero, List.set_cons_succ, List.getElem_toArray, List.getElem_cons_zero, List.getElem_cons_succ]
    refine wpAnyH_take (i := 16) (v := ?_) rfl (by kernel_rfl) (by kernel_rfl) (by kernel_rfl) (fun _ _ _ h => h) (Or.inl ⟨by rfl, ?_⟩) (by assumption) ?_
    rotate_left
    · (intro w_ hSw_; go_simp; try with_reducible rfl)
    try simp only [Act.put, List.setIfInBounds_toArray, List.set_cons_zero, List.set_cons_succ, List.getElem_toArray, List.getElem_cons_zero, List.getElem_cons_succ]
    refine wpAnyH_take (i := 17) (v := ?_) rfl (by kernel_rfl) (by kernel_rfl) (by kernel_rfl) (fun _ _ _ h => h) (Or.inl ⟨by rfl, ?_⟩) (by assumption) ?_
    rotate_left
    · (intro w_ hSw_; have q_ := conv_any _ zs _ vcap w_ (RdV.rd0 hSw_.1.2.1) rfl; go_simp; try with_reducible rfl)
    try simp only [Act.put, List.setIfInBounds_toArray, List.set_cons_zero, List.set_cons_succ, List.getElem_toArray, List.getElem_cons_zero, List.getElem_cons_succ]
    refine wpAnyH_ready (rs := [14]) (by kernel_rfl) (by simp) ?_
    refine AllReadyH.cons rfl (fun K hK => ?_) AllReadyH.nil
    go_simp
    refine Calls.mono (HBY.out _ _ _ _ _ _ (HOM.out.rd.step by_) rfl) ?_
    rintro e wx ⟨u, rfl, zu, ou, b_⟩
    obtain ⟨ua, ul, uc, rfl, rfl, hur, _⟩ := ou.openNil zu
    have hcu := conv_any ua zB _ uc wx hur rfl
    have hst := (str_eq zB zs zu hz).trans hbz
    have bx_ : Below wz.heap.size wz wx := by_.trans (b_.mono by_.size)
    have hcx := HCz.out.step bx_
    have vx := vZ.step bx_
    clear b_ ou
    refine hK.out _ _ ⟨hcx, vx⟩ (fun hHeld => ?_)
    clear hK K
    try simp only [Act.put, List.setIfInBounds_toArray, List.set_cons_zero, List.set_cons_succ, List.getElem_toArray, List.getElem_cons_zero, List.getElem_cons_succ]
    refine wpAnyH_ready (rs := [15]) (by kernel_rfl) (by simp) ?_
    refine AllReadyH.cons rfl (fun K hK => ?_) AllReadyH.nil
    go_simp
    refine hK.out _ _ ⟨hcx, vx⟩ (fun hHeld => ?_)
    clear hK K
    try simp only [Act.put, List.setIfInBounds_toArray, List.set_cons_zero, List.set_cons_succ, List.getElem_toArray, List.getElem_cons_zero, List.getElem_cons_succ]
    refine wpAnyH_take (i := 18) (v := ?_) rfl (by kernel_rfl) (by kernel_rfl) (by kernel_rfl) (fun _ _ _ h => h) (Or.inl ⟨by rfl, ?_⟩) (by assumption) ?_
    rotate_left
    · (intro w_ hSw_; go_simp; try with_reducible rfl)
    try simp only [Act.put, List.setIfInBounds_toArray, List.set_cons_zero, List.set_cons_succ, List.getElem_toArray, List.getElem_cons_zero, List.getElem_cons_succ]
    refine wpAnyH_take (i := 19) (v := ?_) rfl (by kernel_rfl) (by kernel_rfl) (by kernel_rfl) (fun _ _ _ h => h) (Or.inl ⟨by rfl, ?_⟩) (by assumption) ?_
    rotate_left
    · (intro w_ hSw_; go_simp; try with_reducible rfl)
    try simp only [Act.put, List.setIfInBounds_toArray, List.set_cons_zero, List.set_cons_succ, List.getElem_toArray, List.getElem_cons_zero, List.getElem_cons_succ]
    refine wpAnyH_done (by kernel_rfl) (NoPanic.normal ?_) _
    have vR9 := vRz.step bx_
    have B9 : Hid (Below w.heap.size w wx) := HTz.out.trans (bx_.mono HTz.out.size)
    have HO9 : Hid (OwM wx (fun b => w1.heap.size + 1 ≤ b ∧ b < wz.heap.size) ⟨1, n1, 0, n2, ⟨ok3, (op3, oq3, od3), nm3, (tp3, tq3, td3), asn3, ov3⟩, ⟨rc5, (rp5, rq5, rd5), rv5, es5⟩, tx0, pt0, 0, (hs4, hi4, hd4)⟩ (.slice a3 l3 c3) (.slice a3y l3y c3y) (.slice a5 l5 c5) (.slice none 0 0)) := HOM.out.keep (Keeps.ofBelow bx_)
    have hs9 := bx_.size
    clear hHeld hcx hcy vy vRz HTz vZ HCz HOM HOK HBY hcu hst bx_ by_
    cases bz
    · have hzB : ¬ zB = zs := by simpa using hbz
      have h_ := HRR.out
      rw [if_neg (fun h => hzB h.2.2)] at h_
      simp only [Prod.mk.injEq] at h_
      obtain ⟨rfl, rfl⟩ := h_
      clear HRR vx HO9
      repeat (first | ((with_reducible refine guardStore (ty := 48) ?_); refine wpList_storeF vR9 rfl rfl (by kernel_rfl) rfl (of_decide_eq_true rfl) rfl ?_; intro w' vR_ t_) | go_values | go_skip | go_guarded | go_step | go_upon)
      refine bodyPost_ret (results_row_tmp Try.results17 _ _ _ _ _ _ rfl vR_ Try.underlying48 rfl (by kernel_rfl)) rfl ?_
      exact ⟨none, 0, 0, none, 0, 0, none, 0, 0, none, 0, 0, rfl, OwM.nil _ _, Turned.below B9.out t_ B9.out.size (fun i hi => by omega)⟩
    · have hzB : zB = zs := by simpa using hbz
      have h_ := HRR.out
      rw [if_pos ⟨hqq, rfl, hzB⟩] at h_
      simp only [Prod.mk.injEq] at h_
      obtain ⟨rfl, rfl⟩ := h_
      clear HRR
      repeat (first | ((with_reducible refine guardLoad (ty := 48) ?_); refine wpList_loadA vx rfl Try.underlying48 rfl (by kernel_rfl) ?_) | ((with_reducible refine guardStore (ty := 48) ?_); refine wpList_storeF vR9 rfl rfl (by kernel_rfl) rfl (of_decide_eq_true rfl) rfl ?_; intro w' vR_ t_) | go_values | go_skip | go_guarded | go_step | go_upon)
      refine bodyPost_ret (results_row_tmp Try.results17 _ _ _ _ _ _ rfl vR_ Try.underlying48 rfl (by kernel_rfl)) rfl ?_
      have hs10 := t_.size
      exact ⟨_, _, _, _, _, _, _, _, _, _, _, _, rfl, (HO9.out.keep (t_.keeps (fun b hb hs => by omega))).mono (fun b hb => ⟨by omega, by omega⟩), Turned.below B9.out t_ B9.out.size (fun i hi => by omega)⟩
end Go.Proofs.Ytmjfnmlfamikgaa
end

section
/- The specification's RecordRead, kind by kind. Condition: at most 2,000,000 bytes. -/
namespace Go.Proofs.Ytmjfnmlfamikgaa
open Go.RowKit
set_option linter.unusedVariables false
set_option linter.unusedSimpArgs false
set_option maxRecDepth 100000

set_option maxHeartbeats 16000000 in
theorem specRead2 (v : Value) (zs : List Int) (S : Nat → Prop) (w : World) (r : RdV w S v (.bytes zs)) (hl : zs.length ≤ 2000000) (hk : (getNum zs 0).1 = 2) :
    Calls Try.prog 17 #[v] w fun e w' => ∃ a1 n1 c1 a2 n2 c2 a3 n3 c3 a4 n4 c4, e = .returned (.tuple #[rcV (recRead zs).1 (.slice a1 n1 c1) (.slice a2 n2 c2) (.slice a3 n3 c3) (.slice a4 n4 c4), .bool (recRead zs).2]) ∧ OwM w' (fun b => w.heap.size ≤ b ∧ b < w'.heap.size) (recRead zs).1 (.slice a1 n1 c1) (.slice a2 n2 c2) (.slice a3 n3 c3) (.slice a4 n4 c4) ∧ Below w.heap.size w w' := by
  have hz := RdV.zs r
  obtain ⟨va, vcap, rfl⟩ := r.sliceB
  obtain ⟨v, hv⟩ : ∃ v, v = Value.slice va zs.length vcap := ⟨_, rfl⟩
  rw [← hv] at r
  have HS : Hid (∀ o, CurV 91 (w.heap.size + 1) zs v 0 ((w.alloc o).alloc (.cells #[v, .int .i64 0] 91))) := fun o => CurV.start _ o r
  have hsz := szRc (rdEnS zs) (szS zs) zs
  rw [recRead_spec hz]
  clear r
  obtain ⟨n0, q0, e0⟩ : ∃ x q, getNum zs 0 = (x, q) := ⟨_, _, rfl⟩
  have H0 : Hid (∀ W, CurV 91 (w.heap.size + 1) zs v 0 W → _) := fun W hW => by have h_ := specNumC (w.heap.size + 1) zs v 0 W hW hl; rw [e0] at h_; exact h_
  obtain ⟨⟨xs1, xb1, xn1⟩, q1, e1⟩ : ∃ x q, rdTx zs q0 = (x, q) := ⟨_, _, rfl⟩
  have H1 : Hid (∀ W, CurV 91 (w.heap.size + 1) zs v q0 W → _) := fun W hW => by have h_ := specTxC (w.heap.size + 1) zs v q0 W hW hl; rw [e1] at h_; exact h_
  obtain ⟨⟨pk2, ⟨pp2, pq2, pd2⟩, pas2, ⟨sp2, sq2, sd2⟩⟩, q2, e2⟩ : ∃ x q, rdPt zs q1 = (x, q) := ⟨_, _, rfl⟩
  have H2 : Hid (∀ W, CurV 91 (w.heap.size + 1) zs v q1 W → _) := fun W hW => by have h_ := specPartC (w.heap.size + 1) zs v q1 W hW hl; rw [e2] at h_; exact h_
  obtain ⟨n3, q3, e3⟩ : ∃ x q, getNum zs q2 = (x, q) := ⟨_, _, rfl⟩
  have H3 : Hid (∀ W, CurV 91 (w.heap.size + 1) zs v q2 W → _) := fun W hW => by have h_ := specNumC (w.heap.size + 1) zs v q2 W hW hl; rw [e3] at h_; exact h_
  obtain ⟨⟨hs4, hi4, hd4⟩, q4, e4⟩ : ∃ x q, rdHd zs q3 = (x, q) := ⟨_, _, rfl⟩
  have H4 : Hid (∀ W, CurV 91 (w.heap.size + 1) zs v q3 W → _) := fun W hW => by have h_ := specHandC (w.heap.size + 1) zs v q3 W hW hl; rw [e4] at h_; exact h_
  rw [e0] at hk
  dsimp only at hk
  subst hk
  have hR : rdRc (rdEnS zs) zs = (⟨2, 0, 0, 0, op0, rp0, (xs1, xb1, xn1), ⟨pk2, (pp2, pq2, pd2), pas2, (sp2, sq2, sd2)⟩, n3, (hs4, hi4, hd4)⟩, q4) := by simp [rdRc, e0, e1, e2, e3, e4]
  rw [hR] at hsz ⊢
  clear hR e0 e1 e2 e3 e4
  dsimp only at hsz ⊢
  have HOK : Hid (∀ x y z u S W, RdM W S ⟨2, 0, 0, 0, op0, rp0, (xs1, xb1, xn1), ⟨pk2, (pp2, pq2, pd2), pas2, (sp2, sq2, sd2)⟩, n3, (hs4, hi4, hd4)⟩ x y z u → _) := fun x y z u S W hW => specRecordOk_any x y z u _ S W hW (by omega)
  have HBY : Hid (∀ x y z u S W, RdM W S ⟨2, 0, 0, 0, op0, rp0, (xs1, xb1, xn1), ⟨pk2, (pp2, pq2, pd2), pas2, (sp2, sq2, sd2)⟩, n3, (hs4, hi4, hd4)⟩ x y z u → COk ⟨2, 0, 0, 0, op0, rp0, (xs1, xb1, xn1), ⟨pk2, (pp2, pq2, pd2), pas2, (sp2, sq2, sd2)⟩, n3, (hs4, hi4, hd4)⟩ = true → _) := fun x y z u S W hW ho => specRecB_any _ x y z u S W hW (by omega) ho
  obtain ⟨mR, bR, hRR⟩ : ∃ a b, (if q4 = zs.length ∧ COk ⟨2, 0, 0, 0, op0, rp0, (xs1, xb1, xn1), ⟨pk2, (pp2, pq2, pd2), pas2, (sp2, sq2, sd2)⟩, n3, (hs4, hi4, hd4)⟩ = true ∧ rcB ⟨2, 0, 0, 0, op0, rp0, (xs1, xb1, xn1), ⟨pk2, (pp2, pq2, pd2), pas2, (sp2, sq2, sd2)⟩, n3, (hs4, hi4, hd4)⟩ = zs then (⟨2, 0, 0, 0, op0, rp0, (xs1, xb1, xn1), ⟨pk2, (pp2, pq2, pd2), pas2, (sp2, sq2, sd2)⟩, n3, (hs4, hi4, hd4)⟩, true) else (ms0, false)) = (a, b) := ⟨_, _, rfl⟩
  rw [hRR]
  have HRR : Hid ((if q4 = zs.length ∧ COk ⟨2, 0, 0, 0, op0, rp0, (xs1, xb1, xn1), ⟨pk2, (pp2, pq2, pd2), pas2, (sp2, sq2, sd2)⟩, n3, (hs4, hi4, hd4)⟩ = true ∧ rcB ⟨2, 0, 0, 0, op0, rp0, (xs1, xb1, xn1), ⟨pk2, (pp2, pq2, pd2), pas2, (sp2, sq2, sd2)⟩, n3, (hs4, hi4, hd4)⟩ = zs then (⟨2, 0, 0, 0, op0, rp0, (xs1, xb1, xn1), ⟨pk2, (pp2, pq2, pd2), pas2, (sp2, sq2, sd2)⟩, n3, (hs4, hi4, hd4)⟩, true) else (ms0, false)) = (mR, bR)) := hRR
  clear hRR hsz
  generalize COk ⟨2, 0, 0, 0, op0, rp0, (xs1, xb1, xn1), ⟨pk2, (pp2, pq2, pd2), pas2, (sp2, sq2, sd2)⟩, n3, (hs4, hi4, hd4)⟩ = okB at HOK HBY HRR
  generalize rcB ⟨2, 0, 0, 0, op0, rp0, (xs1, xb1, xn1), ⟨pk2, (pp2, pq2, pd2), pas2, (sp2, sq2, sd2)⟩, n3, (hs4, hi4, hd4)⟩ = zB at HBY HRR
  dsimp only
  subst hv
  go_enter Try.func17, Try.ntmps17
  go_wp2_with fail
  refine Calls.mono (H0.out _ (HS.out _)) ?_
  rintro e w1 ⟨rfl, hc_, t_⟩
  have hx0 := t_.size
  simp at hx0
  have HT : Hid (Below w.heap.size w w1) := Turned.below ((Below.new1 (w := w) _).trans ((Below.new1 (w := w.alloc _) _).mono (by simp))) t_ (by simp <;> omega) (fun i hi => by omega)
  have vR : VarA w1 w.heap.size 48 #[.int .i64 0, .int .i64 0, .int .i64 0, .int .i64 0, .int .i64 0, .int .i64 0, .bool false, .slice none 0 0, .int .i64 0, .int .i64 0, .bool false, .slice none 0 0, .int .i64 0, .int .i64 0, .int .i64 0, .bool false, .int .i64 0, .int .i64 0, .int .i64 0, .bool false, .int .i64 0, .slice none 0 0, .int .i64 0, .int .i64 0, .int .i64 0, .int .i64 0, .int .i64 0, .int .i64 0, .bool false, .slice none 0 0, .int .i64 0, .int .i64 0, .bool false, .int .i64 0] := VarA.turn ((VarA.new w _ _).alloc _) t_ (by omega)
  clear HS
  have HC1 : Hid (CurV 91 (w.heap.size + 1) zs _ q0 w1) := hc_
  clear hc_ t_ H0
  dsimp only
  repeat (first | ((with_reducible refine guardStore (ty := 48) ?_); refine wpList_storeF (VarA.new w1 _ _) rfl rfl (by kernel_rfl) rfl (of_decide_eq_true rfl) rfl ?_; intro w1' vO t_; have k0_ := vO.c 0 rfl) | go_values | go_skip | go_guarded | go_step | go_upon)
  clear k0_
  have vO_ : VarA w1' w1.heap.size 48 #[.int .i64 2, .int .i64 0, .int .i64 0, .int .i64 0, .int .i64 0, .int .i64 0, .bool false, .slice none 0 0, .int .i64 0, .int .i64 0, .bool false, .slice none 0 0, .int .i64 0, .int .i64 0, .int .i64 0, .bool false, .int .i64 0, .int .i64 0, .int .i64 0, .bool false, .int .i64 0, .slice none 0 0, .int .i64 0, .int .i64 0, .int .i64 0, .int .i64 0, .int .i64 0, .int .i64 0, .bool false, .slice none 0 0, .int .i64 0, .int .i64 0, .bool false, .int .i64 0] := vO
  clear vO
  have t1 : Turned (fun b => b = w1.heap.size) w1 w1' := (Turned.ofBelow (Below.new1 (w := w1) _)).trans t_
  clear t_
  have vO := vO_
  clear vO_
  have HC1' : Hid (CurV 91 (w.heap.size + 1) zs _ q0 w1') := HC1.out.keep t1 (fun b hb => by omega)
  have vR_ := vR.turn t1 (by omega)
  clear vR
  have vR := vR_
  clear vR_
  have HT_ : Hid (Below w.heap.size w w1') := Turned.below HT.out t1 HT.out.size (fun i hi => by omega)
  clear HT
  have HT := HT_
  clear HT_
  have hy1 := t1.size
  have hob := VarA.lt vO
  clear t1 HC1
  have HC1 := HC1'
  clear HC1'
  refine Calls.mono (H1.out _ HC1.out) ?_
  rintro e w2 ⟨rfl, hc_, t_⟩
  have HT_ : Hid (Below w.heap.size w w2) := Turned.below HT.out t_ HT.out.size (fun i hi => by omega)
  clear HT
  have HT := HT_
  clear HT_
  have vR_ := vR.turn t_ (by omega)
  clear vR
  have vR := vR_
  clear vR_
  have hx1 := t_.size
  have vO_ := vO.turn t_ (by omega)
  clear vO
  have vO := vO_
  clear vO_
  have HC2 : Hid (CurV 91 (w.heap.size + 1) zs _ q1 w2) := hc_
  clear hc_ t_ H1 HC1
  dsimp only
  repeat (first | ((with_reducible refine guardStore (ty := 44) ?_); refine wpList_storeG vO rfl rfl rfl (by kernel_rfl) rfl (of_decide_eq_true rfl) rfl ?_; intro w2' vO_ t_) | go_values | go_skip | go_guarded | go_step | go_upon)
  have vO1 : VarA w2' w1.heap.size 48 #[.int .i64 2, .int .i64 0, .int .i64 0, .int .i64 0, .int .i64 0, .int .i64 0, .bool false, .slice none 0 0, .int .i64 0, .int .i64 0, .bool false, .slice none 0 0, .int .i64 0, .int .i64 0, .int .i64 0, .bool false, .int .i64 0, .int .i64 0, .int .i64 0, .bool false, .int .i64 0, .slice none 0 0, .int .i64 xs1, .int .i64 xb1, .int .i64 xn1, .int .i64 0, .int .i64 0, .int .i64 0, .bool false, .slice none 0 0, .int .i64 0, .int .i64 0, .bool false, .int .i64 0] := vO_
  clear vO_ vO
  have vO_ := vO1
  clear vO1
  have t1 : Turned (fun b => b = w1.heap.size) w2 w2' := t_
  clear t_
  have vO := vO_
  clear vO_
  have HC2' : Hid (CurV 91 (w.heap.size + 1) zs _ q1 w2') := HC2.out.keep t1 (fun b hb => by omega)
  have vR_ := vR.turn t1 (by omega)
  clear vR
  have vR := vR_
  clear vR_
  have HT_ : Hid (Below w.heap.size w w2') := Turned.below HT.out t1 HT.out.size (fun i hi => by omega)
  clear HT
  have HT := HT_
  clear HT_
  have hy2 := t1.size
  clear t1 HC2
  have HC2 := HC2'
  clear HC2'
  refine Calls.mono (H2.out _ HC2.out) ?_
  rintro e w3 ⟨a2, l2, c2, rfl, o2, hc_, t_⟩
  have HT_ : Hid (Below w.heap.size w w3) := Turned.below HT.out t_ HT.out.size (fun i hi => by omega)
  clear HT
  have HT := HT_
  clear HT_
  have vR_ := vR.turn t_ (by omega)
  clear vR
  have vR := vR_
  clear vR_
  have hx2 := t_.size
  have vO_ := vO.turn t_ (by omega)
  clear vO
  have vO := vO_
  clear vO_
  have HO2 : Hid (OwV w3 (fun b => w2'.heap.size ≤ b ∧ b < w3.heap.size) (.slice a2 l2 c2) (.bytes pas2)) := o2
  clear o2
  have HC3 : Hid (CurV 91 (w.heap.size + 1) zs _ q2 w3) := hc_
  clear hc_ t_ H2 HC2
  dsimp only
  repeat (first | ((with_reducible refine guardStore (ty := 46) ?_); refine wpList_storeG vO rfl rfl rfl (by kernel_rfl) rfl (of_decide_eq_true rfl) rfl ?_; intro w3' vO_ t_) | go_values | go_skip | go_guarded | go_step | go_upon)
  have vO1 : VarA w3' w1.heap.size 48 #[.int .i64 2, .int .i64 0, .int .i64 0, .int .i64 0, .int .i64 0, .int .i64 0, .bool false, .slice none 0 0, .int .i64 0, .int .i64 0, .bool false, .slice none 0 0, .int .i64 0, .int .i64 0, .int .i64 0, .bool false, .int .i64 0, .int .i64 0, .int .i64 0, .bool false, .int .i64 0, .slice none 0 0, .int .i64 xs1, .int .i64 xb1, .int .i64 xn1, .int .i64 pk2, .int .i64 pp2, .int .i64 pq2, .bool pd2, .slice a2 l2 c2, .int .i64 sp2, .int .i64 sq2, .bool sd2, .int .i64 0] := vO_
  clear vO_ vO
  have vO_ := vO1
  clear vO1
  have t1 : Turned (fun b => b = w1.heap.size) w3 w3' := t_
  clear t_
  have vO := vO_
  clear vO_
  have HC3' : Hid (CurV 91 (w.heap.size + 1) zs _ q2 w3') := HC3.out.keep t1 (fun b hb => by omega)
  have vR_ := vR.turn t1 (by omega)
  clear vR
  have vR := vR_
  clear vR_
  have HT_ : Hid (Below w.heap.size w w3') := Turned.below HT.out t1 HT.out.size (fun i hi => by omega)
  clear HT
  have HT := HT_
  clear HT_
  have hy3 := t1.size
  have HO2_ : Hid (OwV w3' (fun b => w2'.heap.size ≤ b ∧ b < w3.heap.size) (.slice a2 l2 c2) (.bytes pas2)) := HO2.out.keep (t1.keeps (fun b hb hs => by omega))
  clear HO2
  have HO2 := HO2_
  clear HO2_
  clear t1 HC3
  have HC3 := HC3'
  clear HC3'
  refine Calls.mono (H3.out _ HC3.out) ?_
  rintro e w4 ⟨rfl, hc_, t_⟩
  have HT_ : Hid (Below w.heap.size w w4) := Turned.below HT.out t_ HT.out.size (fun i hi => by omega)
  clear HT
  have HT := HT_
  clear HT_
  have vR_ := vR.turn t_ (by omega)
  clear vR
  have vR := vR_
  clear vR_
  have hx3 := t_.size
  have vO_ := vO.turn t_ (by omega)
  clear vO
  have vO := vO_
  clear vO_
  have HO2_ : Hid (OwV w4 (fun b => w2'.heap.size ≤ b ∧ b < w3.heap.size) (.slice a2 l2 c2) (.bytes pas2)) := HO2.out.keep (t_.keeps (fun b hb hs => by omega))
  clear HO2
  have HO2 := HO2_
  clear HO2_
  have HC4 : Hid (CurV 91 (w.heap.size + 1) zs _ q3 w4) := hc_
  clear hc_ t_ H3 HC3
  dsimp only
  repeat (first | ((with_reducible refine guardStore (ty := 3) ?_); refine wpList_storeG vO rfl rfl rfl (by kernel_rfl) rfl (of_decide_eq_true rfl) rfl ?_; intro w4' vO_ t_) | go_values | go_skip | go_guarded | go_step | go_upon)
  have vO1 : VarA w4' w1.heap.size 48 #[.int .i64 2, .int .i64 0, .int .i64 0, .int .i64 0, .int .i64 0, .int .i64 0, .bool false, .slice none 0 0, .int .i64 0, .int .i64 0, .bool false, .slice none 0 0, .int .i64 0, .int .i64 0, .int .i64 0, .bool false, .int .i64 0, .int .i64 0, .int .i64 0, .bool false, .int .i64 0, .slice none 0 0, .int .i64 xs1, .int .i64 xb1, .int .i64 xn1, .int .i64 pk2, .int .i64 pp2, .int .i64 pq2, .bool pd2, .slice a2 l2 c2, .int .i64 sp2, .int .i64 sq2, .bool sd2, .int .i64 n3] := vO_
  clear vO_ vO
  have vO_ := vO1
  clear vO1
  have t1 : Turned (fun b => b = w1.heap.size) w4 w4' := t_
  clear t_
  have vO := vO_
  clear vO_
  have HC4' : Hid (CurV 91 (w.heap.size + 1) zs _ q3 w4') := HC4.out.keep t1 (fun b hb => by omega)
  have vR_ := vR.turn t1 (by omega)
  clear vR
  have vR := vR_
  clear vR_
  have HT_ : Hid (Below w.heap.size w w4') := Turned.below HT.out t1 HT.out.size (fun i hi => by omega)
  clear HT
  have HT := HT_
  clear HT_
  have hy4 := t1.size
  have HO2_ : Hid (OwV w4' (fun b => w2'.heap.size ≤ b ∧ b < w3.heap.size) (.slice a2 l2 c2) (.bytes pas2)) := HO2.out.keep (t1.keeps (fun b hb hs => by omega))
  clear HO2
  have HO2 := HO2_
  clear HO2_
  clear t1 HC4
  have HC4 := HC4'
  clear HC4'
  refine Calls.mono (H4.out _ HC4.out) ?_
  rintro e w5 ⟨rfl, hc_, t_⟩
  have HT_ : Hid (Below w.heap.size w w5) := Turned.below HT.out t_ HT.out.size (fun i hi => by omega)
  clear HT
  have HT := HT_
  clear HT_
  have vR_ := vR.turn t_ (by omega)
  clear vR
  have vR := vR_
  clear vR_
  have hx4 := t_.size
  have vO_ := vO.turn t_ (by omega)
  clear vO
  have vO := vO_
  clear vO_
  have HO2_ : Hid (OwV w5 (fun b => w2'.heap.size ≤ b ∧ b < w3.heap.size) (.slice a2 l2 c2) (.bytes pas2)) := HO2.out.keep (t_.keeps (fun b hb hs => by omega))
  clear HO2
  have HO2 := HO2_
  clear HO2_
  have HC5 : Hid (CurV 91 (w.heap.size + 1) zs _ q4 w5) := hc_
  clear hc_ t_ H4 HC4
  dsimp only
  repeat (first | ((with_reducible refine guardStore (ty := 38) ?_); refine wpList_storeG vO rfl rfl rfl (by kernel_rfl) rfl (of_decide_eq_true rfl) rfl ?_; intro wz vO_ t_) | go_values | go_skip | go_guarded | go_step | go_upon)
  have vZ : VarA wz w1.heap.size 48 #[.int .i64 2, .int .i64 0, .int .i64 0, .int .i64 0, .int .i64 0, .int .i64 0, .bool false, .slice none 0 0, .int .i64 0, .int .i64 0, .bool false, .slice none 0 0, .int .i64 0, .int .i64 hs4, .int .i64 hi4, .bool hd4, .int .i64 0, .int .i64 0, .int .i64 0, .bool false, .int .i64 0, .slice none 0 0, .int .i64 xs1, .int .i64 xb1, .int .i64 xn1, .int .i64 pk2, .int .i64 pp2, .int .i64 pq2, .bool pd2, .slice a2 l2 c2, .int .i64 sp2, .int .i64 sq2, .bool sd2, .int .i64 n3] := vO_
  have t1 : Turned (fun b => b = w1.heap.size) w5 wz := t_
  have HCz : Hid (CurV 91 (w.heap.size + 1) zs (.slice va zs.length vcap) q4 wz) := HC5.out.keep t1 (fun b hb => by omega)
  have vRz := vR.turn t1 (by omega)
  have HTz : Hid (Below w.heap.size w wz) := Turned.below HT.out t1 HT.out.size (fun i hi => by omega)
  have hsz := t1.size
  have HO2_ : OwV wz (fun b => w2'.heap.size ≤ b ∧ b < w3.heap.size) (.slice a2 l2 c2) (.bytes pas2) := HO2.out.keep (t1.keeps (fun b hb hs => by omega))
  have HOM : Hid (OwM wz (fun b => w1.heap.size + 1 ≤ b ∧ b < wz.heap.size) ⟨2, 0, 0, 0, op0, rp0, (xs1, xb1, xn1), ⟨pk2, (pp2, pq2, pd2), pas2, (sp2, sq2, sd2)⟩, n3, (hs4, hi4, hd4)⟩ (.slice none 0 0) (.slice none 0 0) (.slice none 0 0) (.slice a2 l2 c2)) := by
    refine ⟨fun _ => False, fun _ => False, fun _ => False, fun b => w2'.heap.size ≤ b ∧ b < w3.heap.size, OwV.nilB _ _, OwV.nilB _ _, OwV.nilR _ _ _ _ _, HO2_, ?_, ?_, ?_, ?_⟩
    · intro b hb
      rcases hb with hb | hb | hb | hb <;> first | exact hb.elim | exact ⟨by omega, by omega⟩
    · intro b hb
      refine ⟨fun h => ?_, fun h => ?_, fun h => ?_⟩ <;> first | exact hb.elim | exact h.elim | omega
    · intro b hb
      refine ⟨fun h => ?_, fun h => ?_⟩ <;> first | exact hb.elim | exact h.elim | omega
    · intro b hb h
      first | exact hb.elim | exact h.elim | omega
  clear HO2 HO2_ vO_ t_ t1 vR HT HC5 vO
  try simp only [Act.put]
  obtain ⟨c0, c1⟩ := VarA.l2 HCz.out.1
  have hltc := HCz.out.lt
  haveI : Nonempty (Cls wz) := Cls.ne wz
  have k1_ := Cls.cell hltc c1
  have hVM : ∀ W, (∃ i : Cls wz, W = i.W) → VarA W w1.heap.size 48 #[.int .i64 2, .int .i64 0, .int .i64 0, .int .i64 0, .int .i64 0, .int .i64 0, .bool false, .slice none 0 0, .int .i64 0, .int .i64 0, .bool false, .slice none 0 0, .int .i64 0, .int .i64 hs4, .int .i64 hi4, .bool hd4, .int .i64 0, .int .i64 0, .int .i64 0, .bool false, .int .i64 0, .slice none 0 0, .int .i64 xs1, .int .i64 xb1, .int .i64 xn1, .int .i64 pk2, .int .i64 pp2, .int .i64 pq2, .bool pd2, .slice a2 l2 c2, .int .i64 sp2, .int .i64 sq2, .bool sd2, .int .i64 n3] := fun W ⟨i, hi⟩ => by rw [hi]; exact VarA.step vZ i.h
  by_cases hqq : q4 = zs.length
  case neg =>
    have h_ := HRR.out
    rw [if_neg (fun h => hqq h.1)] at h_
    simp only [Prod.mk.injEq] at h_
    obtain ⟨rfl, rfl⟩ := h_
    clear HRR
    have f1 : (q4 == (zs.length : Int)) = false := by simpa using hqq
    have f2 : (q4 != (zs.length : Int)) = true := by simpa using hqq
    have f3 : decide (q4 = (zs.length : Int)) = false := by simpa using hqq
    refine wp_region_cls (by kernel_rfl) (by kernel_rfl) ?_
    repeat (go_big_quiet_step (fail))
    refine wpQuiet_nil ?_
    rintro w' ⟨⟨w', b_⟩, rfl⟩
    have vR9 := vRz.step b_
    have B9 : Hid (Below w.heap.size w w') := HTz.out.trans (b_.mono HTz.out.size)
    clear vRz HTz vZ HCz HOM HOK HBY b_ this hVM k1_
    repeat (first | ((with_reducible refine guardStore (ty := 48) ?_); refine wpList_storeF vR9 rfl rfl (by kernel_rfl) rfl (of_decide_eq_true rfl) rfl ?_; intro w' vR_ t_) | go_values | go_skip | go_guarded | go_step | go_upon)
    refine bodyPost_ret (results_row_tmp Try.results17 _ _ _ _ _ _ rfl vR_ Try.underlying48 rfl (by kernel_rfl)) rfl ?_
    exact ⟨none, 0, 0, none, 0, 0, none, 0, 0, none, 0, 0, rfl, OwM.nil _ _, Turned.below B9.out t_ B9.out.size (fun i hi => by omega)⟩
  have f1 : (q4 == (zs.length : Int)) = true := by simpa using hqq
  have f2 : (q4 != (zs.length : Int)) = false := by simpa using hqq
  have f3 : decide (q4 = (zs.length : Int)) = true := by simpa using hqq
  cases okB
  · have h_ := HRR.out
    rw [if_neg (fun h => by cases h.2.1)] at h_
    simp only [Prod.mk.injEq] at h_
    obtain ⟨rfl, rfl⟩ := h_
    clear HRR
    refine wp_region_cls (by kernel_rfl) (by kernel_rfl) ?_
    repeat (go_big_quiet_step (fail))
    (refine wpQuiet_loadA hVM rfl rfl Try.underlying48 rfl (by kernel_rfl) ?_); simp only [Act.put, List.setIfInBounds_toArray, List.set_cons_succ, List.set_cons_zero]
    repeat (go_big_quiet_step (first | (go_at_call 7; exact Calls.cls (HOK.out _ _ _ _ _ _ (HOM.out.rd.step (Cls.h _))))))
    refine wpQuiet_nil ?_
    rintro w' ⟨⟨w', b_⟩, rfl⟩
    have vR9 := vRz.step b_
    have B9 : Hid (Below w.heap.size w w') := HTz.out.trans (b_.mono HTz.out.size)
    clear vRz HTz vZ HCz HOM HOK HBY b_ this hVM k1_
    repeat (first | ((with_reducible refine guardStore (ty := 48) ?_); refine wpList_storeF vR9 rfl rfl (by kernel_rfl) rfl (of_decide_eq_true rfl) rfl ?_; intro w' vR_ t_) | go_values | go_skip | go_guarded | go_step | go_upon)
    refine bodyPost_ret (results_row_tmp Try.results17 _ _ _ _ _ _ rfl vR_ Try.underlying48 rfl (by kernel_rfl)) rfl ?_
    exact ⟨none, 0, 0, none, 0, 0, none, 0, 0, none, 0, 0, rfl, OwM.nil _ _, Turned.below B9.out t_ B9.out.size (fun i hi => by omega)⟩
  · clear k1_ this hVM
    obtain ⟨bz, hbz⟩ : ∃ b : Bool, decide (zB = zs) = b := ⟨_, rfl⟩
    refine wp_region_noPanic ?_
    refine wp_region_cur (by kernel_rfl) HCz.out vZ (fun hHeld => ?_)
    refine wpAnyH_take (i := 0) (v := ?_) rfl (by kernel_rfl) (by kernel_rfl) (by kernel_rfl) (fun _ _ _ h => h) (Or.inl ⟨by rfl, ?_⟩) (by assumption) ?_
    rotate_left
    · (intro w_ hSw_; go_simp; try with_reducible rfl)
    try simp only [Act.put, List.setIfInBounds_toArray, List.set_cons_zero, List.set_cons_succ, List.getElem_toArray, List.getElem_cons_zero, List.getElem_cons_succ]
    refine wpAnyH_take (i := 1) (v := ?_) rfl (by kernel_rfl) (by kernel_rfl) (by kernel_rfl) (fun _ _ _ h => h) (Or.inl ⟨by rfl, ?_⟩) (by assumption) ?_
    rotate_left
    · (intro w_ hSw_; go_simp; try with_reducible rfl)
    try simp only [Act.put, List.setIfInBounds_toArray, List.set_cons_zero, List.set_cons_succ, List.getElem_toArray, List.getElem_cons_zero, List.getElem_cons_succ]
    refine wpAnyH_take (i := 2) (v := ?_) rfl (by kernel_rfl) (by kernel_rfl) (by kernel_rfl) (fun _ _ _ h => h) (Or.inl ⟨by rfl, ?_⟩) (by assumption) ?_
    rotate_left
    · (intro w_ hSw_; go_simp; try with_reducible rfl)
    try simp only [Act.put, List.setIfInBounds_toArray, List.set_cons_zero, List.set_cons_succ, List.getElem_toArray, List.getElem_cons_zero, List.getElem_cons_succ]
    refine wpAnyH_take (i := 3) (v := ?_) rfl (by kernel_rfl) (by kernel_rfl) (by kernel_rfl) (fun _ _ _ h => h) (Or.inl ⟨by rfl, ?_⟩) (by assumption) ?_
    rotate_left
    · (intro w_ hSw_; have q_ := VarA.c hSw_.1.1 1 rfl; go_simp; try with_reducible rfl)
    try simp only [Act.put, List.setIfInBounds_toArray, List.set_cons_zero, List.set_cons_succ, List.getElem_toArray, List.getElem_cons_zero, List.getElem_cons_succ]
    refine wpAnyH_take (i := 4) (v := ?_) rfl (by kernel_rfl) (by kernel_rfl) (by kernel_rfl) (fun _ _ _ h => h) (Or.inl ⟨by rfl, ?_⟩) (by assumption) ?_
    rotate_left
    · (intro w_ hSw_; go_simp; try with_reducible rfl)
    try simp only [Act.put, List.setIfInBounds_toArray, List.set_cons_zero, List.set_cons_succ, List.getElem_toArray, List.getElem_cons_zero, List.getElem_cons_succ]
    refine wpAnyH_take (i := 5) (v := ?_) rfl (by kernel_rfl) (by kernel_rfl) (by kernel_rfl) (fun _ _ _ h => h) (Or.inl ⟨by rfl, ?_⟩) (by assumption) ?_
    rotate_left
    · (intro w_ hSw_; go_simp; try with_reducible rfl)
    try simp only [Act.put, List.setIfInBounds_toArray, List.set_cons_zero, List.set_cons_succ, List.getElem_toArray, List.getElem_cons_zero, List.getElem_cons_succ]
    refine wpAnyH_take (i := 6) (v := ?_) rfl (by kernel_rfl) (by kernel_rfl) (by kernel_rfl) (fun _ _ _ h => h) (Or.inl ⟨by rfl, ?_⟩) (by assumption) ?_
    rotate_left
    · (intro w_ hSw_; go_simp; try with_reducible rfl)
    try simp only [Act.put, List.setIfInBounds_toArray, List.set_cons_zero, List.set_cons_succ, List.getElem_toArray, List.getElem_cons_zero, List.getElem_cons_succ]
    refine wpAnyH_take (i := 7) (v := ?_) rfl (by kernel_rfl) (by kernel_rfl) (by kernel_rfl) (fun _ _ _ h => h) (Or.inl ⟨by rfl, ?_⟩) (by assumption) ?_
    rotate_left
    · (intro w_ hSw_; go_simp; try with_reducible rfl)
    try simp only [Act.put, List.setIfInBounds_toArray, List.set_cons_zero, List.set_cons_succ, List.getElem_toArray, List.getElem_cons_zero, List.getElem_cons_succ]
    refine wpAnyH_take (i := 8) (v := _) rfl (by kernel_rfl) (by kernel_rfl) (by kernel_rfl) (fun _ _ _ h => h) (Or.inl ⟨by rfl, fun w_ hS_ => loadOp_run hS_.2 rfl Try.underlying48 rfl (by kernel_rfl)⟩) (by assumption) ?_
    try simp only [Act.put, List.setIfInBounds_toArray, List.set_cons_zero, List.set_cons_succ, List.getElem_toArray, List.getElem_cons_zero, List.getElem_cons_succ]
    refine wpAnyH_ready (rs := [9]) (by kernel_rfl) (by simp) ?_
    refine AllReadyH.cons rfl (fun K hK => ?_) AllReadyH.nil
    go_simp
    refine Calls.mono (HOK.out _ _ _ _ _ wz.drew (HOM.out.rd.step (Below.drew (Below.refl _ _)))) ?_
    rintro e wy ⟨rfl, b_⟩
    have by_ : Below wz.heap.size wz wy := (Below.drew (Below.refl _ _)).trans b_
    have hcy := HCz.out.step by_
    have vy := vZ.step by_
    clear b_
    refine hK.out _ _ ⟨hcy, vy⟩ (fun hHeld => ?_)
    clear hK K
    try simp only [Act.put, List.setIfInBounds_toArray, List.set_cons_zero, List.set_cons_succ, List.getElem_toArray, List.getElem_cons_zero, List.getElem_cons_succ]
    refine wpAnyH_take (i := 10) (v := ?_) rfl (by kernel_rfl) (by kernel_rfl) (by kernel_rfl) (fun _ _ _ h => h) (Or.inl ⟨by rfl, ?_⟩) (by assumption) ?_
    rotate_left
    · (intro w_ hSw_; go_simp; try with_reducible rfl)
    try simp only [Act.put, List.setIfInBounds_toArray, List.set_cons_zero, List.set_cons_succ, List.getElem_toArray, List.getElem_cons_zero, List.getElem_cons_succ]
    refine wpAnyH_take (i := 11) (v := ?_) rfl (by kernel_rfl) (by kernel_rfl) (by kernel_rfl) (fun _ _ _ h => h) (Or.inl ⟨by rfl, ?_⟩) (by assumption) ?_
    rotate_left
    · (intro w_ hSw_; go_simp; try with_reducible rfl)
    try simp only [Act.put, List.setIfInBounds_toArray, List.set_cons_zero, List.set_cons_succ, List.getElem_toArray, List.getElem_cons_zero, List.getElem_cons_succ]
    refine wpAnyH_take (i := 12) (v := ?_) rfl (by kernel_rfl) (by kernel_rfl) (by kernel_rfl) (fun _ _ _ h => h) (Or.inl ⟨by rfl, ?_⟩) (by assumption) ?_
    rotate_left
    · (intro w_ hSw_; go_simp; try with_reducible rfl)
    try simp only [Act.put, List.setIfInBounds_toArray, List.set_cons_zero, List.set_cons_succ, List.getElem_toArray, List.getElem_cons_zero, List.getElem_cons_succ]
    refine wpAnyH_take (i := 13) (v := _) rfl (by kernel_rfl) (by kernel_rfl) (by kernel_rfl) (fun _ _ _ h => h) (Or.inl ⟨by rfl, fun w_ hS_ => loadOp_run hS_.2 rfl Try.underlying48 rfl (by kernel_rfl)⟩) (by assumption) ?_
    try simp only [Act.put, List.setIfInBounds_toArray, List.set_cons_zero, List.set_cons_succ, List.getElem_toArray, List.getElem_cons_zero, List.getElem_cons_succ]
    refine wpAnyH_take (i := 16) (v := ?_) rfl (by kernel_rfl) (by kernel_rfl) (by kernel_rfl) (fun _ _ _ h => h) (Or.inl ⟨by rfl, ?_⟩) (by assumption) ?_
    rotate_left
    · (intro w_ hSw_; go_simp; try with_reducible rfl)
    try simp only [Act.put, List.setIfInBounds_toArray, List.set_cons_zero, List.set_cons_succ, List.getElem_toArray, List.getElem_cons_zero, List.getElem_cons_succ]
    refine wpAnyH_take (i := 17) (v := ?_) rfl (by kernel_rfl) (by kernel_rfl) (by kernel_rfl) (fun _ _ _ h => h) (Or.inl ⟨by rfl, ?_⟩) (by assumption) ?_
    rotate_left
    · (intro w_ hSw_; have q_ := conv_any _ zs _ vcap w_ (RdV.rd0 hSw_.1.2.1) rfl; go_simp; try with_reducible rfl)
    try simp only [Act.put, List.setIfInBounds_toArray, List.set_cons_zero, List.set_cons_succ, List.getElem_toArray, List.getElem_cons_zero, List.getElem_cons_succ]
    refine wpAnyH_ready (rs := [14]) (by kernel_rfl) (by simp) ?_
    refine AllReadyH.cons rfl (fun K hK => ?_) AllReadyH.nil
    go_simp
    refine Calls.mono (HBY.out _ _ _ _ _ _ (HOM.out.rd.step by_) rfl) ?_
    rintro e wx ⟨u, rfl, zu, ou, b_⟩
    obtain ⟨ua, ul, uc, rfl, rfl, hur, _⟩ := ou.openNil zu
    have hcu := conv_any ua zB _ uc wx hur rfl
    have hst := (str_eq zB zs zu hz).trans hbz
    have bx_ : Below wz.heap.size wz wx := by_.trans (b_.mono by_.size)
    have hcx := HCz.out.step bx_
    have vx := vZ.step bx_
    clear b_ ou
    refine hK.out _ _ ⟨hcx, vx⟩ (fun hHeld => ?_)
    clear hK K
    try simp only [Act.put, List.setIfInBounds_toArray, List.set_cons_zero, List.set_cons_succ, List.getElem_toArray, List.getElem_cons_zero, List.getElem_cons_succ]
    refine wpAnyH_ready (rs := [15]) (by kernel_rfl) (by simp) ?_
    refine AllReadyH.cons rfl (fun K hK => ?_) AllReadyH.nil
    go_simp
    refine hK.out _ _ ⟨hcx, vx⟩ (fun hHeld => ?_)
    clear hK K
    try simp only [Act.put, List.setIfInBounds_toArray, List.set_cons_zero, List.set_cons_succ, List.getElem_toArray, List.getElem_cons_zero, List.getElem_cons_succ]
    refine wpAnyH_take (i := 18) (v := ?_) rfl (by kernel_rfl) (by kernel_rfl) (by kernel_rfl) (fun _ _ _ h => h) (Or.inl ⟨by rfl, ?_⟩) (by assumption) ?_
    rotate_left
    · (intro w_ hSw_; go_simp; try with_reducible rfl)
    try simp only [Act.put, List.setIfInBounds_toArray, List.set_cons_zero, List.set_cons_succ, List.getElem_toArray, List.getElem_cons_zero, List.getElem_cons_succ]
    refine wpAnyH_take (i := 19) (v := ?_) rfl (by kernel_rfl) (by kernel_rfl) (by kernel_rfl) (fun _ _ _ h => h) (Or.inl ⟨by rfl, ?_⟩) (by assumption) ?_
    rotate_left
    · (intro w_ hSw_; go_simp; try with_reducible rfl)
    try simp only [Act.put, List.setIfInBounds_toArray, List.set_cons_zero, List.set_cons_succ, List.getElem_toArray, List.getElem_cons_zero, List.getElem_cons_succ]
    refine wpAnyH_done (by kernel_rfl) (NoPanic.normal ?_) _
    have vR9 := vRz.step bx_
    have B9 : Hid (Below w.heap.size w wx) := HTz.out.trans (bx_.mono HTz.out.size)
    have HO9 : Hid (OwM wx (fun b => w1.heap.size + 1 ≤ b ∧ b < wz.heap.size) ⟨2, 0, 0, 0, op0, rp0, (xs1, xb1, xn1), ⟨pk2, (pp2, pq2, pd2), pas2, (sp2, sq2, sd2)⟩, n3, (hs4, hi4, hd4)⟩ (.slice none 0 0) (.slice none 0 0) (.slice none 0 0) (.slice a2 l2 c2)) := HOM.out.keep (Keeps.ofBelow bx_)
    have hs9 := bx_.size
    clear hHeld hcx hcy vy vRz HTz vZ HCz HOM HOK HBY hcu hst bx_ by_
    cases bz
    · have hzB : ¬ zB = zs := by simpa using hbz
      have h_ := HRR.out
      rw [if_neg (fun h => hzB h.2.2)] at h_
      simp only [Prod.mk.injEq] at h_
      obtain ⟨rfl, rfl⟩ := h_
      clear HRR vx HO9
      repeat (first | ((with_reducible refine guardStore (ty := 48) ?_); refine wpList_storeF vR9 rfl rfl (by kernel_rfl) rfl (of_decide_eq_true rfl) rfl ?_; intro w' vR_ t_) | go_values | go_skip | go_guarded | go_step | go_upon)
      refine bodyPost_ret (results_row_tmp Try.results17 _ _ _ _ _ _ rfl vR_ Try.underlying48 rfl (by kernel_rfl)) rfl ?_
      exact ⟨none, 0, 0, none, 0, 0, none, 0, 0, none, 0, 0, rfl, OwM.nil _ _, Turned.below B9.out t_ B9.out.size (fun i hi => by omega)⟩
    · have hzB : zB = zs := by simpa using hbz
      have h_ := HRR.out
      rw [if_pos ⟨hqq, rfl, hzB⟩] at h_
      simp only [Prod.mk.injEq] at h_
      obtain ⟨rfl, rfl⟩ := h_
      clear HRR
      repeat (first | ((with_reducible refine guardLoad (ty := 48) ?_); refine wpList_loadA vx rfl Try.underlying48 rfl (by kernel_rfl) ?_) | ((with_reducible refine guardStore (ty := 48) ?_); refine wpList_storeF vR9 rfl rfl (by kernel_rfl) rfl (of_decide_eq_true rfl) rfl ?_; intro w' vR_ t_) | go_values | go_skip | go_guarded | go_step | go_upon)
      refine bodyPost_ret (results_row_tmp Try.results17 _ _ _ _ _ _ rfl vR_ Try.underlying48 rfl (by kernel_rfl)) rfl ?_
      have hs10 := t_.size
      exact ⟨_, _, _, _, _, _, _, _, _, _, _, _, rfl, (HO9.out.keep (t_.keeps (fun b hb hs => by omega))).mono (fun b hb => ⟨by omega, by omega⟩), Turned.below B9.out t_ B9.out.size (fun i hi => by omega)⟩
end Go.Proofs.Ytmjfnmlfamikgaa
end

section
/- The specification's RecordRead, kind by kind. Condition: at most 2,000,000 bytes. -/
namespace Go.Proofs.Ytmjfnmlfamikgaa
open Go.RowKit
set_option linter.unusedVariables false
set_option linter.unusedSimpArgs false
set_option maxRecDepth 100000

set_option maxHeartbeats 16000000 in
theorem specRead3 (v : Value) (zs : List Int) (S : Nat → Prop) (w : World) (r : RdV w S v (.bytes zs)) (hl : zs.length ≤ 2000000) (hk : (getNum zs 0).1 = 3) :
    Calls Try.prog 17 #[v] w fun e w' => ∃ a1 n1 c1 a2 n2 c2 a3 n3 c3 a4 n4 c4, e = .returned (.tuple #[rcV (recRead zs).1 (.slice a1 n1 c1) (.slice a2 n2 c2) (.slice a3 n3 c3) (.slice a4 n4 c4), .bool (recRead zs).2]) ∧ OwM w' (fun b => w.heap.size ≤ b ∧ b < w'.heap.size) (recRead zs).1 (.slice a1 n1 c1) (.slice a2 n2 c2) (.slice a3 n3 c3) (.slice a4 n4 c4) ∧ Below w.heap.size w w' := by
  have hz := RdV.zs r
  obtain ⟨va, vcap, rfl⟩ := r.sliceB
  obtain ⟨v, hv⟩ : ∃ v, v = Value.slice va zs.length vcap := ⟨_, rfl⟩
  rw [← hv] at r
  have HS : Hid (∀ o, CurV 91 (w.heap.size + 1) zs v 0 ((w.alloc o).alloc (.cells #[v, .int .i64 0] 91))) := fun o => CurV.start _ o r
  have hsz := szRc (rdEnS zs) (szS zs) zs
  rw [recRead_spec hz]
  clear r
  obtain ⟨n0, q0, e0⟩ : ∃ x q, getNum zs 0 = (x, q) := ⟨_, _, rfl⟩
  have H0 : Hid (∀ W, CurV 91 (w.heap.size + 1) zs v 0 W → _) := fun W hW => by have h_ := specNumC (w.heap.size + 1) zs v 0 W hW hl; rw [e0] at h_; exact h_
  obtain ⟨⟨xs1, xb1, xn1⟩, q1, e1⟩ : ∃ x q, rdTx zs q0 = (x, q) := ⟨_, _, rfl⟩
  have H1 : Hid (∀ W, CurV 91 (w.heap.size + 1) zs v q0 W → _) := fun W hW => by have h_ := specTxC (w.heap.size + 1) zs v q0 W hW hl; rw [e1] at h_; exact h_
  obtain ⟨n2, q2, e2⟩ : ∃ x q, getNum zs q1 = (x, q) := ⟨_, _, rfl⟩
  have H2 : Hid (∀ W, CurV 91 (w.heap.size + 1) zs v q1 W → _) := fun W hW => by have h_ := specNumC (w.heap.size + 1) zs v q1 W hW hl; rw [e2] at h_; exact h_
  obtain ⟨n3, q3, e3⟩ : ∃ x q, getNum zs q2 = (x, q) := ⟨_, _, rfl⟩
  have H3 : Hid (∀ W, CurV 91 (w.heap.size + 1) zs v q2 W → _) := fun W hW => by have h_ := specNumC (w.heap.size + 1) zs v q2 W hW hl; rw [e3] at h_; exact h_
  obtain ⟨n4, q4, e4⟩ : ∃ x q, getNum zs q3 = (x, q) := ⟨_, _, rfl⟩
  have H4 : Hid (∀ W, CurV 91 (w.heap.size + 1) zs v q3 W → _) := fun W hW => by have h_ := specNumC (w.heap.size + 1) zs v q3 W hW hl; rw [e4] at h_; exact h_
  obtain ⟨⟨ok5, ⟨op5, oq5, od5⟩, nm5, ⟨tp5, tq5, td5⟩, asn5, ov5⟩, q5, e5⟩ : ∃ x q, rdOp zs q4 = (x, q) := ⟨_, _, rfl⟩
  have H5 : Hid (∀ W, CurV 91 (w.heap.size + 1) zs v q4 W → _) := fun W hW => by have h_ := specOpC (w.heap.size + 1) zs v q4 W hW hl; rw [e5] at h_; exact h_
  obtain ⟨⟨rc6, ⟨rp6, rq6, rd6⟩, rv6, es6⟩, q6, e6⟩ : ∃ x q, rdRp (rdEnS zs) zs q5 = (x, q) := ⟨_, _, rfl⟩
  have H6 : Hid (∀ W, CurV 91 (w.heap.size + 1) zs v q5 W → _) := fun W hW => by have h_ := specReplyC (w.heap.size + 1) zs v q5 W hW hl; rw [e6] at h_; exact h_
  rw [e0] at hk
  dsimp only at hk
  subst hk
  have hR : rdRc (rdEnS zs) zs = (⟨3, n3, 0, n4, ⟨ok5, (op5, oq5, od5), nm5, (tp5, tq5, td5), asn5, ov5⟩, ⟨rc6, (rp6, rq6, rd6), rv6, es6⟩, (xs1, xb1, xn1), pt0, n2, hd0⟩, q6) := by simp [rdRc, e0, e1, e2, e3, e4, e5, e6]
  rw [hR] at hsz ⊢
  clear hR e0 e1 e2 e3 e4 e5 e6
  dsimp only at hsz ⊢
  have HOK : Hid (∀ x y z u S W, RdM W S ⟨3, n3, 0, n4, ⟨ok5, (op5, oq5, od5), nm5, (tp5, tq5, td5), asn5, ov5⟩, ⟨rc6, (rp6, rq6, rd6), rv6, es6⟩, (xs1, xb1, xn1), pt0, n2, hd0⟩ x y z u → _) := fun x y z u S W hW => specRecordOk_any x y z u _ S W hW (by omega)
  have HBY : Hid (∀ x y z u S W, RdM W S ⟨3, n3, 0, n4, ⟨ok5, (op5, oq5, od5), nm5, (tp5, tq5, td5), asn5, ov5⟩, ⟨rc6, (rp6, rq6, rd6), rv6, es6⟩, (xs1, xb1, xn1), pt0, n2, hd0⟩ x y z u → COk ⟨3, n3, 0, n4, ⟨ok5, (op5, oq5, od5), nm5, (tp5, tq5, td5), asn5, ov5⟩, ⟨rc6, (rp6, rq6, rd6), rv6, es6⟩, (xs1, xb1, xn1), pt0, n2, hd0⟩ = true → _) := fun x y z u S W hW ho => specRecB_any _ x y z u S W hW (by omega) ho
  obtain ⟨mR, bR, hRR⟩ : ∃ a b, (if q6 = zs.length ∧ COk ⟨3, n3, 0, n4, ⟨ok5, (op5, oq5, od5), nm5, (tp5, tq5, td5), asn5, ov5⟩, ⟨rc6, (rp6, rq6, rd6), rv6, es6⟩, (xs1, xb1, xn1), pt0, n2, hd0⟩ = true ∧ rcB ⟨3, n3, 0, n4, ⟨ok5, (op5, oq5, od5), nm5, (tp5, tq5, td5), asn5, ov5⟩, ⟨rc6, (rp6, rq6, rd6), rv6, es6⟩, (xs1, xb1, xn1), pt0, n2, hd0⟩ = zs then (⟨3, n3, 0, n4, ⟨ok5, (op5, oq5, od5), nm5, (tp5, tq5, td5), asn5, ov5⟩, ⟨rc6, (rp6, rq6, rd6), rv6, es6⟩, (xs1, xb1, xn1), pt0, n2, hd0⟩, true) else (ms0, false)) = (a, b) := ⟨_, _, rfl⟩
  rw [hRR]
  have HRR : Hid ((if q6 = zs.length ∧ COk ⟨3, n3, 0, n4, ⟨ok5, (op5, oq5, od5), nm5, (tp5, tq5, td5), asn5, ov5⟩, ⟨rc6, (rp6, rq6, rd6), rv6, es6⟩, (xs1, xb1, xn1), pt0, n2, hd0⟩ = true ∧ rcB ⟨3, n3, 0, n4, ⟨ok5, (op5, oq5, od5), nm5, (tp5, tq5, td5), asn5, ov5⟩, ⟨rc6, (rp6, rq6, rd6), rv6, es6⟩, (xs1, xb1, xn1), pt0, n2, hd0⟩ = zs then (⟨3, n3, 0, n4, ⟨ok5, (op5, oq5, od5), nm5, (tp5, tq5, td5), asn5, ov5⟩, ⟨rc6, (rp6, rq6, rd6), rv6, es6⟩, (xs1, xb1, xn1), pt0, n2, hd0⟩, true) else (ms0, false)) = (mR, bR)) := hRR
  clear hRR hsz
  generalize COk ⟨3, n3, 0, n4, ⟨ok5, (op5, oq5, od5), nm5, (tp5, tq5, td5), asn5, ov5⟩, ⟨rc6, (rp6, rq6, rd6), rv6, es6⟩, (xs1, xb1, xn1), pt0, n2, hd0⟩ = okB at HOK HBY HRR
  generalize rcB ⟨3, n3, 0, n4, ⟨ok5, (op5, oq5, od5), nm5, (tp5, tq5, td5), asn5, ov5⟩, ⟨rc6, (rp6, rq6, rd6), rv6, es6⟩, (xs1, xb1, xn1), pt0, n2, hd0⟩ = zB at HBY HRR
  dsimp only
  subst hv
  go_enter Try.func17, Try.ntmps17
  go_wp2_with fail
  refine Calls.mono (H0.out _ (HS.out _)) ?_
  rintro e w1 ⟨rfl, hc_, t_⟩
  have hx0 := t_.size
  simp at hx0
  have HT : Hid (Below w.heap.size w w1) := Turned.below ((Below.new1 (w := w) _).trans ((Below.new1 (w := w.alloc _) _).mono (by simp))) t_ (by simp <;> omega) (fun i hi => by omega)
  have vR : VarA w1 w.heap.size 48 #[.int .i64 0, .int .i64 0, .int .i64 0, .int .i64 0, .int .i64 0, .int .i64 0, .bool false, .slice none 0 0, .int .i64 0, .int .i64 0, .bool false, .slice none 0 0, .int .i64 0, .int .i64 0, .int .i64 0, .bool false, .int .i64 0, .int .i64 0, .int .i64 0, .bool false, .int .i64 0, .slice none 0 0, .int .i64 0, .int .i64 0, .int .i64 0, .int .i64 0, .int .i64 0, .int .i64 0, .bool false, .slice none 0 0, .int .i64 0, .int .i64 0, .bool false, .int .i64 0] := VarA.turn ((VarA.new w _ _).alloc _) t_ (by omega)
  clear HS
  have HC1 : Hid (CurV 91 (w.heap.size + 1) zs _ q0 w1) := hc_
  clear hc_ t_ H0
  dsimp only
  repeat (first | ((with_reducible refine guardStore (ty := 48) ?_); refine wpList_storeF (VarA.new w1 _ _) rfl rfl (by kernel_rfl) rfl (of_decide_eq_true rfl) rfl ?_; intro w1' vO t_; have k0_ := vO.c 0 rfl) | go_values | go_skip | go_guarded | go_step | go_upon)
  clear k0_
  have vO_ : VarA w1' w1.heap.size 48 #[.int .i64 3, .int .i64 0, .int .i64 0, .int .i64 0, .int .i64 0, .int .i64 0, .bool false, .slice none 0 0, .int .i64 0, .int .i64 0, .bool false, .slice none 0 0, .int .i64 0, .int .i64 0, .int .i64 0, .bool false, .int .i64 0, .int .i64 0, .int .i64 0, .bool false, .int .i64 0, .slice none 0 0, .int .i64 0, .int .i64 0, .int .i64 0, .int .i64 0, .int .i64 0, .int .i64 0, .bool false, .slice none 0 0, .int .i64 0, .int .i64 0, .bool false, .int .i64 0] := vO
  clear vO
  have t1 : Turned (fun b => b = w1.heap.size) w1 w1' := (Turned.ofBelow (Below.new1 (w := w1) _)).trans t_
  clear t_
  have vO := vO_
  clear vO_
  have HC1' : Hid (CurV 91 (w.heap.size + 1) zs _ q0 w1') := HC1.out.keep t1 (fun b hb => by omega)
  have vR_ := vR.turn t1 (by omega)
  clear vR
  have vR := vR_
  clear vR_
  have HT_ : Hid (Below w.heap.size w w1') := Turned.below HT.out t1 HT.out.size (fun i hi => by omega)
  clear HT
  have HT := HT_
  clear HT_
  have hy1 := t1.size
  have hob := VarA.lt vO
  clear t1 HC1
  have HC1 := HC1'
  clear HC1'
  refine Calls.mono (H1.out _ HC1.out) ?_
  rintro e w2 ⟨rfl, hc_, t_⟩
  have HT_ : Hid (Below w.heap.size w w2) := Turned.below HT.out t_ HT.out.size (fun i hi => by omega)
  clear HT
  have HT := HT_
  clear HT_
  have vR_ := vR.turn t_ (by omega)
  clear vR
  have vR := vR_
  clear vR_
  have hx1 := t_.size
  have vO_ := vO.turn t_ (by omega)
  clear vO
  have vO := vO_
  clear vO_
  have HC2 : Hid (CurV 91 (w.heap.size + 1) zs _ q1 w2) := hc_
  clear hc_ t_ H1 HC1
  dsimp only
  repeat (first | ((with_reducible refine guardStore (ty := 44) ?_); refine wpList_storeG vO rfl rfl rfl (by kernel_rfl) rfl (of_decide_eq_true rfl) rfl ?_; intro w2' vO_ t_) | go_values | go_skip | go_guarded | go_step | go_upon)
  have vO1 : VarA w2' w1.heap.size 48 #[.int .i64 3, .int .i64 0, .int .i64 0, .int .i64 0, .int .i64 0, .int .i64 0, .bool false, .slice none 0 0, .int .i64 0, .int .i64 0, .bool false, .slice none 0 0, .int .i64 0, .int .i64 0, .int .i64 0, .bool false, .int .i64 0, .int .i64 0, .int .i64 0, .bool false, .int .i64 0, .slice none 0 0, .int .i64 xs1, .int .i64 xb1, .int .i64 xn1, .int .i64 0, .int .i64 0, .int .i64 0, .bool false, .slice none 0 0, .int .i64 0, .int .i64 0, .bool false, .int .i64 0] := vO_
  clear vO_ vO
  have vO_ := vO1
  clear vO1
  have t1 : Turned (fun b => b = w1.heap.size) w2 w2' := t_
  clear t_
  have vO := vO_
  clear vO_
  have HC2' : Hid (CurV 91 (w.heap.size + 1) zs _ q1 w2') := HC2.out.keep t1 (fun b hb => by omega)
  have vR_ := vR.turn t1 (by omega)
  clear vR
  have vR := vR_
  clear vR_
  have HT_ : Hid (Below w.heap.size w w2') := Turned.below HT.out t1 HT.out.size (fun i hi => by omega)
  clear HT
  have HT := HT_
  clear HT_
  have hy2 := t1.size
  clear t1 HC2
  have HC2 := HC2'
  clear HC2'
  refine Calls.mono (H2.out _ HC2.out) ?_
  rintro e w3 ⟨rfl, hc_, t_⟩
  have HT_ : Hid (Below w.heap.size w w3) := Turned.below HT.out t_ HT.out.size (fun i hi => by omega)
  clear HT
  have HT := HT_
  clear HT_
  have vR_ := vR.turn t_ (by omega)
  clear vR
  have vR := vR_
  clear vR_
  have hx2 := t_.size
  have vO_ := vO.turn t_ (by omega)
  clear vO
  have vO := vO_
  clear vO_
  have HC3 : Hid (CurV 91 (w.heap.size + 1) zs _ q2 w3) := hc_
  clear hc_ t_ H2 HC2
  dsimp only
  repeat (first | ((with_reducible refine guardStore (ty := 3) ?_); refine wpList_storeG vO rfl rfl rfl (by kernel_rfl) rfl (of_decide_eq_true rfl) rfl ?_; intro w3' vO_ t_) | go_values | go_skip | go_guarded | go_step | go_upon)
  have vO1 : VarA w3' w1.heap.size 48 #[.int .i64 3, .int .i64 0, .int .i64 0, .int .i64 0, .int .i64 0, .int .i64 0, .bool false, .slice none 0 0, .int .i64 0, .int .i64 0, .bool false, .slice none 0 0, .int .i64 0, .int .i64 0, .int .i64 0, .bool false, .int .i64 0, .int .i64 0, .int .i64 0, .bool false, .int .i64 0, .slice none 0 0, .int .i64 xs1, .int .i64 xb1, .int .i64 xn1, .int .i64 0, .int .i64 0, .int .i64 0, .bool false, .slice none 0 0, .int .i64 0, .int .i64 0, .bool false, .int .i64 n2] := vO_
  clear vO_ vO
  have vO_ := vO1
  clear vO1
  have t1 : Turned (fun b => b = w1.heap.size) w3 w3' := t_
  clear t_
  have vO := vO_
  clear vO_
  have HC3' : Hid (CurV 91 (w.heap.size + 1) zs _ q2 w3') := HC3.out.keep t1 (fun b hb => by omega)
  have vR_ := vR.turn t1 (by omega)
  clear vR
  have vR := vR_
  clear vR_
  have HT_ : Hid (Below w.heap.size w w3') := Turned.below HT.out t1 HT.out.size (fun i hi => by omega)
  clear HT
  have HT := HT_
  clear HT_
  have hy3 := t1.size
  clear t1 HC3
  have HC3 := HC3'
  clear HC3'
  refine Calls.mono (H3.out _ HC3.out) ?_
  rintro e w4 ⟨rfl, hc_, t_⟩
  have HT_ : Hid (Below w.heap.size w w4) := Turned.below HT.out t_ HT.out.size (fun i hi => by omega)
  clear HT
  have HT := HT_
  clear HT_
  have vR_ := vR.turn t_ (by omega)
  clear vR
  have vR := vR_
  clear vR_
  have hx3 := t_.size
  have vO_ := vO.turn t_ (by omega)
  clear vO
  have vO := vO_
  clear vO_
  have HC4 : Hid (CurV 91 (w.heap.size + 1) zs _ q3 w4) := hc_
  clear hc_ t_ H3 HC3
  dsimp only
  repeat (first | ((with_reducible refine guardStore (ty := 3) ?_); refine wpList_storeG vO rfl rfl rfl (by kernel_rfl) rfl (of_decide_eq_true rfl) rfl ?_; intro w4' vO_ t_) | go_values | go_skip | go_guarded | go_step | go_upon)
  have vO1 : VarA w4' w1.heap.size 48 #[.int .i64 3, .int .i64 n3, .int .i64 0, .int .i64 0, .int .i64 0, .int .i64 0, .bool false, .slice none 0 0, .int .i64 0, .int .i64 0, .bool false, .slice none 0 0, .int .i64 0, .int .i64 0, .int .i64 0, .bool false, .int .i64 0, .int .i64 0, .int .i64 0, .bool false, .int .i64 0, .slice none 0 0, .int .i64 xs1, .int .i64 xb1, .int .i64 xn1, .int .i64 0, .int .i64 0, .int .i64 0, .bool false, .slice none 0 0, .int .i64 0, .int .i64 0, .bool false, .int .i64 n2] := vO_
  clear vO_ vO
  have vO_ := vO1
  clear vO1
  have t1 : Turned (fun b => b = w1.heap.size) w4 w4' := t_
  clear t_
  have vO := vO_
  clear vO_
  have HC4' : Hid (CurV 91 (w.heap.size + 1) zs _ q3 w4') := HC4.out.keep t1 (fun b hb => by omega)
  have vR_ := vR.turn t1 (by omega)
  clear vR
  have vR := vR_
  clear vR_
  have HT_ : Hid (Below w.heap.size w w4') := Turned.below HT.out t1 HT.out.size (fun i hi => by omega)
  clear HT
  have HT := HT_
  clear HT_
  have hy4 := t1.size
  clear t1 HC4
  have HC4 := HC4'
  clear HC4'
  refine Calls.mono (H4.out _ HC4.out) ?_
  rintro e w5 ⟨rfl, hc_, t_⟩
  have HT_ : Hid (Below w.heap.size w w5) := Turned.below HT.out t_ HT.out.size (fun i hi => by omega)
  clear HT
  have HT := HT_
  clear HT_
  have vR_ := vR.turn t_ (by omega)
  clear vR
  have vR := vR_
  clear vR_
  have hx4 := t_.size
  have vO_ := vO.turn t_ (by omega)
  clear vO
  have vO := vO_
  clear vO_
  have HC5 : Hid (CurV 91 (w.heap.size + 1) zs _ q4 w5) := hc_
  clear hc_ t_ H4 HC4
  dsimp only
  repeat (first | ((with_reducible refine guardStore (ty := 3) ?_); refine wpList_storeG vO rfl rfl rfl (by kernel_rfl) rfl (of_decide_eq_true rfl) rfl ?_; intro w5' vO_ t_) | go_values | go_skip | go_guarded | go_step | go_upon)
  have vO1 : VarA w5' w1.heap.size 48 #[.int .i64 3, .int .i64 n3, .int .i64 n4, .int .i64 0, .int .i64 0, .int .i64 0, .bool false, .slice none 0 0, .int .i64 0, .int .i64 0, .bool false, .slice none 0 0, .int .i64 0, .int .i64 0, .int .i64 0, .bool false, .int .i64 0, .int .i64 0, .int .i64 0, .bool false, .int .i64 0, .slice none 0 0, .int .i64 xs1, .int .i64 xb1, .int .i64 xn1, .int .i64 0, .int .i64 0, .int .i64 0, .bool false, .slice none 0 0, .int .i64 0, .int .i64 0, .bool false, .int .i64 n2] := vO_
  clear vO_ vO
  have vO_ := vO1
  clear vO1
  have t1 : Turned (fun b => b = w1.heap.size) w5 w5' := t_
  clear t_
  have vO := vO_
  clear vO_
  have HC5' : Hid (CurV 91 (w.heap.size + 1) zs _ q4 w5') := HC5.out.keep t1 (fun b hb => by omega)
  have vR_ := vR.turn t1 (by omega)
  clear vR
  have vR := vR_
  clear vR_
  have HT_ : Hid (Below w.heap.size w w5') := Turned.below HT.out t1 HT.out.size (fun i hi => by omega)
  clear HT
  have HT := HT_
  clear HT_
  have hy5 := t1.size
  clear t1 HC5
  have HC5 := HC5'
  clear HC5'
  refine Calls.mono (H5.out _ HC5.out) ?_
  rintro e w6 ⟨a5, l5, c5, a5y, l5y, c5y, M5, rfl, o5, o5y, hM5, hN5, hc_, t_⟩
  have HT_ : Hid (Below w.heap.size w w6) := Turned.below HT.out t_ HT.out.size (fun i hi => by omega)
  clear HT
  have HT := HT_
  clear HT_
  have vR_ := vR.turn t_ (by omega)
  clear vR
  have vR := vR_
  clear vR_
  have hx5 := t_.size
  have vO_ := vO.turn t_ (by omega)
  clear vO
  have vO := vO_
  clear vO_
  have HO5 : Hid (OwV w6 (fun b => w5'.heap.size ≤ b ∧ b < M5) (.slice a5 l5 c5) (.bytes nm5)) := o5
  clear o5
  have HO5y : Hid (OwV w6 (fun b => M5 ≤ b ∧ b < w6.heap.size) (.slice a5y l5y c5y) (.bytes asn5)) := o5y
  clear o5y
  have HC6 : Hid (CurV 91 (w.heap.size + 1) zs _ q5 w6) := hc_
  clear hc_ t_ H5 HC5
  dsimp only
  repeat (first | ((with_reducible refine guardStore (ty := 40) ?_); refine wpList_storeG vO rfl rfl rfl (by kernel_rfl) rfl (of_decide_eq_true rfl) rfl ?_; intro w6' vO_ t_) | go_values | go_skip | go_guarded | go_step | go_upon)
  have vO1 : VarA w6' w1.heap.size 48 #[.int .i64 3, .int .i64 n3, .int .i64 n4, .int .i64 ok5, .int .i64 op5, .int .i64 oq5, .bool od5, .slice a5 l5 c5, .int .i64 tp5, .int .i64 tq5, .bool td5, .slice a5y l5y c5y, .int .i64 ov5, .int .i64 0, .int .i64 0, .bool false, .int .i64 0, .int .i64 0, .int .i64 0, .bool false, .int .i64 0, .slice none 0 0, .int .i64 xs1, .int .i64 xb1, .int .i64 xn1, .int .i64 0, .int .i64 0, .int .i64 0, .bool false, .slice none 0 0, .int .i64 0, .int .i64 0, .bool false, .int .i64 n2] := vO_
  clear vO_ vO
  have vO_ := vO1
  clear vO1
  have t1 : Turned (fun b => b = w1.heap.size) w6 w6' := t_
  clear t_
  have vO := vO_
  clear vO_
  have HC6' : Hid (CurV 91 (w.heap.size + 1) zs _ q5 w6') := HC6.out.keep t1 (fun b hb => by omega)
  have vR_ := vR.turn t1 (by omega)
  clear vR
  have vR := vR_
  clear vR_
  have HT_ : Hid (Below w.heap.size w w6') := Turned.below HT.out t1 HT.out.size (fun i hi => by omega)
  clear HT
  have HT := HT_
  clear HT_
  have hy6 := t1.size
  have HO5_ : Hid (OwV w6' (fun b => w5'.heap.size ≤ b ∧ b < M5) (.slice a5 l5 c5) (.bytes nm5)) := HO5.out.keep (t1.keeps (fun b hb hs => by omega))
  clear HO5
  have HO5 := HO5_
  clear HO5_
  have HO5y_ : Hid (OwV w6' (fun b => M5 ≤ b ∧ b < w6.heap.size) (.slice a5y l5y c5y) (.bytes asn5)) := HO5y.out.keep (t1.keeps (fun b hb hs => by omega))
  clear HO5y
  have HO5y := HO5y_
  clear HO5y_
  clear t1 HC6
  have HC6 := HC6'
  clear HC6'
  refine Calls.mono (H6.out _ HC6.out) ?_
  rintro e w7 ⟨a6, l6, c6, rfl, o6, hc_, t_⟩
  have HT_ : Hid (Below w.heap.size w w7) := Turned.below HT.out t_ HT.out.size (fun i hi => by omega)
  clear HT
  have HT := HT_
  clear HT_
  have vR_ := vR.turn t_ (by omega)
  clear vR
  have vR := vR_
  clear vR_
  have hx6 := t_.size
  have vO_ := vO.turn t_ (by omega)
  clear vO
  have vO := vO_
  clear vO_
  have HO5_ : Hid (OwV w7 (fun b => w5'.heap.size ≤ b ∧ b < M5) (.slice a5 l5 c5) (.bytes nm5)) := HO5.out.keep (t_.keeps (fun b hb hs => by omega))
  clear HO5
  have HO5 := HO5_
  clear HO5_
  have HO5y_ : Hid (OwV w7 (fun b => M5 ≤ b ∧ b < w6.heap.size) (.slice a5y l5y c5y) (.bytes asn5)) := HO5y.out.keep (t_.keeps (fun b hb hs => by omega))
  clear HO5y
  have HO5y := HO5y_
  clear HO5y_
  have HO6 : Hid (OwV w7 (fun b => w6'.heap.size ≤ b ∧ b < w7.heap.size) (.slice a6 l6 c6) (ensDt es6)) := o6
  clear o6
  have HC7 : Hid (CurV 91 (w.heap.size + 1) zs _ q6 w7) := hc_
  clear hc_ t_ H6 HC6
  dsimp only
  repeat (first | ((with_reducible refine guardStore (ty := 43) ?_); refine wpList_storeG vO rfl rfl rfl (by kernel_rfl) rfl (of_decide_eq_true rfl) rfl ?_; intro wz vO_ t_) | go_values | go_skip | go_guarded | go_step | go_upon)
  have vZ : VarA wz w1.heap.size 48 #[.int .i64 3, .int .i64 n3, .int .i64 n4, .int .i64 ok5, .int .i64 op5, .int .i64 oq5, .bool od5, .slice a5 l5 c5, .int .i64 tp5, .int .i64 tq5, .bool td5, .slice a5y l5y c5y, .int .i64 ov5, .int .i64 0, .int .i64 0, .bool false, .int .i64 rc6, .int .i64 rp6, .int .i64 rq6, .bool rd6, .int .i64 rv6, .slice a6 l6 c6, .int .i64 xs1, .int .i64 xb1, .int .i64 xn1, .int .i64 0, .int .i64 0, .int .i64 0, .bool false, .slice none 0 0, .int .i64 0, .int .i64 0, .bool false, .int .i64 n2] := vO_
  have t1 : Turned (fun b => b = w1.heap.size) w7 wz := t_
  have HCz : Hid (CurV 91 (w.heap.size + 1) zs (.slice va zs.length vcap) q6 wz) := HC7.out.keep t1 (fun b hb => by omega)
  have vRz := vR.turn t1 (by omega)
  have HTz : Hid (Below w.heap.size w wz) := Turned.below HT.out t1 HT.out.size (fun i hi => by omega)
  have hsz := t1.size
  have HO5_ : OwV wz (fun b => w5'.heap.size ≤ b ∧ b < M5) (.slice a5 l5 c5) (.bytes nm5) := HO5.out.keep (t1.keeps (fun b hb hs => by omega))
  have HO5y_ : OwV wz (fun b => M5 ≤ b ∧ b < w6.heap.size) (.slice a5y l5y c5y) (.bytes asn5) := HO5y.out.keep (t1.keeps (fun b hb hs => by omega))
  have HO6_ : OwV wz (fun b => w6'.heap.size ≤ b ∧ b < w7.heap.size) (.slice a6 l6 c6) (ensDt es6) := HO6.out.keep (t1.keeps (fun b hb hs => by omega))
  have HOM : Hid (OwM wz (fun b => w1.heap.size + 1 ≤ b ∧ b < wz.heap.size) ⟨3, n3, 0, n4, ⟨ok5, (op5, oq5, od5), nm5, (tp5, tq5, td5), asn5, ov5⟩, ⟨rc6, (rp6, rq6, rd6), rv6, es6⟩, (xs1, xb1, xn1), pt0, n2, hd0⟩ (.slice a5 l5 c5) (.slice a5y l5y c5y) (.slice a6 l6 c6) (.slice none 0 0)) := by
    refine ⟨fun b => w5'.heap.size ≤ b ∧ b < M5, fun b => M5 ≤ b ∧ b < w6.heap.size, fun b => w6'.heap.size ≤ b ∧ b < w7.heap.size, fun _ => False, HO5_, HO5y_, HO6_, OwV.nilB _ _, ?_, ?_, ?_, ?_⟩
    · intro b hb
      rcases hb with hb | hb | hb | hb <;> first | exact hb.elim | exact ⟨by omega, by omega⟩
    · intro b hb
      refine ⟨fun h => ?_, fun h => ?_, fun h => ?_⟩ <;> first | exact hb.elim | exact h.elim | omega
    · intro b hb
      refine ⟨fun h => ?_, fun h => ?_⟩ <;> first | exact hb.elim | exact h.elim | omega
    · intro b hb h
      first | exact hb.elim | exact h.elim | omega
  clear HO5 HO5_ HO5y HO5y_ HO6 HO6_ vO_ t_ t1 vR HT HC7 vO
  try simp only [Act.put]
  obtain ⟨c0, c1⟩ := VarA.l2 HCz.out.1
  have hltc := HCz.out.lt
  haveI : Nonempty (Cls wz) := Cls.ne wz
  have k1_ := Cls.cell hltc c1
  have hVM : ∀ W, (∃ i : Cls wz, W = i.W) → VarA W w1.heap.size 48 #[.int .i64 3, .int .i64 n3, .int .i64 n4, .int .i64 ok5, .int .i64 op5, .int .i64 oq5, .bool od5, .slice a5 l5 c5, .int .i64 tp5, .int .i64 tq5, .bool td5, .slice a5y l5y c5y, .int .i64 ov5, .int .i64 0, .int .i64 0, .bool false, .int .i64 rc6, .int .i64 rp6, .int .i64 rq6, .bool rd6, .int .i64 rv6, .slice a6 l6 c6, .int .i64 xs1, .int .i64 xb1, .int .i64 xn1, .int .i64 0, .int .i64 0, .int .i64 0, .bool false, .slice none 0 0, .int .i64 0, .int .i64 0, .bool false, .int .i64 n2] := fun W ⟨i, hi⟩ => by rw [hi]; exact VarA.step vZ i.h
  by_cases hqq : q6 = zs.length
  case neg =>
    have h_ := HRR.out
    rw [if_neg (fun h => hqq h.1)] at h_
    simp only [Prod.mk.injEq] at h_
    obtain ⟨rfl, rfl⟩ := h_
    clear HRR
    have f1 : (q6 == (zs.length : Int)) = false := by simpa using hqq
    have f2 : (q6 != (zs.length : Int)) = true := by simpa using hqq
    have f3 : decide (q6 = (zs.length : Int)) = false := by simpa using hqq
    refine wp_region_cls (by kernel_rfl) (by kernel_rfl) ?_
    repeat (go_big_quiet_step (fail))
    refine wpQuiet_nil ?_
    rintro w' ⟨⟨w', b_⟩, rfl⟩
    have vR9 := vRz.step b_
    have B9 : Hid (Below w.heap.size w w') := HTz.out.trans (b_.mono HTz.out.size)
    clear vRz HTz vZ HCz HOM HOK HBY b_ this hVM k1_
    repeat (first | ((with_reducible refine guardStore (ty := 48) ?_); refine wpList_storeF vR9 rfl rfl (by kernel_rfl) rfl (of_decide_eq_true rfl) rfl ?_; intro w' vR_ t_) | go_values | go_skip | go_guarded | go_step | go_upon)
    refine bodyPost_ret (results_row_tmp Try.results17 _ _ _ _ _ _ rfl vR_ Try.underlying48 rfl (by kernel_rfl)) rfl ?_
    exact ⟨none, 0, 0, none, 0, 0, none, 0, 0, none, 0, 0, rfl, OwM.nil _ _, Turned.below B9.out t_ B9.out.size (fun i hi => by omega)⟩
  have f1 : (q6 == (zs.length : Int)) = true := by simpa using hqq
  have f2 : (q6 != (zs.length : Int)) = false := by simpa using hqq
  have f3 : decide (q6 = (zs.length : Int)) = true := by simpa using hqq
  cases okB
  · have h_ := HRR.out
    rw [if_neg (fun h => by cases h.2.1)] at h_
    simp only [Prod.mk.injEq] at h_
    obtain ⟨rfl, rfl⟩ := h_
    clear HRR
    refine wp_region_cls (by kernel_rfl) (by kernel_rfl) ?_
    repeat (go_big_quiet_step (fail))
    (refine wpQuiet_loadA hVM rfl rfl Try.underlying48 rfl (by kernel_rfl) ?_); simp only [Act.put, List.setIfInBounds_toArray, List.set_cons_succ, List.set_cons_zero]
    repeat (go_big_quiet_step (first | (go_at_call 7; exact Calls.cls (HOK.out _ _ _ _ _ _ (HOM.out.rd.step (Cls.h _))))))
    refine wpQuiet_nil ?_
    rintro w' ⟨⟨w', b_⟩, rfl⟩
    have vR9 := vRz.step b_
    have B9 : Hid (Below w.heap.size w w') := HTz.out.trans (b_.mono HTz.out.size)
    clear vRz HTz vZ HCz HOM HOK HBY b_ this hVM k1_
    repeat (first | ((with_reducible refine guardStore (ty := 48) ?_); refine wpList_storeF vR9 rfl rfl (by kernel_rfl) rfl (of_decide_eq_true rfl) rfl ?_; intro w' vR_ t_) | go_values | go_skip | go_guarded | go_step | go_upon)
    refine bodyPost_ret (results_row_tmp Try.results17 _ _ _ _ _ _ rfl vR_ Try.underlying48 rfl (by kernel_rfl)) rfl ?_
    exact ⟨none, 0, 0, none, 0, 0, none, 0, 0, none, 0, 0, rfl, OwM.nil _ _, Turned.below B9.out t_ B9.out.size (fun i hi => by omega)⟩
  · clear k1_ this hVM
    obtain ⟨bz, hbz⟩ : ∃ b : Bool, decide (zB = zs) = b := ⟨_, rfl⟩
    refine wp_region_noPanic ?_
    refine wp_region_cur (by kernel_rfl) HCz.out vZ (fun hHeld => ?_)
    refine wpAnyH_take (i := 0) (v := ?_) rfl (by kernel_rfl) (by kernel_rfl) (by kernel_rfl) (fun _ _ _ h => h) (Or.inl ⟨by rfl, ?_⟩) (by assumption) ?_
    rotate_left
    · (intro w_ hSw_; go_simp; try with_reducible rfl)
    try simp only [Act.put, List.setIfInBounds_toArray, List.set_cons_zero, List.set_cons_succ, List.getElem_toArray, List.getElem_cons_zero, List.getElem_cons_succ]
    refine wpAnyH_take (i := 1) (v := ?_) rfl (by kernel_rfl) (by kernel_rfl) (by kernel_rfl) (fun _ _ _ h => h) (Or.inl ⟨by rfl, ?_⟩) (by assumption) ?_
    rotate_left
    · (intro w_ hSw_; go_simp; try with_reducible rfl)
    try simp only [Act.put, List.setIfInBounds_toArray, List.set_cons_zero, List.set_cons_succ, List.getElem_toArray, List.getElem_cons_zero, List.getElem_cons_succ]
    refine wpAnyH_take (i := 2) (v := ?_) rfl (by kernel_rfl) (by kernel_rfl) (by kernel_rfl) (fun _ _ _ h => h) (Or.inl ⟨by rfl, ?_⟩) (by assumption) ?_
    rotate_left
    · (intro w_ hSw_; go_simp; try with_reducible rfl)
    try simp only [Act.put, List.setIfInBounds_toArray, List.set_cons_zero, List.set_cons_succ, List.getElem_toArray, List.getElem_cons_zero, List.getElem_cons_succ]
    refine wpAnyH_take (i := 3) (v := ?_) rfl (by kernel_rfl) (by kernel_rfl) (by kernel_rfl) (fun _ _ _ h => h) (Or.inl ⟨by rfl, ?_⟩) (by assumption) ?_
    rotate_left
    · (intro w_ hSw_; have q_ := VarA.c hSw_.1.1 1 rfl; go_simp; try with_reducible rfl)
    try simp only [Act.put, List.setIfInBounds_toArray, List.set_cons_zero, List.set_cons_succ, List.getElem_toArray, List.getElem_cons_zero, List.getElem_cons_succ]
    refine wpAnyH_take (i := 4) (v := ?_) rfl (by kernel_rfl) (by kernel_rfl) (by kernel_rfl) (fun _ _ _ h => h) (Or.inl ⟨by rfl, ?_⟩) (by assumption) ?_
    rotate_left
    · (intro w_ hSw_; go_simp; try with_reducible rfl)
    try simp only [Act.put, List.setIfInBounds_toArray, List.set_cons_zero, List.set_cons_succ, List.getElem_toArray, List.getElem_cons_zero, List.getElem_cons_succ]
    refine wpAnyH_take (i := 5) (v := ?_) rfl (by kernel_rfl) (by kernel_rfl) (by kernel_rfl) (fun _ _ _ h => h) (Or.inl ⟨by rfl, ?_⟩) (by assumption) ?_
    rotate_left
    · (intro w_ hSw_; go_simp; try with_reducible rfl)
    try simp only [Act.put, List.setIfInBounds_toArray, List.set_cons_zero, List.set_cons_succ, List.getElem_toArray, List.getElem_cons_zero, List.getElem_cons_succ]
    refine wpAnyH_take (i := 6) (v := ?_) rfl (by kernel_rfl) (by kernel_rfl) (by kernel_rfl) (fun _ _ _ h => h) (Or.inl ⟨by rfl, ?_⟩) (by assumption) ?_
    rotate_left
    · (intro w_ hSw_; go_simp; try with_reducible rfl)
    try simp only [Act.put, List.setIfInBounds_toArray, List.set_cons_zero, List.set_cons_succ, List.getElem_toArray, List.getElem_cons_zero, List.getElem_cons_succ]
    refine wpAnyH_take (i := 7) (v := ?_) rfl (by kernel_rfl) (by kernel_rfl) (by kernel_rfl) (fun _ _ _ h => h) (Or.inl ⟨by rfl, ?_⟩) (by assumption) ?_
    rotate_left
    · (intro w_ hSw_; go_simp; try with_reducible rfl)
    try simp only [Act.put, List.setIfInBounds_toArray, List.set_cons_zero, List.set_cons_succ, List.getElem_toArray, List.getElem_cons_zero, List.getElem_cons_succ]
    refine wpAnyH_take (i := 8) (v := _) rfl (by kernel_rfl) (by kernel_rfl) (by kernel_rfl) (fun _ _ _ h => h) (Or.inl ⟨by rfl, fun w_ hS_ => loadOp_run hS_.2 rfl Try.underlying48 rfl (by kernel_rfl)⟩) (by assumption) ?_
    try simp only [Act.put, List.setIfInBounds_toArray, List.set_cons_zero, List.set_cons_succ, List.getElem_toArray, List.getElem_cons_zero, List.getElem_cons_succ]
    refine wpAnyH_ready (rs := [9]) (by kernel_rfl) (by simp) ?_
    refine AllReadyH.cons rfl (fun K hK => ?_) AllReadyH.nil
    go_simp
    refine Calls.mono (HOK.out _ _ _ _ _ wz.drew (HOM.out.rd.step (Below.drew (Below.refl _ _)))) ?_
    rintro e wy ⟨rfl, b_⟩
    have by_ : Below wz.heap.size wz wy := (Below.drew (Below.refl _ _)).trans b_
    have hcy := HCz.out.step by_
    have vy := vZ.step by_
    clear b_
    refine hK.out _ _ ⟨hcy, vy⟩ (fun hHeld => ?_)
    clear hK K
    try simp only [Act.put, List.setIfInBounds_toArray, List.set_cons_zero, List.set_cons_succ, List.getElem_toArray, List.getElem_cons_zero, List.getElem_cons_succ]
    refine wpAnyH_take (i := 10) (v := ?_) rfl (by kernel_rfl) (by kernel_rfl) (by kernel_rfl) (fun _ _ _ h => h) (Or.inl ⟨by rfl, ?_⟩) (by assumption) ?_
    rotate_left
    · (intro w_ hSw_; go_simp; try with_reducible rfl)
    try simp only [Act.put, List.setIfInBounds_toArray, List.set_cons_zero, List.set_cons_succ, List.getElem_toArray, List.getElem_cons_zero, List.getElem_cons_succ]
    refine wpAnyH_take (i := 11) (v := ?_) rfl (by kernel_rfl) (by kernel_rfl) (by kernel_rfl) (fun _ _ _ h => h) (Or.inl ⟨by rfl, ?_⟩) (by assumption) ?_
    rotate_left
    · (intro w_ hSw_; go_simp; try with_reducible rfl)
    try simp only [Act.put, List.setIfInBounds_toArray, List.set_cons_zero, List.set_cons_succ, List.getElem_toArray, List.getElem_cons_zero, List.getElem_cons_succ]
    refine wpAnyH_take (i := 12) (v := ?_) rfl (by kernel_rfl) (by kernel_rfl) (by kernel_rfl) (fun _ _ _ h => h) (Or.inl ⟨by rfl, ?_⟩) (by assumption) ?_
    rotate_left
    · (intro w_ hSw_; go_simp; try with_reducible rfl)
    try simp only [Act.put, List.setIfInBounds_toArray, List.set_cons_zero, List.set_cons_succ, List.getElem_toArray, List.getElem_cons_zero, List.getElem_cons_succ]
    refine wpAnyH_take (i := 13) (v := _) rfl (by kernel_rfl) (by kernel_rfl) (by kernel_rfl) (fun _ _ _ h => h) (Or.inl ⟨by rfl, fun w_ hS_ => loadOp_run hS_.2 rfl Try.underlying48 rfl (by kernel_rfl)⟩) (by assumption) ?_
    try simp only [Act.put, List.setIfInBounds_toArray, List.set_cons_zero, List.set_cons_succ, List.getElem_toArray, List.getElem_cons_zero, List.getElem_cons_succ]
    refine wpAnyH_take (i := 16) (v := ?_) rfl (by kernel_rfl) (by kernel_rfl) (by kernel_rfl) (fun _ _ _ h => h) (Or.inl ⟨by rfl, ?_⟩) (by assumption) ?_
    rotate_left
    · (intro w_ hSw_; go_simp; try with_reducible rfl)
    try simp only [Act.put, List.setIfInBounds_toArray, List.set_cons_zero, List.set_cons_succ, List.getElem_toArray, List.getElem_cons_zero, List.getElem_cons_succ]
    refine wpAnyH_take (i := 17) (v := ?_) rfl (by kernel_rfl) (by kernel_rfl) (by kernel_rfl) (fun _ _ _ h => h) (Or.inl ⟨by rfl, ?_⟩) (by assumption) ?_
    rotate_left
    · (intro w_ hSw_; have q_ := conv_any _ zs _ vcap w_ (RdV.rd0 hSw_.1.2.1) rfl; go_simp; try with_reducible rfl)
    try simp only [Act.put, List.setIfInBounds_toArray, List.set_cons_zero, List.set_cons_succ, List.getElem_toArray, List.getElem_cons_zero, List.getElem_cons_succ]
    refine wpAnyH_ready (rs := [14]) (by kernel_rfl) (by simp) ?_
    refine AllReadyH.cons rfl (fun K hK => ?_) AllReadyH.nil
    go_simp
    refine Calls.mono (HBY.out _ _ _ _ _ _ (HOM.out.rd.step by_) rfl) ?_
    rintro e wx ⟨u, rfl, zu, ou, b_⟩
    obtain ⟨ua, ul, uc, rfl, rfl, hur, _⟩ := ou.openNil zu
    have hcu := conv_any ua zB _ uc wx hur rfl
    have hst := (str_eq zB zs zu hz).trans hbz
    have bx_ : Below wz.heap.size wz wx := by_.trans (b_.mono by_.size)
    have hcx := HCz.out.step bx_
    have vx := vZ.step bx_
    clear b_ ou
    refine hK.out _ _ ⟨hcx, vx⟩ (fun hHeld => ?_)
    clear hK K
    try simp only [Act.put, List.setIfInBounds_toArray, List.set_cons_zero, List.set_cons_succ, List.getElem_toArray, List.getElem_cons_zero, List.getElem_cons_succ]
    refine wpAnyH_ready (rs := [15]) (by kernel_rfl) (by simp) ?_
    refine AllReadyH.cons rfl (fun K hK => ?_) AllReadyH.nil
    go_simp
    refine hK.out _ _ ⟨hcx, vx⟩ (fun hHeld => ?_)
    clear hK K
    try simp only [Act.put, List.setIfInBounds_toArray, List.set_cons_zero, List.set_cons_succ, List.getElem_toArray, List.getElem_cons_zero, List.getElem_cons_succ]
    refine wpAnyH_take (i := 18) (v := ?_) rfl (by kernel_rfl) (by kernel_rfl) (by kernel_rfl) (fun _ _ _ h => h) (Or.inl ⟨by rfl, ?_⟩) (by assumption) ?_
    rotate_left
    · (intro w_ hSw_; go_simp; try with_reducible rfl)
    try simp only [Act.put, List.setIfInBounds_toArray, List.set_cons_zero, List.set_cons_succ, List.getElem_toArray, List.getElem_cons_zero, List.getElem_cons_succ]
    refine wpAnyH_take (i := 19) (v := ?_) rfl (by kernel_rfl) (by kernel_rfl) (by kernel_rfl) (fun _ _ _ h => h) (Or.inl ⟨by rfl, ?_⟩) (by assumption) ?_
    rotate_left
    · (intro w_ hSw_; go_simp; try with_reducible rfl)
    try simp only [Act.put, List.setIfInBounds_toArray, List.set_cons_zero, List.set_cons_succ, List.getElem_toArray, List.getElem_cons_zero, List.getElem_cons_succ]
    refine wpAnyH_done (by kernel_rfl) (NoPanic.normal ?_) _
    have vR9 := vRz.step bx_
    have B9 : Hid (Below w.heap.size w wx) := HTz.out.trans (bx_.mono HTz.out.size)
    have HO9 : Hid (OwM wx (fun b => w1.heap.size + 1 ≤ b ∧ b < wz.heap.size) ⟨3, n3, 0, n4, ⟨ok5, (op5, oq5, od5), nm5, (tp5, tq5, td5), asn5, ov5⟩, ⟨rc6, (rp6, rq6, rd6), rv6, es6⟩, (xs1, xb1, xn1), pt0, n2, hd0⟩ (.slice a5 l5 c5) (.slice a5y l5y c5y) (.slice a6 l6 c6) (.slice none 0 0)) := HOM.out.keep (Keeps.ofBelow bx_)
    have hs9 := bx_.size
    clear hHeld hcx hcy vy vRz HTz vZ HCz HOM HOK HBY hcu hst bx_ by_
    cases bz
    · have hzB : ¬ zB = zs := by simpa using hbz
      have h_ := HRR.out
      rw [if_neg (fun h => hzB h.2.2)] at h_
      simp only [Prod.mk.injEq] at h_
      obtain ⟨rfl, rfl⟩ := h_
      clear HRR vx HO9
      repeat (first | ((with_reducible refine guardStore (ty := 48) ?_); refine wpList_storeF vR9 rfl rfl (by kernel_rfl) rfl (of_decide_eq_true rfl) rfl ?_; intro w' vR_ t_) | go_values | go_skip | go_guarded | go_step | go_upon)
      refine bodyPost_ret (results_row_tmp Try.results17 _ _ _ _ _ _ rfl vR_ Try.underlying48 rfl (by kernel_rfl)) rfl ?_
      exact ⟨none, 0, 0, none, 0, 0, none, 0, 0, none, 0, 0, rfl, OwM.nil _ _, Turned.below B9.out t_ B9.out.size (fun i hi => by omega)⟩
    · have hzB : zB = zs := by simpa using hbz
      have h_ := HRR.out
      rw [if_pos ⟨hqq, rfl, hzB⟩] at h_
      simp only [Prod.mk.injEq] at h_
      obtain ⟨rfl, rfl⟩ := h_
      clear HRR
      repeat (first | ((with_reducible refine guardLoad (ty := 48) ?_); refine wpList_loadA vx rfl Try.underlying48 rfl (by kernel_rfl) ?_) | ((with_reducible refine guardStore (ty := 48) ?_); refine wpList_storeF vR9 rfl rfl (by kernel_rfl) rfl (of_decide_eq_true rfl) rfl ?_; intro w' vR_ t_) | go_values | go_skip | go_guarded | go_step | go_upon)
      refine bodyPost_ret (results_row_tmp Try.results17 _ _ _ _ _ _ rfl vR_ Try.underlying48 rfl (by kernel_rfl)) rfl ?_
      have hs10 := t_.size
      exact ⟨_, _, _, _, _, _, _, _, _, _, _, _, rfl, (HO9.out.keep (t_.keeps (fun b hb hs => by omega))).mono (fun b hb => ⟨by omega, by omega⟩), Turned.below B9.out t_ B9.out.size (fun i hi => by omega)⟩
end Go.Proofs.Ytmjfnmlfamikgaa
end
