/- Proved: for all bytes that a caller can hand in, the law FnExactMsgRead returns true, and its argument reads as before. Conditions: none. -/
import Derived.Test.YtbnjhjgjmckedaaGreatRows
import Derived.Test.YtbnjhjgjmckedaaGreatJ02
import Derived.Test.YtbnjhjgjmckedaaGreatJ27
import Derived.Test.YtbnjhjgjmckedaaGreatJ11
import Derived.Test.YtbnjhjgjmckedaaGreatJ10
import Derived.Test.YtbnjhjgjmckedaaGreatJ04
import Derived.WalkKit
import Derived.ProofKit
import Derived.OpenShut
import Derived.ShutString
import Derived.ChangeOld
import Derived.Below
namespace Go.Proofs.YtbnjhjgjmckedaaGreat.fnExactMsgRead
open Go.ChangeShapes Go.WideShapes Go.ChangeAt Go.RowKit
set_option linter.unusedVariables false
set_option linter.unusedSimpArgs false

theorem own : ownKnob Tryz.prog.godebug = none := by kernel_rfl
theorem laidOut : laidOutB Tryz.prog = true := by kernel_rfl

section
open Go.Deep Go.ChangeShapes Go.WideShapes
variable {H : Type} {enc : TypeId × Value → H} {w : World} {held : Bool}
set_option maxRecDepth 100000 in
theorem open_bytesV {b0 : Nat} {r : Reach} {v : Value} {x : DataW H} {p : List MemPlace} (hv : Value.okWide Tryz.prog w r b0 22 v) (h : DataW.Trod enc Tryz.prog w 0 (fun _ => true) held 22 v x p) : ∃ zs, RdV w (Old w) v (.bytes zs) := by
  obtain ⟨a, n, c, rfl⟩ := okWide_slice Tryz.underlying22 hv
  obtain ⟨fuel, hf⟩ := h
  exact open_bytesT hf
end
theorem szMsR (zs : List Int) : szMs (msRead zs).1 ≤ 2000 := by
  unfold msRead
  split
  · exact szMd (rdEnP zs) (szP zs) zs
  · simp [szMs, ms0, op0, rp0, pt0, szEns]
set_option maxRecDepth 100000 in
set_option maxHeartbeats 16000000 in
theorem walk (v0 : Value) (zs : List Int) (w : World) (r : RdV w (Old w) v0 (.bytes zs)) :
    Calls Tryz.prog 4 #[v0] w fun e w' => e = .returned (.bool true) ∧ Below w.heap.size w w' := by
  by_cases hlen : zs.length ≤ 1048576
  case neg =>
    obtain ⟨a, cap, rfl⟩ := r.sliceB
    clear r
    have hd : decide ((1048576 : Int) < (zs.length : Int)) = true := by simp; omega
    generalize zs.length = nz at *
    go_enter Tryz.func4, Tryz.ntmps4
    go_wp2
    all_goals first | (go_ret; exact ⟨rfl, Below.refl _ _⟩) | (exfalso; omega)
  have hms : szMs (msRead zs).1 ≤ 2097152 := by have := szMsR zs; omega
  have HTB : Hid (∀ W, Below w.heap.size w W → _) := fun W hW => toByteS_d v0 zs (Old w) W (r.step hW) (by omega)
  have HSP : Hid (∀ x S W, RdV W S x (.bytes zs) → _) := fun x S W hW => specMsgRead_any x zs S W hW (by omega)
  have HIM : Hid (∀ x S W, RdV W S x (.bytes zs) → _) := fun x S W hW => implMsgRead_any x zs S W hW (by omega)
  have HEQ : Hid (∀ x y z u x2 y2 z2 u2 S S2 W, RdM W S (msRead zs).1 x y z u → RdM W S2 (msRead zs).1 x2 y2 z2 u2 → _) := fun x y z u x2 y2 z2 u2 S S2 W q1 q2 => eqMsg_same x y z u x2 y2 z2 u2 _ S S2 W q1 q2 hms
  have HMK : Hid (∀ x y z u Q W, OwM W Q (msRead zs).1 x y z u → (∀ b, Q b → b < W.heap.size) → _) := fun x y z u Q W q1 q2 => markMsg_f _ x y z u 1 Q W q1 q2 hms (by omega)
  have HHE : Hid (∀ x y z u Q W, RdM W Q (mkMs (msRead zs).1 1) x y z u → _) := fun x y z u Q W q1 => heldMsg_d _ x y z u 1 Q W q1 hms (by omega)
  have HEB : Hid (∀ x y S S2 W, RdV W S x (.bytes zs) → RdV W S2 y (.bytes zs) → _) := fun x y S S2 W q1 q2 => eqByteS_same x y zs S S2 W q1 q2 (by omega)
  have HMB : Hid (∀ x S W, OwV W S x (.bytes zs) → _) := fun x S W q1 => mark_d x zs 1 S W q1 (by omega) (by omega)
  have hlm : lenMs (msRead zs).1 ≤ 99511627776 := by
    have h1 := lenEns_le (msRead zs).1.rp.list
    unfold szMs at hms
    unfold lenMs; omega
  have HMM : Hid (∀ x y z u, msV (mkMs (msRead zs).1 1) x y z u = msV (msRead zs).1 x y z u) := fun x y z u => rfl
  obtain ⟨va, vc, rfl⟩ := r.sliceB
  have hd : decide ((1048576 : Int) < (zs.length : Int)) = false := by simp; omega
  have hnlt : ¬ (1048576 : Int) < (zs.length : Int) := by omega
  clear r hms
  generalize msRead zs = R at HSP HIM HEQ HMK HHE hlm HMM
  obtain ⟨m, bR⟩ := R
  dsimp only at HSP HIM HEQ HMK HHE hlm HMM
  have hbb : (bR != bR) = false := by simp
  generalize lenMs m = lm at *
  obtain ⟨kd, fr, to, rq, ⟨ok, ⟨op_, oq, od⟩, nm, ⟨tp, tq, td⟩, asn, ov⟩, ⟨rc, ⟨rp_, rq_, rd⟩, rv, es⟩, ⟨xs, xb, xn⟩, ⟨pk, ⟨pp, pq, pd⟩, pas, ⟨sp, sq, sd⟩⟩, cd, ⟨hp, hq, hd⟩⟩ := m
  try dsimp only at HSP HIM HEQ HMK HHE
  go_enter Tryz.func4, Tryz.ntmps4
  go_wp2_with fail
  refine Calls.mono (HTB.out _ (Below.refl _ _)) ?_
  rintro e w1 ⟨b1, b1n, b1c, rfl, o1, t1⟩
  have B1 : Hid (Below w.heap.size w w1) := t1
  have HQ : Hid _ := HSP.out _ _ _ o1.rd
  have hs1 := t1.size
  clear o1 t1 HSP
  go_wp2_with fail
  refine Calls.mono HQ.out ?_
  rintro e w2 ⟨sa1, sn1, sc1, sa2, sn2, sc2, sa3, sn3, sc3, sa4, sn4, sc4, rfl, oS, b_⟩
  have hs2 := b_.size
  have B2 : Hid (Below w.heap.size w w2) := B1.out.trans (b_.mono B1.out.size)
  have HW : Hid (∀ W, Keeps (fun b => w1.heap.size ≤ b ∧ b < w2.heap.size) w2 W → OwM W (fun b => w1.heap.size ≤ b ∧ b < w2.heap.size) _ (.slice sa1 sn1 sc1) (.slice sa2 sn2 sc2) (.slice sa3 sn3 sc3) (.slice sa4 sn4 sc4)) := fun W hW => OwM.keep oS hW
  clear oS b_ B1 HQ
  dsimp only
  repeat (first | ((with_reducible refine guardStore (ty := 35) ?_); refine wpList_storeF (VarA.new w2 _ _) rfl rfl (by kernel_rfl) rfl (of_decide_eq_true rfl) rfl ?_; intro w3 vW_ t_) | go_values | go_skip | go_guarded | go_step | go_upon)
  have vW : VarA w3 w2.heap.size 35 #[.int .i64 kd, .int .i64 fr, .int .i64 to, .int .i64 rq, .int .i64 ok, .int .i64 op_, .int .i64 oq, .bool od, .slice sa1 sn1 sc1, .int .i64 tp, .int .i64 tq, .bool td, .slice sa2 sn2 sc2, .int .i64 ov, .int .i64 rc, .int .i64 rp_, .int .i64 rq_, .bool rd, .int .i64 rv, .slice sa3 sn3 sc3, .int .i64 xs, .int .i64 xb, .int .i64 xn, .int .i64 pk, .int .i64 pp, .int .i64 pq, .bool pd, .slice sa4 sn4 sc4, .int .i64 sp, .int .i64 sq, .bool sd, .int .i64 cd, .int .i64 hp, .int .i64 hq, .bool hd] := vW_
  have t1 : Turned (fun b => b = w2.heap.size) w2 w3 := (Turned.ofBelow (Below.new1 (w := w2) _)).trans t_
  have hs3 := t1.size
  have hlW := VarA.lt vW
  have B3 : Hid (Below w.heap.size w w3) := Turned.below B2.out t1 B2.out.size (fun i hi => by omega)
  have KW : Hid (Keeps (fun b => w1.heap.size ≤ b ∧ b < w2.heap.size) w2 w3) := t1.keeps (fun b h1 h2 => by omega)
  clear vW_ t_ t1 B2
  refine Calls.mono (HTB.out _ B3.out) ?_
  rintro e w4 ⟨xa, xn_, xc, rfl, oX, b_⟩
  have hs4 := b_.size
  have HX : Hid (∀ W, Keeps (fun b => w3.heap.size ≤ b ∧ b < w4.heap.size) w4 W → OwV W (fun b => w3.heap.size ≤ b ∧ b < w4.heap.size) (.slice xa xn_ xc) (.bytes zs)) := fun W hW => OwV.keep hW oX
  have vW4 := vW.step b_
  have B4 : Hid (Below w.heap.size w w4) := B3.out.trans (b_.mono B3.out.size)
  have KW4 : Hid (Keeps (fun b => w1.heap.size ≤ b ∧ b < w2.heap.size) w2 w4) := KW.out.trans (Keeps.ofBelow b_)
  have HQ : Hid _ := HIM.out _ _ _ oX.rd
  clear vW B3 KW oX b_
  go_wp2_with fail
  refine Calls.mono HQ.out ?_
  rintro e w5 ⟨ga1, gn1, gc1, ga2, gn2, gc2, ga3, gn3, gc3, ga4, gn4, gc4, rfl, oG, b_⟩
  have hs5 := b_.size
  have HG : Hid (∀ W, Keeps (fun b => w4.heap.size ≤ b ∧ b < w5.heap.size) w5 W → OwM W (fun b => w4.heap.size ≤ b ∧ b < w5.heap.size) _ (.slice ga1 gn1 gc1) (.slice ga2 gn2 gc2) (.slice ga3 gn3 gc3) (.slice ga4 gn4 gc4)) := fun W hW => OwM.keep oG hW
  have vW5 := vW4.step b_
  have B5 : Hid (Below w.heap.size w w5) := B4.out.trans (b_.mono B4.out.size)
  have KW5 : Hid (Keeps (fun b => w1.heap.size ≤ b ∧ b < w2.heap.size) w2 w5) := KW4.out.trans (Keeps.ofBelow b_)
  have KX5 : Hid (Keeps (fun b => w3.heap.size ≤ b ∧ b < w4.heap.size) w4 w5) := Keeps.ofBelow b_
  clear vW4 B4 KW4 oG b_ HQ
  dsimp only
  repeat (first | ((with_reducible refine guardStore (ty := 35) ?_); refine wpList_storeF (VarA.new w5 _ _) rfl rfl (by kernel_rfl) rfl (of_decide_eq_true rfl) rfl ?_; intro w6 vG_ t_; have t1 : Turned (fun b => b = w5.heap.size) w5 w6 := (Turned.ofBelow (Below.new1 (w := w5) _)).trans t_; have vG : VarA w6 w5.heap.size 35 #[.int .i64 kd, .int .i64 fr, .int .i64 to, .int .i64 rq, .int .i64 ok, .int .i64 op_, .int .i64 oq, .bool od, .slice ga1 gn1 gc1, .int .i64 tp, .int .i64 tq, .bool td, .slice ga2 gn2 gc2, .int .i64 ov, .int .i64 rc, .int .i64 rp_, .int .i64 rq_, .bool rd, .int .i64 rv, .slice ga3 gn3 gc3, .int .i64 xs, .int .i64 xb, .int .i64 xn, .int .i64 pk, .int .i64 pp, .int .i64 pq, .bool pd, .slice ga4 gn4 gc4, .int .i64 sp, .int .i64 sq, .bool sd, .int .i64 cd, .int .i64 hp, .int .i64 hq, .bool hd] := vG_; have vW6 := vW5.turn t1 (by omega)) | ((with_reducible refine guardLoadW (ty := 35) ?_); refine wpList_loadW rfl vG rfl Tryz.underlying35 rfl (by kernel_rfl) ?_) | ((with_reducible refine guardLoadW (ty := 35) ?_); refine wpList_loadW rfl vW6 rfl Tryz.underlying35 rfl (by kernel_rfl) ?_) | go_values | go_skip | go_guarded | go_step | go_upon)
  have hs6 := t1.size
  have hlG := VarA.lt vG
  have B6 : Hid (Below w.heap.size w w6) := Turned.below B5.out t1 B5.out.size (fun i hi => by omega)
  have KW6 : Hid (Keeps (fun b => w1.heap.size ≤ b ∧ b < w2.heap.size) w2 w6) := KW5.out.trans (t1.keeps (fun b h1 h2 => by omega))
  have KX6 : Hid (Keeps (fun b => w3.heap.size ≤ b ∧ b < w4.heap.size) w4 w6) := KX5.out.trans (t1.keeps (fun b h1 h2 => by omega))
  have KG6 : Hid (Keeps (fun b => w4.heap.size ≤ b ∧ b < w5.heap.size) w5 w6) := t1.keeps (fun b h1 h2 => by omega)
  clear vG_ t_ t1 vW5 B5 KW5 KX5
  refine Calls.mono (HEQ.out _ _ _ _ _ _ _ _ _ _ _ (HG.out _ KG6.out).rd (HW.out _ KW6.out).rd) ?_
  rintro e w7 ⟨rfl, b_⟩
  have vW7 := vW6.step b_
  have vG7 := vG.step b_
  have B7 : Hid (Below w.heap.size w w7) := B6.out.trans (b_.mono B6.out.size)
  have KW7 : Hid (Keeps (fun b => w1.heap.size ≤ b ∧ b < w2.heap.size) w2 w7) := KW6.out.trans (Keeps.ofBelow b_)
  have KX7 : Hid (Keeps (fun b => w3.heap.size ≤ b ∧ b < w4.heap.size) w4 w7) := KX6.out.trans (Keeps.ofBelow b_)
  have KG7 : Hid (Keeps (fun b => w4.heap.size ≤ b ∧ b < w5.heap.size) w5 w7) := KG6.out.trans (Keeps.ofBelow b_)
  have hs7 := b_.size
  clear b_ vW6 vG B6 KW6 KX6 KG6
  go_wp2_with fail
  refine Calls.mono (HTB.out _ B7.out) ?_
  rintro e w8 ⟨ya, yn, yc, rfl, oY, b_⟩
  have vW8 := vW7.step b_
  have vG8 := vG7.step b_
  have B8 : Hid (Below w.heap.size w w8) := B7.out.trans (b_.mono B7.out.size)
  have KW8 : Hid (Keeps (fun b => w1.heap.size ≤ b ∧ b < w2.heap.size) w2 w8) := KW7.out.trans (Keeps.ofBelow b_)
  have KX8 : Hid (Keeps (fun b => w3.heap.size ≤ b ∧ b < w4.heap.size) w4 w8) := KX7.out.trans (Keeps.ofBelow b_)
  have KG8 : Hid (Keeps (fun b => w4.heap.size ≤ b ∧ b < w5.heap.size) w5 w8) := KG7.out.trans (Keeps.ofBelow b_)
  have hs8 := b_.size
  clear b_ vW7 vG7 B7 KW7 KX7 KG7
  go_wp2_with fail
  refine Calls.mono (HEB.out _ _ _ _ _ (HX.out _ KX8.out).rd oY.rd) ?_
  rintro e w9 ⟨rfl, b_⟩
  have vW9 := vW8.step b_
  have vG9 := vG8.step b_
  have B9 : Hid (Below w.heap.size w w9) := B8.out.trans (b_.mono B8.out.size)
  have KW9 : Hid (Keeps (fun b => w1.heap.size ≤ b ∧ b < w2.heap.size) w2 w9) := KW8.out.trans (Keeps.ofBelow b_)
  have KX9 : Hid (Keeps (fun b => w3.heap.size ≤ b ∧ b < w4.heap.size) w4 w9) := KX8.out.trans (Keeps.ofBelow b_)
  have KG9 : Hid (Keeps (fun b => w4.heap.size ≤ b ∧ b < w5.heap.size) w5 w9) := KG8.out.trans (Keeps.ofBelow b_)
  have hs9 := b_.size
  clear b_ vW8 vG8 B8 KW8 KX8 KG8 oY
  go_wp2_with fail
  refine Calls.mono (HMB.out _ _ _ (HX.out _ KX9.out)) ?_
  rintro e w10 ⟨rfl, _, t1⟩
  have vW10 := vW9.turn t1 (by omega)
  have vG10 := vG9.turn t1 (by omega)
  have B10 : Hid (Below w.heap.size w w10) := Turned.below B9.out t1 B9.out.size (fun i hi => by omega)
  have KW10 : Hid (Keeps (fun b => w1.heap.size ≤ b ∧ b < w2.heap.size) w2 w10) := KW9.out.trans (t1.keeps (fun b h1 h2 => by omega))
  have KG10 : Hid (Keeps (fun b => w4.heap.size ≤ b ∧ b < w5.heap.size) w5 w10) := KG9.out.trans (t1.keeps (fun b h1 h2 => by omega))
  have hs10 := t1.size
  clear t1 vW9 vG9 B9 KW9 KX9 KG9 HX HMB HEB
  have hk0 : decide ((((1 + zs.length : Nat) : Int)) < 0) = false := by simp; omega
  have hk1 : ¬ (((1 + zs.length : Nat) : Int)) < 0 := by omega
  dsimp only
  repeat (first | ((with_reducible refine guardLoadW (ty := 35) ?_); refine wpList_loadW rfl vG10 rfl Tryz.underlying35 rfl (by kernel_rfl) ?_) | ((with_reducible refine guardLoadW (ty := 35) ?_); refine wpList_loadW rfl vW10 rfl Tryz.underlying35 rfl (by kernel_rfl) ?_) | go_values | go_skip | go_guarded | go_step | go_upon)
  refine Calls.mono (HEQ.out _ _ _ _ _ _ _ _ _ _ _ (HG.out _ KG10.out).rd (HW.out _ KW10.out).rd) ?_
  rintro e w11 ⟨rfl, b_⟩
  have vW11 := vW10.step b_
  have vG11 := vG10.step b_
  have B11 : Hid (Below w.heap.size w w11) := B10.out.trans (b_.mono B10.out.size)
  have KW11 : Hid (Keeps (fun b => w1.heap.size ≤ b ∧ b < w2.heap.size) w2 w11) := KW10.out.trans (Keeps.ofBelow b_)
  have KG11 : Hid (Keeps (fun b => w4.heap.size ≤ b ∧ b < w5.heap.size) w5 w11) := KG10.out.trans (Keeps.ofBelow b_)
  have hs11 := b_.size
  clear b_ vW10 vG10 B10 KW10 KG10 hk0 hk1
  dsimp only
  repeat (first | ((with_reducible refine guardLoadW (ty := 35) ?_); refine wpList_loadW rfl vG11 rfl Tryz.underlying35 rfl (by kernel_rfl) ?_) | go_values | go_skip | go_guarded | go_step | go_upon)
  refine Calls.mono (HMK.out _ _ _ _ _ _ (HG.out _ KG11.out) (fun b hb => by omega)) ?_
  rintro e w12 ⟨rfl, oM, t1⟩
  have vW12 := vW11.turn t1 (by omega)
  have vG12 := vG11.turn t1 (by omega)
  have B12 : Hid (Below w.heap.size w w12) := Turned.below B11.out t1 B11.out.size (fun i hi => by omega)
  have KW12 : Hid (Keeps (fun b => w1.heap.size ≤ b ∧ b < w2.heap.size) w2 w12) := KW11.out.trans (t1.keeps (fun b h1 h2 => by omega))
  have HGM : Hid (∀ W, Keeps (fun b => w4.heap.size ≤ b ∧ b < w5.heap.size) w12 W → RdM W (fun b => w4.heap.size ≤ b ∧ b < w5.heap.size) _ (.slice ga1 gn1 gc1) (.slice ga2 gn2 gc2) (.slice ga3 gn3 gc3) (.slice ga4 gn4 gc4)) := fun W hW => (OwM.keep oM hW).rd
  have KG12 : Hid (Keeps (fun b => w4.heap.size ≤ b ∧ b < w5.heap.size) w12 w12) := Keeps.refl _ _
  have hs12 := t1.size
  clear t1 oM vW11 vG11 B11 KW11 KG11 HG HMK
  dsimp only
  repeat (first | ((with_reducible refine guardLoadW (ty := 35) ?_); refine wpList_loadW rfl vG12 rfl Tryz.underlying35 rfl (by kernel_rfl) ?_) | go_values | go_skip | go_guarded | go_step | go_upon)
  refine Calls.mono (HHE.out _ _ _ _ _ _ (HGM.out _ KG12.out)) ?_
  rintro e w13 ⟨rfl, b_⟩
  have vW13 := vW12.step b_
  have vG13 := vG12.step b_
  have B13 : Hid (Below w.heap.size w w13) := B12.out.trans (b_.mono B12.out.size)
  have KW13 : Hid (Keeps (fun b => w1.heap.size ≤ b ∧ b < w2.heap.size) w2 w13) := KW12.out.trans (Keeps.ofBelow b_)
  have KG13 : Hid (Keeps (fun b => w4.heap.size ≤ b ∧ b < w5.heap.size) w12 w13) := KG12.out.trans (Keeps.ofBelow b_)
  have hs13 := b_.size
  clear b_ vW12 vG12 B12 KW12 KG12
  have hm0 : ¬ (((1 + lm : Nat) : Int)) < 0 := by omega
  have hm1 : decide ((((1 + lm : Nat) : Int)) < 0) = false := by simp; omega
  go_wp2_with fail
  refine Calls.mono (HTB.out _ B13.out) ?_
  rintro e w14 ⟨ya, yn, yc, rfl, oY, b_⟩
  have HQ : Hid _ := HIM.out _ _ _ oY.rd
  have vW14 := vW13.step b_
  have vG14 := vG13.step b_
  have B14 : Hid (Below w.heap.size w w14) := B13.out.trans (b_.mono B13.out.size)
  have KW14 : Hid (Keeps (fun b => w1.heap.size ≤ b ∧ b < w2.heap.size) w2 w14) := KW13.out.trans (Keeps.ofBelow b_)
  have KG14 : Hid (Keeps (fun b => w4.heap.size ≤ b ∧ b < w5.heap.size) w12 w14) := KG13.out.trans (Keeps.ofBelow b_)
  have hs14 := b_.size
  clear b_ vW13 vG13 B13 KW13 KG13 oY HIM
  go_wp2_with fail
  refine Calls.mono HQ.out ?_
  rintro e w15 ⟨ha1, hn1, hc1, ha2, hn2, hc2, ha3, hn3, hc3, ha4, hn4, hc4, rfl, oH, b_⟩
  have vW15 := vW14.step b_
  have vG15 := vG14.step b_
  have B15 : Hid (Below w.heap.size w w15) := B14.out.trans (b_.mono B14.out.size)
  have KW15 : Hid (Keeps (fun b => w1.heap.size ≤ b ∧ b < w2.heap.size) w2 w15) := KW14.out.trans (Keeps.ofBelow b_)
  have KG15 : Hid (Keeps (fun b => w4.heap.size ≤ b ∧ b < w5.heap.size) w12 w15) := KG14.out.trans (Keeps.ofBelow b_)
  have hs15 := b_.size
  clear b_ vW14 vG14 B14 KW14 KG14 HQ
  have HH : Hid (∀ W, Keeps (fun b => w14.heap.size ≤ b ∧ b < w15.heap.size) w15 W → RdM W (fun b => w14.heap.size ≤ b ∧ b < w15.heap.size) _ (.slice ha1 hn1 hc1) (.slice ha2 hn2 hc2) (.slice ha3 hn3 hc3) (.slice ha4 hn4 hc4)) := fun W hW => (OwM.keep oH hW).rd
  clear oH
  dsimp only
  repeat (first | ((with_reducible refine guardStore (ty := 35) ?_); refine wpList_storeF (VarA.new w15 _ _) rfl rfl (by kernel_rfl) rfl (of_decide_eq_true rfl) rfl ?_; intro w16 vH_ t_; have t1 : Turned (fun b => b = w15.heap.size) w15 w16 := (Turned.ofBelow (Below.new1 (w := w15) _)).trans t_; have vH : VarA w16 w15.heap.size 35 #[.int .i64 kd, .int .i64 fr, .int .i64 to, .int .i64 rq, .int .i64 ok, .int .i64 op_, .int .i64 oq, .bool od, .slice ha1 hn1 hc1, .int .i64 tp, .int .i64 tq, .bool td, .slice ha2 hn2 hc2, .int .i64 ov, .int .i64 rc, .int .i64 rp_, .int .i64 rq_, .bool rd, .int .i64 rv, .slice ha3 hn3 hc3, .int .i64 xs, .int .i64 xb, .int .i64 xn, .int .i64 pk, .int .i64 pp, .int .i64 pq, .bool pd, .slice ha4 hn4 hc4, .int .i64 sp, .int .i64 sq, .bool sd, .int .i64 cd, .int .i64 hp, .int .i64 hq, .bool hd] := vH_; have vW16 := vW15.turn t1 (by omega)) | ((with_reducible refine guardLoadW (ty := 35) ?_); refine wpList_loadW rfl vH rfl Tryz.underlying35 rfl (by kernel_rfl) ?_) | ((with_reducible refine guardLoadW (ty := 35) ?_); refine wpList_loadW rfl vW16 rfl Tryz.underlying35 rfl (by kernel_rfl) ?_) | go_values | go_skip | go_guarded | go_step | go_upon)
  have hs16 := t1.size
  have vG16 := vG15.turn t1 (by omega)
  have B16 : Hid (Below w.heap.size w w16) := Turned.below B15.out t1 B15.out.size (fun i hi => by omega)
  have KW16 : Hid (Keeps (fun b => w1.heap.size ≤ b ∧ b < w2.heap.size) w2 w16) := KW15.out.trans (t1.keeps (fun b h1 h2 => by omega))
  have KG16 : Hid (Keeps (fun b => w4.heap.size ≤ b ∧ b < w5.heap.size) w12 w16) := KG15.out.trans (t1.keeps (fun b h1 h2 => by omega))
  have KH : Hid (Keeps (fun b => w14.heap.size ≤ b ∧ b < w15.heap.size) w15 w16) := t1.keeps (fun b h1 h2 => by omega)
  clear vH_ t_ t1 vW15 vG15 B15 KW15 KG15
  refine Calls.mono (HEQ.out _ _ _ _ _ _ _ _ _ _ _ (HH.out _ KH.out) (HW.out _ KW16.out).rd) ?_
  rintro e w17 ⟨rfl, b_⟩
  have vW17 := vW16.step b_
  have vG17 := vG16.step b_
  have B17 : Hid (Below w.heap.size w w17) := B16.out.trans (b_.mono B16.out.size)
  have KW17 : Hid (Keeps (fun b => w1.heap.size ≤ b ∧ b < w2.heap.size) w2 w17) := KW16.out.trans (Keeps.ofBelow b_)
  have KG17 : Hid (Keeps (fun b => w4.heap.size ≤ b ∧ b < w5.heap.size) w12 w17) := KG16.out.trans (Keeps.ofBelow b_)
  have hs17 := b_.size
  clear b_ vW16 vG16 B16 KW16 KG16 HH KH vH HEQ HW
  dsimp only
  repeat (first | ((with_reducible refine guardLoadW (ty := 35) ?_); refine wpList_loadW rfl vG17 rfl Tryz.underlying35 rfl (by kernel_rfl) ?_) | go_values | go_skip | go_guarded | go_step | go_upon)
  refine Calls.mono (HHE.out _ _ _ _ _ _ (HGM.out _ KG17.out)) ?_
  rintro e w18 ⟨rfl, b_⟩
  have vW18 := vW17.step b_
  have vG18 := vG17.step b_
  have B18 : Hid (Below w.heap.size w w18) := B17.out.trans (b_.mono B17.out.size)
  have KW18 : Hid (Keeps (fun b => w1.heap.size ≤ b ∧ b < w2.heap.size) w2 w18) := KW17.out.trans (Keeps.ofBelow b_)
  have KG18 : Hid (Keeps (fun b => w4.heap.size ≤ b ∧ b < w5.heap.size) w12 w18) := KG17.out.trans (Keeps.ofBelow b_)
  have hs18 := b_.size
  clear b_ vW17 vG17 B17 KW17 KG17 HGM HHE
  go_wp2
  go_ret
  exact ⟨rfl, B18.out⟩

set_option maxRecDepth 100000 in
theorem lifted (os : Os) (started : os.Started) (H : Type) (enc : TypeId × Value → H) :
    ReturnsInHanded {} Tryz.checked os 4 .any (Rows.fnExactMsgReadSpec.pre6 enc Tryz.prog Tryz.f4 Rows.fnExactMsgReadRow.domain false) (Rows.fnExactMsgReadSpec.post enc Tryz.prog Tryz.f4 false true false false) := by
  refine returnsInHanded_of_change (C := Tryz.checked) own started (by kernel_rfl) Tryz.func4
    (ChangeSpec.witness6 (enc := enc) (C := Tryz.checked) false ⟨#[], #[.slice none 0 0], []⟩ 8 (by kernel_rfl) (by kernel_rfl) (by kernel_rfl) (by kernel_rfl)) ?_
  intro W base args ds gs before hval0 hW hcnd _
  have hval : ∀ (j : Nat) t v, Tryz.f4.params[j]? = some t → args[j]? = some v → Value.okWide Tryz.prog W .any base t v := hval0
  have hW' := hW
  obtain ⟨p, q, hA0, hV, rfl, hfz, hnd⟩ := hW
  have hA : DataW.TrodAll enc Tryz.prog W 0 (fun _ => true) true Tryz.f4.params.toList args.toList ds p := hA0
  rw [Tryz.params4] at hA hval
  obtain ⟨v0, vs0, x0, ds0, p0, q0, hargs, rfl, rfl, h0, r0⟩ := trodAll_cons hA
  obtain ⟨rfl, rfl, rfl⟩ := trodAll_nil r0
  obtain rfl : args = #[v0] := by cases args; simp_all
  obtain ⟨rfl, rfl⟩ := trodVars_none hV
  have k0 := h0
  have lt0 : ∀ x ∈ p0, x.block < W.heap.size := by obtain ⟨m, hm⟩ := k0; exact DataW.trod_lt m _ _ _ hm
  obtain ⟨d0, e0⟩ := open_bytesV (hval 0 22 v0 rfl rfl) h0
  clear hA0 hval0
  refine (walk v0 d0 W e0).mono fun e W' ⟨he, bel⟩ => ?_
  subst he
  exact ⟨_, rfl, _, _, _, [], _, [], hW', trodAll_mk1 (shut_bool Tryz.underlying4 _), (trodAll_cons_mk (Below.trod laidOut (by kernel_rfl) (of_decide_eq_true (by kernel_rfl)) k0 bel lt0) trodAll_mk0), rfl, bel.frame _, fun h => by cases h⟩

theorem over : Rows.fnExactMsgReadRow.holds Tryz.pinned (OpenSpec.ofChange Rows.fnExactMsgReadSpec) :=
  OpenClaim.holds_of_wide 4 Tryz.f4 rfl rfl rfl rfl rfl rfl rfl ⟨rfl, rfl, rfl, rfl, rfl⟩ rfl rfl rfl rfl rfl (by kernel_rfl) Tryz.func4 (by kernel_rfl)
    (of_decide_eq_true (by kernel_rfl)) (by unfold Func.isWrapper; first | (rw [if_pos (by decide +kernel)]; kernel_rfl) | (rw [if_neg (by decide +kernel)]; exact ⟨rfl, rfl⟩))
    (fun os started H enc _ => lifted os started H enc)
end Go.Proofs.YtbnjhjgjmckedaaGreat.fnExactMsgRead

namespace Go.Proofs.YtbnjhjgjmckedaaGreat
/-- The given statement. -/
theorem fnExactMsgRead_holds : Rows.FnExactMsgReadSaid := fnExactMsgRead.over
#print axioms fnExactMsgRead_holds
end Go.Proofs.YtbnjhjgjmckedaaGreat
