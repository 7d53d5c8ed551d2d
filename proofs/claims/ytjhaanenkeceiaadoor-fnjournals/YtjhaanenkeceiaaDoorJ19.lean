/- Joined: Draw8 Parts. -/
import Derived.Test.YtjhaanenkeceiaaDoorJ18
import Derived.Test.YtjhaanenkeceiaaDoorJ01

section
/- What DrawAppend hands back: some journal and some record, in memory of their own. No condition. -/
namespace Go.Proofs.YtjhaanenkeceiaaDoor
open Go.RowKit
set_option linter.unusedVariables false
set_option linter.unusedSimpArgs false
attribute [local go_sem ↓] Go.wp_at_zero Go.wp_at_succ

def DAOut (w : World) (e : Ending) (w' : World) : Prop := ∃ jv j rv ys, e = .returned (.tuple #[jv, rv]) ∧ RdJ w' w.heap.size w'.heap.size jv j ∧ Small j.1 ∧ RdB w' w.heap.size w'.heap.size rv ys ∧ ys.length ≤ 300 ∧ Below w.heap.size w w'
/-- How it stands ahead of the return. -/
def DAt (w : World) (pb b l h : Nat) (x y : Value) (P Q : Int) (d : Dk) (W : World) : Prop :=
  VarJ 30 W b x y P Q ∧ RdD W l h (.agg #[x, y]) d ∧ Small d ∧ VarJ 30 W w.heap.size (.slice none 0 0) (.slice none 0 0) 0 0 ∧ Below w.heap.size w W ∧ CurAt W pb ∧ (w.heap.size + 2 ≤ l ∧ h ≤ W.heap.size)

theorem DAt.set2 {w : World} {pb b l h : Nat} {x y : Value} {P Q : Int} {d : Dk} {W : World} (D : DAt w pb b l h x y P Q d W) (hb : h ≤ b) (hp : pb < b) (hw : w.heap.size < b) (z : Int) : DAt w pb b l h x y z Q d (W.setCell ⟨b, 2, none⟩ (.int .i64 z)) :=
  ⟨D.1.set2 z, D.2.1.same ⟨by simp, fun k h1 h2 => heap_setCell_other _ _ _ _ (by show k ≠ b; omega)⟩, D.2.2.1, (heap_setCell_other _ _ _ _ (by show w.heap.size ≠ b; omega)).trans D.2.2.2.1, D.2.2.2.2.1.setCell (by show w.heap.size ≤ b; omega) _, D.2.2.2.2.2.1.put hp, by simpa using D.2.2.2.2.2.2⟩
theorem DAt.set3 {w : World} {pb b l h : Nat} {x y : Value} {P Q : Int} {d : Dk} {W : World} (D : DAt w pb b l h x y P Q d W) (hb : h ≤ b) (hp : pb < b) (hw : w.heap.size < b) (z : Int) : DAt w pb b l h x y P z d (W.setCell ⟨b, 3, none⟩ (.int .i64 z)) :=
  ⟨D.1.set3 z, D.2.1.same ⟨by simp, fun k h1 h2 => heap_setCell_other _ _ _ _ (by show k ≠ b; omega)⟩, D.2.2.1, (heap_setCell_other _ _ _ _ (by show w.heap.size ≠ b; omega)).trans D.2.2.2.1, D.2.2.2.2.1.setCell (by show w.heap.size ≤ b; omega) _, D.2.2.2.2.2.1.put hp, by simpa using D.2.2.2.2.2.2⟩
theorem DAt.setD {w : World} {pb b l h l' h' : Nat} {x y x' y' : Value} {P Q : Int} {d d' : Dk} {W : World} (D : DAt w pb b l h x y P Q d W) (r : RdD W l' h' (.agg #[x', y']) d') (hs : Small d') (hl : w.heap.size + 2 ≤ l') (hh : h' ≤ W.heap.size) (hb : b < l') (hp : pb < b) (hw : w.heap.size < b) : DAt w pb b l' h' x' y' P Q d' ((W.setCell ⟨b, 0, none⟩ x').setCell ⟨b, 1, none⟩ y') := by
  refine ⟨?_, r.same ⟨by simp, fun k h1 h2 => by rw [heap_setCell_other _ _ _ _ (by show k ≠ b; omega), heap_setCell_other _ _ _ _ (by show k ≠ b; omega)]⟩, hs, ?_, (D.2.2.2.2.1.setCell (by show w.heap.size ≤ b; omega) _).setCell (by show w.heap.size ≤ b; omega) _, (D.2.2.2.2.2.1.put hp).put hp, hl, by simpa using hh⟩
  · show _ = _
    rw [heap_setCell_same _ _ _ _ _ _ (heap_setCell_same _ _ _ _ _ _ D.1)]; rfl
  · show _ = _
    rw [heap_setCell_other _ _ _ _ (by show w.heap.size ≠ b; omega), heap_setCell_other _ _ _ _ (by show w.heap.size ≠ b; omega)]
    exact D.2.2.2.1

set_option maxRecDepth 100000 in
set_option maxHeartbeats 4000000 in
theorem drawAppend_any (a : Option Addr) (zs : List Int) (len cap : Nat) (w : World) (h0 : Reads w a zs) (hlen : len = zs.length) (hm : zs.length ≤ maxLen) :
    Calls Tryd.prog 9 #[.slice a len cap] w (DAOut w) := by
  have b1 := Below.new (w := w) (.cells #[.slice none 0 0, .slice none 0 0, .int .i64 0, .int .i64 0] 30)
  have vR := VarJ.new (T := 30) w (.slice none 0 0) (.slice none 0 0) 0 0
  generalize hw1 : w.alloc (.cells #[.slice none 0 0, .slice none 0 0, .int .i64 0, .int .i64 0] 30) = w1 at b1 vR
  have HW1 : Hid _ := hw1
  have s1 : w1.heap.size = w.heap.size + 1 := by rw [← hw1]; simp
  have hr1 : Reads w1 a zs := by
    refine ⟨h0.1, ?_⟩
    rcases h0.2 with h9 | ⟨rb, ro, h9, h8, h7⟩
    · exact .inl h9
    · exact .inr ⟨rb, ro, h9, by omega, fun i hi => (b1.cell (p := ⟨rb, ro + i, none⟩) h8).trans (h7 i hi)⟩
  have HNW : Hid _ := new_any a zs len cap w1 hr1 hlen hm
  have HB1 : Hid _ := b1
  have HVR1 : Hid (VarJ 30 w1 w.heap.size _ _ _ _) := vR
  obtain ⟨pb, hpb⟩ : ∃ pb, pb = w1.heap.size := ⟨_, rfl⟩
  rw [← hpb] at HNW
  have s1a : pb ≤ w.heap.size + 1 ∧ w.heap.size + 1 ≤ pb := by omega
  have s1b : w1.heap.size ≤ pb ∧ pb ≤ w1.heap.size := by omega
  clear hw1 b1 vR h0 hr1 hlen hm s1
  go_enter Tryd.func9, Tryd.ntmps9
  go_wp2_with (rw [HW1.out])
  refine Calls.mono HNW.out ?_
  rintro e w2 ⟨rfl, hc2, b2⟩
  have s2 : w1.heap.size ≤ w2.heap.size := by rw [hpb] at b2; exact b2.size
  have hp2 := hc2.lt
  have B2 : Below w.heap.size w w2 := HB1.out.trans (by rw [hpb] at b2; exact b2.mono HB1.out.size)
  have HVR2 : Hid (VarJ 30 w2 w.heap.size (.slice none 0 0) (.slice none 0 0) 0 0) := by rw [hpb] at b2; exact VarJ.step HVR1.out b2
  have HJ : Hid _ := journal_any pb w2 hc2
  have HB2 : Hid _ := B2
  clear HNW HB1 HVR1 hc2 b2 B2 hpb
  go_wp2_with fail
  refine Calls.mono HJ.out ?_
  rintro e w3 ⟨jv, ⟨d, P, Q⟩, rfl, rJ, hsm, hc3, hg3⟩
  obtain ⟨xa, xn, xc, ya, yn, yc, rfl, rD⟩ := rJ.open
  have s3 := hg3.size
  have b4 := Below.new (w := w3) (.cells #[.slice xa xn xc, .slice ya yn yc, .int .i64 P, .int .i64 Q] 30)
  have vJ := VarJ.new (T := 30) w3 (.slice xa xn xc) (.slice ya yn yc) P Q
  have rD4 := rD.step (Nat.le_refl _) b4
  have hc4 := CurAt.below hc3 b4
  have B3 : Below w.heap.size w w3 := below_grown HB2.out hg3 HB2.out.size (by omega)
  have vR3 : VarJ 30 w3 w.heap.size (.slice none 0 0) (.slice none 0 0) 0 0 := (hg3.block w.heap.size (by omega) (fun e => by cases e; omega)).trans HVR2.out
  have vR4 := vR3.step b4
  have B4 : Below w.heap.size w _ := B3.trans (b4.mono B3.size)
  generalize hw4 : w3.alloc (.cells #[.slice xa xn xc, .slice ya yn yc, .int .i64 P, .int .i64 Q] 30) = w4 at b4 vJ rD4 hc4 vR4 B4
  have HW4 : Hid _ := hw4
  have s4 := b4.size
  have s4l := vJ.lt
  obtain ⟨b, hb⟩ : ∃ b, b = w3.heap.size := ⟨_, rfl⟩
  rw [← hb] at vJ s4l
  have hb2 : b ≤ w3.heap.size ∧ w3.heap.size ≤ b := by omega
  have hbp : pb < b := by omega
  have hxn : xn ≤ 2097152 := by
    obtain ⟨x', y', he, ra, _⟩ := rD
    simp only [Value.agg.injEq, Array.mk.injEq, List.cons.injEq, and_true] at he
    obtain ⟨rfl, rfl⟩ := he
    obtain ⟨a', n', c', us, he, hl, _⟩ := ra
    simp only [Value.slice.injEq] at he
    have := hsm.1
    have h9 : n' = d.1.length := hl
    omega
  have HON : Hid _ := once_any pb 9 w4 hc4 (by omega) (by omega)
  have DA4 : DAt w pb b w2.heap.size w3.heap.size (.slice xa xn xc) (.slice ya yn yc) P Q d w4 := ⟨vJ, rD4, hsm, vR4, B4, hc4, by omega, by omega⟩
  have HDA4 : Hid _ := DA4
  have curD : ∀ W W', DAt w pb b w2.heap.size w3.heap.size (.slice xa xn xc) (.slice ya yn yc) P Q d W → W.grownBy W' (some pb) → CurAt W' pb → b < W.heap.size → DAt w pb b w2.heap.size w3.heap.size (.slice xa xn xc) (.slice ya yn yc) P Q d W' := fun W W' D hg hc hbw =>
    ⟨(hg.block b hbw (fun e => by cases e; omega)).trans D.1, RdD.curJ D.2.1 hg (by omega) D.2.2.2.2.2.2.2, D.2.2.1, (hg.block w.heap.size (by have := D.2.2.2.2.1.size; have := VarJ.lt D.2.2.2.1; omega) (fun e => by cases e; omega)).trans D.2.2.2.1, below_grown D.2.2.2.2.1 hg D.2.2.2.2.1.size (by omega), hc, D.2.2.2.2.2.2.1, Nat.le_trans D.2.2.2.2.2.2.2 hg.size⟩
  have HCD : Hid _ := curD
  clear HJ HVR2 HB2 rJ rD hc3 hg3 b4 vJ rD4 hc4 B3 vR3 vR4 B4 hw4 DA4 curD hsm
  go_wp2_with (rw [HW4.out, ← hb])
  clear hb
  refine Calls.mono HON.out ?_
  rintro e w5 ⟨x, rfl, hc5, hg5⟩
  have s5 := hg5.size
  have DA5 := HCD.out w4 w5 HDA4.out hg5 hc5 s4l
  clear HON HDA4 hg5
  cases x with
  | false =>
    obtain ⟨W, hW⟩ : ∃ W, W = w5 := ⟨_, rfl⟩
    rw [← hW] at DA5 ⊢
    have DA := DA5
    obtain ⟨l, hl⟩ : ∃ l, l = w2.heap.size := ⟨_, rfl⟩
    obtain ⟨h, hh⟩ : ∃ h, h = w3.heap.size := ⟨_, rfl⟩
    rw [← hl, ← hh] at DA
    clear DA5 hc5 HCD hW hl hh s5 hb2 s1b s2 hp2 s3 s4 s4l
    have HV : Hid (VarJ 30 W b (.slice xa xn xc) (.slice ya yn yc) P Q) := DA.1
    have HRD : Hid (RdD W l h (.agg #[.slice xa xn xc, .slice ya yn yc]) d) := DA.2.1
    have HSM : Hid (Small d) := DA.2.2.1
    have HVR : Hid (VarJ 30 W w.heap.size (.slice none 0 0) (.slice none 0 0) 0 0) := DA.2.2.2.1
    have HBW : Hid (Below w.heap.size w W) := DA.2.2.2.2.1
    have hcW : CurAt W pb := DA.2.2.2.2.2.1
    have hlh := DA.2.2.2.2.2.2
    have hbW : b < W.heap.size := VarJ.lt HV.out
    have hsW : w.heap.size ≤ W.heap.size := HBW.out.size
    have HRC : Hid _ := record_any pb W.drew (CurAt.below hcW (Below.drew (Below.refl _ _)))
    have hsp : W.cell? ⟨b, 0, none⟩ = some (.slice xa xn xc) ∧ W.cell? ⟨b, 1, none⟩ = some (.slice ya yn yc) ∧ W.cell? ⟨b, 2, none⟩ = some (.int .i64 P) ∧ W.cell? ⟨b, 3, none⟩ = some (.int .i64 Q) := ⟨VarJ.c0 HV.out, VarJ.c1 HV.out, VarJ.c2 HV.out, VarJ.c3 HV.out⟩
    clear DA hcW
    go_wp2
    refine wp_region_noPanic ?_
    refine wp_region_held_drew (S := fun w' => w'.cell? ⟨b, 0, none⟩ = some (.slice xa xn xc) ∧ w'.cell? ⟨b, 1, none⟩ = some (.slice ya yn yc) ∧ w'.cell? ⟨b, 2, none⟩ = some (.int .i64 P) ∧ w'.cell? ⟨b, 3, none⟩ = some (.int .i64 Q)) (by kernel_rfl) hsp (fun hHeld => ?_)
    clear hsp
    refine wpAnyH_take (i := 0) (v := ?_) rfl (by kernel_rfl) (by kernel_rfl) (by kernel_rfl) (fun _ _ _ h => h) (Or.inl ⟨by rfl, ?_⟩) (by assumption) ?_
    rotate_left
    · (intro w_ hSw_; (try dsimp only at hSw_); go_simp; try with_reducible rfl)
    try simp only [Act.put, List.setIfInBounds_toArray, List.set_cons_zero, List.set_cons_succ, List.getElem_toArray, List.getElem_cons_zero, List.getElem_cons_succ]
    refine wpAnyH_take (i := 1) (v := ?_) rfl (by kernel_rfl) (by kernel_rfl) (by kernel_rfl) (fun _ _ _ h => h) (Or.inl ⟨by rfl, ?_⟩) (by assumption) ?_
    rotate_left
    · (intro w_ hSw_; (try dsimp only at hSw_); go_simp; try with_reducible rfl)
    try simp only [Act.put, List.setIfInBounds_toArray, List.set_cons_zero, List.set_cons_succ, List.getElem_toArray, List.getElem_cons_zero, List.getElem_cons_succ]
    refine wpAnyH_ready (rs := [2]) (by kernel_rfl) (by simp) ?_
    refine AllReadyH.cons rfl (fun K hK => ?_) AllReadyH.nil
    go_simp
    refine Calls.mono HRC.out ?_
    rintro e w9 ⟨rv, ys, rfl, rR, hl9, hc9, hg9⟩
    obtain ⟨ra, rn, rc, rfl⟩ := rR.sliced
    have v9 : VarJ 30 w9 b (.slice xa xn xc) (.slice ya yn yc) P Q := (hg9.block b (by show b < W.heap.size; omega) (fun e => by cases e; omega)).trans HV.out
    have vr9 : VarJ 30 w9 w.heap.size (.slice none 0 0) (.slice none 0 0) 0 0 := (hg9.block w.heap.size (by show w.heap.size < W.heap.size; omega) (fun e => by cases e; omega)).trans HVR.out
    have e0 := vr9.c0
    have e1 := vr9.c1
    have e2 := vr9.c2
    have e3 := vr9.c3
    have f0 := vr9.f 0
    have f1 := vr9.f 1
    have f2 := vr9.f 2
    have f3 := vr9.f 3
    have s9 : W.heap.size ≤ w9.heap.size := hg9.size
    have HRD9 : Hid (RdD w9 l h (.agg #[.slice xa xn xc, .slice ya yn yc]) d) := RdD.curJ HRD.out (grown_trans (grown_below (Below.drew (Below.refl _ _))) hg9) (by omega) hlh.2
    have HB9 : Hid (Below w.heap.size w w9) := below_grown HBW.out (grown_trans (grown_below (Below.drew (Below.refl _ _))) hg9) HBW.out.size (by omega)
    have HRR : Hid _ := rR
    have hp9 : w9.cell? ⟨b, 0, none⟩ = some (.slice xa xn xc) ∧ w9.cell? ⟨b, 1, none⟩ = some (.slice ya yn yc) ∧ w9.cell? ⟨b, 2, none⟩ = some (.int .i64 P) ∧ w9.cell? ⟨b, 3, none⟩ = some (.int .i64 Q) := ⟨v9.c0, v9.c1, v9.c2, v9.c3⟩
    have HPAY : Hid (((((w9.setCell ⟨w.heap.size, 0, none⟩ (.slice xa xn xc)).setCell ⟨w.heap.size, 1, none⟩ (.slice ya yn yc)).setCell ⟨w.heap.size, 2, none⟩ (.int .i64 P)).setCell ⟨w.heap.size, 3, none⟩ (.int .i64 Q)).cell? ⟨b, 0, none⟩ = some (.slice xa xn xc) ∧ ((((w9.setCell ⟨w.heap.size, 0, none⟩ (.slice xa xn xc)).setCell ⟨w.heap.size, 1, none⟩ (.slice ya yn yc)).setCell ⟨w.heap.size, 2, none⟩ (.int .i64 P)).setCell ⟨w.heap.size, 3, none⟩ (.int .i64 Q)).cell? ⟨b, 1, none⟩ = some (.slice ya yn yc) ∧ ((((w9.setCell ⟨w.heap.size, 0, none⟩ (.slice xa xn xc)).setCell ⟨w.heap.size, 1, none⟩ (.slice ya yn yc)).setCell ⟨w.heap.size, 2, none⟩ (.int .i64 P)).setCell ⟨w.heap.size, 3, none⟩ (.int .i64 Q)).cell? ⟨b, 2, none⟩ = some (.int .i64 P) ∧ ((((w9.setCell ⟨w.heap.size, 0, none⟩ (.slice xa xn xc)).setCell ⟨w.heap.size, 1, none⟩ (.slice ya yn yc)).setCell ⟨w.heap.size, 2, none⟩ (.int .i64 P)).setCell ⟨w.heap.size, 3, none⟩ (.int .i64 Q)).cell? ⟨b, 3, none⟩ = some (.int .i64 Q)) := ⟨(World.cell?_of_block (a := ⟨b, 0, none⟩) (four_other2 (by show b ≠ w.heap.size; omega))).trans v9.c0, (World.cell?_of_block (a := ⟨b, 1, none⟩) (four_other2 (by show b ≠ w.heap.size; omega))).trans v9.c1, (World.cell?_of_block (a := ⟨b, 2, none⟩) (four_other2 (by show b ≠ w.heap.size; omega))).trans v9.c2, (World.cell?_of_block (a := ⟨b, 3, none⟩) (four_other2 (by show b ≠ w.heap.size; omega))).trans v9.c3⟩
    have HT : Hid _ := VarJ.fill vr9 (.slice xa xn xc) (.slice ya yn yc) P Q
    clear v9 vr9 rR hc9 hg9 HRC
    go_wp2_with fail
    refine hK.out _ _ hp9 (fun hHeld => ?_)
    clear hK K
    try simp only [Act.put, List.setIfInBounds_toArray, List.set_cons_zero, List.set_cons_succ, List.getElem_toArray, List.getElem_cons_zero, List.getElem_cons_succ]
    refine wpAnyH_ready (rs := [3]) (by kernel_rfl) (by simp) ?_
    refine AllReadyH.cons rfl (fun K hK => ?_) AllReadyH.nil
    go_simp
    refine hK.out _ _ HPAY.out (fun hHeld => ?_)
    clear hK K
    try simp only [Act.put, List.setIfInBounds_toArray, List.set_cons_zero, List.set_cons_succ, List.getElem_toArray, List.getElem_cons_zero, List.getElem_cons_succ]
    refine wpAnyH_take (i := 4) (v := ?_) rfl (by kernel_rfl) (by kernel_rfl) (by kernel_rfl) (fun _ _ _ h => h) (Or.inl ⟨by rfl, ?_⟩) (by assumption) ?_
    rotate_left
    · (intro w_ hSw_; (try dsimp only at hSw_); go_simp; try with_reducible rfl)
    try simp only [Act.put, List.setIfInBounds_toArray, List.set_cons_zero, List.set_cons_succ, List.getElem_toArray, List.getElem_cons_zero, List.getElem_cons_succ]
    refine wpAnyH_done (by kernel_rfl) (NoPanic.normal ?_) _
    clear hHeld hp9
    go_wp2
    refine bodyPost_ret (v := .tuple #[.agg #[.slice xa xn xc, .slice ya yn yc, .int .i64 P, .int .i64 Q], .slice ra rn rc]) (by have t := HT.out; have t0 := VarJ.c0 t; have t1 := VarJ.c1 t; have t2 := VarJ.c2 t; have t3 := VarJ.c3 t; simp [results, Tryd.results9, go_sem, t0, t1, t2, t3]) rfl ⟨_, (d, P, Q), _, ys, rfl, ⟨_, _, rfl, ?_⟩, HSM.out, ?_, hl9, ?_⟩
    · exact (RdD.same HRD9.out ⟨by simp, fun q h1 _ => four_other2 (by omega)⟩).wide (by omega) (by simp; omega)
    · exact (RdB.same HRR.out ⟨by simp, fun q h1 _ => four_other2 (by have : W.heap.size ≤ q := h1; omega)⟩).wide (by show w.heap.size ≤ W.heap.size; omega) (by simp)
    · exact (((HB9.out.setCell (Nat.le_refl _) _).setCell (Nat.le_refl _) _).setCell (Nat.le_refl _) _).setCell (Nat.le_refl _) _
  | true =>
    have HBL : Hid _ := below_any pb 3 w5 hc5 (by omega) (by omega)
    go_wp2_with fail
    refine Calls.mono HBL.out ?_
    rintro e w6 ⟨t, rfl, ht0, ht1, hc6, hg6⟩
    have s6 := hg6.size
    have DA6 := HCD.out w5 w6 DA5 hg6 hc6 (by omega)
    clear HBL DA5 hc5 hg6
    have HDA6 : Hid _ := DA6
    have v6 := DA6.1
    have q0 := v6.c0
    have fz0 := v6.f 0
    have fz1 := v6.f 1
    have fz2 := v6.f 2
    have fz3 := v6.f 3
    have q1 := v6.c1
    have q2 := v6.c2
    have q3 := v6.c3
    have hb6 : b < w6.heap.size := v6.lt
    clear DA6 v6
    obtain rfl | rfl | rfl : t = 0 ∨ t = 1 ∨ t = 2 := by omega
    · have hwx := wrap_id ((xn : Int) + 1) (by omega) (by omega)
      have HPK : Hid _ := pick_any pb w6.heap.size [-1, (xn : Int) + 1, 4611686018427387904] (w6.alloc (.cells #[.int .i64 (-1), .int .i64 ((xn : Int) + 1), .int .i64 4611686018427387904] 3)) (CurAt.alloc hc6 _) (by simp) (by simp) (by omega) (heap_alloc_new w6 _)
      have HBN : Hid _ := Below.new (w := w6) (.cells #[.int .i64 (-1), .int .i64 ((xn : Int) + 1), .int .i64 4611686018427387904] 3)
      clear hc6
      go_wp2_with fail
      refine Calls.mono HPK.out ?_
      rintro e w7 ⟨z, rfl, _, hc7, hg7⟩
      have hg67 : w6.grownBy w7 (some pb) := grown_trans (grown_below HBN.out) hg7
      have DA7 := HCD.out w6 w7 HDA6.out hg67 hc7 hb6
      have v7 := DA7.1
      have p0 := v7.c0
      have p1 := v7.c1
      have p2 := v7.c2
      have p3 := v7.c3
      have pz0 := v7.f 0
      have pz1 := v7.f 1
      have pz2 := v7.f 2
      have pz3 := v7.f 3
      have DA := DA7.set2 (by omega) hbp (by omega) z
      generalize hWW : w7.setCell ⟨b, 2, none⟩ (.int .i64 z) = W at DA
      clear v7 DA7 hc7 hg7 hg67 HPK HBN
      have HWW : Hid _ := hWW
      obtain ⟨l, hl⟩ : ∃ l, l = w2.heap.size := ⟨_, rfl⟩
      obtain ⟨h, hh⟩ : ∃ h, h = w3.heap.size := ⟨_, rfl⟩
      rw [← hl, ← hh] at DA
      clear hWW hl hh
      go_wp2
      rw [HWW.out]
      clear q0 q1 q2 q3 fz0 fz1 fz2 fz3 HDA6 HCD HWW p0 p1 p2 p3 pz0 pz1 pz2 pz3 hwx
      have HV : Hid (VarJ 30 W b (.slice xa xn xc) (.slice ya yn yc) z Q) := DA.1
      have HRD : Hid (RdD W l h (.agg #[.slice xa xn xc, .slice ya yn yc]) d) := DA.2.1
      have HSM : Hid (Small d) := DA.2.2.1
      have HVR : Hid (VarJ 30 W w.heap.size (.slice none 0 0) (.slice none 0 0) 0 0) := DA.2.2.2.1
      have HBW : Hid (Below w.heap.size w W) := DA.2.2.2.2.1
      have hcW : CurAt W pb := DA.2.2.2.2.2.1
      have hlh := DA.2.2.2.2.2.2
      have hbW : b < W.heap.size := VarJ.lt HV.out
      have hsW : w.heap.size ≤ W.heap.size := HBW.out.size
      have HRC : Hid _ := record_any pb W.drew (CurAt.below hcW (Below.drew (Below.refl _ _)))
      have hsp : W.cell? ⟨b, 0, none⟩ = some (.slice xa xn xc) ∧ W.cell? ⟨b, 1, none⟩ = some (.slice ya yn yc) ∧ W.cell? ⟨b, 2, none⟩ = some (.int .i64 z) ∧ W.cell? ⟨b, 3, none⟩ = some (.int .i64 Q) := ⟨VarJ.c0 HV.out, VarJ.c1 HV.out, VarJ.c2 HV.out, VarJ.c3 HV.out⟩
      clear DA hcW
      refine wp_region_noPanic ?_
      refine wp_region_held_drew (S := fun w' => w'.cell? ⟨b, 0, none⟩ = some (.slice xa xn xc) ∧ w'.cell? ⟨b, 1, none⟩ = some (.slice ya yn yc) ∧ w'.cell? ⟨b, 2, none⟩ = some (.int .i64 z) ∧ w'.cell? ⟨b, 3, none⟩ = some (.int .i64 Q)) (by kernel_rfl) hsp (fun hHeld => ?_)
      clear hsp
      refine wpAnyH_take (i := 0) (v := ?_) rfl (by kernel_rfl) (by kernel_rfl) (by kernel_rfl) (fun _ _ _ h => h) (Or.inl ⟨by rfl, ?_⟩) (by assumption) ?_
      rotate_left
      · (intro w_ hSw_; (try dsimp only at hSw_); go_simp; try with_reducible rfl)
      try simp only [Act.put, List.setIfInBounds_toArray, List.set_cons_zero, List.set_cons_succ, List.getElem_toArray, List.getElem_cons_zero, List.getElem_cons_succ]
      refine wpAnyH_take (i := 1) (v := ?_) rfl (by kernel_rfl) (by kernel_rfl) (by kernel_rfl) (fun _ _ _ h => h) (Or.inl ⟨by rfl, ?_⟩) (by assumption) ?_
      rotate_left
      · (intro w_ hSw_; (try dsimp only at hSw_); go_simp; try with_reducible rfl)
      try simp only [Act.put, List.setIfInBounds_toArray, List.set_cons_zero, List.set_cons_succ, List.getElem_toArray, List.getElem_cons_zero, List.getElem_cons_succ]
      refine wpAnyH_ready (rs := [2]) (by kernel_rfl) (by simp) ?_
      refine AllReadyH.cons rfl (fun K hK => ?_) AllReadyH.nil
      go_simp
      refine Calls.mono HRC.out ?_
      rintro e w9 ⟨rv, ys, rfl, rR, hl9, hc9, hg9⟩
      obtain ⟨ra, rn, rc, rfl⟩ := rR.sliced
      have v9 : VarJ 30 w9 b (.slice xa xn xc) (.slice ya yn yc) z Q := (hg9.block b (by show b < W.heap.size; omega) (fun e => by cases e; omega)).trans HV.out
      have vr9 : VarJ 30 w9 w.heap.size (.slice none 0 0) (.slice none 0 0) 0 0 := (hg9.block w.heap.size (by show w.heap.size < W.heap.size; omega) (fun e => by cases e; omega)).trans HVR.out
      have e0 := vr9.c0
      have e1 := vr9.c1
      have e2 := vr9.c2
      have e3 := vr9.c3
      have f0 := vr9.f 0
      have f1 := vr9.f 1
      have f2 := vr9.f 2
      have f3 := vr9.f 3
      have s9 : W.heap.size ≤ w9.heap.size := hg9.size
      have HRD9 : Hid (RdD w9 l h (.agg #[.slice xa xn xc, .slice ya yn yc]) d) := RdD.curJ HRD.out (grown_trans (grown_below (Below.drew (Below.refl _ _))) hg9) (by omega) hlh.2
      have HB9 : Hid (Below w.heap.size w w9) := below_grown HBW.out (grown_trans (grown_below (Below.drew (Below.refl _ _))) hg9) HBW.out.size (by omega)
      have HRR : Hid _ := rR
      have hp9 : w9.cell? ⟨b, 0, none⟩ = some (.slice xa xn xc) ∧ w9.cell? ⟨b, 1, none⟩ = some (.slice ya yn yc) ∧ w9.cell? ⟨b, 2, none⟩ = some (.int .i64 z) ∧ w9.cell? ⟨b, 3, none⟩ = some (.int .i64 Q) := ⟨v9.c0, v9.c1, v9.c2, v9.c3⟩
      have HPAY : Hid (((((w9.setCell ⟨w.heap.size, 0, none⟩ (.slice xa xn xc)).setCell ⟨w.heap.size, 1, none⟩ (.slice ya yn yc)).setCell ⟨w.heap.size, 2, none⟩ (.int .i64 z)).setCell ⟨w.heap.size, 3, none⟩ (.int .i64 Q)).cell? ⟨b, 0, none⟩ = some (.slice xa xn xc) ∧ ((((w9.setCell ⟨w.heap.size, 0, none⟩ (.slice xa xn xc)).setCell ⟨w.heap.size, 1, none⟩ (.slice ya yn yc)).setCell ⟨w.heap.size, 2, none⟩ (.int .i64 z)).setCell ⟨w.heap.size, 3, none⟩ (.int .i64 Q)).cell? ⟨b, 1, none⟩ = some (.slice ya yn yc) ∧ ((((w9.setCell ⟨w.heap.size, 0, none⟩ (.slice xa xn xc)).setCell ⟨w.heap.size, 1, none⟩ (.slice ya yn yc)).setCell ⟨w.heap.size, 2, none⟩ (.int .i64 z)).setCell ⟨w.heap.size, 3, none⟩ (.int .i64 Q)).cell? ⟨b, 2, none⟩ = some (.int .i64 z) ∧ ((((w9.setCell ⟨w.heap.size, 0, none⟩ (.slice xa xn xc)).setCell ⟨w.heap.size, 1, none⟩ (.slice ya yn yc)).setCell ⟨w.heap.size, 2, none⟩ (.int .i64 z)).setCell ⟨w.heap.size, 3, none⟩ (.int .i64 Q)).cell? ⟨b, 3, none⟩ = some (.int .i64 Q)) := ⟨(World.cell?_of_block (a := ⟨b, 0, none⟩) (four_other2 (by show b ≠ w.heap.size; omega))).trans v9.c0, (World.cell?_of_block (a := ⟨b, 1, none⟩) (four_other2 (by show b ≠ w.heap.size; omega))).trans v9.c1, (World.cell?_of_block (a := ⟨b, 2, none⟩) (four_other2 (by show b ≠ w.heap.size; omega))).trans v9.c2, (World.cell?_of_block (a := ⟨b, 3, none⟩) (four_other2 (by show b ≠ w.heap.size; omega))).trans v9.c3⟩
      have HT : Hid _ := VarJ.fill vr9 (.slice xa xn xc) (.slice ya yn yc) z Q
      clear v9 vr9 rR hc9 hg9 HRC
      go_wp2_with fail
      refine hK.out _ _ hp9 (fun hHeld => ?_)
      clear hK K
      try simp only [Act.put, List.setIfInBounds_toArray, List.set_cons_zero, List.set_cons_succ, List.getElem_toArray, List.getElem_cons_zero, List.getElem_cons_succ]
      refine wpAnyH_ready (rs := [3]) (by kernel_rfl) (by simp) ?_
      refine AllReadyH.cons rfl (fun K hK => ?_) AllReadyH.nil
      go_simp
      refine hK.out _ _ HPAY.out (fun hHeld => ?_)
      clear hK K
      try simp only [Act.put, List.setIfInBounds_toArray, List.set_cons_zero, List.set_cons_succ, List.getElem_toArray, List.getElem_cons_zero, List.getElem_cons_succ]
      refine wpAnyH_take (i := 4) (v := ?_) rfl (by kernel_rfl) (by kernel_rfl) (by kernel_rfl) (fun _ _ _ h => h) (Or.inl ⟨by rfl, ?_⟩) (by assumption) ?_
      rotate_left
      · (intro w_ hSw_; (try dsimp only at hSw_); go_simp; try with_reducible rfl)
      try simp only [Act.put, List.setIfInBounds_toArray, List.set_cons_zero, List.set_cons_succ, List.getElem_toArray, List.getElem_cons_zero, List.getElem_cons_succ]
      refine wpAnyH_done (by kernel_rfl) (NoPanic.normal ?_) _
      clear hHeld hp9
      go_wp2
      refine bodyPost_ret (v := .tuple #[.agg #[.slice xa xn xc, .slice ya yn yc, .int .i64 z, .int .i64 Q], .slice ra rn rc]) (by have t := HT.out; have t0 := VarJ.c0 t; have t1 := VarJ.c1 t; have t2 := VarJ.c2 t; have t3 := VarJ.c3 t; simp [results, Tryd.results9, go_sem, t0, t1, t2, t3]) rfl ⟨_, (d, z, Q), _, ys, rfl, ⟨_, _, rfl, ?_⟩, HSM.out, ?_, hl9, ?_⟩
      · exact (RdD.same HRD9.out ⟨by simp, fun q h1 _ => four_other2 (by omega)⟩).wide (by omega) (by simp; omega)
      · exact (RdB.same HRR.out ⟨by simp, fun q h1 _ => four_other2 (by have : W.heap.size ≤ q := h1; omega)⟩).wide (by show w.heap.size ≤ W.heap.size; omega) (by simp)
      · exact (((HB9.out.setCell (Nat.le_refl _) _).setCell (Nat.le_refl _) _).setCell (Nat.le_refl _) _).setCell (Nat.le_refl _) _
    · have HPK : Hid _ := pick_any pb w6.heap.size [-1, 60000, 60001, 59999] (w6.alloc (.cells #[.int .i64 (-1), .int .i64 60000, .int .i64 60001, .int .i64 59999] 3)) (CurAt.alloc hc6 _) (by simp) (by simp) (by omega) (heap_alloc_new w6 _)
      have HBN : Hid _ := Below.new (w := w6) (.cells #[.int .i64 (-1), .int .i64 60000, .int .i64 60001, .int .i64 59999] 3)
      clear hc6
      go_wp2_with fail
      refine Calls.mono HPK.out ?_
      rintro e w7 ⟨z, rfl, _, hc7, hg7⟩
      have hg67 : w6.grownBy w7 (some pb) := grown_trans (grown_below HBN.out) hg7
      have DA7 := HCD.out w6 w7 HDA6.out hg67 hc7 hb6
      have v7 := DA7.1
      have p0 := v7.c0
      have p1 := v7.c1
      have p2 := v7.c2
      have p3 := v7.c3
      have pz0 := v7.f 0
      have pz1 := v7.f 1
      have pz2 := v7.f 2
      have pz3 := v7.f 3
      have DA := DA7.set3 (by omega) hbp (by omega) z
      generalize hWW : w7.setCell ⟨b, 3, none⟩ (.int .i64 z) = W at DA
      clear v7 DA7 hc7 hg7 hg67 HPK HBN
      have HWW : Hid _ := hWW
      obtain ⟨l, hl⟩ : ∃ l, l = w2.heap.size := ⟨_, rfl⟩
      obtain ⟨h, hh⟩ : ∃ h, h = w3.heap.size := ⟨_, rfl⟩
      rw [← hl, ← hh] at DA
      clear hWW hl hh
      go_wp2
      rw [HWW.out]
      clear q0 q1 q2 q3 fz0 fz1 fz2 fz3 HDA6 HCD HWW p0 p1 p2 p3 pz0 pz1 pz2 pz3 
      have HV : Hid (VarJ 30 W b (.slice xa xn xc) (.slice ya yn yc) P z) := DA.1
      have HRD : Hid (RdD W l h (.agg #[.slice xa xn xc, .slice ya yn yc]) d) := DA.2.1
      have HSM : Hid (Small d) := DA.2.2.1
      have HVR : Hid (VarJ 30 W w.heap.size (.slice none 0 0) (.slice none 0 0) 0 0) := DA.2.2.2.1
      have HBW : Hid (Below w.heap.size w W) := DA.2.2.2.2.1
      have hcW : CurAt W pb := DA.2.2.2.2.2.1
      have hlh := DA.2.2.2.2.2.2
      have hbW : b < W.heap.size := VarJ.lt HV.out
      have hsW : w.heap.size ≤ W.heap.size := HBW.out.size
      have HRC : Hid _ := record_any pb W.drew (CurAt.below hcW (Below.drew (Below.refl _ _)))
      have hsp : W.cell? ⟨b, 0, none⟩ = some (.slice xa xn xc) ∧ W.cell? ⟨b, 1, none⟩ = some (.slice ya yn yc) ∧ W.cell? ⟨b, 2, none⟩ = some (.int .i64 P) ∧ W.cell? ⟨b, 3, none⟩ = some (.int .i64 z) := ⟨VarJ.c0 HV.out, VarJ.c1 HV.out, VarJ.c2 HV.out, VarJ.c3 HV.out⟩
      clear DA hcW
      refine wp_region_noPanic ?_
      refine wp_region_held_drew (S := fun w' => w'.cell? ⟨b, 0, none⟩ = some (.slice xa xn xc) ∧ w'.cell? ⟨b, 1, none⟩ = some (.slice ya yn yc) ∧ w'.cell? ⟨b, 2, none⟩ = some (.int .i64 P) ∧ w'.cell? ⟨b, 3, none⟩ = some (.int .i64 z)) (by kernel_rfl) hsp (fun hHeld => ?_)
      clear hsp
      refine wpAnyH_take (i := 0) (v := ?_) rfl (by kernel_rfl) (by kernel_rfl) (by kernel_rfl) (fun _ _ _ h => h) (Or.inl ⟨by rfl, ?_⟩) (by assumption) ?_
      rotate_left
      · (intro w_ hSw_; (try dsimp only at hSw_); go_simp; try with_reducible rfl)
      try simp only [Act.put, List.setIfInBounds_toArray, List.set_cons_zero, List.set_cons_succ, List.getElem_toArray, List.getElem_cons_zero, List.getElem_cons_succ]
      refine wpAnyH_take (i := 1) (v := ?_) rfl (by kernel_rfl) (by kernel_rfl) (by kernel_rfl) (fun _ _ _ h => h) (Or.inl ⟨by rfl, ?_⟩) (by assumption) ?_
      rotate_left
      · (intro w_ hSw_; (try dsimp only at hSw_); go_simp; try with_reducible rfl)
      try simp only [Act.put, List.setIfInBounds_toArray, List.set_cons_zero, List.set_cons_succ, List.getElem_toArray, List.getElem_cons_zero, List.getElem_cons_succ]
      refine wpAnyH_ready (rs := [2]) (by kernel_rfl) (by simp) ?_
      refine AllReadyH.cons rfl (fun K hK => ?_) AllReadyH.nil
      go_simp
      refine Calls.mono HRC.out ?_
      rintro e w9 ⟨rv, ys, rfl, rR, hl9, hc9, hg9⟩
      obtain ⟨ra, rn, rc, rfl⟩ := rR.sliced
      have v9 : VarJ 30 w9 b (.slice xa xn xc) (.slice ya yn yc) P z := (hg9.block b (by show b < W.heap.size; omega) (fun e => by cases e; omega)).trans HV.out
      have vr9 : VarJ 30 w9 w.heap.size (.slice none 0 0) (.slice none 0 0) 0 0 := (hg9.block w.heap.size (by show w.heap.size < W.heap.size; omega) (fun e => by cases e; omega)).trans HVR.out
      have e0 := vr9.c0
      have e1 := vr9.c1
      have e2 := vr9.c2
      have e3 := vr9.c3
      have f0 := vr9.f 0
      have f1 := vr9.f 1
      have f2 := vr9.f 2
      have f3 := vr9.f 3
      have s9 : W.heap.size ≤ w9.heap.size := hg9.size
      have HRD9 : Hid (RdD w9 l h (.agg #[.slice xa xn xc, .slice ya yn yc]) d) := RdD.curJ HRD.out (grown_trans (grown_below (Below.drew (Below.refl _ _))) hg9) (by omega) hlh.2
      have HB9 : Hid (Below w.heap.size w w9) := below_grown HBW.out (grown_trans (grown_below (Below.drew (Below.refl _ _))) hg9) HBW.out.size (by omega)
      have HRR : Hid _ := rR
      have hp9 : w9.cell? ⟨b, 0, none⟩ = some (.slice xa xn xc) ∧ w9.cell? ⟨b, 1, none⟩ = some (.slice ya yn yc) ∧ w9.cell? ⟨b, 2, none⟩ = some (.int .i64 P) ∧ w9.cell? ⟨b, 3, none⟩ = some (.int .i64 z) := ⟨v9.c0, v9.c1, v9.c2, v9.c3⟩
      have HPAY : Hid (((((w9.setCell ⟨w.heap.size, 0, none⟩ (.slice xa xn xc)).setCell ⟨w.heap.size, 1, none⟩ (.slice ya yn yc)).setCell ⟨w.heap.size, 2, none⟩ (.int .i64 P)).setCell ⟨w.heap.size, 3, none⟩ (.int .i64 z)).cell? ⟨b, 0, none⟩ = some (.slice xa xn xc) ∧ ((((w9.setCell ⟨w.heap.size, 0, none⟩ (.slice xa xn xc)).setCell ⟨w.heap.size, 1, none⟩ (.slice ya yn yc)).setCell ⟨w.heap.size, 2, none⟩ (.int .i64 P)).setCell ⟨w.heap.size, 3, none⟩ (.int .i64 z)).cell? ⟨b, 1, none⟩ = some (.slice ya yn yc) ∧ ((((w9.setCell ⟨w.heap.size, 0, none⟩ (.slice xa xn xc)).setCell ⟨w.heap.size, 1, none⟩ (.slice ya yn yc)).setCell ⟨w.heap.size, 2, none⟩ (.int .i64 P)).setCell ⟨w.heap.size, 3, none⟩ (.int .i64 z)).cell? ⟨b, 2, none⟩ = some (.int .i64 P) ∧ ((((w9.setCell ⟨w.heap.size, 0, none⟩ (.slice xa xn xc)).setCell ⟨w.heap.size, 1, none⟩ (.slice ya yn yc)).setCell ⟨w.heap.size, 2, none⟩ (.int .i64 P)).setCell ⟨w.heap.size, 3, none⟩ (.int .i64 z)).cell? ⟨b, 3, none⟩ = some (.int .i64 z)) := ⟨(World.cell?_of_block (a := ⟨b, 0, none⟩) (four_other2 (by show b ≠ w.heap.size; omega))).trans v9.c0, (World.cell?_of_block (a := ⟨b, 1, none⟩) (four_other2 (by show b ≠ w.heap.size; omega))).trans v9.c1, (World.cell?_of_block (a := ⟨b, 2, none⟩) (four_other2 (by show b ≠ w.heap.size; omega))).trans v9.c2, (World.cell?_of_block (a := ⟨b, 3, none⟩) (four_other2 (by show b ≠ w.heap.size; omega))).trans v9.c3⟩
      have HT : Hid _ := VarJ.fill vr9 (.slice xa xn xc) (.slice ya yn yc) P z
      clear v9 vr9 rR hc9 hg9 HRC
      go_wp2_with fail
      refine hK.out _ _ hp9 (fun hHeld => ?_)
      clear hK K
      try simp only [Act.put, List.setIfInBounds_toArray, List.set_cons_zero, List.set_cons_succ, List.getElem_toArray, List.getElem_cons_zero, List.getElem_cons_succ]
      refine wpAnyH_ready (rs := [3]) (by kernel_rfl) (by simp) ?_
      refine AllReadyH.cons rfl (fun K hK => ?_) AllReadyH.nil
      go_simp
      refine hK.out _ _ HPAY.out (fun hHeld => ?_)
      clear hK K
      try simp only [Act.put, List.setIfInBounds_toArray, List.set_cons_zero, List.set_cons_succ, List.getElem_toArray, List.getElem_cons_zero, List.getElem_cons_succ]
      refine wpAnyH_take (i := 4) (v := ?_) rfl (by kernel_rfl) (by kernel_rfl) (by kernel_rfl) (fun _ _ _ h => h) (Or.inl ⟨by rfl, ?_⟩) (by assumption) ?_
      rotate_left
      · (intro w_ hSw_; (try dsimp only at hSw_); go_simp; try with_reducible rfl)
      try simp only [Act.put, List.setIfInBounds_toArray, List.set_cons_zero, List.set_cons_succ, List.getElem_toArray, List.getElem_cons_zero, List.getElem_cons_succ]
      refine wpAnyH_done (by kernel_rfl) (NoPanic.normal ?_) _
      clear hHeld hp9
      go_wp2
      refine bodyPost_ret (v := .tuple #[.agg #[.slice xa xn xc, .slice ya yn yc, .int .i64 P, .int .i64 z], .slice ra rn rc]) (by have t := HT.out; have t0 := VarJ.c0 t; have t1 := VarJ.c1 t; have t2 := VarJ.c2 t; have t3 := VarJ.c3 t; simp [results, Tryd.results9, go_sem, t0, t1, t2, t3]) rfl ⟨_, (d, P, z), _, ys, rfl, ⟨_, _, rfl, ?_⟩, HSM.out, ?_, hl9, ?_⟩
      · exact (RdD.same HRD9.out ⟨by simp, fun q h1 _ => four_other2 (by omega)⟩).wide (by omega) (by simp; omega)
      · exact (RdB.same HRR.out ⟨by simp, fun q h1 _ => four_other2 (by have : W.heap.size ≤ q := h1; omega)⟩).wide (by show w.heap.size ≤ W.heap.size; omega) (by simp)
      · exact (((HB9.out.setCell (Nat.le_refl _) _).setCell (Nat.le_refl _) _).setCell (Nat.le_refl _) _).setCell (Nat.le_refl _) _
    · have HDK : Hid _ := disk_any pb w6 hc6
      clear hc6
      go_wp2_with fail
      refine Calls.mono HDK.out ?_
      rintro e w7 ⟨dv, d2, rfl, rDv, htn, hc7, hg7⟩
      obtain ⟨ua, un, uc, va, vn, vc, rfl⟩ := rDv.open
      have DA7 := HCD.out w6 w7 HDA6.out hg7 hc7 hb6
      have hs67 := hg7.size
      have v7 := DA7.1
      have p0 := v7.c0
      have p1 := v7.c1
      have p2 := v7.c2
      have p3 := v7.c3
      have pz0 := v7.f 0
      have pz1 := v7.f 1
      have pz2 := v7.f 2
      have pz3 := v7.f 3
      have DA := DA7.setD rDv htn.small (by omega) (Nat.le_refl _) hb6 hbp (by omega)
      generalize hWW : (w7.setCell ⟨b, 0, none⟩ (.slice ua un uc)).setCell ⟨b, 1, none⟩ (.slice va vn vc) = W at DA
      clear v7 DA7 hc7 hg7 HDK rDv htn
      have HWW : Hid _ := hWW
      obtain ⟨l, hl⟩ : ∃ l, l = w6.heap.size := ⟨_, rfl⟩
      obtain ⟨h, hh⟩ : ∃ h, h = w7.heap.size := ⟨_, rfl⟩
      rw [← hl, ← hh] at DA
      clear hWW hl hh
      go_wp2
      rw [HWW.out]
      clear q0 q1 q2 q3 fz0 fz1 fz2 fz3 HDA6 HCD HWW p0 p1 p2 p3 pz0 pz1 pz2 pz3 
      have HV : Hid (VarJ 30 W b (.slice ua un uc) (.slice va vn vc) P Q) := DA.1
      have HRD : Hid (RdD W l h (.agg #[.slice ua un uc, .slice va vn vc]) d2) := DA.2.1
      have HSM : Hid (Small d2) := DA.2.2.1
      have HVR : Hid (VarJ 30 W w.heap.size (.slice none 0 0) (.slice none 0 0) 0 0) := DA.2.2.2.1
      have HBW : Hid (Below w.heap.size w W) := DA.2.2.2.2.1
      have hcW : CurAt W pb := DA.2.2.2.2.2.1
      have hlh := DA.2.2.2.2.2.2
      have hbW : b < W.heap.size := VarJ.lt HV.out
      have hsW : w.heap.size ≤ W.heap.size := HBW.out.size
      have HRC : Hid _ := record_any pb W.drew (CurAt.below hcW (Below.drew (Below.refl _ _)))
      have hsp : W.cell? ⟨b, 0, none⟩ = some (.slice ua un uc) ∧ W.cell? ⟨b, 1, none⟩ = some (.slice va vn vc) ∧ W.cell? ⟨b, 2, none⟩ = some (.int .i64 P) ∧ W.cell? ⟨b, 3, none⟩ = some (.int .i64 Q) := ⟨VarJ.c0 HV.out, VarJ.c1 HV.out, VarJ.c2 HV.out, VarJ.c3 HV.out⟩
      clear DA hcW
      refine wp_region_noPanic ?_
      refine wp_region_held_drew (S := fun w' => w'.cell? ⟨b, 0, none⟩ = some (.slice ua un uc) ∧ w'.cell? ⟨b, 1, none⟩ = some (.slice va vn vc) ∧ w'.cell? ⟨b, 2, none⟩ = some (.int .i64 P) ∧ w'.cell? ⟨b, 3, none⟩ = some (.int .i64 Q)) (by kernel_rfl) hsp (fun hHeld => ?_)
      clear hsp
      refine wpAnyH_take (i := 0) (v := ?_) rfl (by kernel_rfl) (by kernel_rfl) (by kernel_rfl) (fun _ _ _ h => h) (Or.inl ⟨by rfl, ?_⟩) (by assumption) ?_
      rotate_left
      · (intro w_ hSw_; (try dsimp only at hSw_); go_simp; try with_reducible rfl)
      try simp only [Act.put, List.setIfInBounds_toArray, List.set_cons_zero, List.set_cons_succ, List.getElem_toArray, List.getElem_cons_zero, List.getElem_cons_succ]
      refine wpAnyH_take (i := 1) (v := ?_) rfl (by kernel_rfl) (by kernel_rfl) (by kernel_rfl) (fun _ _ _ h => h) (Or.inl ⟨by rfl, ?_⟩) (by assumption) ?_
      rotate_left
      · (intro w_ hSw_; (try dsimp only at hSw_); go_simp; try with_reducible rfl)
      try simp only [Act.put, List.setIfInBounds_toArray, List.set_cons_zero, List.set_cons_succ, List.getElem_toArray, List.getElem_cons_zero, List.getElem_cons_succ]
      refine wpAnyH_ready (rs := [2]) (by kernel_rfl) (by simp) ?_
      refine AllReadyH.cons rfl (fun K hK => ?_) AllReadyH.nil
      go_simp
      refine Calls.mono HRC.out ?_
      rintro e w9 ⟨rv, ys, rfl, rR, hl9, hc9, hg9⟩
      obtain ⟨ra, rn, rc, rfl⟩ := rR.sliced
      have v9 : VarJ 30 w9 b (.slice ua un uc) (.slice va vn vc) P Q := (hg9.block b (by show b < W.heap.size; omega) (fun e => by cases e; omega)).trans HV.out
      have vr9 : VarJ 30 w9 w.heap.size (.slice none 0 0) (.slice none 0 0) 0 0 := (hg9.block w.heap.size (by show w.heap.size < W.heap.size; omega) (fun e => by cases e; omega)).trans HVR.out
      have e0 := vr9.c0
      have e1 := vr9.c1
      have e2 := vr9.c2
      have e3 := vr9.c3
      have f0 := vr9.f 0
      have f1 := vr9.f 1
      have f2 := vr9.f 2
      have f3 := vr9.f 3
      have s9 : W.heap.size ≤ w9.heap.size := hg9.size
      have HRD9 : Hid (RdD w9 l h (.agg #[.slice ua un uc, .slice va vn vc]) d2) := RdD.curJ HRD.out (grown_trans (grown_below (Below.drew (Below.refl _ _))) hg9) (by omega) hlh.2
      have HB9 : Hid (Below w.heap.size w w9) := below_grown HBW.out (grown_trans (grown_below (Below.drew (Below.refl _ _))) hg9) HBW.out.size (by omega)
      have HRR : Hid _ := rR
      have hp9 : w9.cell? ⟨b, 0, none⟩ = some (.slice ua un uc) ∧ w9.cell? ⟨b, 1, none⟩ = some (.slice va vn vc) ∧ w9.cell? ⟨b, 2, none⟩ = some (.int .i64 P) ∧ w9.cell? ⟨b, 3, none⟩ = some (.int .i64 Q) := ⟨v9.c0, v9.c1, v9.c2, v9.c3⟩
      have HPAY : Hid (((((w9.setCell ⟨w.heap.size, 0, none⟩ (.slice ua un uc)).setCell ⟨w.heap.size, 1, none⟩ (.slice va vn vc)).setCell ⟨w.heap.size, 2, none⟩ (.int .i64 P)).setCell ⟨w.heap.size, 3, none⟩ (.int .i64 Q)).cell? ⟨b, 0, none⟩ = some (.slice ua un uc) ∧ ((((w9.setCell ⟨w.heap.size, 0, none⟩ (.slice ua un uc)).setCell ⟨w.heap.size, 1, none⟩ (.slice va vn vc)).setCell ⟨w.heap.size, 2, none⟩ (.int .i64 P)).setCell ⟨w.heap.size, 3, none⟩ (.int .i64 Q)).cell? ⟨b, 1, none⟩ = some (.slice va vn vc) ∧ ((((w9.setCell ⟨w.heap.size, 0, none⟩ (.slice ua un uc)).setCell ⟨w.heap.size, 1, none⟩ (.slice va vn vc)).setCell ⟨w.heap.size, 2, none⟩ (.int .i64 P)).setCell ⟨w.heap.size, 3, none⟩ (.int .i64 Q)).cell? ⟨b, 2, none⟩ = some (.int .i64 P) ∧ ((((w9.setCell ⟨w.heap.size, 0, none⟩ (.slice ua un uc)).setCell ⟨w.heap.size, 1, none⟩ (.slice va vn vc)).setCell ⟨w.heap.size, 2, none⟩ (.int .i64 P)).setCell ⟨w.heap.size, 3, none⟩ (.int .i64 Q)).cell? ⟨b, 3, none⟩ = some (.int .i64 Q)) := ⟨(World.cell?_of_block (a := ⟨b, 0, none⟩) (four_other2 (by show b ≠ w.heap.size; omega))).trans v9.c0, (World.cell?_of_block (a := ⟨b, 1, none⟩) (four_other2 (by show b ≠ w.heap.size; omega))).trans v9.c1, (World.cell?_of_block (a := ⟨b, 2, none⟩) (four_other2 (by show b ≠ w.heap.size; omega))).trans v9.c2, (World.cell?_of_block (a := ⟨b, 3, none⟩) (four_other2 (by show b ≠ w.heap.size; omega))).trans v9.c3⟩
      have HT : Hid _ := VarJ.fill vr9 (.slice ua un uc) (.slice va vn vc) P Q
      clear v9 vr9 rR hc9 hg9 HRC
      go_wp2_with fail
      refine hK.out _ _ hp9 (fun hHeld => ?_)
      clear hK K
      try simp only [Act.put, List.setIfInBounds_toArray, List.set_cons_zero, List.set_cons_succ, List.getElem_toArray, List.getElem_cons_zero, List.getElem_cons_succ]
      refine wpAnyH_ready (rs := [3]) (by kernel_rfl) (by simp) ?_
      refine AllReadyH.cons rfl (fun K hK => ?_) AllReadyH.nil
      go_simp
      refine hK.out _ _ HPAY.out (fun hHeld => ?_)
      clear hK K
      try simp only [Act.put, List.setIfInBounds_toArray, List.set_cons_zero, List.set_cons_succ, List.getElem_toArray, List.getElem_cons_zero, List.getElem_cons_succ]
      refine wpAnyH_take (i := 4) (v := ?_) rfl (by kernel_rfl) (by kernel_rfl) (by kernel_rfl) (fun _ _ _ h => h) (Or.inl ⟨by rfl, ?_⟩) (by assumption) ?_
      rotate_left
      · (intro w_ hSw_; (try dsimp only at hSw_); go_simp; try with_reducible rfl)
      try simp only [Act.put, List.setIfInBounds_toArray, List.set_cons_zero, List.set_cons_succ, List.getElem_toArray, List.getElem_cons_zero, List.getElem_cons_succ]
      refine wpAnyH_done (by kernel_rfl) (NoPanic.normal ?_) _
      clear hHeld hp9
      go_wp2
      refine bodyPost_ret (v := .tuple #[.agg #[.slice ua un uc, .slice va vn vc, .int .i64 P, .int .i64 Q], .slice ra rn rc]) (by have t := HT.out; have t0 := VarJ.c0 t; have t1 := VarJ.c1 t; have t2 := VarJ.c2 t; have t3 := VarJ.c3 t; simp [results, Tryd.results9, go_sem, t0, t1, t2, t3]) rfl ⟨_, (d2, P, Q), _, ys, rfl, ⟨_, _, rfl, ?_⟩, HSM.out, ?_, hl9, ?_⟩
      · exact (RdD.same HRD9.out ⟨by simp, fun q h1 _ => four_other2 (by omega)⟩).wide (by omega) (by simp; omega)
      · exact (RdB.same HRR.out ⟨by simp, fun q h1 _ => four_other2 (by have : W.heap.size ≤ q := h1; omega)⟩).wide (by show w.heap.size ≤ W.heap.size; omega) (by simp)
      · exact (((HB9.out.setCell (Nat.le_refl _) _).setCell (Nat.le_refl _) _).setCell (Nat.le_refl _) _).setCell (Nat.le_refl _) _
end Go.Proofs.YtjhaanenkeceiaaDoor
end

section
/- A disk that is read, in its two parts. -/
namespace Go.Proofs.YtjhaanenkeceiaaDoor
set_option linter.unusedVariables false

theorem RdD.parts {w : World} {l h : Nat} {x y : Value} {d : Dk} (r : RdD w l h (.agg #[x, y]) d) : RdBB w l h x d.1 ∧ RdWs w l h y d.2 := by
  obtain ⟨x', y', he, r1, r2⟩ := r
  simp only [Value.agg.injEq, Array.mk.injEq, List.cons.injEq, and_true] at he
  obtain ⟨rfl, rfl⟩ := he
  exact ⟨r1, r2⟩
theorem RdBB.len {w : World} {l h : Nat} {a : Option Addr} {n c : Nat} {z : List (List Int)} (r : RdBB w l h (.slice a n c) z) : n = z.length ∧ n ≤ 9223372036854775807 := by
  obtain ⟨a', n', c', vs, he, hl, hh, _⟩ := r
  simp only [Value.slice.injEq] at he
  obtain ⟨rfl, rfl, rfl⟩ := he
  exact ⟨hl, by have := hh.1; have := hh.2.1; unfold maxLen at this; omega⟩
end Go.Proofs.YtjhaanenkeceiaaDoor
end
