/- The program's Flush as a plain function of the disk; it leans on its variable errNoSector. No condition of ours. -/
import Derived.Test.YtdpigkcdfjnpdaaDoorImplFlush
import Derived.Test.YtdpigkcdfjnpdaaDoorImplOk
namespace Go.Proofs.YtdpigkcdfjnpdaaDoor
open Go.RowKit
set_option linter.unusedVariables false

theorem OwX_nil (w : World) (l h : Nat) : OwX w l h (.slice none 0 0) [] [] :=
  ⟨rfl, World.ownsRow_nil _ _ _ _, (fun (k : Nat) (hk : Value.ownBlock (.slice none 0 0) = some k) => by cases hk), fun i hi => absurd hi (Nat.not_lt_zero _), fun i j k _ hj => absurd hj (Nat.not_lt_zero _)⟩
theorem OwY_nil (w : World) (l h : Nat) : OwY w l h (.slice none 0 0) [] [] :=
  ⟨[], rfl, World.ownsRow_nil _ _ _ _, (fun (k : Nat) (hk : Value.ownBlock (.slice none 0 0) = some k) => by cases hk), fun i hi => absurd hi (Nat.not_lt_zero _), fun i hi => absurd hi (Nat.not_lt_zero _), fun i j k _ hj => absurd hj (Nat.not_lt_zero _)⟩
theorem OwD2_nil (w : World) (l h : Nat) : OwD2 w l h (.agg #[.slice none 0 0, .slice none 0 0]) ([], []) :=
  ⟨_, _, [], [], rfl, OwX_nil _ _ _, OwY_nil _ _ _, fun q hq => by obtain ⟨i, hi, _⟩ := hq; exact absurd hi (Nat.not_lt_zero _)⟩
theorem no_blk (q : Nat) : ¬ Blk [] q := fun ⟨i, hi, _⟩ => absurd hi (Nat.not_lt_zero _)

set_option maxHeartbeats 1000000 in
theorem implFlush_all (v : Value) (d : Dk) (l h : Nat) (w : World) (r : RdD w l h v d) (hh : h ≤ w.heap.size) (a : Addr) (hg : Glob w a) :
    Calls Tryd.prog 14 #[v] w fun e w' => ∃ u, e = .returned u ∧ OwD2 w' w.heap.size w'.heap.size u (flushD d) ∧ Below w.heap.size w w' := by
  obtain ⟨xa, xn, xc, ya, yn, yc, rfl⟩ := r.open
  have hlt := hg.lt
  have b0 := Below.new (w := w) (.cells #[.slice xa xn xc, .slice ya yn yc] 26)
  have v0 := VarD.new w (.slice xa xn xc) (.slice ya yn yc)
  generalize hw0 : w.alloc (.cells #[.slice xa xn xc, .slice ya yn yc] 26) = w0 at b0 v0
  have s0 : w0.heap.size = w.heap.size + 1 := by rw [← hw0]; simp
  have b1 := Below.new (w := w0) (.cells #[.slice none 0 0, .slice none 0 0] 26)
  have vR := VarD.new w0 (.slice none 0 0) (.slice none 0 0)
  rw [s0] at vR
  have v1 := v0.step b1
  generalize hw1 : w0.alloc (.cells #[.slice none 0 0, .slice none 0 0] 26) = w1 at b1 vR v1
  have B1 : Below w.heap.size w w1 := b0.trans (b1.mono (by omega))
  have r1 := r.step hh B1
  have sR := vR.lt
  have HOK : Hid _ := implOk_any _ d l h a w1 r1 (by omega) (hg.step B1 hlt)
  have HW : Hid ((w.alloc (.cells #[.slice xa xn xc, .slice ya yn yc] 26)).alloc (.cells #[.slice none 0 0, .slice none 0 0] 26) = w1) := by show _ = _; rw [hw0, hw1]
  have HR1 : Hid (RdD w1 l h _ d) := r1
  have HV1 : Hid (VarD w1 w.heap.size _ _) := v1
  have HVR : Hid (VarD w1 (w.heap.size + 1) _ _) := vR
  have HB1 : Hid (Below w.heap.size w w1) := B1
  have c0 := v1.c0
  have c1 := v1.c1
  clear hw0 hw1 r hg b0 v0 b1 vR v1 r1 B1 s0
  by_cases hok : okD d = true
  · have hfd : flushD d = (flushS d.1 d.2, []) := by unfold flushD; rw [if_pos hok]
    rw [hok] at HOK
    rw [hfd]
    have HOKD : Hid _ := hok
    clear hok hfd
    go_enter Tryd.func14, Tryd.ntmps14
    go_wp2_with fail
    rw [HW.out]
    refine Calls.mono HOK.out ?_
    rintro e w2 ⟨rfl, b2⟩
    have v2 := VarD.step HV1.out b2
    have vR2 := VarD.step HVR.out b2
    have r2 := RdD.step HR1.out (by omega) b2
    have B2 := HB1.out.trans (b2.mono HB1.out.size)
    have s2 := b2.size
    have hp := r2
    obtain ⟨x', y', he, r21, r22⟩ := hp
    simp only [Value.agg.injEq, Array.mk.injEq, List.cons.injEq, and_true] at he
    obtain ⟨rfl, rfl⟩ := he
    have HCL : Hid _ := clone_any w.heap.size _ _ d l h w2 v2 r21 r22 (by omega) HOKD.out
    have HVR2 : Hid (VarD w2 (w.heap.size + 1) _ _) := vR2
    have HB2 : Hid (Below w.heap.size w w2) := B2
    clear r21 r22 r2 v2 vR2 b2 B2 c0 c1 HR1 HV1 HVR HB1 HOK
    go_wp2_with fail
    refine Calls.mono HCL.out ?_
    rintro e w3 ⟨u, rfl, oU, b3⟩
    obtain ⟨pa, pn, pc, qa, qn, qc, rfl⟩ := oU.rd.open
    have s3 := b3.size
    have b4 := Below.new (w := w3) (.cells #[.slice pa pn pc, .slice qa qn qc] 26)
    have vO := VarD.new w3 (.slice pa pn pc) (.slice qa qn qc)
    have vR4 := (VarD.step HVR2.out b3).step b4
    have oU4 := oU.step (Nat.le_refl _) b4
    have B4 := (HB2.out.trans (b3.mono HB2.out.size)).trans (b4.mono (by have := HB2.out.size; omega))
    generalize hw4 : w3.alloc (.cells #[.slice pa pn pc, .slice qa qn qc] 26) = w4 at b4 vO vR4 oU4 B4
    have HW4 : Hid _ := hw4
    have s4 := vO.lt
    obtain ⟨x', y', vs, xs, he, oX, oY, hap⟩ := oU4
    simp only [Value.agg.injEq, Array.mk.injEq, List.cons.injEq, and_true] at he
    obtain ⟨rfl, rfl⟩ := he
    have hbo : ¬ Blk vs w3.heap.size := fun hb => by have := oX.lt _ hb; omega
    have HFL : Hid _ := flush_any w3.heap.size _ _ d vs xs w2.heap.size w3.heap.size w4 vO oX oY hap hbo (by omega) HOKD.out
    have HVR4 : Hid (VarD w4 (w.heap.size + 1) _ _) := vR4
    have HB4 : Hid (Below w.heap.size w w4) := B4
    have HLX : Hid _ := oX.lt
    clear hw4 oX oY hap hbo vO vR4 B4 b4 b3 oU HVR2 HB2 HCL
    go_wp2_with (rw [HW4.out])
    refine Calls.mono HFL.out ?_
    rintro e w5 ⟨⟨u5, rfl⟩, oX5, vO5, t5⟩
    have nlt : ∀ q, q < w2.heap.size → ¬ Blk (.slice (some ⟨w3.heap.size, 0, none⟩) 0 0 :: vs) q := fun q hq hb => by
      obtain ⟨i, hi, hk⟩ := hb
      cases i with
      | zero => have := slice_block (show (Value.slice (some ⟨w3.heap.size, 0, none⟩) 0 0).ownBlock = some q by simpa using hk); simp at this; omega
      | succ i => have := HLX.out q ⟨i, by simpa using hi, by simpa using hk⟩; omega
    have s5 := t5.size
    have vR5 : VarD w5 (w.heap.size + 1) (.slice none 0 0) (.slice none 0 0) := (t5.block _ (by omega) (nlt _ (by omega))).trans HVR4.out
    have B5 : Below w.heap.size w w5 := HB4.out.trans ⟨t5.os, t5.tape, t5.output, t5.size, fun q hq => t5.block q (by omega) (nlt q (by omega))⟩
    have k0 := vO5.c0
    have k1 := vO5.c1
    have e0 := vR5.c0
    have e1 := vR5.c1
    have f0 := vR5.f 0
    have f1 := vR5.f 1
    have HX5 : Hid (OwX w5 w2.heap.size w3.heap.size _ (flushS d.1 d.2) vs) := oX5
    have HB5 : Hid (Below w.heap.size w w5) := B5
    clear oX5 B5 nlt t5 vO5 vR5 HVR4 HB4 HFL
    go_wp2
    refine bodyPost_ret (v := .agg #[.slice pa pn pc, .slice none 0 0]) (by simp [results, Tryd.results14, go_sem, e0, e1]) rfl ⟨_, rfl, ?_, ?_⟩
    · have same : SameIn w2.heap.size w3.heap.size w5 ((w5.setCell ⟨w.heap.size + 1, 0, none⟩ (.slice pa pn pc)).setCell ⟨w.heap.size + 1, 1, none⟩ (.slice none 0 0)) := SameIn.trans (SameIn.set (.inl (by show w.heap.size + 1 < _; omega))) (SameIn.set (.inl (by show w.heap.size + 1 < _; omega)))
      exact ⟨_, _, vs, [], rfl, (OwX.same HX5.out same).wide (by omega) (by simp; omega), OwY_nil _ _ _, fun q _ => no_blk q⟩
    · exact (HB5.out.setCell (by show w.heap.size ≤ w.heap.size + 1; omega) _).setCell (by show w.heap.size ≤ w.heap.size + 1; omega) _
  · have hok' : okD d = false := by simpa using hok
    have hfd : flushD d = ([], []) := by unfold flushD; rw [if_neg hok]
    rw [hok'] at HOK
    rw [hfd]
    clear hok hok' hfd
    go_enter Tryd.func14, Tryd.ntmps14
    go_wp2_with fail
    rw [HW.out]
    refine Calls.mono HOK.out ?_
    rintro e w2 ⟨rfl, b2⟩
    have vR2 := VarD.step HVR.out b2
    have B2 := HB1.out.trans (b2.mono HB1.out.size)
    have e0 := vR2.c0
    have e1 := vR2.c1
    have f0 := vR2.f 0
    have f1 := vR2.f 1
    have HB2 : Hid (Below w.heap.size w w2) := B2
    clear b2 vR2 B2 HR1 HV1 HVR HB1 c0 c1 HOK
    go_wp2
    refine bodyPost_ret (v := .agg #[.slice none 0 0, .slice none 0 0]) (by simp [results, Tryd.results14, go_sem, e0, e1]) rfl ⟨_, rfl, OwD2_nil _ _ _, ?_⟩
    exact (HB2.out.setCell (by show w.heap.size ≤ w.heap.size + 1; omega) _).setCell (by show w.heap.size ≤ w.heap.size + 1; omega) _
end Go.Proofs.YtdpigkcdfjnpdaaDoor
