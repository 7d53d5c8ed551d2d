/- The program's WriteSector as a plain function of its arguments; it leans on the package's three errors. No condition of ours. -/
import Derived.Test.YtdpigkcdfjnpdaaDoorImplWrite2
namespace Go.Proofs.YtdpigkcdfjnpdaaDoor
open Go.RowKit
set_option linter.unusedVariables false

set_option maxHeartbeats 1000000 in
theorem implWriteSector_all (v : Value) (d : Dk) (l h : Nat) (p : Int) (sv : Value) (zs : List Int) (ls hs : Nat) (w : World) (r : RdD w l h v d) (hh : h ≤ w.heap.size) (rs : RdB w ls hs sv zs) (hhs : hs ≤ w.heap.size) (a : Addr) (hg : Glob w a) (a1 a2 : Addr) (h1 : w.cell? ⟨1, 0, none⟩ = some (errV a1)) (h2 : w.cell? ⟨2, 0, none⟩ = some (errV a2)) :
    Calls Tryd.prog 11 #[v, .int .i64 p, sv] w fun e w' => ∃ u, e = .returned (.tuple #[u, .bool (writeD d p zs).2]) ∧ OwD2 w' w.heap.size w'.heap.size u (writeD d p zs).1 ∧ Below w.heap.size w w' := by
  obtain ⟨xa, xn, xc, ya, yn, yc, rfl⟩ := r.open
  have hlt := hg.lt
  have hlt1 : 1 < w.heap.size := block_lt_of_cell (a := ⟨1, 0, none⟩) h1
  have hlt2 : 2 < w.heap.size := block_lt_of_cell (a := ⟨2, 0, none⟩) h2
  have HG : Hid (∀ W, Below w.heap.size w W → Glob W a ∧ W.cell? ⟨1, 0, none⟩ = some (errV a1) ∧ W.cell? ⟨2, 0, none⟩ = some (errV a2)) := fun W hW => ⟨hg.step hW hlt, (hW.cell (p := ⟨1, 0, none⟩) hlt1).trans h1, (hW.cell (p := ⟨2, 0, none⟩) hlt2).trans h2⟩
  have HRS : Hid (∀ W, Below w.heap.size w W → RdB W ls hs sv zs) := fun W hW => rs.same (SameIn.ofBelow hW hhs)
  obtain ⟨sa, sn, sc, rfl⟩ := rs.sliced
  clear rs h1 h2
  have b0 := Below.new (w := w) (.cells #[.slice xa xn xc, .slice ya yn yc] 26)
  have v0 := VarD.new w (.slice xa xn xc) (.slice ya yn yc)
  generalize hw0 : w.alloc (.cells #[.slice xa xn xc, .slice ya yn yc] 26) = w0 at b0 v0
  have s0 : w0.heap.size = w.heap.size + 1 := by rw [← hw0]; simp
  have b1 := Below.new (w := w0) (.cells #[.slice none 0 0, .slice none 0 0] 26)
  have vR := VarD.new w0 (.slice none 0 0) (.slice none 0 0)
  rw [s0] at vR
  have v1 := v0.step b1
  generalize hw1 : w0.alloc (.cells #[.slice none 0 0, .slice none 0 0] 26) = w1 at b1 vR v1
  have B1 : Below w.heap.size w w1 := b0.trans (b1.mono (by omega))
  have r1 := r.step hh B1
  have sR := vR.lt
  have HOK : Hid _ := implOk_any _ d l h a w1 r1 (by omega) (hg.step B1 hlt)
  have HW : Hid ((w.alloc (.cells #[.slice xa xn xc, .slice ya yn yc] 26)).alloc (.cells #[.slice none 0 0, .slice none 0 0] 26) = w1) := by show _ = _; rw [hw0, hw1]
  have HR1 : Hid (RdD w1 l h _ d) := r1
  have HV1 : Hid (VarD w1 w.heap.size _ _) := v1
  have HVR : Hid (VarD w1 (w.heap.size + 1) _ _) := vR
  have HB1 : Hid (Below w.heap.size w w1) := B1
  have c0 := v1.c0
  have c1 := v1.c1
  clear hw0 hw1 r hg b0 v0 b1 vR v1 r1 B1 s0
  by_cases hok : okD d = true
  · have hfd : writeD d p zs = ((d.1, afterW d p zs), writeOk d p zs) := by
      unfold writeD afterW
      rw [if_pos hok]
      cases writeOk d p zs <;> rfl
    rw [hok] at HOK
    rw [hfd]
    have HOKD : Hid _ := hok
    clear hok hfd
    go_enter Tryd.func11, Tryd.ntmps11
    go_wp2_with fail
    rw [HW.out]
    refine Calls.mono HOK.out ?_
    rintro e w2 ⟨rfl, b2⟩
    have v2 := VarD.step HV1.out b2
    have vR2 := VarD.step HVR.out b2
    have r2 := RdD.step HR1.out (by omega) b2
    have B2 := HB1.out.trans (b2.mono HB1.out.size)
    have s2 := b2.size
    have hp := r2
    obtain ⟨x', y', he, r21, r22⟩ := hp
    simp only [Value.agg.injEq, Array.mk.injEq, List.cons.injEq, and_true] at he
    obtain ⟨rfl, rfl⟩ := he
    have HCL : Hid _ := clone_any w.heap.size _ _ d l h w2 v2 r21 r22 (by omega) HOKD.out
    have HVR2 : Hid (VarD w2 (w.heap.size + 1) _ _) := vR2
    have HB2 : Hid (Below w.heap.size w w2) := B2
    clear r21 r22 r2 v2 vR2 b2 B2 c0 c1 HR1 HV1 HVR HB1 HOK
    go_wp2_with fail
    refine Calls.mono HCL.out ?_
    rintro e w3 ⟨u, rfl, oU, b3⟩
    obtain ⟨pa, pn, pc, qa, qn, qc, rfl⟩ := oU.rd.open
    have s3 := b3.size
    have b4 := Below.new (w := w3) (.cells #[.slice pa pn pc, .slice qa qn qc] 26)
    have vO := VarD.new w3 (.slice pa pn pc) (.slice qa qn qc)
    have vR4 := (VarD.step HVR2.out b3).step b4
    have oU4 := oU.step (Nat.le_refl _) b4
    have B4 := (HB2.out.trans (b3.mono HB2.out.size)).trans (b4.mono (by have := HB2.out.size; omega))
    generalize hw4 : w3.alloc (.cells #[.slice pa pn pc, .slice qa qn qc] 26) = w4 at b4 vO vR4 oU4 B4
    have HW4 : Hid _ := hw4
    have s4 := vO.lt
    obtain ⟨x', y', vs, xs, he, oX, oY, hap⟩ := oU4
    simp only [Value.agg.injEq, Array.mk.injEq, List.cons.injEq, and_true] at he
    obtain ⟨rfl, rfl⟩ := he
    have hbo : ¬ Blk vs w3.heap.size := fun hb => by have := oX.lt _ hb; omega
    have hyb : ∀ k, (Value.slice qa qn qc).ownBlock = some k → w2.heap.size ≤ k ∧ k < w3.heap.size := fun k hk => oY.lt k ⟨0, by simp, by simpa using hk⟩
    have hgs := HG.out _ B4
    have hw2s := HB2.out.size
    have HFL : Hid _ := write_all w3.heap.size _ _ d vs xs w2.heap.size w3.heap.size p _ zs ls hs w4 a a1 a2 vO oX oY hap (by omega) (by omega) HOKD.out (HRS.out _ B4) (by omega) (Nat.le_refl _) hgs.1 hgs.2.1 hgs.2.2
    have HVR4 : Hid (VarD w4 (w.heap.size + 1) _ _) := vR4
    have HB4 : Hid (Below w.heap.size w w4) := B4
    have HYB : Hid _ := hyb
    clear hw4 oX oY hap hbo vO vR4 B4 b4 b3 oU HVR2 HB2 HCL hyb hgs
    go_wp2_with (rw [HW4.out])
    refine Calls.mono HFL.out ?_
    rintro e w5 ⟨ev, y5, xs5, rfl, hev, oX5, oY5, hap5, vO5, fr5, os5, tp5, ot5, s5⟩
    have fr : ∀ q, q < w2.heap.size → w5.heap[q]? = w4.heap[q]? := fun q hq => fr5 q (by omega) (by omega) (fun e => by have := HYB.out q e; omega)
    obtain ⟨ya5, yn5, yc5, rfl⟩ : ∃ a n c, y5 = .slice a n c := by obtain ⟨a', n', c', _, h', _⟩ := oY5.ww.rd; exact ⟨a', n', c', h'⟩
    have vR5 : VarD w5 (w.heap.size + 1) (.slice none 0 0) (.slice none 0 0) := (fr _ (by omega)).trans HVR4.out
    have B5 : Below w.heap.size w w5 := HB4.out.trans ⟨os5, tp5, ot5, s5, fun q hq => fr q (by omega)⟩
    have k0 := vO5.c0
    have k1 := vO5.c1
    have e0 := vR5.c0
    have e1 := vR5.c1
    have f0 := vR5.f 0
    have f1 := vR5.f 1
    have ne1 : ¬ w3.heap.size = w.heap.size + 1 := by omega
    have ne2 : ¬ w.heap.size + 1 = w3.heap.size := by omega
    have HO5 : Hid (OwD2 w5 w2.heap.size w5.heap.size (.agg #[.slice pa pn pc, .slice ya5 yn5 yc5]) (d.1, afterW d p zs)) := ⟨_, _, vs, xs5, rfl, oX5, oY5, hap5⟩
    have HB5 : Hid (Below w.heap.size w w5) := B5
    have hsz5 : w.heap.size + 1 < w2.heap.size := by omega
    clear oX5 oY5 hap5 B5 fr fr5 os5 tp5 ot5 vO5 vR5 HVR4 HB4 HFL HYB
    have FIN : ∀ k : Bool, writeOk d p zs = k → ∀ W, W = ((w5.drewN 1).setCell ⟨w.heap.size + 1, 0, none⟩ (.slice pa pn pc)).setCell ⟨w.heap.size + 1, 1, none⟩ (.slice ya5 yn5 yc5) → OwD2 W w.heap.size W.heap.size (.agg #[.slice pa pn pc, .slice ya5 yn5 yc5]) (d.1, afterW d p zs) ∧ Below w.heap.size w W := fun k hk W hW => by
      subst hW
      have same : SameIn w2.heap.size w5.heap.size w5 (((w5.drewN 1).setCell ⟨w.heap.size + 1, 0, none⟩ (.slice pa pn pc)).setCell ⟨w.heap.size + 1, 1, none⟩ (.slice ya5 yn5 yc5)) := SameIn.trans (SameIn.trans (show SameIn _ _ w5 (w5.drewN 1) from ⟨Nat.le_refl _, fun _ _ _ => rfl⟩) (SameIn.set (.inl (by show w.heap.size + 1 < _; omega)))) (SameIn.set (.inl (by show w.heap.size + 1 < _; omega)))
      obtain ⟨x', y', vs', xs', he', q1, q2, q3⟩ := HO5.out.same same
      refine ⟨⟨x', y', vs', xs', he', q1.wide (by omega) (by simp), q2.wide (by omega) (by simp), q3⟩, ?_⟩
      exact ((below_drewN2 HB5.out 1).setCell (by show w.heap.size ≤ w.heap.size + 1; omega) _).setCell (by show w.heap.size ≤ w.heap.size + 1; omega) _
    have HFIN : Hid _ := FIN
    clear FIN HO5 HB5
    rcases hev with ⟨rfl, hk⟩ | ⟨⟨a', rfl⟩, hk⟩
    · have HK : Hid _ := hk
      clear hk
      go_wp2
      go_region_held3 (fun w' => w'.cell? ⟨w3.heap.size, 0, none⟩ = some (.slice pa pn pc) ∧ w'.cell? ⟨w3.heap.size, 1, none⟩ = some (.slice ya5 yn5 yc5)) (first | go_keep | (refine ⟨?_, ?_⟩ <;> assumption)) (fail)
      all_goals go_wp2
      all_goals refine bodyPost_ret (v := .tuple #[.agg #[.slice pa pn pc, .slice ya5 yn5 yc5], .bool true]) (by simp [results, Tryd.results11, go_sem, e0, e1]) rfl ⟨_, by rw [HK.out], (HFIN.out _ HK.out _ rfl).1, (HFIN.out _ HK.out _ rfl).2⟩
    · have HK : Hid _ := hk
      clear hk
      go_wp2
      go_region_held3 (fun w' => w'.cell? ⟨w3.heap.size, 0, none⟩ = some (.slice pa pn pc) ∧ w'.cell? ⟨w3.heap.size, 1, none⟩ = some (.slice ya5 yn5 yc5)) (first | go_keep | (refine ⟨?_, ?_⟩ <;> assumption)) (fail)
      all_goals go_wp2
      all_goals refine bodyPost_ret (v := .tuple #[.agg #[.slice pa pn pc, .slice ya5 yn5 yc5], .bool false]) (by simp [results, Tryd.results11, go_sem, e0, e1]) rfl ⟨_, by rw [HK.out], (HFIN.out _ HK.out _ rfl).1, (HFIN.out _ HK.out _ rfl).2⟩
  · have hok' : okD d = false := by simpa using hok
    have hfd : writeD d p zs = (([], []), false) := by unfold writeD; rw [if_neg hok]
    rw [hok'] at HOK
    rw [hfd]
    clear hok hok' hfd
    go_enter Tryd.func11, Tryd.ntmps11
    go_wp2_with fail
    rw [HW.out]
    refine Calls.mono HOK.out ?_
    rintro e w2 ⟨rfl, b2⟩
    have vR2 := VarD.step HVR.out b2
    have B2 := HB1.out.trans (b2.mono HB1.out.size)
    have e0 := vR2.c0
    have e1 := vR2.c1
    have f0 := vR2.f 0
    have f1 := vR2.f 1
    have HB2 : Hid (Below w.heap.size w w2) := B2
    clear b2 vR2 B2 HR1 HV1 HVR HB1 c0 c1 HOK
    go_wp2
    refine bodyPost_ret (v := .tuple #[.agg #[.slice none 0 0, .slice none 0 0], .bool false]) (by simp [results, Tryd.results11, go_sem, e0, e1]) rfl ⟨_, rfl, OwD2_nil _ _ _, ?_⟩
    exact (HB2.out.setCell (by show w.heap.size ≤ w.heap.size + 1; omega) _).setCell (by show w.heap.size ≤ w.heap.size + 1; omega) _
end Go.Proofs.YtdpigkcdfjnpdaaDoor
