/- Joined: ImplWrite3 ImplCrash2 AppF WalkFnTorn. -/
import Derived.Test.YtjhaanenkeceiaaDoorQ02
import Derived.Test.YtjhaanenkeceiaaDoorQ01
import Derived.Deep.CutRange
import Derived.Deep.RegionWith

section
/- The program's WriteSector as a plain function of its arguments; it leans on the package's three errors. No condition of ours. -/
namespace Go.Proofs.YtjhaanenkeceiaaDoor
open Go.RowKit
set_option linter.unusedVariables false

set_option maxHeartbeats 1000000 in
theorem implWriteSector_all (v : Value) (d : Dk) (l h : Nat) (p : Int) (sv : Value) (zs : List Int) (ls hs : Nat) (w : World) (r : RdD w l h v d) (hh : h ≤ w.heap.size) (rs : RdB w ls hs sv zs) (hhs : hs ≤ w.heap.size) (a : Addr) (hg : Glob w a) (a1 a2 : Addr) (h1 : w.cell? ⟨0, 0, none⟩ = some (errV a1)) (h2 : w.cell? ⟨1, 0, none⟩ = some (errV a2)) :
    Calls Tryd.prog 17 #[v, .int .i64 p, sv] w fun e w' => ∃ u, e = .returned (.tuple #[u, .bool (writeD d p zs).2]) ∧ OwD2 w' w.heap.size w'.heap.size u (writeD d p zs).1 ∧ Below w.heap.size w w' := by
  obtain ⟨xa, xn, xc, ya, yn, yc, rfl⟩ := r.open
  have hlt := hg.lt
  have hlt1 : 0 < w.heap.size := block_lt_of_cell (a := ⟨0, 0, none⟩) h1
  have hlt2 : 1 < w.heap.size := block_lt_of_cell (a := ⟨1, 0, none⟩) h2
  have HG : Hid (∀ W, Below w.heap.size w W → Glob W a ∧ W.cell? ⟨0, 0, none⟩ = some (errV a1) ∧ W.cell? ⟨1, 0, none⟩ = some (errV a2)) := fun W hW => ⟨hg.step hW hlt, (hW.cell (p := ⟨0, 0, none⟩) hlt1).trans h1, (hW.cell (p := ⟨1, 0, none⟩) hlt2).trans h2⟩
  have HRS : Hid (∀ W, Below w.heap.size w W → RdB W ls hs sv zs) := fun W hW => rs.same (SameIn.ofBelow hW hhs)
  obtain ⟨sa, sn, sc, rfl⟩ := rs.sliced
  clear rs h1 h2
  have b0 := Below.new (w := w) (.cells #[.slice xa xn xc, .slice ya yn yc] 26)
  have v0 := VarD.new w (.slice xa xn xc) (.slice ya yn yc)
  generalize hw0 : w.alloc (.cells #[.slice xa xn xc, .slice ya yn yc] 26) = w0 at b0 v0
  have s0 : w0.heap.size = w.heap.size + 1 := by rw [← hw0]; simp
  have b1 := Below.new (w := w0) (.cells #[.slice none 0 0, .slice none 0 0] 26)
  have vR := VarD.new w0 (.slice none 0 0) (.slice none 0 0)
  rw [s0] at vR
  have v1 := v0.step b1
  generalize hw1 : w0.alloc (.cells #[.slice none 0 0, .slice none 0 0] 26) = w1 at b1 vR v1
  have B1 : Below w.heap.size w w1 := b0.trans (b1.mono (by omega))
  have r1 := r.step hh B1
  have sR := vR.lt
  have HOK : Hid _ := implOk_any _ d l h a w1 r1 (by omega) (hg.step B1 hlt)
  have HW : Hid ((w.alloc (.cells #[.slice xa xn xc, .slice ya yn yc] 26)).alloc (.cells #[.slice none 0 0, .slice none 0 0] 26) = w1) := by show _ = _; rw [hw0, hw1]
  have HR1 : Hid (RdD w1 l h _ d) := r1
  have HV1 : Hid (VarD w1 w.heap.size _ _) := v1
  have HVR : Hid (VarD w1 (w.heap.size + 1) _ _) := vR
  have HB1 : Hid (Below w.heap.size w w1) := B1
  have c0 := v1.c0
  have c1 := v1.c1
  clear hw0 hw1 r hg b0 v0 b1 vR v1 r1 B1 s0
  by_cases hok : okD d = true
  · have hfd : writeD d p zs = ((d.1, afterW d p zs), writeOk d p zs) := by
      unfold writeD afterW
      rw [if_pos hok]
      cases writeOk d p zs <;> rfl
    rw [hok] at HOK
    rw [hfd]
    have HOKD : Hid _ := hok
    clear hok hfd
    go_enter Tryd.func17, Tryd.ntmps17
    go_wp2_with fail
    rw [HW.out]
    refine Calls.mono HOK.out ?_
    rintro e w2 ⟨rfl, b2⟩
    have v2 := VarD.step HV1.out b2
    have vR2 := VarD.step HVR.out b2
    have r2 := RdD.step HR1.out (by omega) b2
    have B2 := HB1.out.trans (b2.mono HB1.out.size)
    have s2 := b2.size
    have hp := r2
    obtain ⟨x', y', he, r21, r22⟩ := hp
    simp only [Value.agg.injEq, Array.mk.injEq, List.cons.injEq, and_true] at he
    obtain ⟨rfl, rfl⟩ := he
    have HCL : Hid _ := clone_any w.heap.size _ _ d l h w2 v2 r21 r22 (by omega) HOKD.out
    have HVR2 : Hid (VarD w2 (w.heap.size + 1) _ _) := vR2
    have HB2 : Hid (Below w.heap.size w w2) := B2
    clear r21 r22 r2 v2 vR2 b2 B2 c0 c1 HR1 HV1 HVR HB1 HOK
    go_wp2_with fail
    refine Calls.mono HCL.out ?_
    rintro e w3 ⟨u, rfl, oU, b3⟩
    obtain ⟨pa, pn, pc, qa, qn, qc, rfl⟩ := oU.rd.open
    have s3 := b3.size
    have b4 := Below.new (w := w3) (.cells #[.slice pa pn pc, .slice qa qn qc] 26)
    have vO := VarD.new w3 (.slice pa pn pc) (.slice qa qn qc)
    have vR4 := (VarD.step HVR2.out b3).step b4
    have oU4 := oU.step (Nat.le_refl _) b4
    have B4 := (HB2.out.trans (b3.mono HB2.out.size)).trans (b4.mono (by have := HB2.out.size; omega))
    generalize hw4 : w3.alloc (.cells #[.slice pa pn pc, .slice qa qn qc] 26) = w4 at b4 vO vR4 oU4 B4
    have HW4 : Hid _ := hw4
    have s4 := vO.lt
    obtain ⟨x', y', vs, xs, he, oX, oY, hap⟩ := oU4
    simp only [Value.agg.injEq, Array.mk.injEq, List.cons.injEq, and_true] at he
    obtain ⟨rfl, rfl⟩ := he
    have hbo : ¬ Blk vs w3.heap.size := fun hb => by have := oX.lt _ hb; omega
    have hyb : ∀ k, (Value.slice qa qn qc).ownBlock = some k → w2.heap.size ≤ k ∧ k < w3.heap.size := fun k hk => oY.lt k ⟨0, by simp, by simpa using hk⟩
    have hgs := HG.out _ B4
    have hw2s := HB2.out.size
    have HFL : Hid _ := write_all w3.heap.size _ _ d vs xs w2.heap.size w3.heap.size p _ zs ls hs w4 a a1 a2 vO oX oY hap (by omega) (by omega) HOKD.out (HRS.out _ B4) (by omega) (Nat.le_refl _) hgs.1 hgs.2.1 hgs.2.2
    have HVR4 : Hid (VarD w4 (w.heap.size + 1) _ _) := vR4
    have HB4 : Hid (Below w.heap.size w w4) := B4
    have HYB : Hid _ := hyb
    clear hw4 oX oY hap hbo vO vR4 B4 b4 b3 oU HVR2 HB2 HCL hyb hgs
    go_wp2_with (rw [HW4.out])
    refine Calls.mono HFL.out ?_
    rintro e w5 ⟨ev, y5, xs5, rfl, hev, oX5, oY5, hap5, vO5, fr5, os5, tp5, ot5, s5⟩
    have fr : ∀ q, q < w2.heap.size → w5.heap[q]? = w4.heap[q]? := fun q hq => fr5 q (by omega) (by omega) (fun e => by have := HYB.out q e; omega)
    obtain ⟨ya5, yn5, yc5, rfl⟩ : ∃ a n c, y5 = .slice a n c := by obtain ⟨a', n', c', _, h', _⟩ := oY5.ww.rd; exact ⟨a', n', c', h'⟩
    have vR5 : VarD w5 (w.heap.size + 1) (.slice none 0 0) (.slice none 0 0) := (fr _ (by omega)).trans HVR4.out
    have B5 : Below w.heap.size w w5 := HB4.out.trans ⟨os5, tp5, ot5, s5, fun q hq => fr q (by omega)⟩
    have k0 := vO5.c0
    have k1 := vO5.c1
    have e0 := vR5.c0
    have e1 := vR5.c1
    have f0 := vR5.f 0
    have f1 := vR5.f 1
    have ne1 : ¬ w3.heap.size = w.heap.size + 1 := by omega
    have ne2 : ¬ w.heap.size + 1 = w3.heap.size := by omega
    have HO5 : Hid (OwD2 w5 w2.heap.size w5.heap.size (.agg #[.slice pa pn pc, .slice ya5 yn5 yc5]) (d.1, afterW d p zs)) := ⟨_, _, vs, xs5, rfl, oX5, oY5, hap5⟩
    have HB5 : Hid (Below w.heap.size w w5) := B5
    have hsz5 : w.heap.size + 1 < w2.heap.size := by omega
    clear oX5 oY5 hap5 B5 fr fr5 os5 tp5 ot5 vO5 vR5 HVR4 HB4 HFL HYB
    have FIN : ∀ k : Bool, writeOk d p zs = k → ∀ W, W = ((w5.drewN 1).setCell ⟨w.heap.size + 1, 0, none⟩ (.slice pa pn pc)).setCell ⟨w.heap.size + 1, 1, none⟩ (.slice ya5 yn5 yc5) → OwD2 W w.heap.size W.heap.size (.agg #[.slice pa pn pc, .slice ya5 yn5 yc5]) (d.1, afterW d p zs) ∧ Below w.heap.size w W := fun k hk W hW => by
      subst hW
      have same : SameIn w2.heap.size w5.heap.size w5 (((w5.drewN 1).setCell ⟨w.heap.size + 1, 0, none⟩ (.slice pa pn pc)).setCell ⟨w.heap.size + 1, 1, none⟩ (.slice ya5 yn5 yc5)) := SameIn.trans (SameIn.trans (show SameIn _ _ w5 (w5.drewN 1) from ⟨Nat.le_refl _, fun _ _ _ => rfl⟩) (SameIn.set (.inl (by show w.heap.size + 1 < _; omega)))) (SameIn.set (.inl (by show w.heap.size + 1 < _; omega)))
      obtain ⟨x', y', vs', xs', he', q1, q2, q3⟩ := HO5.out.same same
      refine ⟨⟨x', y', vs', xs', he', q1.wide (by omega) (by simp), q2.wide (by omega) (by simp), q3⟩, ?_⟩
      exact ((below_drewN2 HB5.out 1).setCell (by show w.heap.size ≤ w.heap.size + 1; omega) _).setCell (by show w.heap.size ≤ w.heap.size + 1; omega) _
    have HFIN : Hid _ := FIN
    clear FIN HO5 HB5
    rcases hev with ⟨rfl, hk⟩ | ⟨⟨a', rfl⟩, hk⟩
    · have HK : Hid _ := hk
      clear hk
      go_wp2
      go_region_held3 (fun w' => w'.cell? ⟨w3.heap.size, 0, none⟩ = some (.slice pa pn pc) ∧ w'.cell? ⟨w3.heap.size, 1, none⟩ = some (.slice ya5 yn5 yc5)) (first | go_keep | (refine ⟨?_, ?_⟩ <;> assumption)) (fail)
      all_goals go_wp2
      all_goals refine bodyPost_ret (v := .tuple #[.agg #[.slice pa pn pc, .slice ya5 yn5 yc5], .bool true]) (by simp [results, Tryd.results17, go_sem, e0, e1]) rfl ⟨_, by rw [HK.out], (HFIN.out _ HK.out _ rfl).1, (HFIN.out _ HK.out _ rfl).2⟩
    · have HK : Hid _ := hk
      clear hk
      go_wp2
      go_region_held3 (fun w' => w'.cell? ⟨w3.heap.size, 0, none⟩ = some (.slice pa pn pc) ∧ w'.cell? ⟨w3.heap.size, 1, none⟩ = some (.slice ya5 yn5 yc5)) (first | go_keep | (refine ⟨?_, ?_⟩ <;> assumption)) (fail)
      all_goals go_wp2
      all_goals refine bodyPost_ret (v := .tuple #[.agg #[.slice pa pn pc, .slice ya5 yn5 yc5], .bool false]) (by simp [results, Tryd.results17, go_sem, e0, e1]) rfl ⟨_, by rw [HK.out], (HFIN.out _ HK.out _ rfl).1, (HFIN.out _ HK.out _ rfl).2⟩
  · have hok' : okD d = false := by simpa using hok
    have hfd : writeD d p zs = (([], []), false) := by unfold writeD; rw [if_neg hok]
    rw [hok'] at HOK
    rw [hfd]
    clear hok hok' hfd
    go_enter Tryd.func17, Tryd.ntmps17
    go_wp2_with fail
    rw [HW.out]
    refine Calls.mono HOK.out ?_
    rintro e w2 ⟨rfl, b2⟩
    have vR2 := VarD.step HVR.out b2
    have B2 := HB1.out.trans (b2.mono HB1.out.size)
    have e0 := vR2.c0
    have e1 := vR2.c1
    have f0 := vR2.f 0
    have f1 := vR2.f 1
    have HB2 : Hid (Below w.heap.size w w2) := B2
    clear b2 vR2 B2 HR1 HV1 HVR HB1 c0 c1 HOK
    go_wp2
    refine bodyPost_ret (v := .tuple #[.agg #[.slice none 0 0, .slice none 0 0], .bool false]) (by simp [results, Tryd.results17, go_sem, e0, e1]) rfl ⟨_, rfl, OwD2_nil _ _ _, ?_⟩
    exact (HB2.out.setCell (by show w.heap.size ≤ w.heap.size + 1; omega) _).setCell (by show w.heap.size ≤ w.heap.size + 1; omega) _
end Go.Proofs.YtjhaanenkeceiaaDoor
end

section
/- The program's Crash as a plain function of its arguments; it leans on its variable errNoSector. No condition of ours. -/
namespace Go.Proofs.YtjhaanenkeceiaaDoor
open Go.RowKit
set_option linter.unusedVariables false

set_option maxHeartbeats 1000000 in
theorem implCrash_all (v : Value) (d : Dk) (l h : Nat) (kv : Value) (bs : List Bool) (lk hk' : Nat) (torn : Int) (w : World) (r : RdD w l h v d) (hh : h ≤ w.heap.size) (rk : RdF w lk hk' kv bs) (hhk : hk' ≤ w.heap.size) (a : Addr) (hg : Glob w a) :
    Calls Tryd.prog 18 #[v, kv, .int .i64 torn] w fun e w' => ∃ u, e = .returned u ∧ OwD2 w' w.heap.size w'.heap.size u (crashD d bs torn) ∧ Below w.heap.size w w' := by
  obtain ⟨xa, xn, xc, ya, yn, yc, rfl⟩ := r.open
  have HRK : Hid (∀ W, Below w.heap.size w W → RdF W lk hk' kv bs) := fun W hW => rk.same (SameIn.ofBelow hW hhk)
  have hkm : bs.length ≤ 9223372036854775807 := by obtain ⟨_, n', c', _, hl', hd', _⟩ := rk; have h1 := hd'.1; have h2 := hd'.2.1; unfold maxLen at h2; omega
  obtain ⟨ka, kn, kc, rfl⟩ : ∃ a n c, kv = .slice a n c := by obtain ⟨a', n', c', h', _⟩ := rk; exact ⟨a', n', c', h'⟩
  clear rk
  have hlt := hg.lt
  have b0 := Below.new (w := w) (.cells #[.slice xa xn xc, .slice ya yn yc] 26)
  have v0 := VarD.new w (.slice xa xn xc) (.slice ya yn yc)
  generalize hw0 : w.alloc (.cells #[.slice xa xn xc, .slice ya yn yc] 26) = w0 at b0 v0
  have s0 : w0.heap.size = w.heap.size + 1 := by rw [← hw0]; simp
  have b1 := Below.new (w := w0) (.cells #[.slice none 0 0, .slice none 0 0] 26)
  have vR := VarD.new w0 (.slice none 0 0) (.slice none 0 0)
  rw [s0] at vR
  have v1 := v0.step b1
  generalize hw1 : w0.alloc (.cells #[.slice none 0 0, .slice none 0 0] 26) = w1 at b1 vR v1
  have B1 : Below w.heap.size w w1 := b0.trans (b1.mono (by omega))
  have r1 := r.step hh B1
  have sR := vR.lt
  have HOK : Hid _ := implOk_any _ d l h a w1 r1 (by omega) (hg.step B1 hlt)
  have HW : Hid ((w.alloc (.cells #[.slice xa xn xc, .slice ya yn yc] 26)).alloc (.cells #[.slice none 0 0, .slice none 0 0] 26) = w1) := by show _ = _; rw [hw0, hw1]
  have HR1 : Hid (RdD w1 l h _ d) := r1
  have HV1 : Hid (VarD w1 w.heap.size _ _) := v1
  have HVR : Hid (VarD w1 (w.heap.size + 1) _ _) := vR
  have HB1 : Hid (Below w.heap.size w w1) := B1
  have c0 := v1.c0
  have c1 := v1.c1
  clear hw0 hw1 r hg b0 v0 b1 vR v1 r1 B1 s0
  by_cases hok : okD d = true
  · have hfd : crashD d bs torn = (crashS d.1 d.2 bs torn d.2.length, []) := by unfold crashD; rw [if_pos hok]
    rw [hok] at HOK
    rw [hfd]
    have HOKD : Hid _ := hok
    clear hok hfd
    go_enter Tryd.func18, Tryd.ntmps18
    go_wp2_with fail
    rw [HW.out]
    refine Calls.mono HOK.out ?_
    rintro e w2 ⟨rfl, b2⟩
    have v2 := VarD.step HV1.out b2
    have vR2 := VarD.step HVR.out b2
    have r2 := RdD.step HR1.out (by omega) b2
    have B2 := HB1.out.trans (b2.mono HB1.out.size)
    have s2 := b2.size
    have hp := r2
    obtain ⟨x', y', he, r21, r22⟩ := hp
    simp only [Value.agg.injEq, Array.mk.injEq, List.cons.injEq, and_true] at he
    obtain ⟨rfl, rfl⟩ := he
    have HCL : Hid _ := clone_any w.heap.size _ _ d l h w2 v2 r21 r22 (by omega) HOKD.out
    have HVR2 : Hid (VarD w2 (w.heap.size + 1) _ _) := vR2
    have HB2 : Hid (Below w.heap.size w w2) := B2
    clear r21 r22 r2 v2 vR2 b2 B2 c0 c1 HR1 HV1 HVR HB1 HOK
    go_wp2_with fail
    refine Calls.mono HCL.out ?_
    rintro e w3 ⟨u, rfl, oU, b3⟩
    obtain ⟨pa, pn, pc, qa, qn, qc, rfl⟩ := oU.rd.open
    have s3 := b3.size
    have b4 := Below.new (w := w3) (.cells #[.slice pa pn pc, .slice qa qn qc] 26)
    have vO := VarD.new w3 (.slice pa pn pc) (.slice qa qn qc)
    have vR4 := (VarD.step HVR2.out b3).step b4
    have oU4 := oU.step (Nat.le_refl _) b4
    have B4 := (HB2.out.trans (b3.mono HB2.out.size)).trans (b4.mono (by have := HB2.out.size; omega))
    generalize hw4 : w3.alloc (.cells #[.slice pa pn pc, .slice qa qn qc] 26) = w4 at b4 vO vR4 oU4 B4
    have HW4 : Hid _ := hw4
    have s4 := vO.lt
    obtain ⟨x', y', vs, xs, he, oX, oY, hap⟩ := oU4
    simp only [Value.agg.injEq, Array.mk.injEq, List.cons.injEq, and_true] at he
    obtain ⟨rfl, rfl⟩ := he
    have hbo : ¬ Blk vs w3.heap.size := fun hb => by have := oX.lt _ hb; omega
    have HFL : Hid _ := crash_any w3.heap.size _ _ d _ bs lk hk' torn vs xs w2.heap.size w3.heap.size w4 vO oX oY hap hbo (by omega) HOKD.out (HRK.out _ B4) (by omega) hkm
    have HVR4 : Hid (VarD w4 (w.heap.size + 1) _ _) := vR4
    have HB4 : Hid (Below w.heap.size w w4) := B4
    have HLX : Hid _ := oX.lt
    clear hw4 oX oY hap hbo vO vR4 B4 b4 b3 oU HVR2 HB2 HCL
    go_wp2_with (rw [HW4.out])
    refine Calls.mono HFL.out ?_
    rintro e w5 ⟨⟨u5, rfl⟩, oX5, vO5, t5⟩
    have nlt : ∀ q, q < w2.heap.size → ¬ Blk (.slice (some ⟨w3.heap.size, 0, none⟩) 0 0 :: vs) q := fun q hq hb => by
      obtain ⟨i, hi, hk⟩ := hb
      cases i with
      | zero => have := slice_block (show (Value.slice (some ⟨w3.heap.size, 0, none⟩) 0 0).ownBlock = some q by simpa using hk); simp at this; omega
      | succ i => have := HLX.out q ⟨i, by simpa using hi, by simpa using hk⟩; omega
    have s5 := t5.size
    have vR5 : VarD w5 (w.heap.size + 1) (.slice none 0 0) (.slice none 0 0) := (t5.block _ (by omega) (nlt _ (by omega))).trans HVR4.out
    have B5 : Below w.heap.size w w5 := HB4.out.trans ⟨t5.os, t5.tape, t5.output, t5.size, fun q hq => t5.block q (by omega) (nlt q (by omega))⟩
    have k0 := vO5.c0
    have k1 := vO5.c1
    have e0 := vR5.c0
    have e1 := vR5.c1
    have f0 := vR5.f 0
    have f1 := vR5.f 1
    have HX5 : Hid (OwX w5 w2.heap.size w3.heap.size _ (crashS d.1 d.2 bs torn d.2.length) vs) := oX5
    have HB5 : Hid (Below w.heap.size w w5) := B5
    clear oX5 B5 nlt t5 vO5 vR5 HVR4 HB4 HFL
    go_wp2
    refine bodyPost_ret (v := .agg #[.slice pa pn pc, .slice none 0 0]) (by simp [results, Tryd.results18, go_sem, e0, e1]) rfl ⟨_, rfl, ?_, ?_⟩
    · have same : SameIn w2.heap.size w3.heap.size w5 ((w5.setCell ⟨w.heap.size + 1, 0, none⟩ (.slice pa pn pc)).setCell ⟨w.heap.size + 1, 1, none⟩ (.slice none 0 0)) := SameIn.trans (SameIn.set (.inl (by show w.heap.size + 1 < _; omega))) (SameIn.set (.inl (by show w.heap.size + 1 < _; omega)))
      exact ⟨_, _, vs, [], rfl, (OwX.same HX5.out same).wide (by omega) (by simp; omega), OwY_nil _ _ _, fun q _ => no_blk q⟩
    · exact (HB5.out.setCell (by show w.heap.size ≤ w.heap.size + 1; omega) _).setCell (by show w.heap.size ≤ w.heap.size + 1; omega) _
  · have hok' : okD d = false := by simpa using hok
    have hfd : crashD d bs torn = ([], []) := by unfold crashD; rw [if_neg hok]
    rw [hok'] at HOK
    rw [hfd]
    clear hok hok' hfd
    go_enter Tryd.func18, Tryd.ntmps18
    go_wp2_with fail
    rw [HW.out]
    refine Calls.mono HOK.out ?_
    rintro e w2 ⟨rfl, b2⟩
    have vR2 := VarD.step HVR.out b2
    have B2 := HB1.out.trans (b2.mono HB1.out.size)
    have e0 := vR2.c0
    have e1 := vR2.c1
    have f0 := vR2.f 0
    have f1 := vR2.f 1
    have HB2 : Hid (Below w.heap.size w w2) := B2
    clear b2 vR2 B2 HR1 HV1 HVR HB1 c0 c1 HOK
    go_wp2
    refine bodyPost_ret (v := .agg #[.slice none 0 0, .slice none 0 0]) (by simp [results, Tryd.results18, go_sem, e0, e1]) rfl ⟨_, rfl, OwD2_nil _ _ _, ?_⟩
    exact (HB2.out.setCell (by show w.heap.size ≤ w.heap.size + 1; omega) _).setCell (by show w.heap.size ≤ w.heap.size + 1; omega) _
end Go.Proofs.YtjhaanenkeceiaaDoor
end

section
/- append of a flag to flags of the call's own; no condition. -/
namespace Go.Proofs.YtjhaanenkeceiaaDoor
open Go.RowKit
set_option linter.unusedVariables false

theorem fcells_one (bs : List Bool) : ∀ v ∈ fcells bs, v.oneCell' = true := fun v hv => by
  simp only [fcells, List.mem_map] at hv
  obtain ⟨b, _, rfl⟩ := hv
  rfl
/-- append(v, q), v the call's own flags. -/
theorem wpList_appF {ops : Array Oper} {rest : List Oper} {o : Oper} {a : Act} {Q : Exit → Act → World → Prop} (w : World) (hgd : o.guard = none) (s x : Operand)
    (ho : o.op = .call { callee := .builtin .append, args := #[s, x], argTypes := #[43, 43] })
    (base : Nat) (v : Value) (bs : List Bool) (hs : a.eval s = v) (hown : w.ownsRow base 4 1 v bs.length (fcells bs)) (b : Nat) (q : Bool) (hx : a.eval x = .slice (some ⟨b, 0, none⟩) 1 1) (hb : w.cell? ⟨b, 0, none⟩ = some (.bool q))
    (hl : bs.length ≤ 4194304) (hbase : base ≤ w.heap.size)
    (h : ∀ v' w', w'.ownsRow base 4 1 v' (bs ++ [q]).length (fcells (bs ++ [q])) → w.grownBy w' v.ownBlock → wpList Tryd.prog ops Q rest (a.put o.dst v') w') : wpList Tryd.prog ops Q (o :: rest) a w := by
  obtain ⟨i0, hi, hz0, hz1, hz2⟩ := info_parts Tryd.infoF
  refine wpList_append_own w hgd s x 43 ho base 4 i0 (.bool false) 1 1 Tryd.underlying43 hi hz0 hz1 hz2 rfl (by decide) v bs.length (fcells bs) hs hown ⟨b, 0, none⟩ 1 1 (fcells [q]) hx rfl (fun j v hj => ?_) (fcells_one [q]) (by unfold maxLen; omega) (by omega) hbase ?_
  · match j, hj with
    | 0, hj =>
      have e : Value.bool q = v := by simpa [fcells] using hj
      rw [← e]
      simpa [Addr.add] using hb
    | j + 1, hj => simp [fcells] at hj
  intro v' w' ho' hg _
  refine h v' w' ?_ hg
  have e : fcells (bs ++ [q]) = fcells bs ++ fcells [q] := by simp [fcells]
  rw [List.length_append, e]
  exact ho'
end Go.Proofs.YtjhaanenkeceiaaDoor
end

section
/- The walk of the law FnTorn; no condition on its argument. -/
namespace Go.Proofs.YtjhaanenkeceiaaDoor.fnTorn
open Go.RowKit Go.Lib
set_option linter.unusedVariables false
set_option linter.unusedSimpArgs false
attribute [local go_sem ↓] Go.wp_at_zero Go.wp_at_succ

/-- The journal's variable, and its disk as data. -/
def JS (w : World) (jb : Nat) (d : Dk) (P q : Int) : Prop := ∃ x y l h, VarJ 30 w jb x y P q ∧ RdD w l h (.agg #[x, y]) d ∧ h ≤ w.heap.size ∧ (jb < l ∨ h ≤ jb)
theorem JS.step {w w' : World} {jb : Nat} {d : Dk} {P q : Int} (j : JS w jb d P q) (hb : Below w.heap.size w w') : JS w' jb d P q := by
  obtain ⟨x, y, l, h, v, r, hh, ho⟩ := j
  exact ⟨x, y, l, h, v.step hb, r.step hh hb, Nat.le_trans hh hb.size, ho⟩
theorem JS.lt {w : World} {jb : Nat} {d : Dk} {P q : Int} (j : JS w jb d P q) : jb < w.heap.size := by
  obtain ⟨x, y, l, h, v, r, hh, ho⟩ := j
  exact v.lt
theorem first_ok : openOk (newD 30) = true := by decide
theorem first_j : openJ (newD 30) = ((List.replicate 30 zsec, []), 0, 0) := by
  have h := Good.first.2.2.2.2
  have e : newD 30 = (List.replicate 30 zsec, []) := rfl
  unfold openJ
  rw [if_pos first_ok, e, h]
  rfl
/-- The records so far. -/
def L1 (w5 : World) (N : Nat) (r i : Value) (wr : World) : Prop :=
  ∃ (k : Nat) (zss : List (List Int)) (vs : List Value), k ≤ N + 1 ∧ i = .int .i64 k ∧ zss.length = k ∧ (∀ j : Nat, (zss[j]?.getD []).length ≤ 69) ∧ OwX wr w5.heap.size wr.heap.size r zss vs ∧ Below w5.heap.size w5 wr
/-- The record so far. -/
def L2 (wr : World) (M : Nat) (o q : Value) (wq : World) : Prop :=
  ∃ (m : Nat) (ys : List Int), m ≤ M ∧ q = .int .i64 m ∧ ys.length = m ∧ isBytes ys ∧ Owns wq wr.heap.size o ys ∧ Below wr.heap.size wr wq
/-- All but the block jb is as it was. -/
def Oth (jb : Nat) (w w' : World) : Prop := (w'.os = w.os ∧ w'.tape = w.tape ∧ w'.output = w.output) ∧ w.heap.size ≤ w'.heap.size ∧ ∀ k, k < w.heap.size → k ≠ jb → w'.heap[k]? = w.heap[k]?
theorem Oth.refl (jb : Nat) (w : World) : Oth jb w w := ⟨⟨rfl, rfl, rfl⟩, Nat.le_refl _, fun _ _ _ => rfl⟩
theorem Oth.step {jb : Nat} {w w1 w2 : World} (h : Oth jb w w1) (b : Below w1.heap.size w1 w2) : Oth jb w w2 :=
  ⟨⟨b.os.trans h.1.1, b.tape.trans h.1.2.1, b.output.trans h.1.2.2⟩, Nat.le_trans h.2.1 b.size, fun k hk hn => (b.block k (Nat.lt_of_lt_of_le hk h.2.1)).trans (h.2.2 k hk hn)⟩
theorem Oth.four {jb : Nat} {w w1 : World} (h : Oth jb w w1) (p q r t : Value) : Oth jb w ((((w1.setCell ⟨jb, 0, none⟩ p).setCell ⟨jb, 1, none⟩ q).setCell ⟨jb, 2, none⟩ r).setCell ⟨jb, 3, none⟩ t) :=
  ⟨h.1, by simpa using h.2.1, fun k hk hn => (four_other hn).trans (h.2.2 k hk hn)⟩
theorem Oth.two {jb : Nat} {w w1 : World} (h : Oth jb w w1) (p q : Value) : Oth jb w ((w1.setCell ⟨jb, 0, none⟩ p).setCell ⟨jb, 1, none⟩ q) :=
  ⟨h.1, by simpa using h.2.1, fun k hk hn => by rw [heap_setCell_other _ _ _ _ hn, heap_setCell_other _ _ _ _ hn]; exact h.2.2 k hk hn⟩
theorem Oth.below {jb B : Nat} {w0 w w' : World} (b : Below B w0 w) (h : Oth jb w w') (hB : B ≤ jb) (hs : B ≤ w.heap.size) : Below B w0 w' :=
  b.trans ⟨h.1.1, h.1.2.1, h.1.2.2, h.2.1, fun k hk => h.2.2 k (by omega) (by omega)⟩
theorem okD_good {S : List (List Int)} {P q : Nat} {acc : List (List Int)} (g : Good S P q acc) : okD (S, []) = true := by
  unfold okD
  simp only [Bool.and_eq_true, decide_eq_true_eq, List.all_eq_true]
  refine ⟨⟨⟨by have := g.1; omega, by simp⟩, fun z hz => ?_⟩, fun z hz => by simp at hz⟩
  obtain ⟨i, hi, rfl⟩ := List.mem_iff_getElem.mp hz
  have := g.2.1 i hi
  simp [hi] at this
  simp [secOk, this]
theorem room_good {S : List (List Int)} {P q : Nat} {acc : List (List Int)} (g : Good S P q acc) (zs : List Int) (hz : zs.length ≤ 69) (hq : q ≤ 3) : roomJ ((S, []), (P : Int), (q : Int)) zs = true := by
  have hm := manyN_few hz
  have h1 := g.1
  have h2 := g.2.2.1
  unfold roomJ
  simp only [Bool.and_eq_true, decide_eq_true_eq, List.length_nil]
  omega
theorem append_good {S : List (List Int)} {P q : Nat} {acc : List (List Int)} (g : Good S P q acc) (zs : List Int) (hz : zs.length ≤ 69) (hq : q ≤ 3) :
    appendJ ((S, []), (P : Int), (q : Int)) zs = (((flushS S (frameW P (frameN q zs)), []), ((P + manyN zs.length : Nat) : Int), ((q + 1 : Nat) : Int)), true) := by
  have h1 := g.1
  have h2 := g.2.2.1
  have hok : okJ ((S, []), (P : Int), (q : Int)) = true := by
    unfold okJ
    rw [okD_good g]
    simp only [Bool.true_and, Bool.and_eq_true, decide_eq_true_eq]
    omega
  unfold appendJ
  rw [if_pos hok, if_pos ⟨by omega, room_good g zs hz hq⟩]
  simp
theorem recs_at {w : World} {l h : Nat} {v : Value} {zss : List (List Int)} {vs : List Value} (o : OwX w l h v zss vs) (hn : 0 < vs.length) :
    ∃ g cap, v = .slice (some ⟨g, 0, none⟩) vs.length cap ∧ vs.length ≤ cap ∧ cap ≤ maxLen ∧ (l ≤ g ∧ g < h) := by
  rcases o.2.1.2 with ⟨hv, h0⟩ | ⟨g, c, cur, hv, hg, hh, hnc, hm, _⟩
  · omega
  · exact ⟨g, c, hv, hnc, hm, hg, o.2.2.1 g (by rw [hv]; rfl)⟩
theorem rec_at {w : World} {l h : Nat} {g cap : Nat} {zss : List (List Int)} {vs : List Value} {n : Nat} (o : OwX w l h (.slice (some ⟨g, 0, none⟩) n cap) zss vs) {i : Nat} (hi : i < vs.length) (hn : n = vs.length) :
    ∃ a k c, w.cell? ⟨g, i, none⟩ = some (.slice a k c) ∧ RdB w l h (.slice a k c) (zss[i]?.getD []) := by
  subst hn
  have hc := World.ownsRow.cellAt o.2.1 i (show i < vs.length * 1 by omega)
  have hr := (o.2.2.2.1 i hi).rd
  rw [List.getElem?_eq_getElem hi] at hr
  rw [List.getElem?_eq_getElem hi] at hc
  simp only [Option.getD_some] at hr
  obtain ⟨a, k, c, e⟩ := hr.sliced
  exact ⟨a, k, c, by rw [hc, e], by rw [← e]; exact hr⟩
/-- The journal so far. -/
def L3 (wo : World) (jb N : Nat) (zss : List (List Int)) (i : Value) (wr : World) : Prop :=
  ∃ (k P : Nat) (S : List (List Int)), k ≤ N ∧ i = .int .i64 k ∧ Good S P k (zss.take k) ∧ JS wr jb (S, []) (P : Int) (k : Int) ∧ Oth jb wo wr
theorem VarJ.two {T : TypeId} {w : World} {b : Nat} {x y : Value} {p q : Int} (h : VarJ T w b x y p q) (u v : Value) : VarJ T ((w.setCell ⟨b, 0, none⟩ u).setCell ⟨b, 1, none⟩ v) b u v p q :=
  heap_setCell_same _ _ _ _ _ _ (heap_setCell_same _ _ _ _ _ _ h)
theorem two_cell {w : World} {b g i : Nat} {u v z : Value} (hg : g ≠ b) (h : w.cell? ⟨g, i, none⟩ = some z) : ((w.setCell ⟨b, 0, none⟩ u).setCell ⟨b, 1, none⟩ v).cell? ⟨g, i, none⟩ = some z := by
  rw [World.cell?_of_block (w := w) (show ((w.setCell ⟨b, 0, none⟩ u).setCell ⟨b, 1, none⟩ v).heap[g]? = w.heap[g]? by rw [heap_setCell_other _ _ _ _ hg, heap_setCell_other _ _ _ _ hg])]
  exact h
theorem two_same {w : World} {b l h : Nat} {u v : Value} (hb : b < l) : SameIn l h w ((w.setCell ⟨b, 0, none⟩ u).setCell ⟨b, 1, none⟩ v) :=
  ⟨by simp, fun q h1 _ => by rw [heap_setCell_other _ _ _ _ (by show q ≠ b; omega), heap_setCell_other _ _ _ _ (by show q ≠ b; omega)]⟩
theorem Oth.trans {jb : Nat} {w w1 w2 : World} (h : Oth jb w w1) (k : Oth jb w1 w2) : Oth jb w w2 :=
  ⟨⟨k.1.1.trans h.1.1, k.1.2.1.trans h.1.2.1, k.1.2.2.trans h.1.2.2⟩, Nat.le_trans h.2.1 k.2.1, fun q hq hn => (k.2.2 q (Nat.lt_of_lt_of_le hq h.2.1) hn).trans (h.2.2 q hq hn)⟩
theorem row_pos {w : World} {l : Nat} {e : TypeId} {size : Nat} {v : Value} {n : Nat} {xs : List Value} (o : w.ownsRow l e size v n xs) (hn : 0 < n) : ∃ g cap, v = .slice (some ⟨g, 0, none⟩) n cap ∧ n ≤ cap ∧ cap ≤ maxLen ∧ l ≤ g := by
  rcases o.2 with ⟨hv, h0⟩ | ⟨g, c, cur, hv, hg, hh, hnc, hm, _⟩
  · omega
  · exact ⟨g, c, hv, hnc, hm, hg⟩
theorem snoc_len {bs : List Bool} {i : Nat} {q : Bool} (h : bs.length = i) : (bs ++ [q]).length = i + 1 := by rw [List.length_append, h]; rfl
theorem snoc_cell {w : World} {l g c i : Nat} {bs : List Bool} {q : Bool} (o : w.ownsRow l 4 1 (.slice (some ⟨g, 0, none⟩) (bs ++ [q]).length c) (bs ++ [q]).length (fcells (bs ++ [q]))) (h : bs.length = i) : w.cell? ⟨g, i, none⟩ = some (.bool q) := by
  have hl := snoc_len (q := q) h
  rw [World.ownsRow.cellAt o i (show i < (bs ++ [q]).length * 1 by omega)]
  unfold fcells
  rw [List.getElem?_map, List.getElem?_append_right (by omega), h, Nat.sub_self]
  rfl
/-- The writes so far. -/
def L4 (wf : World) (jb m P N : Nat) (S fr : List (List Int)) (kv av iv : Value) (wr : World) : Prop :=
  ∃ (i : Nat) (bs : List Bool), i ≤ m ∧ iv = .int .i64 i ∧ bs.length = i ∧ av = .bool (bs.all id) ∧ wr.ownsRow wf.heap.size 4 1 kv bs.length (fcells bs) ∧ JS wr jb (S, frameW P (fr.take i)) (P : Int) (N : Int) ∧ Oth jb wf wr
theorem write_good {S : List (List Int)} {P q : Nat} {acc : List (List Int)} (g : Good S P q acc) (zs : List Int) (hz : zs.length ≤ 69) (hq : q ≤ 3) (i : Nat) (hi : i < manyN zs.length) :
    writeD (S, frameW P ((frameN q zs).take i)) ((P : Int) + (i : Int)) ((frameN q zs)[i]?.getD []) = ((S, frameW P ((frameN q zs).take (i + 1))), true) := by
  have hm := manyN_few hz
  have h1 := g.1
  have h2 := g.2.2.1
  have hfl := frameN_len q zs
  have hlen : (frameW (P : Int) ((frameN q zs).take i)).length = i := by unfold frameW; rw [List.length_mapIdx, List.length_take]; omega
  have hok0 := okD_frame (okD_good g) (room_good g zs hz hq)
  rw [List.nil_append] at hok0
  have hok : okD (S, frameW P ((frameN q zs).take i)) = true := by
    unfold okD at hok0 ⊢
    simp only [Bool.and_eq_true, decide_eq_true_eq, List.all_eq_true] at hok0 ⊢
    refine ⟨⟨⟨hok0.1.1.1, by omega⟩, hok0.1.2⟩, fun x hx => hok0.2 x ?_⟩
    unfold frameW at hx ⊢
    rw [List.mem_mapIdx] at hx ⊢
    obtain ⟨j, hj, rfl⟩ := hx
    exact ⟨j, by rw [List.length_take] at hj; omega, by simp⟩
  have hwo : writeOk (S, frameW P ((frameN q zs).take i)) ((P : Int) + (i : Int)) ((frameN q zs)[i]?.getD []) = true := by
    rw [frameN_at q zs i hi]
    unfold writeOk
    simp [secN_length, hlen]
    omega
  unfold writeD
  rw [if_pos hok, if_pos hwo, ← frameW_next _ _ _ (by omega)]
theorem crash_good {S : List (List Int)} {P q : Nat} {acc : List (List Int)} (g : Good S P q acc) (zs : List Int) (hz : zs.length ≤ 69) (hq : q ≤ 3) (bs : List Bool) (torn : Int) :
    ∃ S', S' = crashS S (frameW P (frameN q zs)) bs torn (manyN zs.length) ∧ crashD (S, frameW P (frameN q zs)) bs torn = (S', []) ∧ openOk (S', []) = true := by
  have hok0 := okD_frame (okD_good g) (room_good g zs hz hq)
  rw [List.nil_append] at hok0
  have hlen : (frameW (P : Int) (frameN q zs)).length = manyN zs.length := by unfold frameW; rw [List.length_mapIdx, frameN_len]
  refine ⟨_, rfl, ?_, ?_⟩
  · unfold crashD
    rw [if_pos hok0]
    dsimp only
    rw [hlen]
  · obtain ⟨⟨h1, h2⟩, hw, hp⟩ := okD_whole hok0
    have hf := Whole.crash (bs := bs) (torn := torn) hw (fun i hi => (hp i hi).2.2) (manyN zs.length) (by dsimp only; omega)
    have hl := crashS_length S (frameW P (frameN q zs)) bs torn (manyN zs.length)
    dsimp only at hf h1
    generalize crashS S (frameW P (frameN q zs)) bs torn (manyN zs.length) = S' at hf hl
    unfold openOk okD
    simp only [Bool.and_eq_true, decide_eq_true_eq, List.all_eq_true]
    refine ⟨⟨⟨⟨by omega, by simp⟩, fun x hx => ?_⟩, fun x hx => by simp at hx⟩, rfl⟩
    obtain ⟨i, hi, rfl⟩ := List.mem_iff_getElem.mp hx
    have := hf i hi
    simp [hi] at this
    simp [secOk, this]
/-- What is read behind the crash. -/
theorem read_crash {S : List (List Int)} {P q : Nat} {zss : List (List Int)} (z : List Int) (g : Good S P q (zss.take q)) (hzk : zss = zss.take q ++ [z]) (hacc : (zss.take q).length = q) (hz : z.length ≤ 69) (hq : q ≤ 3) (bs : List Bool) (hb : bs.length = manyN z.length) (torn : Int) :
    ∃ r, (openS (crashS S (frameW P (frameN q z)) bs torn (manyN z.length))).2.2 = zss.take r ∧ (openS (crashS S (frameW P (frameN q z)) bs torn (manyN z.length))).2.1 = r ∧
      ((r = q + 1 ∧ bs.all id = true ∧ (torn < 0 ∨ (manyN z.length : Int) ≤ torn)) ∨ (r = q ∧ (bs.all id = false ∨ (0 ≤ torn ∧ torn < (manyN z.length : Int))))) := by
  obtain ⟨h1, h2⟩ := g.crash z hz hq bs hb torn
  by_cases hc : bs.all id = true ∧ (torn < 0 ∨ (manyN z.length : Int) ≤ torn)
  · refine ⟨q + 1, ?_, ?_, .inl ⟨rfl, hc⟩⟩
    · have hl : zss.length = q + 1 := by have h3 := congrArg List.length hzk; rw [List.length_append, hacc] at h3; simpa using h3
      have hall : zss.take (q + 1) = zss := List.take_of_length_le (by omega)
      rw [h1 hc, hall]
      exact hzk.symm
    · rw [h1 hc]
  · refine ⟨q, by rw [h2 hc], by rw [h2 hc], .inr ⟨rfl, ?_⟩⟩
    cases ha : bs.all id
    · exact .inl rfl
    · exact .inr ⟨Int.not_lt.1 (fun h => hc ⟨ha, .inl h⟩), Int.not_le.1 (fun h => hc ⟨ha, .inr h⟩)⟩
/-- The records compared so far. -/
def L5 (w13 : World) (r : Nat) (iv : Value) (wr : World) : Prop := ∃ j : Nat, j ≤ r ∧ iv = .int .i64 j ∧ Below w13.heap.size w13 wr
set_option maxRecDepth 100000 in
set_option maxHeartbeats 8000000 in
theorem walk (v0 : Value) (d0 : List Int) (w : World) (e0 : RdB w 0 w.heap.size v0 d0) (a : Addr) (hg : Glob w a) (b c : Addr) (h1 : w.cell? ⟨0, 0, none⟩ = some (errV b)) (h2 : w.cell? ⟨1, 0, none⟩ = some (errV c)) :
    Calls Tryd.prog 4 #[v0] w fun e w' => e = .returned (.bool true) ∧ Below w.heap.size w w' := by
  have hlt := hg.lt
  have HG : Hid (∀ W, Below w.heap.size w W → Glob W a) := fun W hW => hg.step hW hlt
  have HE1 : Hid (∀ W, Below w.heap.size w W → W.cell? ⟨0, 0, none⟩ = some (errV b)) := fun W hW => (hW.cell (block_lt_of_cell (a := ⟨0, 0, none⟩) h1)).trans h1
  have HE2 : Hid (∀ W, Below w.heap.size w W → W.cell? ⟨1, 0, none⟩ = some (errV c)) := fun W hW => (hW.cell (block_lt_of_cell (a := ⟨1, 0, none⟩) h2)).trans h2
  obtain ⟨hcb, ca, cn, cc, rfl, hcn, hch, hcr⟩ := e0.reads
  have HAT : Hid (∀ (k : Nat) (W : World), k ≤ 1000000 → Below w.heap.size w W → Calls Tryd.prog 15 #[.slice ca cn cc, .int .i64 k] W fun e w' => e = .returned (.int .i64 (atN d0 k)) ∧ Below W.heap.size W w') := fun k W hk hW => by
    obtain ⟨_, ca', cn', cc', he', hcn', hch', hcr'⟩ := (e0.same (SameIn.ofBelow hW (Nat.le_refl _))).reads
    simp only [Value.slice.injEq] at he'
    obtain ⟨rfl, rfl, rfl⟩ := he'
    exact at_any ca d0 cn cc k W hcr' hcn' (Nat.le_trans hch'.1 hch'.2.1) hk
  have HRG : Hid (∀ k, 0 ≤ atN d0 k ∧ atN d0 k ≤ 255) := fun k => atN_range hcb k
  have HN : Hid _ := implNew_any 30 w
  clear hg h1 h2 e0 hcn hch hcr hcb
  go_enter Tryd.func4, Tryd.ntmps4
  go_wp2_with fail
  refine Calls.mono HN.out ?_
  rintro e w1 ⟨u, rfl, oU, b1⟩
  have rU := oU.rd
  obtain ⟨da, dn, dc, fa, fn, fc, rfl⟩ := rU.open
  have s1 := b1.size
  have b2 := Below.new (w := w1) (.cells #[.slice da dn dc, .slice fa fn fc] 26)
  have vD := VarD.new w1 (.slice da dn dc) (.slice fa fn fc)
  generalize hw2 : w1.alloc (.cells #[.slice da dn dc, .slice fa fn fc] 26) = w2 at b2 vD
  have HW2 : Hid _ := hw2
  have s2 := b2.size
  have B2 : Below w.heap.size w w2 := b1.trans (b2.mono s1)
  have r2 := rU.step (Nat.le_refl _) b2
  have h9 := implOpen_all _ (newD 30) _ _ w2 r2 (by omega) a (HG.out _ B2)
  rw [first_ok, first_j] at h9
  have HOP : Hid _ := h9
  have HB2 : Hid (Below w.heap.size w w2) := B2
  have k0 := vD.c0
  have k1 := vD.c1
  clear HN oU rU b1 hw2 b2 vD r2 B2 h9
  go_wp2_with (rw [HW2.out])
  refine Calls.mono HOP.out ?_
  rintro e w3 ⟨X, V, vs, H, rfl, oJ, oX, hH, hH2, b3⟩
  obtain ⟨pa, pn, pc, qa, qn, qc, rfl, rD3⟩ := oJ.rd.open
  obtain ⟨va, vn, vc, rfl⟩ := row_sliced oX.2.1
  have s3 := b3.size
  have b4 := Below.new (w := w3) (.cells #[.slice pa pn pc, .slice qa qn qc, .int .i64 0, .int .i64 0] 30)
  have vJ := VarJ.new (T := 30) w3 (.slice pa pn pc) (.slice qa qn qc) 0 0
  generalize hw4 : w3.alloc (.cells #[.slice pa pn pc, .slice qa qn qc, .int .i64 0, .int .i64 0] 30) = w4 at b4 vJ
  have HW4 : Hid _ := hw4
  have s4 := b4.size
  have sl4 := vJ.lt
  have hjb : w.heap.size ≤ w3.heap.size := by have := HB2.out.size; omega
  have HJ4 : Hid (JS w4 w3.heap.size (List.replicate 30 zsec, []) 0 0) := ⟨_, _, _, _, vJ, rD3.step (by omega) b4, by omega, .inr hH⟩
  have HB4 : Hid (Below w.heap.size w w4) := HB2.out.trans ((b3.trans (b4.mono s3)).mono HB2.out.size)
  obtain ⟨N, hN⟩ : ∃ N : Nat, (atN d0 0).tmod 4 = (N : Int) := ⟨((atN d0 0).tmod 4).toNat, by have := HRG.out 0; rw [Int.tmod_eq_emod_of_nonneg this.1]; omega⟩
  have hN3 : N ≤ 3 := by have := HRG.out 0; rw [Int.tmod_eq_emod_of_nonneg this.1] at hN; omega
  have HA0 := HAT.out 0
  generalize atN d0 0 = x0 at HA0 hN
  obtain ⟨jb, hjbe⟩ : ∃ jb, jb = w3.heap.size := ⟨_, rfl⟩
  rw [← hjbe] at HJ4 hjb
  have HJBE : Hid (jb = w3.heap.size) := hjbe
  clear hjbe
  clear HOP oJ oX hH hH2 b3 b4 vJ rD3 hw4 HB2 k0 k1 HW2
  go_wp2_with (rw [HW4.out])
  refine Calls.mono (HA0 w4 (by omega) HB4.out) ?_
  rintro e w5 ⟨rfl, b5⟩
  have HB5 : Hid (Below w.heap.size w w5) := HB4.out.trans (b5.mono HB4.out.size)
  have HJ5 : Hid (JS w5 jb (List.replicate 30 zsec, []) 0 0) := JS.step HJ4.out b5
  clear HB4 HJ4 b5 HA0 HW4 sl4 s4 s1 s2 s3
  obtain ⟨i0, hi, hz0, hz1, hz2⟩ := info_parts Tryd.infoBB
  go_wp2
  go_loopw [9, 10] (fun r i wr => L1 w5 N r i wr) (fun _ i _ => N + 1 - (intOf i).toNat)
  case atStart => exact ⟨0, [], [], Nat.zero_le _, rfl, rfl, fun j => by simp, ⟨rfl, World.ownsRow_nil _ _ _ _, fun k h => by simp [Value.ownBlock] at h, fun i hi => absurd hi (Nat.not_lt_zero _), fun i j q _ hj => absurd hj (Nat.not_lt_zero _)⟩, Below.refl _ _⟩
  case round =>
    rename World => wo
    obtain ⟨k, zss, vs, hk, rfl, hzl, hz69, oR, bR⟩ := hrel
    have HOR : Hid (OwX wo w5.heap.size wo.heap.size u9 zss vs) := oR
    have HBR : Hid (Below w5.heap.size w5 wo) := bR
    have HZL : Hid (zss.length = k) := hzl
    have HZ69 : Hid (∀ j : Nat, (zss[j]?.getD []).length ≤ 69) := hz69
    have HBW : Hid (Below w.heap.size w wo) := HB5.out.trans (bR.mono HB5.out.size)
    clear oR bR hzl hz69
    by_cases hlt : k ≤ N
    · obtain ⟨M, hM⟩ : ∃ M : Nat, (atN d0 (k + 1)).tmod 70 = (M : Int) := ⟨((atN d0 (k + 1)).tmod 70).toNat, by have := HRG.out (k + 1); rw [Int.tmod_eq_emod_of_nonneg this.1]; omega⟩
      have hM69 : M ≤ 69 := by have := HRG.out (k + 1); rw [Int.tmod_eq_emod_of_nonneg this.1] at hM; omega
      have HAK : Hid (∀ W, Below w.heap.size w W → Calls Tryd.prog 15 #[.slice ca cn cc, .int .i64 ((k : Int) + 1)] W fun e w' => e = .returned (.int .i64 (atN d0 (k + 1))) ∧ Below W.heap.size W w') := fun W hW => by have := HAT.out (k + 1) W (by omega) hW; simpa using this
      generalize atN d0 (k + 1) = xk at HAK hM
      go_wp2
      go_loopw [11, 12] (fun o q wq => L2 wo M o q wq) (fun _ q _ => M - (intOf q).toNat)
      case atStart => exact ⟨0, [], Nat.zero_le _, rfl, rfl, isBytes_nil, World.ownsRow_nil _ _ _ _, Below.refl _ _⟩
      case round =>
        obtain ⟨m, ys, hm, rfl, hyl, hyb, hown, bq⟩ := hrel
        have HO : Hid (Owns wr wo.heap.size u11 ys) := hown
        have HY : Hid (ys.length = m ∧ isBytes ys) := ⟨hyl, hyb⟩
        have HBQ : Hid (Below wo.heap.size wo wr) := bq
        have HBwr : Hid (Below w.heap.size w wr) := HBW.out.trans (bq.mono HBW.out.size)
        clear hown hyl hyb bq
        by_cases hlt2 : m < M
        · go_wp2_with fail
          refine Calls.mono (HAK.out _ HBwr.out) ?_
          rintro e w6 ⟨rfl, b6⟩
          have HO6 : Hid (Owns w6 wo.heap.size u11 ys) := Owns.step HO.out b6
          have HBQ6 : Hid (Below wo.heap.size wo w6) := HBQ.out.trans (b6.mono HBQ.out.size)
          have HBW6 : Hid (Below w.heap.size w w6) := HBwr.out.trans (b6.mono HBwr.out.size)
          have HAM : Hid (∀ W, Below w.heap.size w W → Calls Tryd.prog 15 #[.slice ca cn cc, .int .i64 ((k : Int) + (m : Int))] W fun e w' => e = .returned (.int .i64 (atN d0 (k + m))) ∧ Below W.heap.size W w') := fun W hW => by have := HAT.out (k + m) W (by omega) hW; simpa using this
          have hx := HRG.out (k + m)
          generalize atN d0 (k + m) = x at HAM hx
          clear b6 HO HBQ HBwr
          go_wp2_with fail
          refine Calls.mono (HAM.out _ HBW6.out) ?_
          rintro e w7 ⟨rfl, b7⟩
          have HO7 : Hid (Owns w7 wo.heap.size u11 ys) := Owns.step HO6.out b7
          have BQ7 : Below wo.heap.size wo w7 := HBQ6.out.trans (b7.mono HBQ6.out.size)
          have HBQ7 : Hid (Below wo.heap.size wo w7) := BQ7
          have s7 := BQ7.size
          clear b7 HO6 HBQ6 HBW6 HAM BQ7
          go_wp2_with (at_builtin; go_must (refine wpList_app _ rfl (.tmp 53) (.tmp 60) rfl wo.heap.size _ ys [x] rfl (HO7.out.alloc _) _ 1 1 rfl rfl (one_new _ x (by omega) (by omega)) (by have := HY.out.1; omega) (by simp) (by simp; omega) (fun h => by cases h) ?_; intro v8 w8 ho8 hg8))
          have HR : L2 wo M v8 (.int .i64 ((m : Int) + 1)) w8 := by
            refine ⟨m + 1, ys ++ [x], by omega, by go_num, by simp [HY.out.1], isBytes_snoc HY.out.2 (by omega) (by omega), ho8, ?_⟩
            exact Below.grown (HBQ7.out.alloc s7 _) hg8 (by simp; omega) (fun q hq => (HO7.out.lt q hq).1)
          refine ⟨?_, by simp [intOf]; omega⟩
          first | exact HR | exact ⟨_, _, HR, rfl, rfl⟩
        · go_wp2_with fail
          refine Calls.mono (HAK.out _ HBwr.out) ?_
          rintro e w6 ⟨rfl, b6⟩
          have HO6 : Hid (Owns w6 wo.heap.size u11 ys) := Owns.step HO.out b6
          have BQ6 : Below wo.heap.size wo w6 := HBQ.out.trans (b6.mono HBQ.out.size)
          have s6 := BQ6.size
          have HBQ6 : Hid (Below wo.heap.size wo w6) := BQ6
          have hu := HO6.out.shape
          obtain ⟨ua, uc, rfl, _⟩ := hu
          have HX6 : Hid (OwX w6 w5.heap.size wo.heap.size u9 zss vs) := OwX.same HOR.out ⟨s6, fun q _ hq => BQ6.block q hq⟩
          have hrl := HX6.out.1
          have hvl : vs.length ≤ 4 := by have := HZL.out; omega
          clear b6 HO HBQ HBwr BQ6
          go_wp2_with (at_builtin; go_must (refine wpList_append_own _ rfl (.tmp 62) (.tmp 64) 23 rfl w5.heap.size 22 i0 (.slice none 0 0) 1 24 Tryd.underlying23 hi hz0 hz1 hz2 rfl (by decide) _ _ _ rfl (World.ownsRow.alloc HX6.out.2.1 _) ⟨w6.heap.size, 0, none⟩ 1 1 [.slice ua ys.length uc] rfl rfl (one_slice w6 _) (one_slice1 _) (by unfold maxLen; omega) (by omega) (by simp; have := HBR.out.size; omega) ?_; intro v7 w7 ho7 hg7 _))
          have HR : L1 w5 N v7 (.int .i64 ((k : Int) + 1)) w7 := by
            have hm0 : M = m := by omega
            refine ⟨k + 1, zss ++ [ys], vs ++ [.slice ua ys.length uc], by omega, by go_num, by simp [HZL.out], fun j => ?_, ?_, ?_⟩
            · rw [getD_snoc]
              split
              · exact HZ69.out j
              · split
                · have := HY.out.1; omega
                · simp
            · exact OwX.snoc (W := w6) (wa := w6.alloc (.cells #[.slice ua ys.length uc] 22)) (h0 := wo.heap.size) (h1 := w6.heap.size) (n := vs.length + 1) HX6.out ⟨HY.out.2, HO6.out, fun q hq => (HO6.out.lt q hq).2⟩ HBR.out.size s6 ⟨by simp, fun q _ hq => Below.heap_alloc w6 _ q hq⟩ (by simp) (by omega) ho7 hg7
            · exact Below.grown ((HBR.out.trans (HBQ6.out.mono HBR.out.size)).alloc (by have := HBR.out.size; omega) _) hg7 (by simp; have := HBR.out.size; omega) (fun q hq => (HX6.out.2.1.lt q hq).1)
          refine ⟨?_, by simp [intOf]; omega⟩
          first | exact HR | exact ⟨_, _, HR, rfl, rfl⟩
    · have hkN : k = N + 1 := by omega
      subst hkN
      have HJR : Hid (JS wo jb (List.replicate 30 zsec, []) 0 0) := JS.step HJ5.out HBR.out
      have hjw : jb < w5.heap.size := JS.lt HJ5.out
      have hwo := HBR.out.size
      clear HJ5 HBR HB5
      obtain rfl : jb = w3.heap.size := HJBE.out
      have hvl : vs.length = N + 1 := by have := HOR.out.1; have := HZL.out; omega
      obtain ⟨g, rc, hre, hrc1, hrc2, hgr⟩ := recs_at HOR.out (by omega)
      rw [hvl] at hre
      subst hre
      have HVL : Hid (vs.length = N + 1) := hvl
      clear hvl
      go_wp2
      go_loopw [13] (fun i wr => L3 wo w3.heap.size N zss i wr) (fun i _ => N - (intOf i).toNat)
      case atStart => exact ⟨0, 0, _, Nat.zero_le _, rfl, by rw [List.take_zero]; exact Good.first, HJR.out, Oth.refl _ _⟩
      case round =>
        rename World => wp
        obtain ⟨k, P, S, hk, rfl, gd, hj, ot⟩ := hrel
        have OX : OwX wp w5.heap.size wo.heap.size _ zss vs := OwX.same HOR.out ⟨ot.2.1, fun q h1 h2 => ot.2.2 q h2 (by omega)⟩
        have BW : Below w.heap.size w wp := Oth.below HBW.out ot (by omega) (by have := HBW.out.size; omega)
        have spo := ot.2.1
        by_cases hlt3 : k < N
        · obtain ⟨sa, sn, sc, hcs, rS⟩ := rec_at OX (i := k) (by have := HVL.out; omega) HVL.out.symm
          have hz := HZ69.out k
          have htk : zss.take (k + 1) = zss.take k ++ [zss[k]?.getD []] := by
            have : k < zss.length := by have := HZL.out; omega
            rw [List.take_succ_eq_append_getElem this]
            simp [this]
          generalize zss[k]?.getD [] = z at rS hz htk
          obtain ⟨x, y, l, h, vJ, rD, hh, hjl⟩ := hj
          obtain ⟨xa, xn, xc, ya, yn, yc, he⟩ := rD.open
          simp only [Value.agg.injEq, Array.mk.injEq, List.cons.injEq, and_true] at he
          obtain ⟨rfl, rfl⟩ := he
          have hgd := gd.append z hz (by omega)
          rw [← htk] at hgd
          have hap := append_good gd z hz (by omega)
          generalize flushS S (frameW (P : Int) (frameN k z)) = S2 at hgd hap
          generalize P + manyN z.length = P2 at hgd hap
          have HAP : Hid (∀ W, Below wp.heap.size wp W → Calls Tryd.prog 8 #[.agg #[.slice xa xn xc, .slice ya yn yc, .int .i64 (P : Int), .int .i64 (k : Int)], .slice sa sn sc] W fun e w' => ∃ ga gn gc ha hn hc, e = .returned (.tuple #[.agg #[.slice ga gn gc, .slice ha hn hc, .int .i64 (P2 : Int), .int .i64 ((k : Int) + 1)], .bool true]) ∧ RdD w' W.heap.size w'.heap.size (.agg #[.slice ga gn gc, .slice ha hn hc]) (S2, []) ∧ Below W.heap.size W w') := fun W hW => by
            have h9 := implAppend_all ((S, []), (P : Int), (k : Int)) z a W (.agg #[.slice xa xn xc, .slice ya yn yc, .int .i64 (P : Int), .int .i64 (k : Int)]) l h _ _ _ ⟨_, _, rfl, rD.step hh hW⟩ (by have := hW.size; omega) (rS.same (SameIn.ofBelow hW spo)) (by have := hW.size; omega) (HG.out _ (BW.trans (hW.mono BW.size)))
            rw [hap] at h9
            refine h9.mono ?_
            rintro e w' ⟨x, rfl, oJ, bb⟩
            obtain ⟨ga, gn, gc, ha, hn, hc, rfl, rD8⟩ := oJ.rd.open
            exact ⟨ga, gn, gc, ha, hn, hc, by simp, rD8, bb⟩
          have HGD : Hid _ := hgd
          have HOT : Hid (Oth w3.heap.size wo wp) := ot
          have HVJ : Hid (VarJ 30 wp w3.heap.size _ _ _ _) := vJ
          have c0 := vJ.c0
          have c1 := vJ.c1
          have c2 := vJ.c2
          have c3 := vJ.c3
          have sjl := vJ.lt
          have hix : (k : Int) < (N : Int) + 1 := by omega
          have hcl : g < wp.heap.size := block_lt_of_cell (a := ⟨g, k, none⟩) hcs
          clear rD rS vJ OX gd hgd hap hz htk ot BW
          go_wp2
          have HS : Hid (∀ W, Below wp.heap.size wp W → W.cell? ⟨w3.heap.size, 0, none⟩ = some (.slice xa xn xc) ∧ W.cell? ⟨w3.heap.size, 1, none⟩ = some (.slice ya yn yc) ∧ W.cell? ⟨w3.heap.size, 2, none⟩ = some (.int .i64 (P : Int)) ∧ W.cell? ⟨w3.heap.size, 3, none⟩ = some (.int .i64 (k : Int)) ∧ W.cell? ⟨g, k, none⟩ = some (.slice sa sn sc)) := fun W hW => ⟨(hW.cell (p := ⟨w3.heap.size, 0, none⟩) sjl).trans c0, (hW.cell (p := ⟨w3.heap.size, 1, none⟩) sjl).trans c1, (hW.cell (p := ⟨w3.heap.size, 2, none⟩) sjl).trans c2, (hW.cell (p := ⟨w3.heap.size, 3, none⟩) sjl).trans c3, (hW.cell (p := ⟨g, k, none⟩) hcl).trans hcs⟩
          refine wp_region_noPanic ?_
          refine wp_region_held_drew (S := fun w' => w'.cell? ⟨w3.heap.size, 0, none⟩ = some (.slice xa xn xc) ∧ w'.cell? ⟨w3.heap.size, 1, none⟩ = some (.slice ya yn yc) ∧ w'.cell? ⟨w3.heap.size, 2, none⟩ = some (.int .i64 (P : Int)) ∧ w'.cell? ⟨w3.heap.size, 3, none⟩ = some (.int .i64 (k : Int)) ∧ w'.cell? ⟨g, k, none⟩ = some (.slice sa sn sc)) (by kernel_rfl) (HS.out _ (Below.drew (Below.refl _ _))) (fun hHeld => ?_)
          refine wpAnyH_take (i := 0) (v := ?_) rfl (by kernel_rfl) (by kernel_rfl) (by kernel_rfl) (fun _ _ _ h => h) (Or.inl ⟨by rfl, ?_⟩) (by assumption) ?_
          rotate_left
          · (intro w_ hSw_; (try dsimp only at hSw_); go_simp; try with_reducible rfl)
          try simp only [Act.put, List.setIfInBounds_toArray, List.set_cons_zero, List.set_cons_succ, List.getElem_toArray, List.getElem_cons_zero, List.getElem_cons_succ]
          refine wpAnyH_take (i := 1) (v := ?_) rfl (by kernel_rfl) (by kernel_rfl) (by kernel_rfl) (fun _ _ _ h => h) (Or.inl ⟨by rfl, ?_⟩) (by assumption) ?_
          rotate_left
          · (intro w_ hSw_; (try dsimp only at hSw_); go_simp; try with_reducible rfl)
          try simp only [Act.put, List.setIfInBounds_toArray, List.set_cons_zero, List.set_cons_succ, List.getElem_toArray, List.getElem_cons_zero, List.getElem_cons_succ]
          refine wpAnyH_take (i := 2) (v := ?_) rfl (by kernel_rfl) (by kernel_rfl) (by kernel_rfl) (fun _ _ _ h => h) (Or.inl ⟨by rfl, ?_⟩) (by assumption) ?_
          rotate_left
          · (intro w_ hSw_; (try dsimp only at hSw_); go_simp; try with_reducible rfl)
          try simp only [Act.put, List.setIfInBounds_toArray, List.set_cons_zero, List.set_cons_succ, List.getElem_toArray, List.getElem_cons_zero, List.getElem_cons_succ]
          refine wpAnyH_take (i := 3) (v := ?_) rfl (by kernel_rfl) (by kernel_rfl) (by kernel_rfl) (fun _ _ _ h => h) (Or.inl ⟨by rfl, ?_⟩) (by assumption) ?_
          rotate_left
          · (intro w_ hSw_; (try dsimp only at hSw_); go_simp; try with_reducible rfl)
          try simp only [Act.put, List.setIfInBounds_toArray, List.set_cons_zero, List.set_cons_succ, List.getElem_toArray, List.getElem_cons_zero, List.getElem_cons_succ]
          refine wpAnyH_take (i := 4) (v := ?_) rfl (by kernel_rfl) (by kernel_rfl) (by kernel_rfl) (fun _ _ _ h => h) (Or.inl ⟨by rfl, ?_⟩) (by assumption) ?_
          rotate_left
          · (intro w_ hSw_; (try dsimp only at hSw_); go_simp; try with_reducible rfl)
          try simp only [Act.put, List.setIfInBounds_toArray, List.set_cons_zero, List.set_cons_succ, List.getElem_toArray, List.getElem_cons_zero, List.getElem_cons_succ]
          refine wpAnyH_ready (rs := [5, 9]) (by kernel_rfl) (by simp) ?_
          refine AllReadyH.cons rfl (fun K hK => ?_) ?_
          · go_simp
            refine Calls.mono (HAP.out wp.drew (Below.drew (Below.refl wp.heap.size wp))) ?_
            rintro e w8 ⟨ga, gn, gc, ha, hn, hc, rfl, rD8, b8⟩
            have b8p : Below wp.heap.size wp w8 := ((Below.drew (Below.refl wp.heap.size wp))).trans (b8.mono ((Below.drew (Below.refl wp.heap.size wp))).size)
            dsimp only
            refine hK.out _ _ (HS.out _ b8p) (fun hHeld => ?_)
            clear hK K
            try simp only [Act.put, List.setIfInBounds_toArray, List.set_cons_zero, List.set_cons_succ, List.getElem_toArray, List.getElem_cons_zero, List.getElem_cons_succ]
            refine wpAnyH_take (i := 6) (v := ?_) rfl (by kernel_rfl) (by kernel_rfl) (by kernel_rfl) (fun _ _ _ h => h) (Or.inl ⟨by rfl, ?_⟩) (by assumption) ?_
            rotate_left
            · (intro w_ hSw_; (try dsimp only at hSw_); go_simp; try with_reducible rfl)
            try simp only [Act.put, List.setIfInBounds_toArray, List.set_cons_zero, List.set_cons_succ, List.getElem_toArray, List.getElem_cons_zero, List.getElem_cons_succ]
            refine wpAnyH_take (i := 7) (v := ?_) rfl (by kernel_rfl) (by kernel_rfl) (by kernel_rfl) (fun _ _ _ h => h) (Or.inl ⟨by rfl, ?_⟩) (by assumption) ?_
            rotate_left
            · (intro w_ hSw_; (try dsimp only at hSw_); go_simp; try with_reducible rfl)
            try simp only [Act.put, List.setIfInBounds_toArray, List.set_cons_zero, List.set_cons_succ, List.getElem_toArray, List.getElem_cons_zero, List.getElem_cons_succ]
            refine wpAnyH_take (i := 8) (v := ?_) rfl (by kernel_rfl) (by kernel_rfl) (by kernel_rfl) (fun _ _ _ h => h) (Or.inl ⟨by rfl, ?_⟩) (by assumption) ?_
            rotate_left
            · (intro w_ hSw_; (try dsimp only at hSw_); go_simp; try with_reducible rfl)
            try simp only [Act.put, List.setIfInBounds_toArray, List.set_cons_zero, List.set_cons_succ, List.getElem_toArray, List.getElem_cons_zero, List.getElem_cons_succ]
            refine wpAnyH_ready (rs := [9]) (by kernel_rfl) (by simp) ?_
            refine AllReadyH.cons rfl (fun K hK => ?_) AllReadyH.nil
            go_simp
            refine hK.out _ _ (HS.out _ (Below.alloc b8p b8p.size (.cells #[.slice none 0 0, .slice none 0 0, .int .i64 0, .int .i64 0] 30))) (fun hHeld => ?_)
            clear hK K
            try simp only [Act.put, List.setIfInBounds_toArray, List.set_cons_zero, List.set_cons_succ, List.getElem_toArray, List.getElem_cons_zero, List.getElem_cons_succ]
            refine wpAnyH_ready (rs := [10]) (by kernel_rfl) (by simp) ?_
            refine AllReadyH.cons rfl (fun K hK => ?_) AllReadyH.nil
            go_simp
            refine hK.out _ _ (HS.out _ (b8p.trans ((Below.new (w := w8) _).mono b8p.size))) (fun hHeld => ?_)
            clear hK K
            try simp only [Act.put, List.setIfInBounds_toArray, List.set_cons_zero, List.set_cons_succ, List.getElem_toArray, List.getElem_cons_zero, List.getElem_cons_succ]
            refine wpAnyH_take (i := 11) (v := ?_) rfl (by kernel_rfl) (by kernel_rfl) (by kernel_rfl) (fun _ _ _ h => h) (Or.inl ⟨by rfl, ?_⟩) (by assumption) ?_
            rotate_left
            · (intro w_ hSw_; (try dsimp only at hSw_); go_simp; try with_reducible rfl)
            try simp only [Act.put, List.setIfInBounds_toArray, List.set_cons_zero, List.set_cons_succ, List.getElem_toArray, List.getElem_cons_zero, List.getElem_cons_succ]
            refine wpAnyH_done (by kernel_rfl) (NoPanic.normal ?_) _
            clear hHeld
            have B9 := b8p.trans ((Below.new (w := w8) (.cells #[.slice ga gn gc, .slice ha hn hc, .int .i64 (P2 : Int), .int .i64 ((k : Int) + 1)] 30)).mono b8p.size)
            have VX := VarJ.new (T := 30) w8 (.slice ga gn gc) (.slice ha hn hc) (P2 : Int) ((k : Int) + 1)
            have RD9 := rD8.step (Nat.le_refl _) (Below.new (w := w8) (.cells #[.slice ga gn gc, .slice ha hn hc, .int .i64 (P2 : Int), .int .i64 ((k : Int) + 1)] 30))
            have hs9 : w8.heap.size ≤ (w8.alloc (.cells #[.slice ga gn gc, .slice ha hn hc, .int .i64 (P2 : Int), .int .i64 ((k : Int) + 1)] 30)).heap.size := by simp
            generalize w8.alloc (.cells #[.slice ga gn gc, .slice ha hn hc, .int .i64 (P2 : Int), .int .i64 ((k : Int) + 1)] 30) = w9 at B9 VX RD9 hs9 ⊢
            have HB9 : Hid (Below wp.heap.size wp w9) := B9
            have HRD9 : Hid (RdD w9 _ _ _ (S2, [])) := RD9
            have vJ9 := VarJ.step HVJ.out B9
            have HVJ9 : Hid (VarJ 30 w9 w3.heap.size _ _ _ _) := vJ9
            have k0 := VX.c0
            have k1 := VX.c1
            have k2 := VX.c2
            have k3 := VX.c3
            have e0 := vJ9.c0
            have e1 := vJ9.c1
            have e2 := vJ9.c2
            have e3 := vJ9.c3
            have f0 := vJ9.f 0
            have f1 := vJ9.f 1
            have f2 := vJ9.f 2
            have f3 := vJ9.f 3
            clear VX vJ9 B9 RD9 b8 b8p rD8
            go_wp2
            have HR : L3 wo w3.heap.size N zss (.int .i64 ((k : Int) + 1)) ((((w9.setCell ⟨w3.heap.size, 0, none⟩ (.slice ga gn gc)).setCell ⟨w3.heap.size, 1, none⟩ (.slice ha hn hc)).setCell ⟨w3.heap.size, 2, none⟩ (.int .i64 (P2 : Int))).setCell ⟨w3.heap.size, 3, none⟩ (.int .i64 ((k : Int) + 1))) := by
              have hcast : ((k + 1 : Nat) : Int) = (k : Int) + 1 := by simp
              refine ⟨k + 1, P2, S2, by omega, by rw [hcast], HGD.out, ?_, (HOT.out.step HB9.out).four _ _ _ _⟩
              rw [hcast]
              exact ⟨_, _, _, _, VarJ.fill HVJ9.out _ _ _ _, RdD.same HRD9.out (four_same (by simp; omega)), by simpa using hs9, .inl (by simp; omega)⟩
            refine ⟨?_, by simp [intOf]; omega⟩
            first | exact HR | exact ⟨_, _, HR, rfl, rfl⟩
          refine AllReadyH.cons rfl (fun K hK => ?_) AllReadyH.nil
          go_simp
          refine hK.out _ _ (HS.out _ (Below.alloc (Below.drew (Below.refl wp.heap.size wp)) (Nat.le_refl _) (.cells #[.slice none 0 0, .slice none 0 0, .int .i64 0, .int .i64 0] 30))) (fun hHeld => ?_)
          clear hK K
          try simp only [Act.put, List.setIfInBounds_toArray, List.set_cons_zero, List.set_cons_succ, List.getElem_toArray, List.getElem_cons_zero, List.getElem_cons_succ]
          refine wpAnyH_ready (rs := [5]) (by kernel_rfl) (by simp) ?_
          refine AllReadyH.cons rfl (fun K hK => ?_) AllReadyH.nil
          go_simp
          refine Calls.mono (HAP.out _ (Below.alloc (Below.drew (Below.refl wp.heap.size wp)) (Nat.le_refl _) (.cells #[.slice none 0 0, .slice none 0 0, .int .i64 0, .int .i64 0] 30))) ?_
          rintro e w8 ⟨ga, gn, gc, ha, hn, hc, rfl, rD8, b8⟩
          have b8p : Below wp.heap.size wp w8 := ((Below.alloc (Below.drew (Below.refl wp.heap.size wp)) (Nat.le_refl _) (.cells #[.slice none 0 0, .slice none 0 0, .int .i64 0, .int .i64 0] 30))).trans (b8.mono ((Below.alloc (Below.drew (Below.refl wp.heap.size wp)) (Nat.le_refl _) (.cells #[.slice none 0 0, .slice none 0 0, .int .i64 0, .int .i64 0] 30))).size)
          dsimp only
          refine hK.out _ _ (HS.out _ b8p) (fun hHeld => ?_)
          clear hK K
          try simp only [Act.put, List.setIfInBounds_toArray, List.set_cons_zero, List.set_cons_succ, List.getElem_toArray, List.getElem_cons_zero, List.getElem_cons_succ]
          refine wpAnyH_take (i := 6) (v := ?_) rfl (by kernel_rfl) (by kernel_rfl) (by kernel_rfl) (fun _ _ _ h => h) (Or.inl ⟨by rfl, ?_⟩) (by assumption) ?_
          rotate_left
          · (intro w_ hSw_; (try dsimp only at hSw_); go_simp; try with_reducible rfl)
          try simp only [Act.put, List.setIfInBounds_toArray, List.set_cons_zero, List.set_cons_succ, List.getElem_toArray, List.getElem_cons_zero, List.getElem_cons_succ]
          refine wpAnyH_take (i := 7) (v := ?_) rfl (by kernel_rfl) (by kernel_rfl) (by kernel_rfl) (fun _ _ _ h => h) (Or.inl ⟨by rfl, ?_⟩) (by assumption) ?_
          rotate_left
          · (intro w_ hSw_; (try dsimp only at hSw_); go_simp; try with_reducible rfl)
          try simp only [Act.put, List.setIfInBounds_toArray, List.set_cons_zero, List.set_cons_succ, List.getElem_toArray, List.getElem_cons_zero, List.getElem_cons_succ]
          refine wpAnyH_take (i := 8) (v := ?_) rfl (by kernel_rfl) (by kernel_rfl) (by kernel_rfl) (fun _ _ _ h => h) (Or.inl ⟨by rfl, ?_⟩) (by assumption) ?_
          rotate_left
          · (intro w_ hSw_; (try dsimp only at hSw_); go_simp; try with_reducible rfl)
          try simp only [Act.put, List.setIfInBounds_toArray, List.set_cons_zero, List.set_cons_succ, List.getElem_toArray, List.getElem_cons_zero, List.getElem_cons_succ]
          refine wpAnyH_ready (rs := [10]) (by kernel_rfl) (by simp) ?_
          refine AllReadyH.cons rfl (fun K hK => ?_) AllReadyH.nil
          have vZ : VarJ 30 w8 wp.heap.size _ _ _ _ := VarJ.step (VarJ.new (T := 30) wp.drew (.slice none 0 0) (.slice none 0 0) 0 0) b8
          have z0 := vZ.c0
          have z1 := vZ.c1
          have z2 := vZ.c2
          have z3 := vZ.c3
          have y0 := vZ.f 0
          have y1 := vZ.f 1
          have y2 := vZ.f 2
          have y3 := vZ.f 3
          go_simp
          clear z0 y0 z1 y1 z2 y2 z3 y3
          refine hK.out _ _ (HS.out _ (four_below b8p (Nat.le_refl _))) (fun hHeld => ?_)
          clear hK K
          try simp only [Act.put, List.setIfInBounds_toArray, List.set_cons_zero, List.set_cons_succ, List.getElem_toArray, List.getElem_cons_zero, List.getElem_cons_succ]
          refine wpAnyH_take (i := 11) (v := ?_) rfl (by kernel_rfl) (by kernel_rfl) (by kernel_rfl) (fun _ _ _ h => h) (Or.inl ⟨by rfl, ?_⟩) (by assumption) ?_
          rotate_left
          · (intro w_ hSw_; (try dsimp only at hSw_); go_simp; try with_reducible rfl)
          try simp only [Act.put, List.setIfInBounds_toArray, List.set_cons_zero, List.set_cons_succ, List.getElem_toArray, List.getElem_cons_zero, List.getElem_cons_succ]
          refine wpAnyH_done (by kernel_rfl) (NoPanic.normal ?_) _
          clear hHeld
          have B9 : Below wp.heap.size wp ((((w8.setCell ⟨wp.heap.size, 0, none⟩ (.slice ga gn gc)).setCell ⟨wp.heap.size, 1, none⟩ (.slice ha hn hc)).setCell ⟨wp.heap.size, 2, none⟩ (.int .i64 (P2 : Int))).setCell ⟨wp.heap.size, 3, none⟩ (.int .i64 ((k : Int) + 1))) := four_below b8p (Nat.le_refl _)
          have VX : VarJ 30 ((((w8.setCell ⟨wp.heap.size, 0, none⟩ (.slice ga gn gc)).setCell ⟨wp.heap.size, 1, none⟩ (.slice ha hn hc)).setCell ⟨wp.heap.size, 2, none⟩ (.int .i64 (P2 : Int))).setCell ⟨wp.heap.size, 3, none⟩ (.int .i64 ((k : Int) + 1))) wp.heap.size _ _ _ _ := VarJ.fill vZ _ _ _ _
          have RD9 := RdD.same rD8 (w' := ((((w8.setCell ⟨wp.heap.size, 0, none⟩ (.slice ga gn gc)).setCell ⟨wp.heap.size, 1, none⟩ (.slice ha hn hc)).setCell ⟨wp.heap.size, 2, none⟩ (.int .i64 (P2 : Int))).setCell ⟨wp.heap.size, 3, none⟩ (.int .i64 ((k : Int) + 1)))) (four_same (by simp))
          have hs9 : w8.heap.size ≤ ((((w8.setCell ⟨wp.heap.size, 0, none⟩ (.slice ga gn gc)).setCell ⟨wp.heap.size, 1, none⟩ (.slice ha hn hc)).setCell ⟨wp.heap.size, 2, none⟩ (.int .i64 (P2 : Int))).setCell ⟨wp.heap.size, 3, none⟩ (.int .i64 ((k : Int) + 1))).heap.size := by simp
          generalize ((((w8.setCell ⟨wp.heap.size, 0, none⟩ (.slice ga gn gc)).setCell ⟨wp.heap.size, 1, none⟩ (.slice ha hn hc)).setCell ⟨wp.heap.size, 2, none⟩ (.int .i64 (P2 : Int))).setCell ⟨wp.heap.size, 3, none⟩ (.int .i64 ((k : Int) + 1))) = w9 at B9 VX RD9 hs9 ⊢
          clear vZ
          have HB9 : Hid (Below wp.heap.size wp w9) := B9
          have HRD9 : Hid (RdD w9 _ _ _ (S2, [])) := RD9
          have vJ9 := VarJ.step HVJ.out B9
          have HVJ9 : Hid (VarJ 30 w9 w3.heap.size _ _ _ _) := vJ9
          have k0 := VX.c0
          have k1 := VX.c1
          have k2 := VX.c2
          have k3 := VX.c3
          have e0 := vJ9.c0
          have e1 := vJ9.c1
          have e2 := vJ9.c2
          have e3 := vJ9.c3
          have f0 := vJ9.f 0
          have f1 := vJ9.f 1
          have f2 := vJ9.f 2
          have f3 := vJ9.f 3
          clear VX vJ9 B9 RD9 b8 b8p rD8
          go_wp2
          have HR : L3 wo w3.heap.size N zss (.int .i64 ((k : Int) + 1)) ((((w9.setCell ⟨w3.heap.size, 0, none⟩ (.slice ga gn gc)).setCell ⟨w3.heap.size, 1, none⟩ (.slice ha hn hc)).setCell ⟨w3.heap.size, 2, none⟩ (.int .i64 (P2 : Int))).setCell ⟨w3.heap.size, 3, none⟩ (.int .i64 ((k : Int) + 1))) := by
            have hcast : ((k + 1 : Nat) : Int) = (k : Int) + 1 := by simp
            refine ⟨k + 1, P2, S2, by omega, by rw [hcast], HGD.out, ?_, (HOT.out.step HB9.out).four _ _ _ _⟩
            rw [hcast]
            exact ⟨_, _, _, _, VarJ.fill HVJ9.out _ _ _ _, RdD.same HRD9.out (four_same (by simp; omega)), by simpa using hs9, .inl (by simp; omega)⟩
          refine ⟨?_, by simp [intOf]; omega⟩
          first | exact HR | exact ⟨_, _, HR, rfl, rfl⟩
        · obtain rfl : k = N := by omega
          have hzk : zss = zss.take k ++ [zss[k]?.getD []] := by
            have h1 : k < zss.length := by have := HZL.out; omega
            have h2 : zss.take (k + 1) = zss := List.take_of_length_le (by have := HZL.out; omega)
            have h3 := List.take_succ_eq_append_getElem h1
            rw [h2] at h3
            rw [List.getElem?_eq_getElem h1]
            exact h3
          have hz := HZ69.out k
          have hacc : (zss.take k).length = k := by rw [List.length_take]; have := HZL.out; omega
          generalize zss[k]?.getD [] = z at hz hzk
          clear HJR HJBE
          obtain ⟨sa, sn, sc, hcs, rS⟩ := rec_at OX (i := k) (by have := HVL.out; omega) HVL.out.symm
          have hzz : zss[k]?.getD [] = z := by
            conv => lhs; rw [hzk]
            rw [List.getElem?_append_right (by omega), hacc, Nat.sub_self]; rfl
          rw [hzz] at rS
          have hm3 := manyN_few hz
          have hjlt := JS.lt hj
          have hcl : g < wp.heap.size := block_lt_of_cell (a := ⟨g, k, none⟩) hcs
          have hfr : frameD (k : Int) z = frameN k z := by unfold frameD; rw [if_pos (by omega), Int.toNat_natCast]
          have HFR : Hid (∀ W, Below wp.heap.size wp W → Calls Tryd.prog 16 #[.int .i64 (k : Int), .slice sa sn sc] W fun e w' => ∃ x fs, e = .returned x ∧ OwX w' W.heap.size w'.heap.size x (frameN k z) fs ∧ Below W.heap.size W w') := fun W hW => by
            have h9 := implFrame_all (k : Int) _ z _ _ W (rS.same (SameIn.ofBelow hW spo)) (by have := hW.size; omega)
            rw [hfr] at h9
            exact h9
          have cq : wp.cell? ⟨w3.heap.size, 3, none⟩ = some (.int .i64 (k : Int)) := by obtain ⟨x, y, l, h, v, r, hh, ho⟩ := hj; exact v.c3
          have HJP : Hid (JS wp w3.heap.size (S, []) (P : Int) (k : Int)) := hj
          have HGD : Hid (Good S P k (zss.take k)) := gd
          have HOT : Hid (Oth w3.heap.size wo wp) := ot
          have HZK : Hid (zss = zss.take k ++ [z]) := hzk
          have HACC : Hid ((zss.take k).length = k) := hacc
          have hix : (k : Int) < (k : Int) + 1 := by omega
          clear hj gd ot hzk hacc hzz rS hfr OX BW
          go_wp2
          go_region_held3 (fun w' => w'.cell? ⟨w3.heap.size, 3, none⟩ = some (.int .i64 (k : Int)) ∧ w'.cell? ⟨g, k, none⟩ = some (.slice sa sn sc)) (first | go_keep | (refine ⟨?_, ?_⟩ <;> assumption)) (first | (go_at_call 16; refine Calls.mono (HFR.out wp.drew (Below.drew (Below.refl _ _))) ?_; rintro e wf ⟨xf, fs, rfl, oF, bf⟩; have bf' : Below wp.heap.size wp wf := (Below.drew (Below.refl _ _)).trans bf; have q0 := (bf'.cell (p := ⟨w3.heap.size, 3, none⟩) hjlt).trans cq; have q4 := (bf'.cell (p := ⟨g, k, none⟩) hcl).trans hcs))
          have hfl := frameN_len k z
          have hfsl : fs.length = manyN z.length := by have := oF.1; omega
          obtain ⟨gf, cf, hxf, _, _, hgf⟩ := recs_at oF (by have := manyN_pos z.length; omega)
          subst hxf
          have HFSL : Hid (fs.length = manyN z.length) := hfsl
          rw [hfsl]
          have HOF : Hid (OwX wf wp.drew.heap.size wf.heap.size (.slice (some ⟨gf, 0, none⟩) fs.length cf) (frameN k z) fs) := oF
          have HJF : Hid (JS wf w3.heap.size (S, []) (P : Int) (k : Int)) := JS.step HJP.out bf'
          have HOTF : Hid (Oth w3.heap.size wo wf) := HOT.out.step bf'
          have sfp := bf'.size
          have HBWF : Hid (Below w.heap.size w wf) := Oth.below HBW.out HOTF.out (by omega) (by have := HBW.out.size; omega)
          obtain ⟨m, hm⟩ : ∃ m, m = manyN z.length := ⟨_, rfl⟩
          rw [← hm] at hm3 ⊢
          have HM : Hid (m = manyN z.length) := hm
          clear hm oF bf bf' q0 q4 HJP HOT hfl hfsl HFR cq hcs
          go_wp2
          go_loopw [17, 18, 19] (fun kv av iv wr => L4 wf w3.heap.size m P k S (frameN k z) kv av iv wr) (fun _ _ iv _ => m - (intOf iv).toNat)
          case atStart => exact ⟨0, [], Nat.zero_le _, rfl, rfl, rfl, World.ownsRow_nil _ _ _ _, by rw [List.take_zero]; exact HJF.out, Oth.refl _ _⟩
          case round =>
            rename World => wq
            obtain ⟨i, bs, hi4, rfl, hbl, rfl, hrow, hj4, ot4⟩ := hrel
            obtain ⟨ba, hba⟩ : ∃ x, x = bs.all id := ⟨_, rfl⟩
            rw [← hba]
            have HBA : Hid (ba = bs.all id) := hba
            clear hba
            have BWQ : Below w.heap.size w wq := Oth.below HBWF.out ot4 (by omega) (by have := HBWF.out.size; omega)
            have sfq := ot4.2.1
            have OFQ : OwX wq wp.drew.heap.size wf.heap.size _ (frameN k z) fs := OwX.same HOF.out ⟨ot4.2.1, fun q h1 h2 => ot4.2.2 q h2 (by simp at h1; omega)⟩
            have HROW : Hid (wq.ownsRow wf.heap.size 4 1 u17 bs.length (fcells bs)) := hrow
            have HOT4 : Hid (Oth w3.heap.size wf wq) := ot4
            have HBL : Hid (bs.length = i) := hbl
            clear hrow ot4 hbl
            by_cases hlt4 : i < m
            · obtain ⟨ta, tn, tc, hcf, rF⟩ := rec_at OFQ (i := i) (by have := HFSL.out; have := HM.out; omega) rfl
              obtain ⟨x, y, l, h, vJ, rD, hh, hjl⟩ := hj4
              obtain ⟨xa, xn, xc, ya, yn, yc, he⟩ := rD.open
              simp only [Value.agg.injEq, Array.mk.injEq, List.cons.injEq, and_true] at he
              obtain ⟨rfl, rfl⟩ := he
              have hwg := write_good HGD.out z hz (by omega) i (by have := HM.out; omega)
              have HWS : Hid (∀ W, Below wq.heap.size wq W → Calls Tryd.prog 17 #[.agg #[.slice xa xn xc, .slice ya yn yc], .int .i64 ((P : Int) + (i : Int)), .slice ta tn tc] W fun e w' => ∃ ga gn gc ha hn hc, e = .returned (.tuple #[.agg #[.slice ga gn gc, .slice ha hn hc], .bool true]) ∧ RdD w' W.heap.size w'.heap.size (.agg #[.slice ga gn gc, .slice ha hn hc]) (S, frameW P ((frameN k z).take (i + 1))) ∧ Below W.heap.size W w') := fun W hW => by
                have h9 := implWriteSector_all (.agg #[.slice xa xn xc, .slice ya yn yc]) (S, frameW P ((frameN k z).take i)) l h ((P : Int) + (i : Int)) (.slice ta tn tc) ((frameN k z)[i]?.getD []) _ _ W (rD.step hh hW) (by have := hW.size; omega) (rF.same (SameIn.ofBelow hW sfq)) (by have := hW.size; omega) a (HG.out _ (BWQ.trans (hW.mono BWQ.size))) b c (HE1.out _ (BWQ.trans (hW.mono BWQ.size))) (HE2.out _ (BWQ.trans (hW.mono BWQ.size)))
                rw [hwg] at h9
                refine h9.mono ?_
                rintro e w' ⟨x, rfl, oJ, bb⟩
                have rr := oJ.rd
                obtain ⟨ga, gn, gc, ha, hn, hc, rfl⟩ := rr.open
                exact ⟨ga, gn, gc, ha, hn, hc, rfl, rr, bb⟩
              have hix4 : (i : Int) < (m : Int) := by omega
              have hP9 : P ≤ 9 := by have := HGD.out.2.2.1; omega
              have hwr := wrap_id ((P : Int) + (i : Int)) (by omega) (by omega)
              have sjq := vJ.lt
              have hcfl : gf < wq.heap.size := block_lt_of_cell (a := ⟨gf, i, none⟩) hcf
              have c0 := vJ.c0
              have c1 := vJ.c1
              have c2 := vJ.c2
              have HVJ : Hid (VarJ 30 wq w3.heap.size _ _ _ _) := vJ
              have HS : Hid (∀ W, Below wq.heap.size wq W → W.cell? ⟨w3.heap.size, 2, none⟩ = some (.int .i64 (P : Int)) ∧ W.cell? ⟨gf, i, none⟩ = some (.slice ta tn tc)) := fun W hW => ⟨(hW.cell (p := ⟨w3.heap.size, 2, none⟩) sjq).trans c2, (hW.cell (p := ⟨gf, i, none⟩) hcfl).trans hcf⟩
              have HBWQ : Hid (Below w.heap.size w wq) := BWQ
              have hgj : gf ≠ w3.heap.size := by have := hgf.1; simp at this; omega
              clear vJ rD rF hwg OFQ BWQ
              go_wp2
              refine wp_region_noPanic ?_
              refine wp_region_held_drew (S := fun w' => w'.cell? ⟨w3.heap.size, 2, none⟩ = some (.int .i64 (P : Int)) ∧ w'.cell? ⟨gf, i, none⟩ = some (.slice ta tn tc)) (by kernel_rfl) (HS.out _ (Below.drew (Below.refl wq.heap.size wq))) (fun hHeld => ?_)
              refine wpAnyH_take (i := 0) (v := ?_) rfl (by kernel_rfl) (by kernel_rfl) (by kernel_rfl) (fun _ _ _ h => h) (Or.inl ⟨by rfl, ?_⟩) (by assumption) ?_
              rotate_left
              · (intro w_ hSw_; (try dsimp only at hSw_); go_simp; try with_reducible rfl)
              try simp only [Act.put, List.setIfInBounds_toArray, List.set_cons_zero, List.set_cons_succ, List.getElem_toArray, List.getElem_cons_zero, List.getElem_cons_succ]
              refine wpAnyH_take (i := 2) (v := ?_) rfl (by kernel_rfl) (by kernel_rfl) (by kernel_rfl) (fun _ _ _ h => h) (Or.inl ⟨by rfl, ?_⟩) (by assumption) ?_
              rotate_left
              · (intro w_ hSw_; (try dsimp only at hSw_); go_simp; try with_reducible rfl)
              try simp only [Act.put, List.setIfInBounds_toArray, List.set_cons_zero, List.set_cons_succ, List.getElem_toArray, List.getElem_cons_zero, List.getElem_cons_succ]
              refine wpAnyH_take (i := 3) (v := ?_) rfl (by kernel_rfl) (by kernel_rfl) (by kernel_rfl) (fun _ _ _ h => h) (Or.inl ⟨by rfl, ?_⟩) (by assumption) ?_
              rotate_left
              · (intro w_ hSw_; (try dsimp only at hSw_); go_simp; try with_reducible rfl)
              try simp only [Act.put, List.setIfInBounds_toArray, List.set_cons_zero, List.set_cons_succ, List.getElem_toArray, List.getElem_cons_zero, List.getElem_cons_succ]
              refine wpAnyH_take (i := 4) (v := ?_) rfl (by kernel_rfl) (by kernel_rfl) (by kernel_rfl) (fun _ _ _ h => h) (Or.inl ⟨by rfl, ?_⟩) (by assumption) ?_
              rotate_left
              · (intro w_ hSw_; (try dsimp only at hSw_); go_simp; try with_reducible rfl)
              try simp only [Act.put, List.setIfInBounds_toArray, List.set_cons_zero, List.set_cons_succ, List.getElem_toArray, List.getElem_cons_zero, List.getElem_cons_succ]
              refine wpAnyH_take (i := 5) (v := ?_) rfl (by kernel_rfl) (by kernel_rfl) (by kernel_rfl) (fun _ _ _ h => h) (Or.inl ⟨by rfl, ?_⟩) (by assumption) ?_
              rotate_left
              · (intro w_ hSw_; (try dsimp only at hSw_); go_simp; try with_reducible rfl)
              try simp only [Act.put, List.setIfInBounds_toArray, List.set_cons_zero, List.set_cons_succ, List.getElem_toArray, List.getElem_cons_zero, List.getElem_cons_succ]
              refine wpAnyH_take (i := 6) (v := ?_) rfl (by kernel_rfl) (by kernel_rfl) (by kernel_rfl) (fun _ _ _ h => h) (Or.inl ⟨by rfl, ?_⟩) (by assumption) ?_
              rotate_left
              · (intro w_ hSw_; (try dsimp only at hSw_); go_simp; try with_reducible rfl)
              try simp only [Act.put, List.setIfInBounds_toArray, List.set_cons_zero, List.set_cons_succ, List.getElem_toArray, List.getElem_cons_zero, List.getElem_cons_succ]
              refine wpAnyH_take (i := 7) (v := ?_) rfl (by kernel_rfl) (by kernel_rfl) (by kernel_rfl) (fun _ _ _ h => h) (Or.inl ⟨by rfl, ?_⟩) (by assumption) ?_
              rotate_left
              · (intro w_ hSw_; (try dsimp only at hSw_); go_simp; try with_reducible rfl)
              try simp only [Act.put, List.setIfInBounds_toArray, List.set_cons_zero, List.set_cons_succ, List.getElem_toArray, List.getElem_cons_zero, List.getElem_cons_succ]
              refine wpAnyH_take (i := 8) (v := ?_) rfl (by kernel_rfl) (by kernel_rfl) (by kernel_rfl) (fun _ _ _ h => h) (Or.inl ⟨by rfl, ?_⟩) (by assumption) ?_
              rotate_left
              · (intro w_ hSw_; (try dsimp only at hSw_); go_simp; try with_reducible rfl)
              try simp only [Act.put, List.setIfInBounds_toArray, List.set_cons_zero, List.set_cons_succ, List.getElem_toArray, List.getElem_cons_zero, List.getElem_cons_succ]
              refine wpAnyH_take (i := 9) (v := ?_) rfl (by kernel_rfl) (by kernel_rfl) (by kernel_rfl) (fun _ _ _ h => h) (Or.inl ⟨by rfl, ?_⟩) (by assumption) ?_
              rotate_left
              · (intro w_ hSw_; (try dsimp only at hSw_); go_simp; try with_reducible rfl)
              try simp only [Act.put, List.setIfInBounds_toArray, List.set_cons_zero, List.set_cons_succ, List.getElem_toArray, List.getElem_cons_zero, List.getElem_cons_succ]
              refine wpAnyH_ready (rs := [1]) (by kernel_rfl) (by simp) ?_
              refine AllReadyH.cons rfl (fun K hK => ?_) AllReadyH.nil
              go_simp
              refine hK.out _ _ (HS.out _ (Below.drew (Below.refl wq.heap.size wq))) (fun hHeld => ?_)
              clear hK K
              try simp only [Act.put, List.setIfInBounds_toArray, List.set_cons_zero, List.set_cons_succ, List.getElem_toArray, List.getElem_cons_zero, List.getElem_cons_succ]
              refine wpAnyH_ready (rs := [10]) (by kernel_rfl) (by simp) ?_
              refine AllReadyH.cons rfl (fun K hK => ?_) AllReadyH.nil
              go_simp
              refine Calls.mono (HWS.out wq.drew (Below.drew (Below.refl wq.heap.size wq))) ?_
              rintro e w8 ⟨ga, gn, gc, ha, hn, hc, rfl, rD8, b8⟩
              have b8p : Below wq.heap.size wq w8 := (Below.drew (Below.refl wq.heap.size wq)).trans b8
              dsimp only
              refine hK.out _ _ (HS.out _ b8p) (fun hHeld => ?_)
              clear hK K
              try simp only [Act.put, List.setIfInBounds_toArray, List.set_cons_zero, List.set_cons_succ, List.getElem_toArray, List.getElem_cons_zero, List.getElem_cons_succ]
              refine wpAnyH_take (i := 11) (v := ?_) rfl (by kernel_rfl) (by kernel_rfl) (by kernel_rfl) (fun _ _ _ h => h) (Or.inl ⟨by rfl, ?_⟩) (by assumption) ?_
              rotate_left
              · (intro w_ hSw_; (try dsimp only at hSw_); go_simp; try with_reducible rfl)
              try simp only [Act.put, List.setIfInBounds_toArray, List.set_cons_zero, List.set_cons_succ, List.getElem_toArray, List.getElem_cons_zero, List.getElem_cons_succ]
              refine wpAnyH_take (i := 12) (v := ?_) rfl (by kernel_rfl) (by kernel_rfl) (by kernel_rfl) (fun _ _ _ h => h) (Or.inl ⟨by rfl, ?_⟩) (by assumption) ?_
              rotate_left
              · (intro w_ hSw_; (try dsimp only at hSw_); go_simp; try with_reducible rfl)
              try simp only [Act.put, List.setIfInBounds_toArray, List.set_cons_zero, List.set_cons_succ, List.getElem_toArray, List.getElem_cons_zero, List.getElem_cons_succ]
              refine wpAnyH_take (i := 13) (v := ?_) rfl (by kernel_rfl) (by kernel_rfl) (by kernel_rfl) (fun _ _ _ h => h) (Or.inl ⟨by rfl, ?_⟩) (by assumption) ?_
              rotate_left
              · (intro w_ hSw_; (try dsimp only at hSw_); go_simp; try with_reducible rfl)
              try simp only [Act.put, List.setIfInBounds_toArray, List.set_cons_zero, List.set_cons_succ, List.getElem_toArray, List.getElem_cons_zero, List.getElem_cons_succ]
              refine wpAnyH_take (i := 14) (v := ?_) rfl (by kernel_rfl) (by kernel_rfl) (by kernel_rfl) (fun _ _ _ h => h) (Or.inl ⟨by rfl, ?_⟩) (by assumption) ?_
              rotate_left
              · (intro w_ hSw_; (try dsimp only at hSw_); go_simp; try with_reducible rfl)
              try simp only [Act.put, List.setIfInBounds_toArray, List.set_cons_zero, List.set_cons_succ, List.getElem_toArray, List.getElem_cons_zero, List.getElem_cons_succ]
              refine wpAnyH_ready (rs := [15]) (by kernel_rfl) (by simp) ?_
              refine AllReadyH.cons rfl (fun K hK => ?_) AllReadyH.nil
              have vJ8 := VarJ.step HVJ.out b8p
              have z0 := vJ8.c0
              have z1 := vJ8.c1
              have y0 := vJ8.f 0
              have y1 := vJ8.f 1
              have hs2 := (HS.out _ b8p).2
              have hS9 : ((w8.setCell ⟨w3.heap.size, 0, none⟩ (.slice ga gn gc)).setCell ⟨w3.heap.size, 1, none⟩ (.slice ha hn hc)).cell? ⟨w3.heap.size, 2, none⟩ = some (.int .i64 (P : Int)) ∧ ((w8.setCell ⟨w3.heap.size, 0, none⟩ (.slice ga gn gc)).setCell ⟨w3.heap.size, 1, none⟩ (.slice ha hn hc)).cell? ⟨gf, i, none⟩ = some (.slice ta tn tc) := ⟨(VarJ.two vJ8 _ _).c2, two_cell hgj hs2⟩
              go_simp
              clear z0 z1 y0 y1 hs2
              refine hK.out _ _ hS9 (fun hHeld => ?_)
              clear hK K
              try simp only [Act.put, List.setIfInBounds_toArray, List.set_cons_zero, List.set_cons_succ, List.getElem_toArray, List.getElem_cons_zero, List.getElem_cons_succ]
              refine wpAnyH_done (by kernel_rfl) (NoPanic.normal ?_) _
              clear hHeld hS9
              have V9 : VarJ 30 ((w8.setCell ⟨w3.heap.size, 0, none⟩ (.slice ga gn gc)).setCell ⟨w3.heap.size, 1, none⟩ (.slice ha hn hc)) w3.heap.size _ _ _ _ := VarJ.two vJ8 (.slice ga gn gc) (.slice ha hn hc)
              have R9 := RdD.same (w' := ((w8.setCell ⟨w3.heap.size, 0, none⟩ (.slice ga gn gc)).setCell ⟨w3.heap.size, 1, none⟩ (.slice ha hn hc))) rD8 (two_same (by simp; omega))
              have OT9 : Oth w3.heap.size wq ((w8.setCell ⟨w3.heap.size, 0, none⟩ (.slice ga gn gc)).setCell ⟨w3.heap.size, 1, none⟩ (.slice ha hn hc)) := ((Oth.refl _ _).step b8p).two _ _
              have s89 : w8.heap.size ≤ ((w8.setCell ⟨w3.heap.size, 0, none⟩ (.slice ga gn gc)).setCell ⟨w3.heap.size, 1, none⟩ (.slice ha hn hc)).heap.size := by simp
              generalize ((w8.setCell ⟨w3.heap.size, 0, none⟩ (.slice ga gn gc)).setCell ⟨w3.heap.size, 1, none⟩ (.slice ha hn hc)) = w9 at V9 R9 OT9 s89 ⊢
              have s8 := b8p.size
              clear vJ8 b8 b8p rD8
              have HR9 : Hid (RdD w9 wq.drew.heap.size w8.heap.size _ _) := R9
              have HV9 : Hid (VarJ 30 w9 w3.heap.size _ _ _ _) := V9
              have HOT9 : Hid (Oth w3.heap.size wf w9) := HOT4.out.trans OT9
              have hkb : ∀ q, u17.ownBlock = some q → wf.heap.size ≤ q ∧ q < wq.heap.size := fun q hq => HROW.out.lt q hq
              have HKB : Hid (∀ q, u17.ownBlock = some q → wf.heap.size ≤ q ∧ q < wq.heap.size) := hkb
              have HROW9 : Hid (w9.ownsRow wf.heap.size 4 1 u17 bs.length (fcells bs)) := ownsRow_kept2 HROW.out (fun q hq => OT9.2.2 q (hkb q hq).2 (by have := (hkb q hq).1; omega))
              have B9 : Below w.heap.size w w9 := Oth.below HBWQ.out OT9 (by omega) (by have := HBWQ.out.size; omega)
              have HB9 : Hid (Below w.heap.size w w9) := B9
              have HA40 : Hid (∀ W, Below w.heap.size w W → Calls Tryd.prog 15 #[.slice ca cn cc, .int .i64 (40 + (i : Int))] W fun e w' => e = .returned (.int .i64 (atN d0 (40 + i))) ∧ Below W.heap.size W w') := fun W hW => by have := HAT.out (40 + i) W (by omega) hW; simpa using this
              have hx := HRG.out (40 + i)
              generalize atN d0 (40 + i) = xi at HA40 hx
              have s9 := OT9.2.1
              clear V9 R9 OT9 hkb B9 HROW HWS HS HVJ c0 c1 c2 hcf hwr
              go_wp2_with fail
              refine Calls.mono (HA40.out w9 HB9.out) ?_
              rintro e w10 ⟨rfl, b10⟩
              have s10 := b10.size
              have HB10 : Hid (Below w9.heap.size w9 w10) := b10
              have HROW10 : Hid (w10.ownsRow wf.heap.size 4 1 u17 bs.length (fcells bs)) := ownsRow_kept2 HROW9.out (fun q hq => b10.block q (by have := (HKB.out q hq).2; omega))
              clear b10 HROW9
              obtain ⟨bq, hbq⟩ : ∃ x, x = decide ((0 : Int) < xi % 3) := ⟨_, rfl⟩
              cases ba
              all_goals
                go_wp2_with (at_builtin; go_must (refine wpList_appF _ rfl (.tmp 111) (.tmp 118) rfl wf.heap.size _ bs rfl (World.ownsRow.alloc HROW10.out _) w10.heap.size bq rfl (by rw [hbq]; exact World.cell?_alloc_at _ _ _ _ rfl) (by have := HBL.out; omega) (by simp; omega) ?_; intro v11 w11 ho11 hg11; have hl11 : (bs ++ [bq]).length = i + 1 := snoc_len HBL.out; obtain ⟨gk, ck, hv11, hk1, hk2, hk3⟩ := row_pos ho11 (by omega); subst hv11; have hck : w11.cell? ⟨gk, i, none⟩ = some (.bool bq) := snoc_cell ho11 HBL.out; have HO11 : Hid _ := ho11; have HG11 : Hid _ := hg11; clear ho11 hg11; rw [hl11]))
                have hO := HO11.out
                rw [hl11] at hO
                have blk : ∀ q, q < w9.heap.size → (q < wf.heap.size ∨ wq.heap.size ≤ q) → w11.heap[q]? = w9.heap[q]? := fun q hq hr => ((HG11.out.block q (by simp; omega) (fun e => by have := HKB.out q e.symm; omega)).trans (Below.heap_alloc w10 _ q (by omega))).trans (HB10.out.block q hq)
                have s11 := HG11.out.size
                rw [World.size_alloc] at s11
                have sj9 := HV9.out.lt
                have sf9 := HOT9.out.2.1
                refine ⟨⟨i + 1, bs ++ [bq], by omega, by simp, hl11, by rw [List.all_append, ← HBA.out]; simp [hbq], by rw [hl11]; exact hO, ⟨_, _, wq.drew.heap.size, w8.heap.size, (blk _ (by omega) (.inl (by omega))).trans HV9.out, RdD.same HR9.out ⟨by omega, fun q h1 h2 => blk q (by omega) (.inr (by simpa using h1))⟩, by omega, .inl (by simp; omega)⟩, ⟨(HG11.out.os.trans HB10.out.os).trans HOT9.out.1.1, (HG11.out.tape.trans HB10.out.tape).trans HOT9.out.1.2.1, (HG11.out.output.trans HB10.out.output).trans HOT9.out.1.2.2⟩, by omega, fun q hq hn => (blk q (by omega) (.inl hq)).trans (HOT9.out.2.2 q hq hn)⟩, by simp [intOf]; omega⟩
            · obtain rfl : i = m := by omega
              have HJ4 : Hid (JS wq w3.heap.size (S, frameW P (frameN k z)) (P : Int) (k : Int)) := by
                have h9 := hj4
                rw [List.take_of_length_le (by rw [frameN_len]; have := HM.out; omega)] at h9
                exact h9
              have HKF : Hid (RdF wq wf.heap.size wq.heap.size u17 bs) := OwF.rd ⟨HROW.out, fun q hq => (HROW.out.lt q hq).2⟩
              have HBWQ : Hid (Below w.heap.size w wq) := BWQ
              have HA50 : Hid (∀ W, Below w.heap.size w W → Calls Tryd.prog 15 #[.slice ca cn cc, .int .i64 50] W fun e w' => e = .returned (.int .i64 (atN d0 50)) ∧ Below W.heap.size W w') := fun W hW => by have := HAT.out 50 W (by omega) hW; simpa using this
              have hx := HRG.out 50
              generalize atN d0 50 = x5 at HA50 hx
              clear hj4 OFQ BWQ HROW
              go_wp2_with fail
              refine Calls.mono (HA50.out wq HBWQ.out) ?_
              rintro e w9 ⟨rfl, b9⟩
              have HJ9 : Hid (JS w9 w3.heap.size (S, frameW P (frameN k z)) (P : Int) (k : Int)) := JS.step HJ4.out b9
              have HKF9 : Hid (RdF w9 wf.heap.size wq.heap.size u17 bs) := RdF.same HKF.out ⟨b9.size, fun q _ h2 => b9.block q h2⟩
              have OT9 : Oth w3.heap.size wf w9 := HOT4.out.step b9
              have HOT9 : Hid (Oth w3.heap.size wf w9) := OT9
              have s9 := b9.size
              have HB9 : Hid (Below w.heap.size w w9) := HBWQ.out.trans (b9.mono HBWQ.out.size)
              obtain ⟨T, hT⟩ : ∃ T : Int, T = x5 % 8 - 1 := ⟨_, rfl⟩
              obtain ⟨ka, kn, kc, hke⟩ : ∃ a n c, u17 = .slice a n c := by obtain ⟨a', n', c', h', _⟩ := HKF9.out; exact ⟨a', n', c', h'⟩
              subst hke
              obtain ⟨x, y, l, h, vJ, rD, hh, hjl⟩ := HJ9.out
              obtain ⟨xa, xn, xc, ya, yn, yc, he⟩ := rD.open
              simp only [Value.agg.injEq, Array.mk.injEq, List.cons.injEq, and_true] at he
              obtain ⟨rfl, rfl⟩ := he
              have c0 := vJ.c0
              have c1 := vJ.c1
              obtain ⟨S', hS', hcd, hoo⟩ := crash_good HGD.out z hz (by omega) bs T
              obtain ⟨r, hr1, hr2, hr3⟩ := read_crash z HGD.out HZK.out HACC.out hz (by omega) bs (by have := HBL.out; have := HM.out; omega) T
              rw [← hS'] at hr1 hr2
              have h9 := implCrash_all _ _ l h _ bs _ _ T w9 rD hh HKF9.out (by omega) a (HG.out _ HB9.out)
              rw [hcd] at h9
              have HCR : Hid _ := h9
              have hzl1 := HZL.out
              have hR : ∀ j, j < r → (zss.take r)[j]?.getD [] = zss[j]?.getD [] := fun j hj => by rw [List.getElem?_take, if_pos hj]
              have hrk : r ≤ k + 1 := by rcases hr3 with h | h <;> omega
              have hrl : (zss.take r).length = r := by rw [List.length_take]; omega
              have hoj : openJ (S', []) = ((S', []), ((openS S').1 : Int), (r : Int)) := by unfold openJ; rw [hoo, if_pos rfl, hr2]
              have hor : openR (S', []) = zss.take r := by unfold openR; rw [hoo, if_pos rfl, hr1]
              have hT2 : T = x5 % 8 - 1 := hT
              have HTT : Hid (T = x5 % 8 - 1) := hT
              have HR3 : Hid _ := hr3
              have HRR : Hid (∀ j, j < r → (zss.take r)[j]?.getD [] = zss[j]?.getD []) := hR
              generalize (openS S').1 = Po at hoj
              clear vJ rD hS' hcd hr1 hr2 hr3 h9 hR hT HJ9 HJ4 HKF HKF9 hT2 OT9
              go_wp2_with (rw [← HTT.out])
              refine Calls.mono HCR.out ?_
              rintro e w10 ⟨u10, rfl, oD10, b10⟩
              have rD10 := oD10.rd
              obtain ⟨ga, gn, gc, ha, hn, hc, rfl⟩ := rD10.open
              have s10 := b10.size
              have b11 := Below.new (w := w10) (.cells #[.slice ga gn gc, .slice ha hn hc] 26)
              have vY := VarD.new w10 (.slice ga gn gc) (.slice ha hn hc)
              generalize hw11 : w10.alloc (.cells #[.slice ga gn gc, .slice ha hn hc] 26) = w11 at b11 vY
              have HW11 : Hid _ := hw11
              have s11 := b11.size
              have B11 : Below w9.heap.size w9 w11 := b10.trans (b11.mono s10)
              have BW11 : Below w.heap.size w w11 := HB9.out.trans (B11.mono HB9.out.size)
              have h9 := implOpen_all _ (S', []) _ _ w11 (rD10.step (Nat.le_refl _) b11) (by omega) a (HG.out _ BW11)
              rw [hoo, hoj, hor] at h9
              have HOP : Hid _ := h9
              have k0 := vY.c0
              have k1 := vY.c1
              have HB11 : Hid (Below w.heap.size w w11) := BW11
              have HOT11 : Hid (Oth w3.heap.size wf w11) := HOT9.out.step B11
              clear hw11 oD10 rD10 b10 b11 vY B11 BW11 h9 HCR c0 c1 hoo hoj hor
              go_wp2_with (rw [HW11.out])
              refine Calls.mono HOP.out ?_
              rintro e w12 ⟨X, V, ls, H2, rfl, oJ, oX, hH, hH2, b12⟩
              obtain ⟨ea, en, ec, ia, ib, ic, rfl, _⟩ := oJ.rd.open
              obtain ⟨la, ln, lc, lvs, hV, hln, hlh, hlc, hle⟩ := oX.bb.rd
              subst hV
              rw [hrl] at hln
              have hln2 := hln.symm
              subst hln2
              have s12 := b12.size
              have b13 := Below.new (w := w12) (.cells #[.slice ea en ec, .slice ia ib ic, .int .i64 (Po : Int), .int .i64 (r : Int)] 30)
              have vZ := VarJ.new (T := 30) w12 (.slice ea en ec) (.slice ia ib ic) (Po : Int) (r : Int)
              dsimp only
              generalize hw13 : w12.alloc (.cells #[.slice ea en ec, .slice ia ib ic, .int .i64 (Po : Int), .int .i64 (r : Int)] 30) = w13 at b13 vZ
              have HW13 : Hid _ := hw13
              have s13 := b13.size
              have B1113 : Below w11.heap.size w11 w13 := b12.trans (b13.mono s12)
              have HB13 : Hid (Below w.heap.size w w13) := HB11.out.trans (B1113.mono HB11.out.size)
              have OT13 : Oth w3.heap.size wo w13 := HOTF.out.trans (HOT11.out.step B1113)
              have HOX : Hid (OwX w13 w5.heap.size wo.heap.size (.slice (some ⟨g, 0, none⟩) (k + 1) rc) zss vs) := OwX.same HOR.out ⟨OT13.2.1, fun q h1 h2 => OT13.2.2 q h2 (by omega)⟩
              have so13 := OT13.2.1
              have HLC : Hid (r = 0 ∨ ∃ b off, la = some ⟨b, off, none⟩ ∧ b < w13.heap.size ∧ ∀ j, j < r → w13.cell? ⟨b, off + j, none⟩ = some (lvs j)) := by
                rcases hlc with h0 | ⟨b', off, ha', h1', h2', hcc⟩
                · exact .inl h0
                · exact .inr ⟨b', off, ha', by omega, fun j hj => (b13.cell (p := ⟨b', off + j, none⟩) h2').trans (hcc j hj)⟩
              have HLE : Hid (∀ j, j < r → RdB w13 H2 w12.heap.size (lvs j) (zss[j]?.getD [])) := fun j hj => by
                have h8 := (hle j hj).same (w' := w13) ⟨s13, fun q _ h2' => b13.block q h2'⟩
                rw [HRR.out j hj] at h8
                exact h8
              have k3 := vZ.c3
              have hrm : r ≤ 4 := by omega
              have HM2 : Hid (i = manyN z.length) := HM.out
              have hTm : (manyN z.length : Int) = (i : Int) := by have := HM.out; omega
              have hr3 := HR3.out
              rw [hTm] at hr3
              have hba := HBA.out
              clear hw13 oJ oX hlc hle b12 b13 vZ B1113 OT13 HOP k0 k1 hTm HR3 HRR HTT hrl
              rcases hr3 with ⟨hr', ha', ht | ht⟩ | ⟨hr', hf' | ⟨ht1, ht2⟩⟩
              · have hba2 : ba = true := by rw [hba, ha']
                subst hba2
                have g1 : ¬ (r : Int) < (k : Int) := by omega
                have g2 : ¬ (k : Int) + 1 < (r : Int) := by omega
                have g1d : decide ((r : Int) < (k : Int)) = false := by simp; omega
                have g2d : decide ((k : Int) + 1 < (r : Int)) = false := by simp; omega
                have g3 : ((r : Int) == (k : Int) + 1) = true := by simp; omega
                have t1 : decide (T < 0) = true := by simp; omega
                clear hba ha' hr'
                go_wp2_with (rw [HW13.out])
                go_loopw [25] (fun iv wr => L5 w13 (r) iv wr) (fun iv _ => (r) - (intOf iv).toNat)
                case atStart => exact ⟨0, Nat.zero_le _, rfl, Below.refl _ _⟩
                case round =>
                  obtain ⟨j, hj, rfl, bj⟩ := hrel
                  by_cases hlt5 : j < r
                  · rcases HLC.out with h0 | ⟨lb, lo, hla, hlb, hcc⟩
                    · omega
                    subst hla
                    have hcl5 := (bj.cell (p := ⟨lb, lo + j, none⟩) hlb).trans (hcc j hlt5)
                    have rL := HLE.out j hlt5
                    obtain ⟨a1, n1, c1, he1⟩ := rL.sliced
                    rw [he1] at hcl5 rL
                    obtain ⟨sa2, sn2, sc2, hcs2, rS2⟩ := rec_at HOX.out (i := j) (by have := HVL.out; omega) HVL.out.symm
                    have hgl : g < w13.heap.size := block_lt_of_cell (a := ⟨g, j, none⟩) hcs2
                    have hcs5 := (bj.cell (p := ⟨g, j, none⟩) hgl).trans hcs2
                    have HSB : Hid (∀ W, Below w13.heap.size w13 W → Calls Tryd.prog 14 #[.slice a1 n1 c1, .slice sa2 sn2 sc2] W fun e w' => e = .returned (.bool true) ∧ w' = W) := fun W hW => by
                      obtain ⟨_, a', n', c', he', hn', _, hr'⟩ := (rL.same (SameIn.ofBelow hW s13)).reads
                      obtain ⟨_, a'', n'', c'', he'', hn'', _, hr''⟩ := (rS2.same (SameIn.ofBelow hW so13)).reads
                      simp only [Value.slice.injEq] at he' he''
                      obtain ⟨rfl, rfl, rfl⟩ := he'
                      obtain ⟨rfl, rfl, rfl⟩ := he''
                      exact sameBytes_any _ _ _ _ _ _ _ W hr' hr'' hn' hn''
                    have hi1 : (j : Int) < (r : Int) := by omega
                    have hi2 : (j : Int) < (k : Int) + 1 := by omega
                    have HBJ : Hid (Below w13.heap.size w13 wr) := bj
                    clear rL rS2 hcs2 hcc bj
                    go_wp2
                    go_region_held3 (fun w' => w'.cell? ⟨lb, lo + j, none⟩ = some (.slice a1 n1 c1) ∧ w'.cell? ⟨g, j, none⟩ = some (.slice sa2 sn2 sc2)) (first | go_keep | (refine ⟨?_, ?_⟩ <;> assumption)) (first | (go_at_call 14; refine Calls.mono (HSB.out wr.drew (Below.drew HBJ.out)) ?_; rintro e w14 ⟨rfl, rfl⟩))
                    go_wp2
                    have HR : L5 w13 (r) (.int .i64 ((j : Int) + 1)) wr.drew := ⟨j + 1, by omega, by simp, Below.drew HBJ.out⟩
                    refine ⟨?_, by simp [intOf]; omega⟩
                    exact HR
                  · have he5 : j = r := by omega
                    have sz13 : w12.heap.size < w13.heap.size := block_lt_of_cell (a := ⟨w12.heap.size, 3, none⟩) k3
                    have k5 := (bj.cell (p := ⟨w12.heap.size, 3, none⟩) sz13).trans k3
                    have HBJ : Hid (Below w.heap.size w wr) := HB13.out.trans (bj.mono HB13.out.size)
                    have hnl : ¬ (j : Int) < (r : Int) := by omega
                    clear bj
                    go_wp2
                    go_ret
                    exact ⟨by first | rfl | simp, HBJ.out⟩
              · have hba2 : ba = true := by rw [hba, ha']
                subst hba2
                have g1 : ¬ (r : Int) < (k : Int) := by omega
                have g2 : ¬ (k : Int) + 1 < (r : Int) := by omega
                have g1d : decide ((r : Int) < (k : Int)) = false := by simp; omega
                have g2d : decide ((k : Int) + 1 < (r : Int)) = false := by simp; omega
                have g3 : ((r : Int) == (k : Int) + 1) = true := by simp; omega
                have t1 : decide (T < 0) = false := by simp; omega
                have t2 : decide ((i : Int) ≤ T) = true := by simp; omega
                clear hba ha' hr'
                go_wp2_with (rw [HW13.out])
                go_loopw [25] (fun iv wr => L5 w13 (r) iv wr) (fun iv _ => (r) - (intOf iv).toNat)
                case atStart => exact ⟨0, Nat.zero_le _, rfl, Below.refl _ _⟩
                case round =>
                  obtain ⟨j, hj, rfl, bj⟩ := hrel
                  by_cases hlt5 : j < r
                  · rcases HLC.out with h0 | ⟨lb, lo, hla, hlb, hcc⟩
                    · omega
                    subst hla
                    have hcl5 := (bj.cell (p := ⟨lb, lo + j, none⟩) hlb).trans (hcc j hlt5)
                    have rL := HLE.out j hlt5
                    obtain ⟨a1, n1, c1, he1⟩ := rL.sliced
                    rw [he1] at hcl5 rL
                    obtain ⟨sa2, sn2, sc2, hcs2, rS2⟩ := rec_at HOX.out (i := j) (by have := HVL.out; omega) HVL.out.symm
                    have hgl : g < w13.heap.size := block_lt_of_cell (a := ⟨g, j, none⟩) hcs2
                    have hcs5 := (bj.cell (p := ⟨g, j, none⟩) hgl).trans hcs2
                    have HSB : Hid (∀ W, Below w13.heap.size w13 W → Calls Tryd.prog 14 #[.slice a1 n1 c1, .slice sa2 sn2 sc2] W fun e w' => e = .returned (.bool true) ∧ w' = W) := fun W hW => by
                      obtain ⟨_, a', n', c', he', hn', _, hr'⟩ := (rL.same (SameIn.ofBelow hW s13)).reads
                      obtain ⟨_, a'', n'', c'', he'', hn'', _, hr''⟩ := (rS2.same (SameIn.ofBelow hW so13)).reads
                      simp only [Value.slice.injEq] at he' he''
                      obtain ⟨rfl, rfl, rfl⟩ := he'
                      obtain ⟨rfl, rfl, rfl⟩ := he''
                      exact sameBytes_any _ _ _ _ _ _ _ W hr' hr'' hn' hn''
                    have hi1 : (j : Int) < (r : Int) := by omega
                    have hi2 : (j : Int) < (k : Int) + 1 := by omega
                    have HBJ : Hid (Below w13.heap.size w13 wr) := bj
                    clear rL rS2 hcs2 hcc bj
                    go_wp2
                    go_region_held3 (fun w' => w'.cell? ⟨lb, lo + j, none⟩ = some (.slice a1 n1 c1) ∧ w'.cell? ⟨g, j, none⟩ = some (.slice sa2 sn2 sc2)) (first | go_keep | (refine ⟨?_, ?_⟩ <;> assumption)) (first | (go_at_call 14; refine Calls.mono (HSB.out wr.drew (Below.drew HBJ.out)) ?_; rintro e w14 ⟨rfl, rfl⟩))
                    go_wp2
                    have HR : L5 w13 (r) (.int .i64 ((j : Int) + 1)) wr.drew := ⟨j + 1, by omega, by simp, Below.drew HBJ.out⟩
                    refine ⟨?_, by simp [intOf]; omega⟩
                    exact HR
                  · have he5 : j = r := by omega
                    have sz13 : w12.heap.size < w13.heap.size := block_lt_of_cell (a := ⟨w12.heap.size, 3, none⟩) k3
                    have k5 := (bj.cell (p := ⟨w12.heap.size, 3, none⟩) sz13).trans k3
                    have HBJ : Hid (Below w.heap.size w wr) := HB13.out.trans (bj.mono HB13.out.size)
                    have hnl : ¬ (j : Int) < (r : Int) := by omega
                    clear bj
                    go_wp2
                    go_ret
                    exact ⟨by first | rfl | simp, HBJ.out⟩
              · have hba2 : ba = false := by rw [hba, hf']
                subst hba2
                have g1 : ¬ (r : Int) < (k : Int) := by omega
                have g2 : ¬ (k : Int) + 1 < (r : Int) := by omega
                have g1d : decide ((r : Int) < (k : Int)) = false := by simp; omega
                have g2d : decide ((k : Int) + 1 < (r : Int)) = false := by simp; omega
                have g3 : ((r : Int) == (k : Int) + 1) = false := by simp; omega
                clear hba hf' hr'
                go_wp2_with (rw [HW13.out])
                go_loopw [25] (fun iv wr => L5 w13 (r) iv wr) (fun iv _ => (r) - (intOf iv).toNat)
                case atStart => exact ⟨0, Nat.zero_le _, rfl, Below.refl _ _⟩
                case round =>
                  obtain ⟨j, hj, rfl, bj⟩ := hrel
                  by_cases hlt5 : j < r
                  · rcases HLC.out with h0 | ⟨lb, lo, hla, hlb, hcc⟩
                    · omega
                    subst hla
                    have hcl5 := (bj.cell (p := ⟨lb, lo + j, none⟩) hlb).trans (hcc j hlt5)
                    have rL := HLE.out j hlt5
                    obtain ⟨a1, n1, c1, he1⟩ := rL.sliced
                    rw [he1] at hcl5 rL
                    obtain ⟨sa2, sn2, sc2, hcs2, rS2⟩ := rec_at HOX.out (i := j) (by have := HVL.out; omega) HVL.out.symm
                    have hgl : g < w13.heap.size := block_lt_of_cell (a := ⟨g, j, none⟩) hcs2
                    have hcs5 := (bj.cell (p := ⟨g, j, none⟩) hgl).trans hcs2
                    have HSB : Hid (∀ W, Below w13.heap.size w13 W → Calls Tryd.prog 14 #[.slice a1 n1 c1, .slice sa2 sn2 sc2] W fun e w' => e = .returned (.bool true) ∧ w' = W) := fun W hW => by
                      obtain ⟨_, a', n', c', he', hn', _, hr'⟩ := (rL.same (SameIn.ofBelow hW s13)).reads
                      obtain ⟨_, a'', n'', c'', he'', hn'', _, hr''⟩ := (rS2.same (SameIn.ofBelow hW so13)).reads
                      simp only [Value.slice.injEq] at he' he''
                      obtain ⟨rfl, rfl, rfl⟩ := he'
                      obtain ⟨rfl, rfl, rfl⟩ := he''
                      exact sameBytes_any _ _ _ _ _ _ _ W hr' hr'' hn' hn''
                    have hi1 : (j : Int) < (r : Int) := by omega
                    have hi2 : (j : Int) < (k : Int) + 1 := by omega
                    have HBJ : Hid (Below w13.heap.size w13 wr) := bj
                    clear rL rS2 hcs2 hcc bj
                    go_wp2
                    go_region_held3 (fun w' => w'.cell? ⟨lb, lo + j, none⟩ = some (.slice a1 n1 c1) ∧ w'.cell? ⟨g, j, none⟩ = some (.slice sa2 sn2 sc2)) (first | go_keep | (refine ⟨?_, ?_⟩ <;> assumption)) (first | (go_at_call 14; refine Calls.mono (HSB.out wr.drew (Below.drew HBJ.out)) ?_; rintro e w14 ⟨rfl, rfl⟩))
                    go_wp2
                    have HR : L5 w13 (r) (.int .i64 ((j : Int) + 1)) wr.drew := ⟨j + 1, by omega, by simp, Below.drew HBJ.out⟩
                    refine ⟨?_, by simp [intOf]; omega⟩
                    exact HR
                  · have he5 : j = r := by omega
                    have sz13 : w12.heap.size < w13.heap.size := block_lt_of_cell (a := ⟨w12.heap.size, 3, none⟩) k3
                    have k5 := (bj.cell (p := ⟨w12.heap.size, 3, none⟩) sz13).trans k3
                    have HBJ : Hid (Below w.heap.size w wr) := HB13.out.trans (bj.mono HB13.out.size)
                    have hnl : ¬ (j : Int) < (r : Int) := by omega
                    clear bj
                    go_wp2
                    go_ret
                    exact ⟨by first | rfl | simp, HBJ.out⟩
              · have g1 : ¬ (r : Int) < (k : Int) := by omega
                have g2 : ¬ (k : Int) + 1 < (r : Int) := by omega
                have g1d : decide ((r : Int) < (k : Int)) = false := by simp; omega
                have g2d : decide ((k : Int) + 1 < (r : Int)) = false := by simp; omega
                have g3 : ((r : Int) == (k : Int) + 1) = false := by simp; omega
                have t1 : decide (T < 0) = false := by simp; omega
                have t2 : decide ((i : Int) ≤ T) = false := by simp; omega
                clear hr' hba
                cases ba
                all_goals
                  go_wp2_with (rw [HW13.out])
                  go_loopw [25] (fun iv wr => L5 w13 (r) iv wr) (fun iv _ => (r) - (intOf iv).toNat)
                  case atStart => exact ⟨0, Nat.zero_le _, rfl, Below.refl _ _⟩
                  case round =>
                    obtain ⟨j, hj, rfl, bj⟩ := hrel
                    by_cases hlt5 : j < r
                    · rcases HLC.out with h0 | ⟨lb, lo, hla, hlb, hcc⟩
                      · omega
                      subst hla
                      have hcl5 := (bj.cell (p := ⟨lb, lo + j, none⟩) hlb).trans (hcc j hlt5)
                      have rL := HLE.out j hlt5
                      obtain ⟨a1, n1, c1, he1⟩ := rL.sliced
                      rw [he1] at hcl5 rL
                      obtain ⟨sa2, sn2, sc2, hcs2, rS2⟩ := rec_at HOX.out (i := j) (by have := HVL.out; omega) HVL.out.symm
                      have hgl : g < w13.heap.size := block_lt_of_cell (a := ⟨g, j, none⟩) hcs2
                      have hcs5 := (bj.cell (p := ⟨g, j, none⟩) hgl).trans hcs2
                      have HSB : Hid (∀ W, Below w13.heap.size w13 W → Calls Tryd.prog 14 #[.slice a1 n1 c1, .slice sa2 sn2 sc2] W fun e w' => e = .returned (.bool true) ∧ w' = W) := fun W hW => by
                        obtain ⟨_, a', n', c', he', hn', _, hr'⟩ := (rL.same (SameIn.ofBelow hW s13)).reads
                        obtain ⟨_, a'', n'', c'', he'', hn'', _, hr''⟩ := (rS2.same (SameIn.ofBelow hW so13)).reads
                        simp only [Value.slice.injEq] at he' he''
                        obtain ⟨rfl, rfl, rfl⟩ := he'
                        obtain ⟨rfl, rfl, rfl⟩ := he''
                        exact sameBytes_any _ _ _ _ _ _ _ W hr' hr'' hn' hn''
                      have hi1 : (j : Int) < (r : Int) := by omega
                      have hi2 : (j : Int) < (k : Int) + 1 := by omega
                      have HBJ : Hid (Below w13.heap.size w13 wr) := bj
                      clear rL rS2 hcs2 hcc bj
                      go_wp2
                      go_region_held3 (fun w' => w'.cell? ⟨lb, lo + j, none⟩ = some (.slice a1 n1 c1) ∧ w'.cell? ⟨g, j, none⟩ = some (.slice sa2 sn2 sc2)) (first | go_keep | (refine ⟨?_, ?_⟩ <;> assumption)) (first | (go_at_call 14; refine Calls.mono (HSB.out wr.drew (Below.drew HBJ.out)) ?_; rintro e w14 ⟨rfl, rfl⟩))
                      go_wp2
                      have HR : L5 w13 (r) (.int .i64 ((j : Int) + 1)) wr.drew := ⟨j + 1, by omega, by simp, Below.drew HBJ.out⟩
                      refine ⟨?_, by simp [intOf]; omega⟩
                      exact HR
                    · have he5 : j = r := by omega
                      have sz13 : w12.heap.size < w13.heap.size := block_lt_of_cell (a := ⟨w12.heap.size, 3, none⟩) k3
                      have k5 := (bj.cell (p := ⟨w12.heap.size, 3, none⟩) sz13).trans k3
                      have HBJ : Hid (Below w.heap.size w wr) := HB13.out.trans (bj.mono HB13.out.size)
                      have hnl : ¬ (j : Int) < (r : Int) := by omega
                      clear bj
                      go_wp2
                      go_ret
                      exact ⟨by first | rfl | simp, HBJ.out⟩
end Go.Proofs.YtjhaanenkeceiaaDoor.fnTorn
end
