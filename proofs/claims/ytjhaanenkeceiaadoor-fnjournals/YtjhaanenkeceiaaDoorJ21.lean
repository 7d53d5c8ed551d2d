/- Joined: JClone JWrite JFlush. -/
import Derived.Test.YtjhaanenkeceiaaDoorJ05
import Derived.Test.YtjhaanenkeceiaaDoorJ10
import Derived.Deep.CutRange
import Derived.Deep.DrawnRows
import Derived.Stop.LaidErr
import Derived.Test.YtjhaanenkeceiaaDoorJ20

section
/- The program's copy of the disk of a journal. Condition: that it is DiskOk. -/
namespace Go.Proofs.YtjhaanenkeceiaaDoor
open Go.RowKit
set_option linter.unusedVariables false
set_option linter.unusedSimpArgs false
attribute [local go_sem ↓] Go.wp_at_zero Go.wp_at_succ

set_option maxHeartbeats 2000000 in
theorem cloneJ_any (P Q : Int) (b : Nat) (x y : Value) (d : Dk) (l h : Nat) (w : World) (hv : VarJ 30 w b x y P Q) (r : RdBB w l h x d.1) (s : RdWs w l h y d.2) (hh : h ≤ w.heap.size) (hok : okD d = true) :
    Calls Tryd.prog 49 #[.pointer (some ⟨b, 0, none⟩)] w fun e w' => ∃ u, e = .returned u ∧ OwD2 w' w.heap.size w'.heap.size u d ∧ Below w.heap.size w w' := by
  obtain ⟨d1, d2⟩ := d
  have R1 := fun W hW => r.same (SameIn.ofBelow (w' := W) hW hh)
  have R2 := fun W hW => s.same (SameIn.ofBelow (w' := W) hW hh)
  obtain ⟨xa, n, xc, vs, rfl, hn, hhd, hc, he⟩ := r
  obtain ⟨ya, m, yc, us, rfl, hm, hhd', hc', he'⟩ := s
  replace hn : n = d1.length := hn
  replace hm : m = d2.length := hm
  have hok' := hok
  unfold okD at hok'
  simp only [Bool.and_eq_true, decide_eq_true_eq, List.all_eq_true] at hok'
  have hn2 : n ≤ 2000 := by rw [hn]; exact hok'.1.1.1
  have hm2 : m ≤ 2000 := by rw [hm]; exact hok'.1.1.2
  have HL1 : Hid (∀ i, i < n → (d1[i]?.getD []).length = 32) := fun i hi => by
    have hi' : i < d1.length := by omega
    have := hok'.1.2 _ (List.getElem_mem hi')
    simp [secOk] at this
    simp [hi', this]
  have HL2 : Hid (∀ i, i < m → (d2[i]?.getD (0, [])).2.length = 32) := fun i hi => by
    have hi' : i < d2.length := by omega
    have := hok'.2 _ (List.getElem_mem hi')
    simp [waitOk, secOk] at this
    simp [hi', this]
  have hbw := hv.lt
  have b1 := Below.new (w := w) (.cells #[.slice none 0 0, .slice none 0 0] 26)
  have v0 := VarD.new w (.slice none 0 0) (.slice none 0 0)
  have v1 := hv.step b1
  generalize hw1 : w.alloc (.cells #[.slice none 0 0, .slice none 0 0] 26) = w1 at b1 v0 v1
  have HW1 : Hid _ := hw1
  have s1 := v0.lt
  have c0 := v1.c0
  have c1 := v1.c1
  obtain ⟨i0, hi, hz0, hz1, hz2⟩ := info_parts Tryd.infoBB
  obtain ⟨j0, hj, hy0, hy1, hy2⟩ := info_parts Tryd.infoW
  have runA : ∀ W : World, (Instr.makeSlice 23 (.int .i64 (n : Int)) (.int .i64 (n : Int))).run Tryd.prog W = .ok (.slice (some ⟨W.heap.size, 0, none⟩) n n) (W.alloc (.cells (madeCells (Value.slice none 0 0).cells (n * 1)) 22)) := fun W => by
    have := run_make (P := Tryd.prog) W 23 22 i0 (.slice none 0 0) Tryd.underlying23 hi hz0 .i64 .i64 n n (by omega) (Int.le_refl _) (by rw [hz2]; omega) (by omega)
    rw [hz1] at this
    simpa using this
  have runB : ∀ W : World, (Instr.makeSlice 24 (.int .i64 (m : Int)) (.int .i64 (m : Int))).run Tryd.prog W = .ok (.slice (some ⟨W.heap.size, 0, none⟩) m m) (W.alloc (.cells (madeCells (Value.agg #[.int .i64 0, .slice none 0 0]).cells (m * 2)) 75)) := fun W => by
    have := run_make (P := Tryd.prog) W 24 75 j0 (.agg #[.int .i64 0, .slice none 0 0]) Tryd.underlying24 hj hy0 .i64 .i64 m m (by omega) (Int.le_refl _) (by rw [hy2]; omega) (by omega)
    rw [hy1] at this
    simpa using this
  generalize hMA : Obj.cells (madeCells (Value.slice none 0 0).cells (n * 1)) 22 = MA at runA
  generalize hMB : Obj.cells (madeCells (Value.agg #[.int .i64 0, .slice none 0 0]).cells (m * 2)) 75 = MB at runB
  have HMA : Hid _ := hMA
  have HMB : Hid _ := hMB
  have K0 : ∀ x y z : Obj, (((w1.alloc x).alloc y).alloc z).cell? ⟨b, 0, none⟩ = some (.slice xa n xc) := fun x y z => cell?_alloc_old z (cell?_alloc_old y (cell?_alloc_old x c0))
  have K1 : ∀ x y z : Obj, (((w1.alloc x).alloc y).alloc z).cell? ⟨b, 1, none⟩ = some (.slice ya m yc) := fun x y z => cell?_alloc_old z (cell?_alloc_old y (cell?_alloc_old x c1))
  have K2 : ∀ x y z : Obj, (((w1.alloc x).alloc y).alloc z).drew.cell? ⟨b, 0, none⟩ = some (.slice xa n xc) := K0
  have K3 : ∀ x y z : Obj, (((w1.alloc x).alloc y).alloc z).drew.cell? ⟨b, 1, none⟩ = some (.slice ya m yc) := K1
  have n1 : ¬ b = w1.heap.size := by omega
  have n2 : ¬ b = w1.heap.size + 1 := by omega
  have n3 : ¬ b = w1.heap.size + 1 + 1 := by omega
  have n4 : b < w1.heap.size := by omega
  have HB1 : Hid _ := b1
  have HV0 : Hid (VarD w1 w.heap.size _ _) := v0
  have HN : Hid _ := hn
  have HM : Hid _ := hm
  have HC : Hid _ := hc
  have HE : Hid _ := he
  have HC' : Hid _ := hc'
  have HE' : Hid _ := he'
  have HV : Hid _ := hv
  clear hw1 hn hm hc he hc' he' hv v0 v1 hok hok' hhd hhd' hi hz0 hz1 hz2 hj hy0 hy1 hy2 R1 R2 hMA hMB b1
  go_enter Tryd.func49, Tryd.ntmps49
  go_upto_region 1 with fail
  rw [HW1.out]
  go_cut [3] from 8 to 20 (fun s3 wx => CRel0 w (d1, d2) n m s3 wx)
  case first =>
    go_region_held3 (fun w' => w'.cell? ⟨b, 0, none⟩ = some (.slice xa n xc) ∧ w'.cell? ⟨b, 1, none⟩ = some (.slice ya m yc)) (first | go_keep) (fail)
    all_goals go_wp2_with fail
    all_goals go_meet
    all_goals first
      | exact crel0_of HB1.out HV0.out (Below.three _ _ _) (heap3 w1 _ _ _).2.2 ((heap3 w1 _ _ _).1.trans (congrArg some HMA.out.symm)) ((heap3 w1 _ _ _).2.1.trans (congrArg some HMB.out.symm)) hn2 hm2 (by omega)
      | exact crel0_of HB1.out HV0.out (Below.three _ _ _) (heap3 w1 _ _ _).2.1 ((heap3 w1 _ _ _).1.trans (congrArg some HMA.out.symm)) ((heap3 w1 _ _ _).2.2.trans (congrArg some HMB.out.symm)) hn2 hm2 (by omega)
      | exact crel0_of HB1.out HV0.out (Below.three _ _ _) (heap3 w1 _ _ _).2.2 ((heap3 w1 _ _ _).2.1.trans (congrArg some HMA.out.symm)) ((heap3 w1 _ _ _).1.trans (congrArg some HMB.out.symm)) hn2 hm2 (by omega)
      | exact crel0_of HB1.out HV0.out (Below.three _ _ _) (heap3 w1 _ _ _).1 ((heap3 w1 _ _ _).2.1.trans (congrArg some HMA.out.symm)) ((heap3 w1 _ _ _).2.2.trans (congrArg some HMB.out.symm)) hn2 hm2 (by omega)
      | exact crel0_of HB1.out HV0.out (Below.three _ _ _) (heap3 w1 _ _ _).2.1 ((heap3 w1 _ _ _).2.2.trans (congrArg some HMA.out.symm)) ((heap3 w1 _ _ _).1.trans (congrArg some HMB.out.symm)) hn2 hm2 (by omega)
      | exact crel0_of HB1.out HV0.out (Below.three _ _ _) (heap3 w1 _ _ _).1 ((heap3 w1 _ _ _).2.2.trans (congrArg some HMA.out.symm)) ((heap3 w1 _ _ _).2.1.trans (congrArg some HMB.out.symm)) hn2 hm2 (by omega)
  case rest =>
    obtain ⟨o, r1, r2, rfl, vO, vR, hPX, hPY, hdis, hbx⟩ := hcut
    obtain ⟨D1, D2, D3, D4, D5, D6⟩ := hdis
    generalize hH : wc.heap.size = H at hPX hPY
    have HHe : Hid _ := hH
    have hoH : o < H := by have := vO.lt; omega
    have hr1H : r1 < H := hPX.2.2.1.2
    have hr2H : r2 < H := by obtain ⟨C, _, _, h3, _⟩ := hPY; exact h3.2
    have HST : Hid (CL1 w (d1, d2) n m o r1 r2 H (.int .i64 0) wc) := ⟨0, [], Nat.zero_le _, rfl, vO, vR, hPX, hPY, hbx⟩
    have hcc0 := (VarJ.step HV.out hbx).c0
    have hcc1 := (VarJ.step HV.out hbx).c1
    clear vO vR hPX hPY hbx hH K0 K1 K2 K3 runA runB c0 c1
    go_wp2
    go_loopw [26] (fun i wr => CL1 w (d1, d2) n m o r1 r2 H i wr) (fun i _ => n - (intOf i).toNat)
    case atStart => exact HST.out
    case round =>
      clear HST hcc0 hcc1
      obtain ⟨k, vs', hk, rfl, vO, vR, hPX, hPY, hbel⟩ := hrel
      by_cases hlt : k < n
      · obtain ⟨g, off, rfl, hg0, hgh, hcc⟩ := HC.out.resolve_left (by omega)
        have h1 := (hbel.cell (p := ⟨g, off + k, none⟩) (by show g < w.heap.size; omega)).trans (hcc k hlt)
        have hrd := (HE.out k hlt).same (SameIn.mk (Below.size hbel) (fun q _ hq => hbel.block q (by omega)))
        have hl32 := HL1.out k hlt
        have hws := hbel.size
        generalize hx : vs k = x at h1 hrd
        clear hx
        obtain ⟨sa, sn, sc, rfl⟩ := hrd.sliced
        have HRD : Hid (RdB wr l h (.slice sa sn sc) (d1[k]?.getD [])) := hrd
        have nro : ¬ r1 = o := fun e => D2 e.symm
        have HRE : Hid (RdB wr.drew l h (.slice sa sn sc) (d1[k]?.getD [])) := hrd.same SameIn.drew
        have hhd : h ≤ wr.drew.heap.size := by show h ≤ wr.heap.size; omega
        have hi0 : (0 : Int) ≤ (k : Int) := by omega
        have hi1 : (k : Int) < (n : Int) := by omega
        have hov := vO.lt
        have o0 := vO.c0
        have HPX : Hid (PartX _ _ _ _ _ _ _ _) := hPX
        have HPY : Hid (PartY _ _ _ _ _ _ _ _) := hPY
        have HVO : Hid (VarD _ _ _ _) := vO
        have HVR : Hid (VarD _ _ _ _) := vR
        clear hcc hrd hPX hPY vO vR
        go_wp2
        go_region_held3 (fun w' => w'.cell? ⟨o, 0, none⟩ = some (.slice (some ⟨r1, 0, none⟩) n n)) (first | go_keep | assumption) (first | (go_at_call 35; refine (newSector_any _ _ l h _ HRE.out hhd).mono ?_; rintro e w2 ⟨u, rfl, ho2, hb2⟩; obtain ⟨ua, un, uc, rfl⟩ := ho2.sliced; have hb3 : Below wr.heap.size wr w2 := (Below.drew (Below.refl _ _)).trans hb2; have o1 := (VarD.step HVO.out hb3).c0; have hsl := (PartX.below HPX.out hb3).slot hlt; obtain ⟨⟨v0, hv0⟩, hfz⟩ := hsl))
        have HR : Hid (CL1 w (d1, d2) n m o r1 r2 H (.int .i64 ((k : Int) + 1)) (w2.setCell ⟨r1, k, none⟩ (.slice ua un uc))) := by
          refine ⟨k + 1, _, by omega, by go_num, VarD.set (VarD.step HVO.out hb3) D2, VarD.set (VarD.step HVR.out hb3) (by omega), PartX.next HPX.out hlt hb3 HRD.out.1 (by rw [← sec_full hl32]; exact ho2) rfl, (PartY.below HPY.out hb3).set hr1H D1, ?_⟩
          exact (hbel.trans (hb3.mono hbel.size)).setCell (by show w.heap.size ≤ r1; omega) _
        clear HPX HPY HVO HVR HRD ho2 hb2 hb3 hfz hv0 o0 o1 h1
        go_wp2
        refine ⟨?_, by simp [intOf]; omega⟩
        first | exact HR.out | exact ⟨_, _, _, _, _, _, _, _, _, _, _, _, _, HR.out, rfl⟩ | exact ⟨_, _, _, _, _, _, _, _, _, _, _, _, _, _, HR.out, rfl⟩
      · have hkn : k = n := by omega
        subst hkn
        have hq0 := (VarJ.step HV.out hbel).c0
        have hq1 := (VarJ.step HV.out hbel).c1
        have hws := hbel.size
        generalize hH1 : wr.heap.size = H1 at hws
        have hHH : H ≤ H1 := by have := hPX.2.2.1.1; omega
        have HBV : Hid (∀ q, Blk vs' q → q < H1) := fun q hq => by have := hPX.blk q hq; omega
        have HST : Hid (CL2 w (d1, d2) k m o r1 r2 H H1 vs' (.int .i64 0) wr) := ⟨0, [], Nat.zero_le _, rfl, vO, vR, hPX, hPY.raise hHH (by omega), hbel⟩
        have HH1 : Hid _ := hH1
        clear hPX hPY vO vR hbel hH1
        go_wp2
        go_loopw [43] (fun i wr => CL2 w (d1, d2) k m o r1 r2 H H1 vs' i wr) (fun i _ => m - (intOf i).toNat)
        case atStart => exact HST.out
        case round =>
          clear HST hq0 hq1 HH1
          obtain ⟨j, xs', hj, rfl, vO, vR, hPX, hPY, hbel⟩ := hrel
          have hwsz := hbel.size
          by_cases hlt2 : j < m
          · obtain ⟨g, off, rfl, hg0, hgh, hcc⟩ := HC'.out.resolve_left (by omega)
            have h1 := (hbel.cell (p := ⟨g, off + j * 2, none⟩) (by show g < w.heap.size; omega)).trans (hcc j hlt2).1
            have h2 := (hbel.cell (p := ⟨g, off + j * 2 + 1, none⟩) (by show g < w.heap.size; omega)).trans (hcc j hlt2).2
            have hrd := (HE'.out j hlt2).same (SameIn.mk (Below.size hbel) (fun q _ hq => hbel.block q (by omega)))
            have hl32 := HL2.out j hlt2
            generalize hx : us j = x at h2 hrd
            clear hx
            obtain ⟨sa, sn, sc, rfl⟩ := hrd.sliced
            have hwt : d2[j]?.getD (0, []) = ((d2[j]?.getD (0, [])).1, (d2[j]?.getD (0, [])).2) := rfl
            generalize (d2[j]?.getD (0, [])).1 = p at h1 hwt
            generalize (d2[j]?.getD (0, [])).2 = zs at hrd hwt hl32
            have HWT : Hid _ := hwt
            have hi0 : (0 : Int) ≤ (j : Int) := by omega
            have hi1 : (j : Int) < (m : Int) := by omega
            have hov := vO.lt
            have b4 := Below.new (w := wr) (.cells #[.int .i64 p, .slice sa sn sc] 75)
            have q0 : (wr.alloc (.cells #[.int .i64 p, .slice sa sn sc] 75)).cell? ⟨wr.heap.size, 0, none⟩ = some (.int .i64 p) := by rw [World.cell?_alloc_at _ _ _ _ rfl]; rfl
            have q1 : (wr.alloc (.cells #[.int .i64 p, .slice sa sn sc] 75)).cell? ⟨wr.heap.size, 1, none⟩ = some (.slice sa sn sc) := by rw [World.cell?_alloc_at _ _ _ _ rfl]; rfl
            have o1 := (vO.step b4).c1
            have HRD : Hid (RdB (wr.alloc (.cells #[.int .i64 p, .slice sa sn sc] 75)) l h (.slice sa sn sc) zs) := RdB.same hrd (SameIn.ofBelow b4 (by omega))
            have HPX : Hid (PartX _ _ _ _ _ _ _ _) := hPX.below b4
            have HPY : Hid (PartY _ _ _ _ _ _ _ _) := hPY.below b4
            have HVO : Hid (VarD _ _ _ _) := vO.step b4
            have HVR : Hid (VarD _ _ _ _) := vR.step b4
            have hbe4 := hbel.trans (b4.mono hbel.size)
            have hsz4 : wr.heap.size < (wr.alloc (.cells #[.int .i64 p, .slice sa sn sc] 75)).heap.size := by simp
            generalize hw4 : wr.alloc (.cells #[.int .i64 p, .slice sa sn sc] 75) = w4 at q0 q1 o1 HRD HPX HPY HVO HVR hbe4 hsz4
            have HW4 : Hid _ := hw4
            have HRE : Hid (RdB w4.drew l h (.slice sa sn sc) zs) := RdB.same HRD.out SameIn.drew
            have hhd : h ≤ w4.drew.heap.size := by show h ≤ w4.heap.size; omega
            have hr2s : r2 < wr.heap.size := by have := hPX.2.2.1.1; omega
            have nr2 : ¬ wr.heap.size = r2 := by omega
            have nr2' : ¬ r2 = wr.heap.size := by omega
            have no2 : ¬ r2 = o := fun e => D3 e.symm
            have HBE4 : Hid _ := hbe4
            clear hcc hrd hPX hPY vO vR hwt hw4 b4 hbel hbe4
            go_wp2_with fail
            rw [HW4.out]
            go_region_held3 (fun w' => w'.cell? ⟨o, 1, none⟩ = some (.slice (some ⟨r2, 0, none⟩) m m) ∧ w'.cell? ⟨wr.heap.size, 0, none⟩ = some (.int .i64 p) ∧ w'.cell? ⟨wr.heap.size, 1, none⟩ = some (.slice sa sn sc)) (first | go_keep | (refine ⟨?_, ?_, ?_⟩ <;> assumption)) (first | (go_at_call 35; refine (newSector_any _ _ l h _ HRE.out hhd).mono ?_; rintro e w2 ⟨u, rfl, ho2, hb2⟩; obtain ⟨ua, un, uc, rfl⟩ := ho2.sliced; have hb3 : Below w4.heap.size w4 w2 := (Below.drew (Below.refl _ _)).trans hb2; have t1 := (VarD.step HVO.out hb3).c1; have t2 := (hb3.cell (p := ⟨wr.heap.size, 0, none⟩) hsz4).trans q0; have t3 := (hb3.cell (p := ⟨wr.heap.size, 1, none⟩) hsz4).trans q1; have hsl := (PartY.below HPY.out hb3).slot hlt2; obtain ⟨⟨v0, hv0⟩, ⟨v5, hv5⟩, hfz, hfz2⟩ := hsl))
            have HR : Hid (CL2 w (d1, d2) k m o r1 r2 H H1 vs' (.int .i64 ((j : Int) + 1)) ((w2.setCell ⟨r2, j * 2, none⟩ (.int .i64 p)).setCell ⟨r2, j * 2 + 1, none⟩ (.slice ua un uc))) := by
              refine ⟨j + 1, _, by omega, by go_num, VarD.set (VarD.set (VarD.step HVO.out hb3) D3) D3, VarD.set (VarD.set (VarD.step HVR.out hb3) (by omega)) (by omega), ((PartX.below HPX.out hb3).set hr2H (fun e => D1 e.symm)).set hr2H (fun e => D1 e.symm), PartY.next HPY.out hlt2 hb3 HRD.out.1 (by rw [← sec_full hl32]; exact ho2) HWT.out, ?_⟩
              exact Below.setCell (Below.setCell (HBE4.out.trans (hb3.mono HBE4.out.size)) (by show w.heap.size ≤ r2; omega) _) (by show w.heap.size ≤ r2; omega) _
            clear HPX HPY HVO HVR HRD ho2 hb2 hb3 hfz hfz2 hv0 hv5 q0 q1 o1 t1 t2 t3 h1 h2
            go_wp2
            refine ⟨?_, by simp [intOf]; omega⟩
            first | exact HR.out | exact ⟨_, _, _, _, _, _, _, _, _, _, _, _, _, _, _, _, _, _, HR.out, rfl⟩ | exact ⟨_, _, _, _, _, _, _, _, _, _, _, _, _, _, _, _, _, HR.out, rfl⟩ | exact ⟨_, _, _, _, _, _, _, _, _, _, _, _, _, _, _, _, _, _, _, HR.out, rfl⟩
          · have hjm : j = m := by omega
            subst hjm
            have o0 := vO.c0
            have o1 := vO.c1
            have e0 := vR.c0
            have e1 := vR.c1
            have f0 := vR.f 0
            have f1 := vR.f 1
            have HX : Hid _ := hPX.done HN.out (by omega)
            have HY : Hid _ := hPY.done HM.out (by omega)
            have HA : Hid (∀ q, Blk vs' q → ¬ Blk xs' q) := fun q h1 h2 => by have := HBV.out q h1; have := hPY.blk q h2; omega
            have HBE : Hid _ := hbel
            clear hPX hPY vO vR hbel
            go_wp2
            refine bodyPost_ret (v := .agg #[.slice (some ⟨r1, 0, none⟩) k k, .slice (some ⟨r2, 0, none⟩) j j]) (by simp [results, Tryd.results49, go_sem, e0, e1]) rfl ⟨_, rfl, ?_, ?_⟩
            · have same : SameIn (w.heap.size + 1) wr.heap.size wr ((wr.setCell ⟨w.heap.size, 0, none⟩ (.slice (some ⟨r1, 0, none⟩) k k)).setCell ⟨w.heap.size, 1, none⟩ (.slice (some ⟨r2, 0, none⟩) j j)) := SameIn.trans (SameIn.set (.inl (by simp))) (SameIn.set (.inl (by simp)))
              exact ⟨_, _, vs', xs', rfl, (OwX.same HX.out same).wide (by omega) (by simp), (OwY.same HY.out same).wide (by omega) (by simp), HA.out⟩
            · exact (HBE.out.setCell (by simp) _).setCell (by simp) _
end Go.Proofs.YtjhaanenkeceiaaDoor
end

section
/- A write waits: the program's write, over the disk of a journal of the call's own. Conditions: the sector is there, the data is one, there is room. -/
namespace Go.Proofs.YtjhaanenkeceiaaDoor
open Go.RowKit
set_option linter.unusedVariables false
set_option linter.unusedSimpArgs false
attribute [local go_sem ↓] Go.wp_at_zero Go.wp_at_succ

theorem writeJ_leaf {P Q : Int} {w w3 wa w5 : World} {b g5 c5 m : Nat} {x y u : Value} {d1 : List (List Int)} {d2 : List Wt} {vs xs C : List Value} {l h : Nat} {p : Int} {zs : List Int} {o : Obj} (hv : VarJ 30 w b x y P Q) (o1 : OwX w l h x d1 vs)
    (hxl : xs.length = d2.length) (ho : w.ownsRow l 75 2 y m C) (hm : xs.length = m)
    (hC : ∀ i, i < m → C[i * 2]? = some (.int .i64 (d2[i]?.getD (0, [])).1) ∧ C[i * 2 + 1]? = some (xs[i]?.getD undef)) (he : ∀ i, i < m → OwB w l h (xs[i]?.getD undef) (d2[i]?.getD (0, [])).2)
    (hd : ∀ i j k, i < j → j < m → (xs[i]?.getD undef).ownBlock = some k → (xs[j]?.getD undef).ownBlock ≠ some k) (ha : ∀ q, Blk vs q → ¬ Blk xs q)
    (hh : h ≤ w.heap.size) (hlw : l ≤ w.heap.size) (hyb : y.ownBlock ≠ some b) (hyh : ∀ k, y.ownBlock = some k → k < h)
    (hb3 : Below w.heap.size w w3) (hu : OwB w3 w.heap.size w3.heap.size u zs) (hwa : wa = w3.alloc o)
    (ho5 : w5.ownsRow l 75 2 (.slice (some ⟨g5, 0, none⟩) (m + 1) c5) (m + 1) (C ++ [.int .i64 p, u])) (hg5 : wa.grownBy w5 y.ownBlock) (ha5 : y.ownBlock = some g5 ∨ g5 = wa.heap.size) (hl5 : g5 < w5.heap.size) :
    ∃ xs', OwX (w5.setCell ⟨b, 1, none⟩ (.slice (some ⟨g5, 0, none⟩) (m + 1) c5)) l (w5.setCell ⟨b, 1, none⟩ (.slice (some ⟨g5, 0, none⟩) (m + 1) c5)).heap.size x d1 vs ∧
      OwY (w5.setCell ⟨b, 1, none⟩ (.slice (some ⟨g5, 0, none⟩) (m + 1) c5)) l (w5.setCell ⟨b, 1, none⟩ (.slice (some ⟨g5, 0, none⟩) (m + 1) c5)).heap.size (.slice (some ⟨g5, 0, none⟩) (m + 1) c5) (d2 ++ [(p, zs)]) xs' ∧ (∀ q, Blk vs q → ¬ Blk xs' q) ∧
      VarJ 30 (w5.setCell ⟨b, 1, none⟩ (.slice (some ⟨g5, 0, none⟩) (m + 1) c5)) b x (.slice (some ⟨g5, 0, none⟩) (m + 1) c5) P Q ∧
      (∀ k, k < w.heap.size → k ≠ b → y.ownBlock ≠ some k → (w5.setCell ⟨b, 1, none⟩ (.slice (some ⟨g5, 0, none⟩) (m + 1) c5)).heap[k]? = w.heap[k]?) ∧
      ((w5.setCell ⟨b, 1, none⟩ (.slice (some ⟨g5, 0, none⟩) (m + 1) c5)).os = w.os ∧ (w5.setCell ⟨b, 1, none⟩ (.slice (some ⟨g5, 0, none⟩) (m + 1) c5)).tape = w.tape ∧ (w5.setCell ⟨b, 1, none⟩ (.slice (some ⟨g5, 0, none⟩) (m + 1) c5)).output = w.output ∧ w.heap.size ≤ (w5.setCell ⟨b, 1, none⟩ (.slice (some ⟨g5, 0, none⟩) (m + 1) c5)).heap.size) := by
  subst hm
  have hbw := hv.lt
  have hs3 := hb3.size
  have ha3 : Below w3.heap.size w3 wa := by rw [hwa]; exact Below.new _
  have hba : Below w.heap.size w wa := hb3.trans (ha3.mono hs3)
  have hsa := ha3.size
  have hs5 := hg5.size
  have far : ∀ k, k < w.heap.size → y.ownBlock ≠ some k → w5.heap[k]? = w.heap[k]? := fun k hk hne => (hg5.block k (by omega) (fun e => hne e.symm)).trans (hba.block k hk)
  have far6 : ∀ k, k < w.heap.size → k ≠ b → y.ownBlock ≠ some k → (w5.setCell ⟨b, 1, none⟩ (.slice (some ⟨g5, 0, none⟩) (xs.length + 1) c5)).heap[k]? = w.heap[k]? := fun k hk hne hy => (heap_setCell_other _ _ _ _ hne).trans (far k hk hy)
  have hY := OwY.snoc (h := h) hxl ho hC he hd hh hba ho5 hg5 hl5 ((hu.same (SameIn.ofBelow ha3 (Nat.le_refl _))).wide (Nat.le_refl _) hsa) hlw
  have hub := hu.2.1.lt
  refine ⟨xs ++ [u], ?_, ?_, ?_, ?_, far6, ⟨hg5.os.trans hba.os, hg5.tape.trans hba.tape, hg5.output.trans hba.output, by simp; omega⟩⟩
  · have h1 := o1.keep (w' := w5.setCell ⟨b, 1, none⟩ (.slice (some ⟨g5, 0, none⟩) (xs.length + 1) c5)) (fun q hq => far6 q (by have := o1.2.2.1 q hq; omega) (row_ne hv o1.2.1 (by decide) q hq) (fun e => ?_)) (fun q hq => far6 q (by have := o1.lt q hq; omega) (by obtain ⟨j, hj, hjk⟩ := hq; exact row_ne hv (o1.2.2.2.1 j hj).2.1 (by decide) q hjk) (fun e => ?_))
    · exact h1.wide (Nat.le_refl _) (by simp; omega)
    · rcases o1.2.1.2 with ⟨h0, _⟩ | ⟨g, c, cur, h0, _, hh1, _⟩
      · rw [h0] at hq; cases hq
      · rw [h0] at hq; cases hq
        rcases ho.2 with ⟨e1, _⟩ | ⟨g', c', cur', e1, _, hh', _⟩
        · rw [e1] at e; cases e
        · rw [e1] at e; cases e
          rw [hh1] at hh'
          simp at hh'
    · obtain ⟨j, hj, hjk⟩ := hq
      exact tag_ne ho (o1.2.2.2.1 j hj).2.1 (by decide) q e hjk
  · have h1 := hY.keep (w' := w5.setCell ⟨b, 1, none⟩ (.slice (some ⟨g5, 0, none⟩) (xs.length + 1) c5)) (fun q hq => heap_setCell_other _ _ _ _ (fun e => ?_))
    · simpa using h1
    · have e' : q = b := e
      subst e'
      obtain ⟨i, hi, hk⟩ := hq
      cases i with
      | zero =>
        have e2 : g5 = q := by have := slice_block (show (Value.slice (some ⟨g5, 0, none⟩) (xs.length + 1) c5).ownBlock = some q by simpa using hk); simpa using this
        subst e2
        rcases ha5 with ha5 | ha5
        · exact hyb ha5
        · omega
      | succ i =>
        have hk' : ((xs ++ [u])[i]?.getD undef).ownBlock = some q := by simpa using hk
        rw [getD_snoc] at hk'
        have hi' : i < xs.length + 1 := by simpa using hi
        by_cases h1 : i < xs.length
        · rw [if_pos h1] at hk'
          exact row_ne hv (he i h1).2.1 (by decide) q hk' rfl
        · rw [if_neg h1, if_pos (by omega)] at hk'
          have := (hub q hk').1
          omega
  · rintro q hq ⟨i, hi, hk⟩
    rw [getD_snoc] at hk
    have hql := o1.lt q hq
    have hi' : i < xs.length + 1 := by simpa using hi
    by_cases h1 : i < xs.length
    · rw [if_pos h1] at hk
      exact ha q hq ⟨i, h1, hk⟩
    · rw [if_neg h1, if_pos (by omega)] at hk
      have := (hub q hk).1
      omega
  · show _ = _
    rw [heap_setCell_same _ _ _ _ _ _ ((far b hbw hyb).trans hv)]; rfl

set_option maxHeartbeats 2000000 in
theorem writeJ_in (P Q : Int) (b q : Nat) (x y : Value) (d : Dk) (vs xs : List Value) (l h : Nat) (sl : Value) (zs : List Int) (l' h' : Nat) (w : World) (hv : VarJ 30 w b x y P Q) (o1 : OwX w l h x d.1 vs) (o2 : OwY w l h y d.2 xs) (ha : ∀ q, Blk vs q → ¬ Blk xs q)
    (hh : h ≤ w.heap.size) (hlb : l ≤ w.heap.size) (r : RdB w l' h' sl zs) (hh' : h' ≤ w.heap.size) (hq : q < d.1.length) (hn : d.1.length ≤ 2000) (hm : d.2.length < 2000) (hz : zs.length = 32) :
    Calls Tryd.prog 54 #[.pointer (some ⟨b, 0, none⟩), .int .i64 q, sl] w fun e w' => e = .returned .nilIface ∧ ∃ y' xs', OwX w' l w'.heap.size x d.1 vs ∧ OwY w' l w'.heap.size y' (d.2 ++ [((q : Int), zs)]) xs' ∧ (∀ q, Blk vs q → ¬ Blk xs' q) ∧ VarJ 30 w' b x y' P Q ∧
      (∀ k, k < w.heap.size → k ≠ b → y.ownBlock ≠ some k → w'.heap[k]? = w.heap[k]?) ∧ (w'.os = w.os ∧ w'.tape = w.tape ∧ w'.output = w.output ∧ w.heap.size ≤ w'.heap.size) := by
  obtain ⟨d1, d2⟩ := d
  obtain ⟨xa, n, xc, us, rfl, hnx, _, hcx, _⟩ := o1.bb.rd
  replace hnx : n = d1.length := hnx
  obtain ⟨gx, ox, rfl, hgx0, hgx1, hcc⟩ := hcx.resolve_left (by have : q < d1.length := hq; omega)
  have hqn : q < n := by rw [hnx]; exact hq
  have HSA : Hid _ := safeAt_in b gx ox q n xc (us q) w hv.c0 (hcc q hqn) hqn (by have : d1.length ≤ 2000 := hn; omega)
  obtain ⟨sa, sn, sc, rfl⟩ := r.sliced
  have hsn : sn = 32 := by obtain ⟨_, a', n', c', he, hl', _⟩ := r; simp only [Value.slice.injEq] at he; omega
  subst hsn
  obtain ⟨C, hxl, ho, hbf, hC, he, hdd⟩ := o2
  obtain ⟨ya, yc, hye⟩ : ∃ a c, y = .slice a xs.length c := by
    rcases ho.2 with ⟨h0, hz0⟩ | ⟨g, c, cur, h0, _⟩
    · exact ⟨none, 0, by rw [h0, hz0]⟩
    · exact ⟨_, _, h0⟩
  subst hye
  have hm2 : xs.length < 2000 := by have : d2.length < 2000 := hm; omega
  have hd2 : decide ((2000 : Int) ≤ (xs.length : Int)) = false := by simp; omega
  have c1 := hv.c1
  have f1 := hv.f 1
  have hbw := hv.lt
  generalize hxn : xs.length = m at c1 ho hbf hC he hdd hm2 hd2 hv
  have HRE : Hid (RdB w.drew l' h' (.slice sa 32 sc) zs) := r.same SameIn.drew
  have hhd : h' ≤ w.drew.heap.size := hh'
  have HO : Hid (w.ownsRow l 75 2 (.slice ya m yc) m C) := ho
  have HYB : Hid (Value.ownBlock (.slice ya m yc) ≠ some b) := fun e => row_ne hv ho (by decide) b e rfl
  have hylt := fun k hk => (ho.lt k hk).2
  have HYL : Hid _ := hylt
  have HYH : Hid (∀ k, Value.ownBlock (.slice ya m yc) = some k → k < h) := fun k hk => hbf k hk
  have HX : Hid (OwX w l h (.slice (some ⟨gx, ox, none⟩) n xc) d1 vs) := o1
  have HREST : Hid _ := And.intro hxl (And.intro hC (And.intro he hdd))
  have HXN : Hid _ := hxn
  have HV : Hid (VarJ 30 w b _ _ P Q) := hv
  have HAP : Hid _ := ha
  have hmb : m ≤ 4194304 := by omega
  clear r o1 ho hbf hC he hdd hxl ha hcc hcx hv hxn hylt hnx
  go_enter Tryd.func54, Tryd.ntmps54
  go_wp2_with fail
  refine Calls.mono HSA.out ?_
  rintro e w2 ⟨rfl, hw2⟩
  subst hw2
  go_wp2
  refine wp_region_noPanic ?_
  refine wp_region_held_drew (S := fun _ => True) (by kernel_rfl) trivial (fun hHeld => ?_)
  clear hHeld
  refine wpAnyH_take (i := 0) (v := ?_) rfl (by kernel_rfl) (by kernel_rfl) (by kernel_rfl) (fun _ _ _ h => h) (Or.inl ⟨by rfl, ?_⟩) trivial ?_
  rotate_left
  · (intro w_ hSw_; go_simp; try with_reducible rfl)
  try simp only [Act.put, List.setIfInBounds_toArray, List.set_cons_zero, List.set_cons_succ, List.getElem_toArray, List.getElem_cons_zero, List.getElem_cons_succ]
  refine wpAnyH_take (i := 1) (v := ?_) rfl (by kernel_rfl) (by kernel_rfl) (by kernel_rfl) (fun _ _ _ h => h) (Or.inl ⟨by rfl, ?_⟩) trivial ?_
  rotate_left
  · (intro w_ hSw_; go_simp; try with_reducible rfl)
  try simp only [Act.put, List.setIfInBounds_toArray, List.set_cons_zero, List.set_cons_succ, List.getElem_toArray, List.getElem_cons_zero, List.getElem_cons_succ]
  refine wpAnyH_take (i := 2) (v := ?_) rfl (by kernel_rfl) (by kernel_rfl) (by kernel_rfl) (fun _ _ _ h => h) (Or.inl ⟨by rfl, ?_⟩) trivial ?_
  rotate_left
  · (intro w_ hSw_; go_simp; try with_reducible rfl)
  try simp only [Act.put, List.setIfInBounds_toArray, List.set_cons_zero, List.set_cons_succ, List.getElem_toArray, List.getElem_cons_zero, List.getElem_cons_succ]
  refine wpAnyH_take (i := 3) (v := ?_) rfl (by kernel_rfl) (by kernel_rfl) (by kernel_rfl) (fun _ _ _ h => h) (Or.inl ⟨by rfl, ?_⟩) trivial ?_
  rotate_left
  · (intro w_ hSw_; go_simp; try with_reducible rfl)
  try simp only [Act.put, List.setIfInBounds_toArray, List.set_cons_zero, List.set_cons_succ, List.getElem_toArray, List.getElem_cons_zero, List.getElem_cons_succ]
  refine wpAnyH_take (i := 5) (v := ?_) rfl (by kernel_rfl) (by kernel_rfl) (by kernel_rfl) (fun _ _ _ h => h) (Or.inl ⟨by rfl, ?_⟩) trivial ?_
  rotate_left
  · (intro w_ hSw_; go_simp; try with_reducible rfl)
  try simp only [Act.put, List.setIfInBounds_toArray, List.set_cons_zero, List.set_cons_succ, List.getElem_toArray, List.getElem_cons_zero, List.getElem_cons_succ]
  refine wpAnyH_take (i := 6) (v := ?_) rfl (by kernel_rfl) (by kernel_rfl) (by kernel_rfl) (fun _ _ _ h => h) (Or.inl ⟨by rfl, ?_⟩) trivial ?_
  rotate_left
  · (intro w_ hSw_; go_simp; try with_reducible rfl)
  try simp only [Act.put, List.setIfInBounds_toArray, List.set_cons_zero, List.set_cons_succ, List.getElem_toArray, List.getElem_cons_zero, List.getElem_cons_succ]
  refine wpAnyH_ready (rs := [4, 7]) (by kernel_rfl) (by simp) ?_
  refine AllReadyH.cons rfl (fun K hK => ?_) ?_
  · go_simp
    refine hK.out _ _ trivial (fun hHeld => ?_)
    clear hK K hHeld
    try simp only [Act.put, List.setIfInBounds_toArray, List.set_cons_zero, List.set_cons_succ, List.getElem_toArray, List.getElem_cons_zero, List.getElem_cons_succ]
    refine wpAnyH_ready (rs := [7]) (by kernel_rfl) (by simp) ?_
    refine AllReadyH.cons rfl (fun K hK => ?_) AllReadyH.nil
    go_simp
    refine (newSector_any _ zs l' h' _ HRE.out hhd).mono ?_
    rintro e w3 ⟨u, rfl, ho3, hb3⟩
    obtain ⟨ua, un, uc, rfl⟩ := ho3.sliced
    have hb3' : Below w2.heap.size w2 w3 := (Below.drew (Below.refl _ _)).trans hb3
    have k1 := (VarJ.step HV.out hb3').c1
    have g1 := (VarJ.step HV.out hb3').f 1
    have hbw3 := Nat.lt_of_lt_of_le hbw hb3'.size
    have nb3 : ¬ b = w3.heap.size := Nat.ne_of_lt hbw3
    go_wp2_with fail
    refine hK.out _ _ trivial (fun hHeld => ?_)
    clear hK K hHeld
    try simp only [Act.put, List.setIfInBounds_toArray, List.set_cons_zero, List.set_cons_succ, List.getElem_toArray, List.getElem_cons_zero, List.getElem_cons_succ]
    refine wpAnyH_take (i := 8) (v := ?_) rfl (by kernel_rfl) (by kernel_rfl) (by kernel_rfl) (fun _ _ _ h => h) (Or.inl ⟨by rfl, ?_⟩) trivial ?_
    rotate_left
    · (intro w_ hSw_; go_simp; try with_reducible rfl)
    try simp only [Act.put, List.setIfInBounds_toArray, List.set_cons_zero, List.set_cons_succ, List.getElem_toArray, List.getElem_cons_zero, List.getElem_cons_succ]
    refine wpAnyH_ready (rs := [9]) (by kernel_rfl) (by simp) ?_
    refine AllReadyH.cons rfl (fun K hK => ?_) AllReadyH.nil
    go_simp
    refine hK.out _ _ trivial (fun hHeld => ?_)
    clear hK K hHeld
    try simp only [Act.put, List.setIfInBounds_toArray, List.set_cons_zero, List.set_cons_succ, List.getElem_toArray, List.getElem_cons_zero, List.getElem_cons_succ]
    refine wpAnyH_ready (rs := [10]) (by kernel_rfl) (by simp) ?_
    refine AllReadyH.cons rfl (fun K hK => ?_) AllReadyH.nil
    refine step_appW rfl (.tmp 33) (.tmp 38) (by rfl) l _ m C (by rfl) (World.ownsRow.alloc (ownsRow_kept2 HO.out (fun q hq => hb3'.block q (HYL.out q hq))) _) w3.heap.size (q : Int) (.slice ua un uc) (by rfl) (heap_alloc_new _ _) rfl hmb (Nat.le_trans hlb (Nat.le_trans hb3'.size (by simp))) ?_
    intro g5 c5 w5 ho5 hg5 ha5 hl5
    have hv5 : VarJ 30 w5 b _ _ P Q := (hg5.block b (by simp; omega) (fun e => HYB.out e.symm)).trans ((Below.heap_alloc w3 _ b hbw3).trans (VarJ.step HV.out hb3'))
    have k5 := hv5.c1
    have g5_ := hv5.f 1
    refine hK.out _ _ trivial (fun hHeld => ?_)
    clear hK K hHeld
    try simp only [Act.put, List.setIfInBounds_toArray, List.set_cons_zero, List.set_cons_succ, List.getElem_toArray, List.getElem_cons_zero, List.getElem_cons_succ]
    refine wpAnyH_take (i := 11) (v := ?_) rfl (by kernel_rfl) (by kernel_rfl) (by kernel_rfl) (fun _ _ _ h => h) (Or.inl ⟨by rfl, ?_⟩) trivial ?_
    rotate_left
    · (intro w_ hSw_; go_simp; try with_reducible rfl)
    try simp only [Act.put, List.setIfInBounds_toArray, List.set_cons_zero, List.set_cons_succ, List.getElem_toArray, List.getElem_cons_zero, List.getElem_cons_succ]
    refine wpAnyH_take (i := 12) (v := ?_) rfl (by kernel_rfl) (by kernel_rfl) (by kernel_rfl) (fun _ _ _ h => h) (Or.inl ⟨by rfl, ?_⟩) trivial ?_
    rotate_left
    · (intro w_ hSw_; go_simp; try with_reducible rfl)
    try simp only [Act.put, List.setIfInBounds_toArray, List.set_cons_zero, List.set_cons_succ, List.getElem_toArray, List.getElem_cons_zero, List.getElem_cons_succ]
    refine wpAnyH_ready (rs := [13]) (by kernel_rfl) (by simp) ?_
    refine AllReadyH.cons rfl (fun K hK => ?_) AllReadyH.nil
    go_simp
    refine hK.out _ _ trivial (fun hHeld => ?_)
    clear hK K hHeld
    try simp only [Act.put, List.setIfInBounds_toArray, List.set_cons_zero, List.set_cons_succ, List.getElem_toArray, List.getElem_cons_zero, List.getElem_cons_succ]
    refine wpAnyH_done (by kernel_rfl) (NoPanic.normal ?_) _
    rw [sec_full hz] at ho3
    have HL : Hid _ := writeJ_leaf HV.out HX.out HREST.out.1 HO.out HXN.out HREST.out.2.1 HREST.out.2.2.1 HREST.out.2.2.2 HAP.out hh hlb HYB.out HYH.out hb3' (OwB.of HRE.out.1 ho3) rfl ho5 hg5 ha5 hl5
    clear ho3 hb3 hb3' k1 g1 ho5 hg5 ha5 hv5 k5 g5_
    go_wp2
    go_ret
    obtain ⟨xs', h1, h2, h3, h4, h5, h6⟩ := HL.out
    exact ⟨rfl, _, xs', h1, h2, h3, h4, h5, h6⟩
  refine AllReadyH.cons rfl (fun K hK => ?_) AllReadyH.nil
  go_simp
  refine (newSector_any _ zs l' h' _ HRE.out hhd).mono ?_
  rintro e w3 ⟨u, rfl, ho3, hb3⟩
  obtain ⟨ua, un, uc, rfl⟩ := ho3.sliced
  have hb3' : Below w2.heap.size w2 w3 := (Below.drew (Below.refl _ _)).trans hb3
  have k1 := (VarJ.step HV.out hb3').c1
  have g1 := (VarJ.step HV.out hb3').f 1
  have hbw3 := Nat.lt_of_lt_of_le hbw hb3'.size
  have nb3 : ¬ b = w3.heap.size := Nat.ne_of_lt hbw3
  go_wp2_with fail
  refine hK.out _ _ trivial (fun hHeld => ?_)
  clear hK K hHeld
  try simp only [Act.put, List.setIfInBounds_toArray, List.set_cons_zero, List.set_cons_succ, List.getElem_toArray, List.getElem_cons_zero, List.getElem_cons_succ]
  refine wpAnyH_take (i := 8) (v := ?_) rfl (by kernel_rfl) (by kernel_rfl) (by kernel_rfl) (fun _ _ _ h => h) (Or.inl ⟨by rfl, ?_⟩) trivial ?_
  rotate_left
  · (intro w_ hSw_; go_simp; try with_reducible rfl)
  try simp only [Act.put, List.setIfInBounds_toArray, List.set_cons_zero, List.set_cons_succ, List.getElem_toArray, List.getElem_cons_zero, List.getElem_cons_succ]
  refine wpAnyH_ready (rs := [4, 9]) (by kernel_rfl) (by simp) ?_
  refine AllReadyH.cons rfl (fun K hK => ?_) ?_
  · go_simp
    refine hK.out _ _ trivial (fun hHeld => ?_)
    clear hK K hHeld
    try simp only [Act.put, List.setIfInBounds_toArray, List.set_cons_zero, List.set_cons_succ, List.getElem_toArray, List.getElem_cons_zero, List.getElem_cons_succ]
    refine wpAnyH_ready (rs := [9]) (by kernel_rfl) (by simp) ?_
    refine AllReadyH.cons rfl (fun K hK => ?_) AllReadyH.nil
    go_simp
    refine hK.out _ _ trivial (fun hHeld => ?_)
    clear hK K hHeld
    try simp only [Act.put, List.setIfInBounds_toArray, List.set_cons_zero, List.set_cons_succ, List.getElem_toArray, List.getElem_cons_zero, List.getElem_cons_succ]
    refine wpAnyH_ready (rs := [10]) (by kernel_rfl) (by simp) ?_
    refine AllReadyH.cons rfl (fun K hK => ?_) AllReadyH.nil
    refine step_appW rfl (.tmp 33) (.tmp 38) (by rfl) l _ m C (by rfl) (World.ownsRow.alloc (ownsRow_kept2 HO.out (fun q hq => hb3'.block q (HYL.out q hq))) _) w3.heap.size (q : Int) (.slice ua un uc) (by rfl) (heap_alloc_new _ _) rfl hmb (Nat.le_trans hlb (Nat.le_trans hb3'.size (by simp))) ?_
    intro g5 c5 w5 ho5 hg5 ha5 hl5
    have hv5 : VarJ 30 w5 b _ _ P Q := (hg5.block b (by simp; omega) (fun e => HYB.out e.symm)).trans ((Below.heap_alloc w3 _ b hbw3).trans (VarJ.step HV.out hb3'))
    have k5 := hv5.c1
    have g5_ := hv5.f 1
    refine hK.out _ _ trivial (fun hHeld => ?_)
    clear hK K hHeld
    try simp only [Act.put, List.setIfInBounds_toArray, List.set_cons_zero, List.set_cons_succ, List.getElem_toArray, List.getElem_cons_zero, List.getElem_cons_succ]
    refine wpAnyH_take (i := 11) (v := ?_) rfl (by kernel_rfl) (by kernel_rfl) (by kernel_rfl) (fun _ _ _ h => h) (Or.inl ⟨by rfl, ?_⟩) trivial ?_
    rotate_left
    · (intro w_ hSw_; go_simp; try with_reducible rfl)
    try simp only [Act.put, List.setIfInBounds_toArray, List.set_cons_zero, List.set_cons_succ, List.getElem_toArray, List.getElem_cons_zero, List.getElem_cons_succ]
    refine wpAnyH_take (i := 12) (v := ?_) rfl (by kernel_rfl) (by kernel_rfl) (by kernel_rfl) (fun _ _ _ h => h) (Or.inl ⟨by rfl, ?_⟩) trivial ?_
    rotate_left
    · (intro w_ hSw_; go_simp; try with_reducible rfl)
    try simp only [Act.put, List.setIfInBounds_toArray, List.set_cons_zero, List.set_cons_succ, List.getElem_toArray, List.getElem_cons_zero, List.getElem_cons_succ]
    refine wpAnyH_ready (rs := [13]) (by kernel_rfl) (by simp) ?_
    refine AllReadyH.cons rfl (fun K hK => ?_) AllReadyH.nil
    go_simp
    refine hK.out _ _ trivial (fun hHeld => ?_)
    clear hK K hHeld
    try simp only [Act.put, List.setIfInBounds_toArray, List.set_cons_zero, List.set_cons_succ, List.getElem_toArray, List.getElem_cons_zero, List.getElem_cons_succ]
    refine wpAnyH_done (by kernel_rfl) (NoPanic.normal ?_) _
    rw [sec_full hz] at ho3
    have HL : Hid _ := writeJ_leaf HV.out HX.out HREST.out.1 HO.out HXN.out HREST.out.2.1 HREST.out.2.2.1 HREST.out.2.2.2 HAP.out hh hlb HYB.out HYH.out hb3' (OwB.of HRE.out.1 ho3) rfl ho5 hg5 ha5 hl5
    clear ho3 hb3 hb3' k1 g1 ho5 hg5 ha5 hv5 k5 g5_
    go_wp2
    go_ret
    obtain ⟨xs', h1, h2, h3, h4, h5, h6⟩ := HL.out
    exact ⟨rfl, _, xs', h1, h2, h3, h4, h5, h6⟩
  refine AllReadyH.cons rfl (fun K hK => ?_) AllReadyH.nil
  go_simp
  refine hK.out _ _ trivial (fun hHeld => ?_)
  clear hK K hHeld
  try simp only [Act.put, List.setIfInBounds_toArray, List.set_cons_zero, List.set_cons_succ, List.getElem_toArray, List.getElem_cons_zero, List.getElem_cons_succ]
  refine wpAnyH_ready (rs := [4]) (by kernel_rfl) (by simp) ?_
  refine AllReadyH.cons rfl (fun K hK => ?_) AllReadyH.nil
  go_simp
  refine hK.out _ _ trivial (fun hHeld => ?_)
  clear hK K hHeld
  try simp only [Act.put, List.setIfInBounds_toArray, List.set_cons_zero, List.set_cons_succ, List.getElem_toArray, List.getElem_cons_zero, List.getElem_cons_succ]
  refine wpAnyH_ready (rs := [10]) (by kernel_rfl) (by simp) ?_
  refine AllReadyH.cons rfl (fun K hK => ?_) AllReadyH.nil
  refine step_appW rfl (.tmp 33) (.tmp 38) (by rfl) l _ m C (by rfl) (World.ownsRow.alloc (ownsRow_kept2 HO.out (fun q hq => hb3'.block q (HYL.out q hq))) _) w3.heap.size (q : Int) (.slice ua un uc) (by rfl) (heap_alloc_new _ _) rfl hmb (Nat.le_trans hlb (Nat.le_trans hb3'.size (by simp))) ?_
  intro g5 c5 w5 ho5 hg5 ha5 hl5
  have hv5 : VarJ 30 w5 b _ _ P Q := (hg5.block b (by simp; omega) (fun e => HYB.out e.symm)).trans ((Below.heap_alloc w3 _ b hbw3).trans (VarJ.step HV.out hb3'))
  have k5 := hv5.c1
  have g5_ := hv5.f 1
  refine hK.out _ _ trivial (fun hHeld => ?_)
  clear hK K hHeld
  try simp only [Act.put, List.setIfInBounds_toArray, List.set_cons_zero, List.set_cons_succ, List.getElem_toArray, List.getElem_cons_zero, List.getElem_cons_succ]
  refine wpAnyH_take (i := 11) (v := ?_) rfl (by kernel_rfl) (by kernel_rfl) (by kernel_rfl) (fun _ _ _ h => h) (Or.inl ⟨by rfl, ?_⟩) trivial ?_
  rotate_left
  · (intro w_ hSw_; go_simp; try with_reducible rfl)
  try simp only [Act.put, List.setIfInBounds_toArray, List.set_cons_zero, List.set_cons_succ, List.getElem_toArray, List.getElem_cons_zero, List.getElem_cons_succ]
  refine wpAnyH_take (i := 12) (v := ?_) rfl (by kernel_rfl) (by kernel_rfl) (by kernel_rfl) (fun _ _ _ h => h) (Or.inl ⟨by rfl, ?_⟩) trivial ?_
  rotate_left
  · (intro w_ hSw_; go_simp; try with_reducible rfl)
  try simp only [Act.put, List.setIfInBounds_toArray, List.set_cons_zero, List.set_cons_succ, List.getElem_toArray, List.getElem_cons_zero, List.getElem_cons_succ]
  refine wpAnyH_ready (rs := [13]) (by kernel_rfl) (by simp) ?_
  refine AllReadyH.cons rfl (fun K hK => ?_) AllReadyH.nil
  go_simp
  refine hK.out _ _ trivial (fun hHeld => ?_)
  clear hK K hHeld
  try simp only [Act.put, List.setIfInBounds_toArray, List.set_cons_zero, List.set_cons_succ, List.getElem_toArray, List.getElem_cons_zero, List.getElem_cons_succ]
  refine wpAnyH_done (by kernel_rfl) (NoPanic.normal ?_) _
  rw [sec_full hz] at ho3
  have HL : Hid _ := writeJ_leaf HV.out HX.out HREST.out.1 HO.out HXN.out HREST.out.2.1 HREST.out.2.2.1 HREST.out.2.2.2 HAP.out hh hlb HYB.out HYH.out hb3' (OwB.of HRE.out.1 ho3) rfl ho5 hg5 ha5 hl5
  clear ho3 hb3 hb3' k1 g1 ho5 hg5 ha5 hv5 k5 g5_
  go_wp2
  go_ret
  obtain ⟨xs', h1, h2, h3, h4, h5, h6⟩ := HL.out
  exact ⟨rfl, _, xs', h1, h2, h3, h4, h5, h6⟩
end Go.Proofs.YtjhaanenkeceiaaDoor
end

section
/- All that waits is made safe: the program's flush, over the disk of a journal of the call's own that is DiskOk. -/
namespace Go.Proofs.YtjhaanenkeceiaaDoor
open Go.RowKit
set_option linter.unusedVariables false
set_option linter.unusedSimpArgs false
attribute [local go_sem ↓] Go.wp_at_zero Go.wp_at_succ

set_option maxHeartbeats 2000000 in
theorem makeSafeJ_any (P Q : Int) (b q c : Nat) (x y : Value) (zss : List (List Int)) (vs : List Value) (l h : Nat) (sl : Value) (zs : List Int) (l' h' : Nat) (w : World) (hv : VarJ 30 w b x y P Q) (o : OwX w l h x zss vs) (hq : q < zss.length)
    (hz : (zss[q]?.getD []).length = 32) (r : RdB w l' h' sl zs) (hl : zs.length = 32) (hc : c ≤ 32) (hh : h ≤ w.heap.size) (hh' : h' ≤ w.heap.size) (hn : zss.length ≤ 2000) :
    Calls Tryd.prog 78 #[.pointer (some ⟨b, 0, none⟩), .agg #[.int .i64 q, sl], .int .i64 c] w fun e w' => (∃ u, e = .returned u) ∧ OwX w' l h x (zss.set q (mixed (zss[q]?.getD []) zs c)) vs ∧ w.grownBy w' (vs[q]?.getD undef).ownBlock := by
  have b1 := Below.new (w := w) (.cells #[.int .i64 (q : Int), sl] 75)
  have o1 := o.same (SameIn.ofBelow b1 hh)
  have r1 := r.same (SameIn.ofBelow b1 hh')
  have v1 := hv.step b1
  have hgrow : w.grownBy (w.alloc (.cells #[.int .i64 (q : Int), sl] 75)) (vs[q]?.getD undef).ownBlock := World.grownBy_alloc w _ _
  obtain ⟨sa, sn, sc, rfl⟩ := r.sliced
  have q0 : (w.alloc (.cells #[.int .i64 (q : Int), .slice sa sn sc] 75)).cell? ⟨w.heap.size, 0, none⟩ = some (.int .i64 (q : Int)) := by rw [World.cell?_alloc_at _ _ _ _ rfl]; rfl
  have q1 : (w.alloc (.cells #[.int .i64 (q : Int), .slice sa sn sc] 75)).cell? ⟨w.heap.size, 1, none⟩ = some (.slice sa sn sc) := by rw [World.cell?_alloc_at _ _ _ _ rfl]; rfl
  generalize hw1 : w.alloc (.cells #[.int .i64 (q : Int), .slice sa sn sc] 75) = w1 at b1 o1 r1 v1 hgrow q0 q1
  have HW1 : Hid _ := hw1
  have s1 := b1.size
  obtain ⟨gr, cr, u, hxv, hcell, hue, hub, hput⟩ := OwX.put (w' := w1) (new := []) o1 hq
  subst hxv
  obtain ⟨hubb, huo, hubf⟩ := hub
  rcases huo.2 with ⟨_, h0⟩ | ⟨g, cap, cur, huv, hgl, hgh, hnc, hm, hs, ht⟩
  · omega
  rw [hz] at huv hnc
  obtain ⟨hzb, sa', sn', sc', hse, hsn, hsh, hsr⟩ := r1.reads
  simp only [Value.slice.injEq] at hse
  obtain ⟨rfl, rfl, rfl⟩ := hse
  have hlen : sn = 32 := by omega
  subst hlen
  have hcap : 32 ≤ sc := hsh.1
  have hcapm : sc ≤ 9223372036854775807 := by have := hsh.2.1; unfold maxLen at this; omega
  have c0 := v1.c0
  have hi0 : (0 : Int) ≤ (q : Int) := by omega
  have hi1 : (q : Int) < (zss.length : Int) := by omega
  have hk0 : (0 : Int) ≤ (c : Int) := by omega
  have hk1 : (c : Int) ≤ (sc : Int) := by omega
  have hbr : b < w1.heap.size := v1.lt
  have hrlt : gr < w1.heap.size := block_lt_of_cell (a := ⟨gr, q, none⟩) hcell
  have hwlt : w.heap.size < w1.heap.size := block_lt_of_cell (a := ⟨w.heap.size, 0, none⟩) q0
  have HU : Hid (u = .slice (some ⟨g, 0, none⟩) 32 cap) := huv
  have HPUT : Hid _ := hput
  have HOWN : Hid (Owns w1 l (.slice (some ⟨g, 0, none⟩) 32 cap) (zss[q]?.getD [])) := by rw [← huv]; exact huo
  have HUE : Hid _ := hue
  rw [huv] at hcell
  have HGH : Hid (w1.drew.heap[g]? = some (.cells cur 5 (0, 0))) := hgh
  have HLN : Hid ((bcells (zs.take c)).length = Nat.min c 32) := by show _ = _; rw [bcells_length, List.length_take, hl]
  have HFIT : Hid ((bcells (zs.take c)).length ≤ cur.size) := by show _ ≤ _; rw [bcells_length, List.length_take, hs]; omega
  have HPOS : Hid (0 < (bcells (zs.take c)).length → ∃ ad, sa = some ad ∧ ∀ j v, (bcells (zs.take c))[j]? = some v → w1.drew.cell? (ad.add j) = some v) := fun h0 => by
    obtain ⟨a', l2, c2, e, _, qq⟩ := r1.cells c
    simp only [Value.slice.injEq] at e
    obtain ⟨rfl, rfl, rfl⟩ := e
    exact qq h0
  have HGR : Hid _ := hgrow
  have HZB : Hid _ := And.intro hubb hzb
  have nb : ¬ b = g := fun e => by
    subst e
    have := v1; unfold VarJ at this
    rw [hgh] at this; simp at this
  have nw : ¬ w.heap.size = g := fun e => by have := (o.2.2.1); have h3 := hubf g (by rw [huv]; rfl); omega
  have nr : ¬ gr = g := fun e => by
    subst e
    rcases o1.2.1.2 with ⟨hv0, _⟩ | ⟨g', c', cur', hv0, _, hh1, _⟩
    · cases hv0
    · simp only [Value.slice.injEq, Option.some.injEq, Addr.mk.injEq, and_true] at hv0
      obtain ⟨rfl, _⟩ := hv0
      rw [hgh] at hh1; simp at hh1
  have HNE : Hid _ := And.intro nb (And.intro nw nr)
  clear hw1 b1 o1 o r1 r v1 hv hgrow huo ht hs hm hnc hgh hput huv hsr hsh hsn hubb hzb hgl hubf hue
  go_enter Tryd.func78, Tryd.ntmps78
  go_wp2_with fail
  rw [HW1.out]
  go_region_held3 (fun w' => w'.cell? ⟨b, 0, none⟩ = some (.slice (some ⟨gr, 0, none⟩) zss.length cr) ∧ w'.cell? ⟨w.heap.size, 0, none⟩ = some (.int .i64 (q : Int)) ∧ w'.cell? ⟨w.heap.size, 1, none⟩ = some (.slice sa 32 sc) ∧ w'.cell? ⟨gr, q, none⟩ = some (.slice (some ⟨g, 0, none⟩) 32 cap)) (first | go_keep | (refine ⟨?_, ?_, ?_, ?_⟩ <;> assumption)) (first | (refine step_copy_one rfl (.tmp 13) (.tmp 17) (by rfl) g 32 cap sa c sc (by rfl) (by rfl) cur HGH.out (bcells (zs.take c)) HLN.out HPOS.out HFIT.out (bcells_one _) ?_; intro w5 HG5 hg5; have k1 := (hg5.cell_far ⟨b, 0, none⟩ hbr (fun e => HNE.out.1 (by simpa using e))).trans c0; have k2 := (hg5.cell_far ⟨w.heap.size, 0, none⟩ hwlt (fun e => HNE.out.2.1 (by simpa using e))).trans q0; have k3 := (hg5.cell_far ⟨w.heap.size, 1, none⟩ hwlt (fun e => HNE.out.2.1 (by simpa using e))).trans q1; have k4 := (hg5.cell_far ⟨gr, q, none⟩ hrlt (fun e => HNE.out.2.2 (by simpa using e))).trans hcell))
  have HF : Hid (OwX w5 l h (.slice (some ⟨gr, 0, none⟩) zss.length cr) (zss.set q (mixed (zss[q]?.getD []) zs c)) vs) := by
    refine HPUT.out w5 _ (mixed_bytes HZB.out.1 HZB.out.2) ?_ ?_
    · rw [HU.out]
      have h5 := HOWN.out.spliced (w' := w5) (ys := zs.take c) HGH.out (by rw [List.length_take, hl, hz]; omega) HG5.out
      have e : (zs.take c).length = c := by rw [List.length_take, hl]; omega
      rw [e] at h5
      exact h5
    · rw [HU.out]; exact ⟨hg5.os, hg5.tape, hg5.output, hg5.size, hg5.block⟩
  have HGF : Hid (w.grownBy w5 (vs[q]?.getD undef).ownBlock) := by
    refine grown_trans HGR.out ?_
    rw [← HUE.out, HU.out]
    exact ⟨hg5.os, hg5.tape, hg5.output, hg5.size, hg5.block⟩
  clear k1 k2 k3 k4 c0 q0 q1 hcell
  go_wp2
  refine bodyPost_end (v := .tuple #[]) (by simp [results, Tryd.results78, go_sem]) rfl ⟨⟨_, rfl⟩, HF.out, HGF.out⟩
def FRelJ (P Q : Int) (w : World) (b : Nat) (x y : Value) (d : Dk) (vs xs : List Value) (l h m : Nat) (i : Value) (wr : World) : Prop :=
  ∃ k : Nat, k ≤ m ∧ i = .int .i64 k ∧ OwX wr l h x (flushS d.1 (d.2.take k)) vs ∧ OwY wr l h y d.2 xs ∧ VarJ 30 wr b x y P Q ∧ TurnsV vs w wr

set_option maxHeartbeats 2000000 in
theorem flushJ_any (P Q : Int) (b : Nat) (x y : Value) (d : Dk) (vs xs : List Value) (l h : Nat) (w : World) (hv : VarJ 30 w b x y P Q) (o1 : OwX w l h x d.1 vs) (o2 : OwY w l h y d.2 xs) (ha : ∀ q, Blk vs q → ¬ Blk xs q) (hb : ¬ Blk vs b) (hh : h ≤ w.heap.size) (hok : okD d = true) :
    Calls Tryd.prog 68 #[.pointer (some ⟨b, 0, none⟩)] w fun e w' => (∃ u, e = .returned u) ∧ OwX w' l h x (flushS d.1 d.2) vs ∧ VarJ 30 w' b x (.slice none 0 0) P Q ∧ TurnsV (.slice (some ⟨b, 0, none⟩) 0 0 :: vs) w w' := by
  obtain ⟨d1, d2⟩ := d
  have hok' := hok
  unfold okD at hok'
  simp only [Bool.and_eq_true, decide_eq_true_eq, List.all_eq_true] at hok'
  obtain ⟨⟨⟨hn2, hm2⟩, hs⟩, hw⟩ := hok'
  have HWH : Hid (Whole d1) := fun i hi => by
    have := hs _ (List.getElem_mem hi)
    simp [secOk] at this
    simp [hi, this]
  have HWW : Hid (∀ i, i < d2.length → 0 ≤ (d2[i]?.getD (0, [])).1 ∧ (d2[i]?.getD (0, [])).1 < (d1.length : Int) ∧ (d2[i]?.getD (0, [])).2.length = 32) := fun i hi => by
    have := hw _ (List.getElem_mem hi)
    simp [waitOk, secOk] at this
    simp [hi]
    omega
  obtain ⟨ya, m, yc, us, rfl, hm, hhd, hc, he⟩ := o2.ww.rd
  replace hm : m = d2.length := hm
  have hbw := hv.lt
  have HM : Hid _ := hm
  have hm3 : m ≤ 2000 := by omega
  have c1 := hv.c1
  have HA : Hid _ := ha
  have HBN : Hid _ := hb
  have HST : Hid (FRelJ P Q w b x (.slice ya m yc) (d1, d2) vs xs l h m (.int .i64 0) w) := ⟨0, Nat.zero_le _, rfl, by simpa [flushS] using o1, o2, hv, TurnsV.refl _ _⟩
  clear hok hs hw hm hc he hhd o1 o2 hv ha hb us
  go_enter Tryd.func68, Tryd.ntmps68
  go_wp2
  go_loopw [9] (fun i wr => FRelJ P Q w b x (.slice ya m yc) (d1, d2) vs xs l h m i wr) (fun i _ => m - (intOf i).toNat)
  case atStart => exact HST.out
  case round =>
    clear HST c1
    obtain ⟨k, hk, rfl, hX, hY, vO, ht⟩ := hrel
    have hsz := ht.size
    by_cases hlt : k < m
    · obtain ⟨hp0, hp1, hp2⟩ := HWW.out k (by rw [← HM.out]; exact hlt)
      have hfl : (flushS d1 (d2.take k)).length = d1.length := flushS_length _ _
      have hwh := Whole.flush HWH.out (fun i hi => (HWW.out i hi).2.2) k (by rw [← HM.out]; omega)
      have hnx := flushS_next d1 d2 k (by rw [← HM.out]; exact hlt)
      obtain ⟨a2, m2, c2, us, hye, hm2', _, hcc, hee⟩ := hY.ww.rd
      simp only [Value.slice.injEq] at hye
      obtain ⟨rfl, rfl, rfl⟩ := hye
      obtain ⟨g, off, rfl, hg0, hgh, hcell⟩ := hcc.resolve_left (by omega)
      have h1 := (hcell k hlt).1
      have h2 := (hcell k hlt).2
      have hrd := hee k hlt
      have hws : g < wr.heap.size := by omega
      obtain ⟨q, hq⟩ : ∃ q : Nat, (d2[k]?.getD (0, [])).1 = (q : Int) := ⟨(d2[k]?.getD (0, [])).1.toNat, by omega⟩
      have hst : stepS (flushS d1 (d2.take k)) (d2[k]?.getD (0, [])) 32 = (flushS d1 (d2.take k)).set q (mixed ((flushS d1 (d2.take k))[q]?.getD []) (d2[k]?.getD (0, [])).2 32) := by unfold stepS; rw [hq, Int.toNat_natCast]
      rw [hq] at h1 hp0 hp1
      rw [hst] at hnx
      generalize (d2[k]?.getD (0, [])).2 = zs at hrd hp2 hnx
      generalize us k = sl at h2 hrd
      generalize flushS d1 (d2.take k) = S0 at hX hfl hwh hnx
      have hqs : q < S0.length := by omega
      obtain ⟨sa, sn, sc, rfl⟩ := hrd.sliced
      have hi0 : (0 : Int) ≤ (k : Int) := by omega
      have hi1 : (k : Int) < (m : Int) := by omega
      have b4 := Below.new (w := wr) (.cells #[.int .i64 (q : Int), .slice sa sn sc] 75)
      have HMS : Hid _ := makeSafeJ_any P Q b q 32 x (.slice (some ⟨g, off, none⟩) m yc) S0 vs l h (.slice sa sn sc) zs l h _ (vO.step b4) (hX.same (SameIn.ofBelow b4 (by omega))) hqs (hwh q hqs) (hrd.same (SameIn.ofBelow b4 (by omega))) hp2 (by omega) (by simp; omega) (by simp; omega) (by omega)
      have HX : Hid (OwX wr l h x S0 vs) := hX
      have HY : Hid (OwY wr l h _ d2 xs) := hY
      have HVO : Hid (VarJ 30 wr b _ _ P Q) := vO
      have HNX : Hid _ := hnx
      have HT : Hid (TurnsV vs w wr) := ht
      have HB4 : Hid _ := b4
      have HQV : Hid (q < vs.length) := by show q < _; have := hX.1; omega
      clear hm2' hX hY vO ht hnx hst hq hcc hcell hee hrd hwh hfl b4
      go_wp2_with fail
      refine Calls.mono HMS.out ?_
      rintro e w5 ⟨⟨u, rfl⟩, hX5, hg5⟩
      have hgv : TurnsV vs wr w5 := (TurnsV.ofBelow HB4.out).trans (TurnsV.ofGrown hg5 (fun q' hq' => ⟨q, HQV.out, hq'⟩))
      have hlX := OwX.lt HX.out
      have HR : Hid (FRelJ P Q w b x (.slice (some ⟨g, off, none⟩) m yc) (d1, d2) vs xs l h m (.int .i64 ((k : Int) + 1)) w5) := by
        refine ⟨k + 1, by omega, by go_num, by rw [HNX.out]; exact hX5, ?_, ?_, HT.out.trans hgv⟩
        · refine OwY.keep HY.out (fun q' hq' => hgv.block q' (by have := OwY.lt HY.out q' hq'; omega) (fun hbv => ?_))
          obtain ⟨i, hi, hk'⟩ := hq'
          cases i with
          | zero =>
            obtain ⟨C, _, h2, _⟩ := HY.out
            obtain ⟨j, hj, hjk⟩ := hbv
            exact tag_ne h2 ((OwX.same HX.out (SameIn.refl _ _ _)).2.2.2.1 j hj).2.1 (by decide) q' (by simpa using hk') hjk
          | succ i => exact HA.out q' hbv ⟨i, by simpa using hi, by simpa using hk'⟩
        · exact (hgv.block b (VarJ.lt HVO.out) HBN.out).trans HVO.out
      clear HX HY HVO HMS hX5 hg5 hgv hlX HNX HT HB4 h1 h2
      go_wp2
      refine ⟨?_, by simp [intOf]; omega⟩
      first | exact HR.out | exact ⟨_, _, _, _, _, _, _, _, _, HR.out, rfl⟩
    · have hkm : k = m := by omega
      subst hkm
      have c1 := vO.c1
      have f1 := vO.f 1
      have e1 : d2.take k = d2 := List.take_of_length_le (by rw [← HM.out]; exact Nat.le_refl _)
      rw [e1] at hX
      have HX : Hid (OwX wr l h x (flushS d1 d2) vs) := hX
      have HVO : Hid (VarJ 30 wr b _ _ P Q) := vO
      have HT : Hid (TurnsV vs w wr) := ht
      have hxb : ∀ q, x.ownBlock = some q → q ≠ b := fun q hq e => by
        subst e
        rcases hX.2.1.2 with ⟨h0, _⟩ | ⟨g, c, cur, h0, _, hh1, _⟩
        · rw [h0] at hq; cases hq
        · rw [h0] at hq; cases hq
          have := vO; unfold VarJ at this
          rw [hh1] at this; simp at this
      have HXB : Hid _ := hxb
      clear hX vO ht hY e1 hxb
      go_wp2
      refine bodyPost_end (v := .tuple #[]) (by simp [results, Tryd.results68, go_sem]) rfl ⟨⟨_, rfl⟩, ?_, ?_, ?_⟩
      · refine OwX.keep HX.out (fun q hq => heap_setCell_other _ _ _ _ (HXB.out q hq)) (fun q hq => heap_setCell_other _ _ _ _ (fun e => HBN.out (by rw [← show q = b from e]; exact hq)))
      · show _ = _
        rw [heap_setCell_same _ _ _ _ _ _ HVO.out]; rfl
      · refine HT.out.more.trans ⟨rfl, rfl, rfl, by simp, fun q _ hq => heap_setCell_other _ _ _ _ (fun e => hq ⟨0, by simp, ?_⟩)⟩
        have e' : q = b := e
        rw [e']; rfl
end Go.Proofs.YtjhaanenkeceiaaDoor
end
