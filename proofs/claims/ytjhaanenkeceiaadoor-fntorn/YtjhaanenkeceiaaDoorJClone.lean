/- The program's copy of the disk of a journal. Condition: that it is DiskOk. -/
import Derived.Test.YtjhaanenkeceiaaDoorClone
import Derived.Test.YtjhaanenkeceiaaDoorJournals
import Derived.Deep.CutRange
import Derived.Deep.DrawnRows
import Derived.Stop.LaidErr
namespace Go.Proofs.YtjhaanenkeceiaaDoor
open Go.RowKit
set_option linter.unusedVariables false
set_option linter.unusedSimpArgs false
attribute [local go_sem ↓] Go.wp_at_zero Go.wp_at_succ

set_option maxHeartbeats 2000000 in
theorem cloneJ_any (P Q : Int) (b : Nat) (x y : Value) (d : Dk) (l h : Nat) (w : World) (hv : VarJ 30 w b x y P Q) (r : RdBB w l h x d.1) (s : RdWs w l h y d.2) (hh : h ≤ w.heap.size) (hok : okD d = true) :
    Calls Tryd.prog 49 #[.pointer (some ⟨b, 0, none⟩)] w fun e w' => ∃ u, e = .returned u ∧ OwD2 w' w.heap.size w'.heap.size u d ∧ Below w.heap.size w w' := by
  obtain ⟨d1, d2⟩ := d
  have R1 := fun W hW => r.same (SameIn.ofBelow (w' := W) hW hh)
  have R2 := fun W hW => s.same (SameIn.ofBelow (w' := W) hW hh)
  obtain ⟨xa, n, xc, vs, rfl, hn, hhd, hc, he⟩ := r
  obtain ⟨ya, m, yc, us, rfl, hm, hhd', hc', he'⟩ := s
  replace hn : n = d1.length := hn
  replace hm : m = d2.length := hm
  have hok' := hok
  unfold okD at hok'
  simp only [Bool.and_eq_true, decide_eq_true_eq, List.all_eq_true] at hok'
  have hn2 : n ≤ 2000 := by rw [hn]; exact hok'.1.1.1
  have hm2 : m ≤ 2000 := by rw [hm]; exact hok'.1.1.2
  have HL1 : Hid (∀ i, i < n → (d1[i]?.getD []).length = 32) := fun i hi => by
    have hi' : i < d1.length := by omega
    have := hok'.1.2 _ (List.getElem_mem hi')
    simp [secOk] at this
    simp [hi', this]
  have HL2 : Hid (∀ i, i < m → (d2[i]?.getD (0, [])).2.length = 32) := fun i hi => by
    have hi' : i < d2.length := by omega
    have := hok'.2 _ (List.getElem_mem hi')
    simp [waitOk, secOk] at this
    simp [hi', this]
  have hbw := hv.lt
  have b1 := Below.new (w := w) (.cells #[.slice none 0 0, .slice none 0 0] 26)
  have v0 := VarD.new w (.slice none 0 0) (.slice none 0 0)
  have v1 := hv.step b1
  generalize hw1 : w.alloc (.cells #[.slice none 0 0, .slice none 0 0] 26) = w1 at b1 v0 v1
  have HW1 : Hid _ := hw1
  have s1 := v0.lt
  have c0 := v1.c0
  have c1 := v1.c1
  obtain ⟨i0, hi, hz0, hz1, hz2⟩ := info_parts Tryd.infoBB
  obtain ⟨j0, hj, hy0, hy1, hy2⟩ := info_parts Tryd.infoW
  have runA : ∀ W : World, (Instr.makeSlice 23 (.int .i64 (n : Int)) (.int .i64 (n : Int))).run Tryd.prog W = .ok (.slice (some ⟨W.heap.size, 0, none⟩) n n) (W.alloc (.cells (madeCells (Value.slice none 0 0).cells (n * 1)) 22)) := fun W => by
    have := run_make (P := Tryd.prog) W 23 22 i0 (.slice none 0 0) Tryd.underlying23 hi hz0 .i64 .i64 n n (by omega) (Int.le_refl _) (by rw [hz2]; omega) (by omega)
    rw [hz1] at this
    simpa using this
  have runB : ∀ W : World, (Instr.makeSlice 24 (.int .i64 (m : Int)) (.int .i64 (m : Int))).run Tryd.prog W = .ok (.slice (some ⟨W.heap.size, 0, none⟩) m m) (W.alloc (.cells (madeCells (Value.agg #[.int .i64 0, .slice none 0 0]).cells (m * 2)) 75)) := fun W => by
    have := run_make (P := Tryd.prog) W 24 75 j0 (.agg #[.int .i64 0, .slice none 0 0]) Tryd.underlying24 hj hy0 .i64 .i64 m m (by omega) (Int.le_refl _) (by rw [hy2]; omega) (by omega)
    rw [hy1] at this
    simpa using this
  generalize hMA : Obj.cells (madeCells (Value.slice none 0 0).cells (n * 1)) 22 = MA at runA
  generalize hMB : Obj.cells (madeCells (Value.agg #[.int .i64 0, .slice none 0 0]).cells (m * 2)) 75 = MB at runB
  have HMA : Hid _ := hMA
  have HMB : Hid _ := hMB
  have K0 : ∀ x y z : Obj, (((w1.alloc x).alloc y).alloc z).cell? ⟨b, 0, none⟩ = some (.slice xa n xc) := fun x y z => cell?_alloc_old z (cell?_alloc_old y (cell?_alloc_old x c0))
  have K1 : ∀ x y z : Obj, (((w1.alloc x).alloc y).alloc z).cell? ⟨b, 1, none⟩ = some (.slice ya m yc) := fun x y z => cell?_alloc_old z (cell?_alloc_old y (cell?_alloc_old x c1))
  have K2 : ∀ x y z : Obj, (((w1.alloc x).alloc y).alloc z).drew.cell? ⟨b, 0, none⟩ = some (.slice xa n xc) := K0
  have K3 : ∀ x y z : Obj, (((w1.alloc x).alloc y).alloc z).drew.cell? ⟨b, 1, none⟩ = some (.slice ya m yc) := K1
  have n1 : ¬ b = w1.heap.size := by omega
  have n2 : ¬ b = w1.heap.size + 1 := by omega
  have n3 : ¬ b = w1.heap.size + 1 + 1 := by omega
  have n4 : b < w1.heap.size := by omega
  have HB1 : Hid _ := b1
  have HV0 : Hid (VarD w1 w.heap.size _ _) := v0
  have HN : Hid _ := hn
  have HM : Hid _ := hm
  have HC : Hid _ := hc
  have HE : Hid _ := he
  have HC' : Hid _ := hc'
  have HE' : Hid _ := he'
  have HV : Hid _ := hv
  clear hw1 hn hm hc he hc' he' hv v0 v1 hok hok' hhd hhd' hi hz0 hz1 hz2 hj hy0 hy1 hy2 R1 R2 hMA hMB b1
  go_enter Tryd.func49, Tryd.ntmps49
  go_upto_region 1 with fail
  rw [HW1.out]
  go_cut [3] from 8 to 20 (fun s3 wx => CRel0 w (d1, d2) n m s3 wx)
  case first =>
    go_region_held3 (fun w' => w'.cell? ⟨b, 0, none⟩ = some (.slice xa n xc) ∧ w'.cell? ⟨b, 1, none⟩ = some (.slice ya m yc)) (first | go_keep) (fail)
    all_goals go_wp2_with fail
    all_goals go_meet
    all_goals first
      | exact crel0_of HB1.out HV0.out (Below.three _ _ _) (heap3 w1 _ _ _).2.2 ((heap3 w1 _ _ _).1.trans (congrArg some HMA.out.symm)) ((heap3 w1 _ _ _).2.1.trans (congrArg some HMB.out.symm)) hn2 hm2 (by omega)
      | exact crel0_of HB1.out HV0.out (Below.three _ _ _) (heap3 w1 _ _ _).2.1 ((heap3 w1 _ _ _).1.trans (congrArg some HMA.out.symm)) ((heap3 w1 _ _ _).2.2.trans (congrArg some HMB.out.symm)) hn2 hm2 (by omega)
      | exact crel0_of HB1.out HV0.out (Below.three _ _ _) (heap3 w1 _ _ _).2.2 ((heap3 w1 _ _ _).2.1.trans (congrArg some HMA.out.symm)) ((heap3 w1 _ _ _).1.trans (congrArg some HMB.out.symm)) hn2 hm2 (by omega)
      | exact crel0_of HB1.out HV0.out (Below.three _ _ _) (heap3 w1 _ _ _).1 ((heap3 w1 _ _ _).2.1.trans (congrArg some HMA.out.symm)) ((heap3 w1 _ _ _).2.2.trans (congrArg some HMB.out.symm)) hn2 hm2 (by omega)
      | exact crel0_of HB1.out HV0.out (Below.three _ _ _) (heap3 w1 _ _ _).2.1 ((heap3 w1 _ _ _).2.2.trans (congrArg some HMA.out.symm)) ((heap3 w1 _ _ _).1.trans (congrArg some HMB.out.symm)) hn2 hm2 (by omega)
      | exact crel0_of HB1.out HV0.out (Below.three _ _ _) (heap3 w1 _ _ _).1 ((heap3 w1 _ _ _).2.2.trans (congrArg some HMA.out.symm)) ((heap3 w1 _ _ _).2.1.trans (congrArg some HMB.out.symm)) hn2 hm2 (by omega)
  case rest =>
    obtain ⟨o, r1, r2, rfl, vO, vR, hPX, hPY, hdis, hbx⟩ := hcut
    obtain ⟨D1, D2, D3, D4, D5, D6⟩ := hdis
    generalize hH : wc.heap.size = H at hPX hPY
    have HHe : Hid _ := hH
    have hoH : o < H := by have := vO.lt; omega
    have hr1H : r1 < H := hPX.2.2.1.2
    have hr2H : r2 < H := by obtain ⟨C, _, _, h3, _⟩ := hPY; exact h3.2
    have HST : Hid (CL1 w (d1, d2) n m o r1 r2 H (.int .i64 0) wc) := ⟨0, [], Nat.zero_le _, rfl, vO, vR, hPX, hPY, hbx⟩
    have hcc0 := (VarJ.step HV.out hbx).c0
    have hcc1 := (VarJ.step HV.out hbx).c1
    clear vO vR hPX hPY hbx hH K0 K1 K2 K3 runA runB c0 c1
    go_wp2
    go_loopw [26] (fun i wr => CL1 w (d1, d2) n m o r1 r2 H i wr) (fun i _ => n - (intOf i).toNat)
    case atStart => exact HST.out
    case round =>
      clear HST hcc0 hcc1
      obtain ⟨k, vs', hk, rfl, vO, vR, hPX, hPY, hbel⟩ := hrel
      by_cases hlt : k < n
      · obtain ⟨g, off, rfl, hg0, hgh, hcc⟩ := HC.out.resolve_left (by omega)
        have h1 := (hbel.cell (p := ⟨g, off + k, none⟩) (by show g < w.heap.size; omega)).trans (hcc k hlt)
        have hrd := (HE.out k hlt).same (SameIn.mk (Below.size hbel) (fun q _ hq => hbel.block q (by omega)))
        have hl32 := HL1.out k hlt
        have hws := hbel.size
        generalize hx : vs k = x at h1 hrd
        clear hx
        obtain ⟨sa, sn, sc, rfl⟩ := hrd.sliced
        have HRD : Hid (RdB wr l h (.slice sa sn sc) (d1[k]?.getD [])) := hrd
        have nro : ¬ r1 = o := fun e => D2 e.symm
        have HRE : Hid (RdB wr.drew l h (.slice sa sn sc) (d1[k]?.getD [])) := hrd.same SameIn.drew
        have hhd : h ≤ wr.drew.heap.size := by show h ≤ wr.heap.size; omega
        have hi0 : (0 : Int) ≤ (k : Int) := by omega
        have hi1 : (k : Int) < (n : Int) := by omega
        have hov := vO.lt
        have o0 := vO.c0
        have HPX : Hid (PartX _ _ _ _ _ _ _ _) := hPX
        have HPY : Hid (PartY _ _ _ _ _ _ _ _) := hPY
        have HVO : Hid (VarD _ _ _ _) := vO
        have HVR : Hid (VarD _ _ _ _) := vR
        clear hcc hrd hPX hPY vO vR
        go_wp2
        go_region_held3 (fun w' => w'.cell? ⟨o, 0, none⟩ = some (.slice (some ⟨r1, 0, none⟩) n n)) (first | go_keep | assumption) (first | (go_at_call 35; refine (newSector_any _ _ l h _ HRE.out hhd).mono ?_; rintro e w2 ⟨u, rfl, ho2, hb2⟩; obtain ⟨ua, un, uc, rfl⟩ := ho2.sliced; have hb3 : Below wr.heap.size wr w2 := (Below.drew (Below.refl _ _)).trans hb2; have o1 := (VarD.step HVO.out hb3).c0; have hsl := (PartX.below HPX.out hb3).slot hlt; obtain ⟨⟨v0, hv0⟩, hfz⟩ := hsl))
        have HR : Hid (CL1 w (d1, d2) n m o r1 r2 H (.int .i64 ((k : Int) + 1)) (w2.setCell ⟨r1, k, none⟩ (.slice ua un uc))) := by
          refine ⟨k + 1, _, by omega, by go_num, VarD.set (VarD.step HVO.out hb3) D2, VarD.set (VarD.step HVR.out hb3) (by omega), PartX.next HPX.out hlt hb3 HRD.out.1 (by rw [← sec_full hl32]; exact ho2) rfl, (PartY.below HPY.out hb3).set hr1H D1, ?_⟩
          exact (hbel.trans (hb3.mono hbel.size)).setCell (by show w.heap.size ≤ r1; omega) _
        clear HPX HPY HVO HVR HRD ho2 hb2 hb3 hfz hv0 o0 o1 h1
        go_wp2
        refine ⟨?_, by simp [intOf]; omega⟩
        first | exact HR.out | exact ⟨_, _, _, _, _, _, _, _, _, _, _, _, _, HR.out, rfl⟩ | exact ⟨_, _, _, _, _, _, _, _, _, _, _, _, _, _, HR.out, rfl⟩
      · have hkn : k = n := by omega
        subst hkn
        have hq0 := (VarJ.step HV.out hbel).c0
        have hq1 := (VarJ.step HV.out hbel).c1
        have hws := hbel.size
        generalize hH1 : wr.heap.size = H1 at hws
        have hHH : H ≤ H1 := by have := hPX.2.2.1.1; omega
        have HBV : Hid (∀ q, Blk vs' q → q < H1) := fun q hq => by have := hPX.blk q hq; omega
        have HST : Hid (CL2 w (d1, d2) k m o r1 r2 H H1 vs' (.int .i64 0) wr) := ⟨0, [], Nat.zero_le _, rfl, vO, vR, hPX, hPY.raise hHH (by omega), hbel⟩
        have HH1 : Hid _ := hH1
        clear hPX hPY vO vR hbel hH1
        go_wp2
        go_loopw [43] (fun i wr => CL2 w (d1, d2) k m o r1 r2 H H1 vs' i wr) (fun i _ => m - (intOf i).toNat)
        case atStart => exact HST.out
        case round =>
          clear HST hq0 hq1 HH1
          obtain ⟨j, xs', hj, rfl, vO, vR, hPX, hPY, hbel⟩ := hrel
          have hwsz := hbel.size
          by_cases hlt2 : j < m
          · obtain ⟨g, off, rfl, hg0, hgh, hcc⟩ := HC'.out.resolve_left (by omega)
            have h1 := (hbel.cell (p := ⟨g, off + j * 2, none⟩) (by show g < w.heap.size; omega)).trans (hcc j hlt2).1
            have h2 := (hbel.cell (p := ⟨g, off + j * 2 + 1, none⟩) (by show g < w.heap.size; omega)).trans (hcc j hlt2).2
            have hrd := (HE'.out j hlt2).same (SameIn.mk (Below.size hbel) (fun q _ hq => hbel.block q (by omega)))
            have hl32 := HL2.out j hlt2
            generalize hx : us j = x at h2 hrd
            clear hx
            obtain ⟨sa, sn, sc, rfl⟩ := hrd.sliced
            have hwt : d2[j]?.getD (0, []) = ((d2[j]?.getD (0, [])).1, (d2[j]?.getD (0, [])).2) := rfl
            generalize (d2[j]?.getD (0, [])).1 = p at h1 hwt
            generalize (d2[j]?.getD (0, [])).2 = zs at hrd hwt hl32
            have HWT : Hid _ := hwt
            have hi0 : (0 : Int) ≤ (j : Int) := by omega
            have hi1 : (j : Int) < (m : Int) := by omega
            have hov := vO.lt
            have b4 := Below.new (w := wr) (.cells #[.int .i64 p, .slice sa sn sc] 75)
            have q0 : (wr.alloc (.cells #[.int .i64 p, .slice sa sn sc] 75)).cell? ⟨wr.heap.size, 0, none⟩ = some (.int .i64 p) := by rw [World.cell?_alloc_at _ _ _ _ rfl]; rfl
            have q1 : (wr.alloc (.cells #[.int .i64 p, .slice sa sn sc] 75)).cell? ⟨wr.heap.size, 1, none⟩ = some (.slice sa sn sc) := by rw [World.cell?_alloc_at _ _ _ _ rfl]; rfl
            have o1 := (vO.step b4).c1
            have HRD : Hid (RdB (wr.alloc (.cells #[.int .i64 p, .slice sa sn sc] 75)) l h (.slice sa sn sc) zs) := RdB.same hrd (SameIn.ofBelow b4 (by omega))
            have HPX : Hid (PartX _ _ _ _ _ _ _ _) := hPX.below b4
            have HPY : Hid (PartY _ _ _ _ _ _ _ _) := hPY.below b4
            have HVO : Hid (VarD _ _ _ _) := vO.step b4
            have HVR : Hid (VarD _ _ _ _) := vR.step b4
            have hbe4 := hbel.trans (b4.mono hbel.size)
            have hsz4 : wr.heap.size < (wr.alloc (.cells #[.int .i64 p, .slice sa sn sc] 75)).heap.size := by simp
            generalize hw4 : wr.alloc (.cells #[.int .i64 p, .slice sa sn sc] 75) = w4 at q0 q1 o1 HRD HPX HPY HVO HVR hbe4 hsz4
            have HW4 : Hid _ := hw4
            have HRE : Hid (RdB w4.drew l h (.slice sa sn sc) zs) := RdB.same HRD.out SameIn.drew
            have hhd : h ≤ w4.drew.heap.size := by show h ≤ w4.heap.size; omega
            have hr2s : r2 < wr.heap.size := by have := hPX.2.2.1.1; omega
            have nr2 : ¬ wr.heap.size = r2 := by omega
            have nr2' : ¬ r2 = wr.heap.size := by omega
            have no2 : ¬ r2 = o := fun e => D3 e.symm
            have HBE4 : Hid _ := hbe4
            clear hcc hrd hPX hPY vO vR hwt hw4 b4 hbel hbe4
            go_wp2_with fail
            rw [HW4.out]
            go_region_held3 (fun w' => w'.cell? ⟨o, 1, none⟩ = some (.slice (some ⟨r2, 0, none⟩) m m) ∧ w'.cell? ⟨wr.heap.size, 0, none⟩ = some (.int .i64 p) ∧ w'.cell? ⟨wr.heap.size, 1, none⟩ = some (.slice sa sn sc)) (first | go_keep | (refine ⟨?_, ?_, ?_⟩ <;> assumption)) (first | (go_at_call 35; refine (newSector_any _ _ l h _ HRE.out hhd).mono ?_; rintro e w2 ⟨u, rfl, ho2, hb2⟩; obtain ⟨ua, un, uc, rfl⟩ := ho2.sliced; have hb3 : Below w4.heap.size w4 w2 := (Below.drew (Below.refl _ _)).trans hb2; have t1 := (VarD.step HVO.out hb3).c1; have t2 := (hb3.cell (p := ⟨wr.heap.size, 0, none⟩) hsz4).trans q0; have t3 := (hb3.cell (p := ⟨wr.heap.size, 1, none⟩) hsz4).trans q1; have hsl := (PartY.below HPY.out hb3).slot hlt2; obtain ⟨⟨v0, hv0⟩, ⟨v5, hv5⟩, hfz, hfz2⟩ := hsl))
            have HR : Hid (CL2 w (d1, d2) k m o r1 r2 H H1 vs' (.int .i64 ((j : Int) + 1)) ((w2.setCell ⟨r2, j * 2, none⟩ (.int .i64 p)).setCell ⟨r2, j * 2 + 1, none⟩ (.slice ua un uc))) := by
              refine ⟨j + 1, _, by omega, by go_num, VarD.set (VarD.set (VarD.step HVO.out hb3) D3) D3, VarD.set (VarD.set (VarD.step HVR.out hb3) (by omega)) (by omega), ((PartX.below HPX.out hb3).set hr2H (fun e => D1 e.symm)).set hr2H (fun e => D1 e.symm), PartY.next HPY.out hlt2 hb3 HRD.out.1 (by rw [← sec_full hl32]; exact ho2) HWT.out, ?_⟩
              exact Below.setCell (Below.setCell (HBE4.out.trans (hb3.mono HBE4.out.size)) (by show w.heap.size ≤ r2; omega) _) (by show w.heap.size ≤ r2; omega) _
            clear HPX HPY HVO HVR HRD ho2 hb2 hb3 hfz hfz2 hv0 hv5 q0 q1 o1 t1 t2 t3 h1 h2
            go_wp2
            refine ⟨?_, by simp [intOf]; omega⟩
            first | exact HR.out | exact ⟨_, _, _, _, _, _, _, _, _, _, _, _, _, _, _, _, _, _, HR.out, rfl⟩ | exact ⟨_, _, _, _, _, _, _, _, _, _, _, _, _, _, _, _, _, HR.out, rfl⟩ | exact ⟨_, _, _, _, _, _, _, _, _, _, _, _, _, _, _, _, _, _, _, HR.out, rfl⟩
          · have hjm : j = m := by omega
            subst hjm
            have o0 := vO.c0
            have o1 := vO.c1
            have e0 := vR.c0
            have e1 := vR.c1
            have f0 := vR.f 0
            have f1 := vR.f 1
            have HX : Hid _ := hPX.done HN.out (by omega)
            have HY : Hid _ := hPY.done HM.out (by omega)
            have HA : Hid (∀ q, Blk vs' q → ¬ Blk xs' q) := fun q h1 h2 => by have := HBV.out q h1; have := hPY.blk q h2; omega
            have HBE : Hid _ := hbel
            clear hPX hPY vO vR hbel
            go_wp2
            refine bodyPost_ret (v := .agg #[.slice (some ⟨r1, 0, none⟩) k k, .slice (some ⟨r2, 0, none⟩) j j]) (by simp [results, Tryd.results49, go_sem, e0, e1]) rfl ⟨_, rfl, ?_, ?_⟩
            · have same : SameIn (w.heap.size + 1) wr.heap.size wr ((wr.setCell ⟨w.heap.size, 0, none⟩ (.slice (some ⟨r1, 0, none⟩) k k)).setCell ⟨w.heap.size, 1, none⟩ (.slice (some ⟨r2, 0, none⟩) j j)) := SameIn.trans (SameIn.set (.inl (by simp))) (SameIn.set (.inl (by simp)))
              exact ⟨_, _, vs', xs', rfl, (OwX.same HX.out same).wide (by omega) (by simp), (OwY.same HY.out same).wide (by omega) (by simp), HA.out⟩
            · exact (HBE.out.setCell (by simp) _).setCell (by simp) _
end Go.Proofs.YtjhaanenkeceiaaDoor
