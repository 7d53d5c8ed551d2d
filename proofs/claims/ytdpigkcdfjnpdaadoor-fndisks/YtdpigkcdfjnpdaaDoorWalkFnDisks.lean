/- The walk of the law FnDisks; no condition on its argument. -/
import Derived.Test.YtdpigkcdfjnpdaaDoorDraw4
import Derived.Test.YtdpigkcdfjnpdaaDoorSameDisk
import Derived.Test.YtdpigkcdfjnpdaaDoorPure2
namespace Go.Proofs.YtdpigkcdfjnpdaaDoor.fnDisks
open Go.RowKit
set_option linter.unusedVariables false
set_option linter.unusedSimpArgs false

set_option maxRecDepth 100000 in
set_option maxHeartbeats 8000000 in
theorem walk (v0 : Value) (d0 : List Int) (w : World) (e0 : RdB w 0 w.heap.size v0 d0) (a : Addr) (hg : Glob w a) (b c : Addr) (h1 : w.cell? ⟨1, 0, none⟩ = some (errV b)) (h2 : w.cell? ⟨2, 0, none⟩ = some (errV c)) :
    Calls Tryd.prog 3 #[v0] w fun e w' => e = .returned (.bool true) ∧ Below w.heap.size w w' := by
  have hlt := hg.lt
  have hlt1 : 1 < w.heap.size := block_lt_of_cell (a := ⟨1, 0, none⟩) h1
  have hlt2 : 2 < w.heap.size := block_lt_of_cell (a := ⟨2, 0, none⟩) h2
  have HG : Hid (∀ W, Below w.heap.size w W → Glob W a) := fun W hW => hg.step hW hlt
  have HG1 : Hid (∀ W, Below w.heap.size w W → W.cell? ⟨1, 0, none⟩ = some (errV b)) := fun W hW => (hW.cell (p := ⟨1, 0, none⟩) hlt1).trans h1
  have HG2 : Hid (∀ W, Below w.heap.size w W → W.cell? ⟨2, 0, none⟩ = some (errV c)) := fun W hW => (hW.cell (p := ⟨2, 0, none⟩) hlt2).trans h2
  obtain ⟨_, ca, cn, cc, rfl, hcn, hch, hcr⟩ := e0.reads
  have HDR : Hid _ := drawWrite_any ca d0 cn cc w hcr hcn (by rw [← hcn]; exact Nat.le_trans hch.1 hch.2.1)
  clear hg h1 h2 e0 hcn hch hcr
  go_enter Tryd.func3, Tryd.ntmps3
  go_wp2_with fail
  refine Calls.mono HDR.out ?_
  rintro e w1 ⟨vd, d, p, u, ys, rfl, rD, hty, rU, hyl, B1⟩
  clear HDR
  obtain ⟨xa, n, xc, ya, m, yc, rfl⟩ := rD.open
  obtain ⟨ua, un, uc, rfl⟩ := rU.sliced
  have HUN : Hid (un = ys.length) := rU.len
  have hun : un ≤ 32 := by rw [HUN.out]; exact hyl
  have HN : Hid (n = d.1.length) := rD.parts.1.len.1
  have HM : Hid (m = d.2.length) := rD.parts.2.len.1
  have hn5 : n ≤ 5 := by rw [HN.out]; exact hty.1
  have hm4 : m ≤ 4 := by rw [HM.out]; exact hty.2.1
  have s1 := B1.size
  have b2 := Below.new (w := w1) (.cells #[.slice xa n xc, .slice ya m yc] 26)
  have vD := VarD.new w1 (.slice xa n xc) (.slice ya m yc)
  have rD2 := rD.step (Nat.le_refl _) b2
  have rU2 := rU.same (SameIn.ofBelow b2 (Nat.le_refl _))
  have B2 := B1.trans (b2.mono B1.size)
  generalize hw2 : w1.alloc (.cells #[.slice xa n xc, .slice ya m yc] 26) = w2 at b2 vD rD2 rU2 B2
  have HW2 : Hid _ := hw2
  have s2 := vD.lt
  have HWR : Hid _ := implWriteSector_all _ d w.heap.size w1.heap.size p _ ys w.heap.size w1.heap.size w2 rD2 (by omega) rU2 (by omega) a (HG.out _ B2) b c (HG1.out _ B2) (HG2.out _ B2)
  have k0 := vD.c0
  have k1 := vD.c1
  clear hw2 b2 rD rU B1
  go_wp2_with (rw [HW2.out])
  refine Calls.mono HWR.out ?_
  rintro e w3 ⟨vx, rfl, oX, b3⟩
  clear HWR HW2 k0 k1
  obtain ⟨pa, pn, pc, qa, qn, qc, rfl⟩ := oX.rd.open
  have HPN : Hid (pn = (writeD d p ys).1.1.length) := oX.rd.parts.1.len.1
  have hpm : pn ≤ 9223372036854775807 := oX.rd.parts.1.len.2
  have s3 := b3.size
  have vD3 := vD.step b3
  have rD3 := rD2.step (by omega) b3
  have rU3 := rU2.same (SameIn.ofBelow b3 (by omega))
  have B3 := B2.trans (b3.mono B2.size)
  have b4 := Below.new (w := w3) (.cells #[.slice pa pn pc, .slice qa qn qc] 26)
  have vX := VarD.new w3 (.slice pa pn pc) (.slice qa qn qc)
  have vD4 := vD3.step b4
  have rD4 := rD3.step (by omega) b4
  have rU4 := rU3.same (SameIn.ofBelow b4 (by omega))
  have rX4 := oX.rd.step (Nat.le_refl _) b4
  have B4 := B3.trans (b4.mono B3.size)
  generalize hw4 : w3.alloc (.cells #[.slice pa pn pc, .slice qa qn qc] 26) = w4 at b4 vX vD4 rD4 rU4 rX4 B4
  have HW4 : Hid _ := hw4
  have s4 := vX.lt
  have HOK : Hid _ := specOk_any _ d w.heap.size w1.heap.size w4 rD4 (by omega)
  have k0 := vD4.c0
  have k1 := vD4.c1
  clear hw4 b4 b3 vD vD3 rD2 rD3 rU2 rU3 oX B2 B3
  go_wp2_with (rw [HW4.out])
  refine Calls.mono HOK.out ?_
  rintro e w5 ⟨rfl, b5⟩
  have s5 := b5.size
  have vD5 := vD4.step b5
  have vX5 := vX.step b5
  have rD5 := rD4.step (by omega) b5
  have rU5 := rU4.same (SameIn.ofBelow b5 (by omega))
  have rX5 := rX4.step (by omega) b5
  have B5 := B4.trans (b5.mono B4.size)
  have k0 := vD5.c0
  have k1 := vD5.c1
  have j0 := vX5.c0
  have j1 := vX5.c1
  clear HOK HW4 b5 vD4 vX rD4 rU4 rX4 B4
  by_cases hok : okD d = true
  case neg =>
    have hok' : okD d = false := by simpa using hok
    have hwd : writeD d p ys = (([], []), false) := by unfold writeD; rw [if_neg hok]
    have hp0 : pn = 0 := by rw [HPN.out, hwd]; rfl
    subst hp0
    rw [hok', hwd]
    have HB : Hid _ := B5
    clear vD5 vX5 rD5 rU5 rX5 B5 hok hok' hwd k0 k1
    go_wp2
    go_ret
    exact ⟨rfl, HB.out⟩
  by_cases hwo : writeOk d p ys = true
  case neg =>
    have hwo' : writeOk d p ys = false := by simpa using hwo
    have hwd : writeD d p ys = (d, false) := by unfold writeD; rw [if_pos hok, hwo']; rfl
    rw [hwd] at rX5
    have HSD : Hid _ := sameDisk_any _ _ d _ _ _ _ w5 rX5 rD5 (by omega) (by omega)
    have hbad : p < 0 ∨ (n : Int) ≤ p ∨ un ≠ 32 ∨ 2000 ≤ m := by
      unfold writeOk at hwo'
      simp only [Bool.and_eq_false_iff, decide_eq_false_iff_not] at hwo'
      rw [HN.out, HM.out, HUN.out]
      omega
    rw [hok, hwd]
    have HB : Hid _ := B5
    have HVD : Hid (VarD w5 _ _ _) := vD5
    clear vD5 vX5 rD5 rU5 rX5 B5 hok hwd hwo hwo'
    go_wp2_with fail
    refine Calls.mono HSD.out ?_
    rintro e w6 ⟨rfl, b6⟩
    have HB6 : Hid _ := HB.out.trans (b6.mono HB.out.size)
    have k0 := (VarD.step HVD.out b6).c0
    have k1 := (VarD.step HVD.out b6).c1
    clear b6 HB HSD HVD j0 j1
    by_cases z0 : p < 0
    · have hd0 : decide (p < 0) = true := by simpa using z0
      go_wp2
      go_ret
      exact ⟨rfl, HB6.out⟩
    · have hd0 : decide (p < 0) = false := by simpa using z0
      by_cases z1 : (n : Int) ≤ p
      · have hd1 : decide ((n : Int) ≤ p) = true := by simpa using z1
        go_wp2
        go_ret
        exact ⟨rfl, HB6.out⟩
      · have hd1 : decide ((n : Int) ≤ p) = false := by simpa using z1
        by_cases z2 : un = 32
        · have hd2 : ((un : Int) != 32) = false := by simp; omega
          exfalso; omega
        · have hd2 : ((un : Int) != 32) = true := by simp; omega
          go_wp2
          go_ret
          exact ⟨rfl, HB6.out⟩
  have hwd : writeD d p ys = ((d.1, d.2 ++ [(p, ys)]), true) := by unfold writeD; rw [if_pos hok, if_pos hwo]
  rw [hwd] at rX5 HPN
  have hXok := okD_write hok hwo
  have hfd : flushD (d.1, d.2 ++ [(p, ys)]) = (flushS d.1 (d.2 ++ [(p, ys)]), []) := by unfold flushD; rw [if_pos hXok]
  have hrw : ∀ q, readZ (d.1, d.2 ++ [(p, ys)]) q = if p = q then ys else readZ d q := readZ_write d p ys
  have hfr : ∀ i, i < d.1.length → (flushS d.1 (d.2 ++ [(p, ys)]))[i]?.getD [] = readZ (d.1, d.2 ++ [(p, ys)]) i := fun i hi => flush_readZ hXok i hi
  have hFok := okD_flush hXok
  have hfl : (flushS d.1 (d.2 ++ [(p, ys)])).length = d.1.length := flushS_length _ _
  have hro : ∀ i : Nat, i < d.1.length → readOk d i = true ∧ readD d i = readZ d i := fun i hi => by
    have e : readOk d i = true := by unfold readOk; rw [hok]; simp [hi]
    exact ⟨e, by unfold readD; rw [if_pos e]⟩
  have hrx : ∀ i : Nat, i < d.1.length → readOk (d.1, d.2 ++ [(p, ys)]) i = true ∧ readD (d.1, d.2 ++ [(p, ys)]) i = readZ (d.1, d.2 ++ [(p, ys)]) i := fun i hi => by
    have e : readOk (d.1, d.2 ++ [(p, ys)]) i = true := by unfold readOk; rw [hXok]; simp [hi]
    exact ⟨e, by unfold readD; rw [if_pos e]⟩
  rw [hok, hwd]
  have HFL : Hid _ := implFlush_all _ (d.1, d.2 ++ [(p, ys)]) _ _ w5 rX5 (by omega) a (HG.out _ B5)
  rw [hfd] at HFL
  generalize flushS d.1 (d.2 ++ [(p, ys)]) = FS at HFL hfr hFok hfl
  have hpn : pn = n := by rw [HPN.out, HN.out]
  generalize (d.1, d.2 ++ [(p, ys)]) = X at rX5 hXok hrw hfr hrx
  have HXO : Hid (okD X = true) := hXok
  have HFO : Hid (okD (FS, []) = true) := hFok
  have HRW : Hid (∀ q, readZ X q = if p = q then ys else readZ d q) := hrw
  have HFR : Hid (∀ i, i < d.1.length → FS[i]?.getD [] = readZ X i) := hfr
  have HRO : Hid (∀ i : Nat, i < d.1.length → readOk d i = true ∧ readD d i = readZ d i) := hro
  have HRX : Hid (∀ i : Nat, i < d.1.length → readOk X i = true ∧ readD X i = readZ X i) := hrx
  have HFLN : Hid (FS.length = d.1.length) := hfl
  clear hok hwo hwd hXok hfd hrw hfr hFok hfl hro hrx HPN hpn
  go_wp2_with fail
  refine Calls.mono HFL.out ?_
  rintro e w6 ⟨vf, rfl, oF, b6⟩
  clear HFL
  obtain ⟨fa, fn, fc, ga, gn, gc, rfl⟩ := oF.rd.open
  have HFN : Hid (fn = FS.length) := oF.rd.parts.1.len.1
  have hgn : gn = 0 := oF.rd.parts.2.len.1
  subst hgn
  have s6 := b6.size
  have b7 := Below.new (w := w6) (.cells #[.slice fa fn fc, .slice ga 0 gc] 26)
  have vF := VarD.new w6 (.slice fa fn fc) (.slice ga 0 gc)
  have vD7 := (vD5.step b6).step b7
  have vX7 := (vX5.step b6).step b7
  have rD7 := (rD5.step (by omega) b6).step (by omega) b7
  have rU7 := (rU5.same (SameIn.ofBelow b6 (by omega))).same (SameIn.ofBelow b7 (by omega))
  have rX7 := (rX5.step (by omega) b6).step (by omega) b7
  have rF7 := oF.rd.step (Nat.le_refl _) b7
  have B7 := (B5.trans (b6.mono B5.size)).trans (b7.mono (by omega))
  generalize hw7 : w6.alloc (.cells #[.slice fa fn fc, .slice ga 0 gc] 26) = w7 at b7 vF vD7 vX7 rD7 rU7 rX7 rF7 B7
  have HW7 : Hid _ := hw7
  have s7 := vF.lt
  obtain ⟨fb, hfb⟩ : ∃ fb, fb = w6.heap.size := ⟨_, rfl⟩
  rw [← hfb] at vF
  have HFB : Hid _ := hfb
  have HVD : Hid (∀ W, Below w7.heap.size w7 W → VarD W w1.heap.size _ _) := fun W hW => vD7.step hW
  have HVX : Hid (∀ W, Below w7.heap.size w7 W → VarD W w3.heap.size _ _) := fun W hW => vX7.step hW
  have HVF : Hid (∀ W, Below w7.heap.size w7 W → VarD W fb _ _) := fun W hW => vF.step hW
  have HDD : Hid (∀ W, Below w7.heap.size w7 W → RdD W w.heap.size w1.heap.size _ d) := fun W hW => rD7.step (by omega) hW
  have HXX : Hid (∀ W, Below w7.heap.size w7 W → RdD W w2.heap.size w3.heap.size _ X) := fun W hW => rX7.step (by omega) hW
  have HFF : Hid (∀ W, Below w7.heap.size w7 W → RdD W w5.heap.size w6.heap.size _ (FS, [])) := fun W hW => rF7.step (by omega) hW
  have HUU : Hid (∀ W, Below w7.heap.size w7 W → RdB W w.heap.size w1.heap.size _ ys) := fun W hW => rU7.same (SameIn.ofBelow hW (by omega))
  have HBB : Hid (∀ W, Below w7.heap.size w7 W → Below w.heap.size w W) := fun W hW => B7.trans (hW.mono B7.size)
  have hs7 : w6.heap.size < w7.heap.size := s7
  clear hfb hw7 b6 b7 vF vD7 vX7 rD7 rU7 rX7 rF7 B7 oF vD5 vX5 rD5 rU5 rX5 B5 k0 k1 j0 j1
  go_wp2_with fail
  rw [← HFB.out, HW7.out]
  go_loopw [9] (fun i wr => SDRel w7 n i wr) (fun i _ => n - (intOf i).toNat)
  case atStart => exact ⟨0, Nat.zero_le _, rfl, Below.refl _ _⟩
  case round =>
    clear HFB HW7
    obtain ⟨k, hk, rfl, hbel⟩ := hrel
    have c0 := (HVD.out _ hbel).c0
    have c1 := (HVD.out _ hbel).c1
    have sz0 := hbel.size
    by_cases hlt : k < n
    · have hkd : k < d.1.length := by rw [← HN.out]; exact hlt
      have HSR : Hid _ := specReadSector_all _ d _ _ (k : Int) wr (HDD.out _ hbel) (by omega)
      rw [(HRO.out k hkd).1, (HRO.out k hkd).2] at HSR
      have HB : Hid (Below w7.heap.size w7 wr) := hbel
      clear hbel
      go_wp2_with fail
      refine Calls.mono HSR.out ?_
      rintro e wA ⟨uA, rfl, oA, bA⟩
      have BA := HB.out.trans (bA.mono HB.out.size)
      have sA := bA.size
      obtain ⟨aa, an, ac, rfl⟩ := oA.rd.sliced
      have HIR : Hid _ := implReadSector_all _ X _ _ (k : Int) wA (HXX.out _ BA) (by omega) a (HG.out _ (HBB.out _ BA))
      rw [(HRX.out k hkd).1, (HRX.out k hkd).2] at HIR
      have x0 := (HVX.out _ BA).c0
      have x1 := (HVX.out _ BA).c1
      have HOA : Hid (OwB wA wr.heap.size wA.heap.size _ (readZ d k)) := oA
      have HBA : Hid (Below w7.heap.size w7 wA) := BA
      clear HSR oA bA BA HB c0 c1
      by_cases hkp : (k : Int) = p
      · have hd : ((k : Int) == p) = true := by simpa using hkp
        have HEQ : Hid (readZ X k = ys) := by show _ = _; rw [HRW.out, if_pos hkp.symm]
        clear hkp
        go_wp2_with fail
        refine Calls.mono HIR.out ?_
        rintro e wB ⟨uB, rfl, oB, bB⟩
        have BB := HBA.out.trans (bB.mono HBA.out.size)
        have sB := bB.size
        obtain ⟨ba, bn, bc, rfl⟩ := oB.rd.sliced
        have rW : RdB wB w.heap.size w1.heap.size (.slice ua un uc) ys := HUU.out _ BB
        have rB := oB.rd
        rw [HEQ.out] at rB
        have HS1 : Hid _ := sameB_same _ _ _ _ _ _ _ wB rB rW
        have rF := (HFF.out _ BB).parts.1
        obtain ⟨a2, n2, q2, us, he2, hl2, _, hc2, hv2⟩ := rF
        simp only [Value.slice.injEq] at he2
        obtain ⟨rfl, rfl, rfl⟩ := he2
        have hkf : k < fn := by rw [HFN.out, HFLN.out]; exact hkd
        obtain ⟨gf, of, rfl, _, _, hcc2⟩ := hc2.resolve_left (by omega)
        have f2 := hcc2 k hkf
        have hr2 := hv2 k hkf
        rw [HFR.out k hkd, HEQ.out] at hr2
        generalize us k = p2 at f2 hr2
        obtain ⟨p2a, p2n, p2c, rfl⟩ := hr2.sliced
        have HS2 : Hid _ := sameB_same _ _ _ _ _ _ _ wB hr2 rW
        have y0 := (HVF.out _ BB).c0
        have hi0 : (0 : Int) ≤ (k : Int) := by omega
        have hi1 : (k : Int) < (fn : Int) := by omega
        have HR : Hid (SDRel w7 n (.int .i64 ((k : Int) + 1)) wB) := ⟨k + 1, by omega, by go_num, BB⟩
        clear HIR oB bB BB rW rB hl2 hc2 hv2 hr2 hcc2 HBA HOA HEQ x0 x1
        go_wp2_with fail
        refine Calls.mono HS1.out ?_
        rintro e wC ⟨rfl, hwC⟩
        subst hwC
        clear HS1
        go_wp2_with fail
        refine Calls.mono HS2.out ?_
        rintro e wD ⟨rfl, hwD⟩
        subst hwD
        clear HS2
        go_wp2
        refine ⟨?_, by simp [intOf]; omega⟩
        first | exact HR.out | exact ⟨_, _, _, _, _, _, _, _, _, _, _, _, _, _, _, _, _, _, _, _, _, _, _, _, _, _, _, _, _, _, _, _, _, _, _, _, _, _, _, _, _, _, _, _, _, _, _, _, _, _, _, _, _, _, _, _, _, _, _, _, _, _, _, _, _, _, _, _, _, _, _, _, _, _, _, _, _, _, _, _, _, _, _, _, _, _, _, _, _, _, HR.out, rfl⟩ | exact ⟨_, _, _, _, _, _, _, _, _, _, _, _, _, _, _, _, _, _, _, _, _, _, _, _, _, _, _, _, _, _, _, _, _, _, _, _, _, _, _, _, _, _, _, _, _, _, _, _, _, _, _, _, _, _, _, _, _, _, _, _, _, _, _, _, _, _, _, _, _, _, _, _, _, _, _, _, _, _, _, _, _, _, _, _, _, _, _, _, _, _, _, HR.out, rfl⟩ | exact ⟨_, _, _, _, _, _, _, _, _, _, _, _, _, _, _, _, _, _, _, _, _, _, _, _, _, _, _, _, _, _, _, _, _, _, _, _, _, _, _, _, _, _, _, _, _, _, _, _, _, _, _, _, _, _, _, _, _, _, _, _, _, _, _, _, _, _, _, _, _, _, _, _, _, _, _, _, _, _, _, _, _, _, _, _, _, _, _, _, _, _, _, _, HR.out, rfl⟩ | exact ⟨_, _, _, _, _, _, _, _, _, _, _, _, _, _, _, _, _, _, _, _, _, _, _, _, _, _, _, _, _, _, _, _, _, _, _, _, _, _, _, _, _, _, _, _, _, _, _, _, _, _, _, _, _, _, _, _, _, _, _, _, _, _, _, _, _, _, _, _, _, _, _, _, _, _, _, _, _, _, _, _, _, _, _, _, _, _, _, _, _, _, _, _, _, HR.out, rfl⟩ | exact ⟨_, _, _, _, _, _, _, _, _, _, _, _, _, _, _, _, _, _, _, _, _, _, _, _, _, _, _, _, _, _, _, _, _, _, _, _, _, _, _, _, _, _, _, _, _, _, _, _, _, _, _, _, _, _, _, _, _, _, _, _, _, _, _, _, _, _, _, _, _, _, _, _, _, _, _, _, _, _, _, _, _, _, _, _, _, _, _, _, _, _, _, _, _, _, HR.out, rfl⟩ | exact ⟨_, _, _, _, _, _, _, _, _, _, _, _, _, _, _, _, _, _, _, _, _, _, _, _, _, _, _, _, _, _, _, _, _, _, _, _, _, _, _, _, _, _, _, _, _, _, _, _, _, _, _, _, _, _, _, _, _, _, _, _, _, _, _, _, _, _, _, _, _, _, _, _, _, _, _, _, _, _, _, _, _, _, _, _, _, _, _, _, _, _, _, _, _, _, _, HR.out, rfl⟩ | exact ⟨_, _, _, _, _, _, _, _, _, _, _, _, _, _, _, _, _, _, _, _, _, _, _, _, _, _, _, _, _, _, _, _, _, _, _, _, _, _, _, _, _, _, _, _, _, _, _, _, _, _, _, _, _, _, _, _, _, _, _, _, _, _, _, _, _, _, _, _, _, _, _, _, _, _, _, _, _, _, _, _, _, _, _, _, _, _, _, _, _, _, _, _, _, _, _, _, HR.out, rfl⟩ | exact ⟨_, _, _, _, _, _, _, _, _, _, _, _, _, _, _, _, _, _, _, _, _, _, _, _, _, _, _, _, _, _, _, _, _, _, _, _, _, _, _, _, _, _, _, _, _, _, _, _, _, _, _, _, _, _, _, _, _, _, _, _, _, _, _, _, _, _, _, _, _, _, _, _, _, _, _, _, _, _, _, _, _, _, _, _, _, _, _, _, _, _, _, _, _, _, _, _, _, HR.out, rfl⟩ | exact ⟨_, _, _, _, _, _, _, _, _, _, _, _, _, _, _, _, _, _, _, _, _, _, _, _, _, _, _, _, _, _, _, _, _, _, _, _, _, _, _, _, _, _, _, _, _, _, _, _, _, _, _, _, _, _, _, _, _, _, _, _, _, _, _, _, _, _, _, _, _, _, _, _, _, _, _, _, _, _, _, _, _, _, _, _, _, _, _, _, _, _, _, _, _, _, _, _, _, _, HR.out, rfl⟩ | exact ⟨_, _, _, _, _, _, _, _, _, _, _, _, _, _, _, _, _, _, _, _, _, _, _, _, _, _, _, _, _, _, _, _, _, _, _, _, _, _, _, _, _, _, _, _, _, _, _, _, _, _, _, _, _, _, _, _, _, _, _, _, _, _, _, _, _, _, _, _, _, _, _, _, _, _, _, _, _, _, _, _, _, _, _, _, _, _, _, _, _, _, _, _, _, _, _, _, _, _, _, HR.out, rfl⟩ | exact ⟨_, _, _, _, _, _, _, _, _, _, _, _, _, _, _, _, _, _, _, _, _, _, _, _, _, _, _, _, _, _, _, _, _, _, _, _, _, _, _, _, _, _, _, _, _, _, _, _, _, _, _, _, _, _, _, _, _, _, _, _, _, _, _, _, _, _, _, _, _, _, _, _, _, _, _, _, _, _, _, _, _, _, _, _, _, _, _, _, _, _, _, _, _, _, _, _, _, _, _, _, HR.out, rfl⟩ | exact ⟨_, _, _, _, _, _, _, _, _, _, _, _, _, _, _, _, _, _, _, _, _, _, _, _, _, _, _, _, _, _, _, _, _, _, _, _, _, _, _, _, _, _, _, _, _, _, _, _, _, _, _, _, _, _, _, _, _, _, _, _, _, _, _, _, _, _, _, _, _, _, _, _, _, _, _, _, _, _, _, _, _, _, _, _, _, _, _, _, _, _, _, _, _, _, _, _, _, _, _, _, _, HR.out, rfl⟩ | exact ⟨_, _, _, _, _, _, _, _, _, _, _, _, _, _, _, _, _, _, _, _, _, _, _, _, _, _, _, _, _, _, _, _, _, _, _, _, _, _, _, _, _, _, _, _, _, _, _, _, _, _, _, _, _, _, _, _, _, _, _, _, _, _, _, _, _, _, _, _, _, _, _, _, _, _, _, _, _, _, _, _, _, _, _, _, _, _, _, _, _, _, _, _, _, _, _, _, _, _, _, _, _, _, HR.out, rfl⟩ | exact ⟨_, _, _, _, _, _, _, _, _, _, _, _, _, _, _, _, _, _, _, _, _, _, _, _, _, _, _, _, _, _, _, _, _, _, _, _, _, _, _, _, _, _, _, _, _, _, _, _, _, _, _, _, _, _, _, _, _, _, _, _, _, _, _, _, _, _, _, _, _, _, _, _, _, _, _, _, _, _, _, _, _, _, _, _, _, _, _, _, _, _, _, _, _, _, _, _, _, _, _, _, _, _, _, HR.out, rfl⟩ | exact ⟨_, _, _, _, _, _, _, _, _, _, _, _, _, _, _, _, _, _, _, _, _, _, _, _, _, _, _, _, _, _, _, _, _, _, _, _, _, _, _, _, _, _, _, _, _, _, _, _, _, _, _, _, _, _, _, _, _, _, _, _, _, _, _, _, _, _, _, _, _, _, _, _, _, _, _, _, _, _, _, _, _, _, _, _, _, _, _, _, _, _, _, _, _, _, _, _, _, _, _, _, _, _, _, _, HR.out, rfl⟩ | exact ⟨_, _, _, _, _, _, _, _, _, _, _, _, _, _, _, _, _, _, _, _, _, _, _, _, _, _, _, _, _, _, _, _, _, _, _, _, _, _, _, _, _, _, _, _, _, _, _, _, _, _, _, _, _, _, _, _, _, _, _, _, _, _, _, _, _, _, _, _, _, _, _, _, _, _, _, _, _, _, _, _, _, _, _, _, _, _, _, _, _, _, _, _, _, _, _, _, _, _, _, _, _, _, _, _, _, HR.out, rfl⟩ | exact ⟨_, _, _, _, _, _, _, _, _, _, _, _, _, _, _, _, _, _, _, _, _, _, _, _, _, _, _, _, _, _, _, _, _, _, _, _, _, _, _, _, _, _, _, _, _, _, _, _, _, _, _, _, _, _, _, _, _, _, _, _, _, _, _, _, _, _, _, _, _, _, _, _, _, _, _, _, _, _, _, _, _, _, _, _, _, _, _, _, _, _, _, _, _, _, _, _, _, _, _, _, _, _, _, _, _, _, HR.out, rfl⟩ | exact ⟨_, _, _, _, _, _, _, _, _, _, _, _, _, _, _, _, _, _, _, _, _, _, _, _, _, _, _, _, _, _, _, _, _, _, _, _, _, _, _, _, _, _, _, _, _, _, _, _, _, _, _, _, _, _, _, _, _, _, _, _, _, _, _, _, _, _, _, _, _, _, _, _, _, _, _, _, _, _, _, _, _, _, _, _, _, _, _, _, _, _, _, _, _, _, _, _, _, _, _, _, _, _, _, _, _, _, _, HR.out, rfl⟩ | exact ⟨_, _, _, _, _, _, _, _, _, _, _, _, _, _, _, _, _, _, _, _, _, _, _, _, _, _, _, _, _, _, _, _, _, _, _, _, _, _, _, _, _, _, _, _, _, _, _, _, _, _, _, _, _, _, _, _, _, _, _, _, _, _, _, _, _, _, _, _, _, _, _, _, _, _, _, _, _, _, _, _, _, _, _, _, _, _, _, _, _, _, _, _, _, _, _, _, _, _, _, _, _, _, _, _, _, _, _, _, HR.out, rfl⟩ | exact ⟨_, _, _, _, _, _, _, _, _, _, _, _, _, _, _, _, _, _, _, _, _, _, _, _, _, _, _, _, _, _, _, _, _, _, _, _, _, _, _, _, _, _, _, _, _, _, _, _, _, _, _, _, _, _, _, _, _, _, _, _, _, _, _, _, _, _, _, _, _, _, _, _, _, _, _, _, _, _, _, _, _, _, _, _, _, _, _, _, _, _, _, _, _, _, _, _, _, _, _, _, _, _, _, _, _, _, _, _, _, HR.out, rfl⟩ | exact ⟨_, _, _, _, _, _, _, _, _, _, _, _, _, _, _, _, _, _, _, _, _, _, _, _, _, _, _, _, _, _, _, _, _, _, _, _, _, _, _, _, _, _, _, _, _, _, _, _, _, _, _, _, _, _, _, _, _, _, _, _, _, _, _, _, _, _, _, _, _, _, _, _, _, _, _, _, _, _, _, _, _, _, _, _, _, _, _, _, _, _, _, _, _, _, _, _, _, _, _, _, _, _, _, _, _, _, _, _, _, _, HR.out, rfl⟩ | exact ⟨_, _, _, _, _, _, _, _, _, _, _, _, _, _, _, _, _, _, _, _, _, _, _, _, _, _, _, _, _, _, _, _, _, _, _, _, _, _, _, _, _, _, _, _, _, _, _, _, _, _, _, _, _, _, _, _, _, _, _, _, _, _, _, _, _, _, _, _, _, _, _, _, _, _, _, _, _, _, _, _, _, _, _, _, _, _, _, _, _, _, _, _, _, _, _, _, _, _, _, _, _, _, _, _, _, _, _, _, _, _, _, HR.out, rfl⟩ | exact ⟨_, _, _, _, _, _, _, _, _, _, _, _, _, _, _, _, _, _, _, _, _, _, _, _, _, _, _, _, _, _, _, _, _, _, _, _, _, _, _, _, _, _, _, _, _, _, _, _, _, _, _, _, _, _, _, _, _, _, _, _, _, _, _, _, _, _, _, _, _, _, _, _, _, _, _, _, _, _, _, _, _, _, _, _, _, _, _, _, _, _, _, _, _, _, _, _, _, _, _, _, _, _, _, _, _, _, _, _, _, _, _, _, HR.out, rfl⟩ | exact ⟨_, _, _, _, _, _, _, _, _, _, _, _, _, _, _, _, _, _, _, _, _, _, _, _, _, _, _, _, _, _, _, _, _, _, _, _, _, _, _, _, _, _, _, _, _, _, _, _, _, _, _, _, _, _, _, _, _, _, _, _, _, _, _, _, _, _, _, _, _, _, _, _, _, _, _, _, _, _, _, _, _, _, _, _, _, _, _, _, _, _, _, _, _, _, _, _, _, _, _, _, _, _, _, _, _, _, _, _, _, _, _, _, _, HR.out, rfl⟩ | exact ⟨_, _, _, _, _, _, _, _, _, _, _, _, _, _, _, _, _, _, _, _, _, _, _, _, _, _, _, _, _, _, _, _, _, _, _, _, _, _, _, _, _, _, _, _, _, _, _, _, _, _, _, _, _, _, _, _, _, _, _, _, _, _, _, _, _, _, _, _, _, _, _, _, _, _, _, _, _, _, _, _, _, _, _, _, _, _, _, _, _, _, _, _, _, _, _, _, _, _, _, _, _, _, _, _, _, _, _, _, _, _, _, _, _, _, HR.out, rfl⟩ | exact ⟨_, _, _, _, _, _, _, _, _, _, _, _, _, _, _, _, _, _, _, _, _, _, _, _, _, _, _, _, _, _, _, _, _, _, _, _, _, _, _, _, _, _, _, _, _, _, _, _, _, _, _, _, _, _, _, _, _, _, _, _, _, _, _, _, _, _, _, _, _, _, _, _, _, _, _, _, _, _, _, _, _, _, _, _, _, _, _, _, _, _, _, _, _, _, _, _, _, _, _, _, _, _, _, _, _, _, _, _, _, _, _, _, _, _, _, HR.out, rfl⟩ | exact ⟨_, _, _, _, _, _, _, _, _, _, _, _, _, _, _, _, _, _, _, _, _, _, _, _, _, _, _, _, _, _, _, _, _, _, _, _, _, _, _, _, _, _, _, _, _, _, _, _, _, _, _, _, _, _, _, _, _, _, _, _, _, _, _, _, _, _, _, _, _, _, _, _, _, _, _, _, _, _, _, _, _, _, _, _, _, _, _, _, _, _, _, _, _, _, _, _, _, _, _, _, _, _, _, _, _, _, _, _, _, _, _, _, _, _, _, _, HR.out, rfl⟩ | exact ⟨_, _, _, _, _, _, _, _, _, _, _, _, _, _, _, _, _, _, _, _, _, _, _, _, _, _, _, _, _, _, _, _, _, _, _, _, _, _, _, _, _, _, _, _, _, _, _, _, _, _, _, _, _, _, _, _, _, _, _, _, _, _, _, _, _, _, _, _, _, _, _, _, _, _, _, _, _, _, _, _, _, _, _, _, _, _, _, _, _, _, _, _, _, _, _, _, _, _, _, _, _, _, _, _, _, _, _, _, _, _, _, _, _, _, _, _, _, HR.out, rfl⟩ | exact ⟨_, _, _, _, _, _, _, _, _, _, _, _, _, _, _, _, _, _, _, _, _, _, _, _, _, _, _, _, _, _, _, _, _, _, _, _, _, _, _, _, _, _, _, _, _, _, _, _, _, _, _, _, _, _, _, _, _, _, _, _, _, _, _, _, _, _, _, _, _, _, _, _, _, _, _, _, _, _, _, _, _, _, _, _, _, _, _, _, _, _, _, _, _, _, _, _, _, _, _, _, _, _, _, _, _, _, _, _, _, _, _, _, _, _, _, _, _, _, HR.out, rfl⟩ | exact ⟨_, _, _, _, _, _, _, _, _, _, _, _, _, _, _, _, _, _, _, _, _, _, _, _, _, _, _, _, _, _, _, _, _, _, _, _, _, _, _, _, _, _, _, _, _, _, _, _, _, _, _, _, _, _, _, _, _, _, _, _, _, _, _, _, _, _, _, _, _, _, _, _, _, _, _, _, _, _, _, _, _, _, _, _, _, _, _, _, _, _, _, _, _, _, _, _, _, _, _, _, _, _, _, _, _, _, _, _, _, _, _, _, _, _, _, _, _, _, _, HR.out, rfl⟩ | exact ⟨_, _, _, _, _, _, _, _, _, _, _, _, _, _, _, _, _, _, _, _, _, _, _, _, _, _, _, _, _, _, _, _, _, _, _, _, _, _, _, _, _, _, _, _, _, _, _, _, _, _, _, _, _, _, _, _, _, _, _, _, _, _, _, _, _, _, _, _, _, _, _, _, _, _, _, _, _, _, _, _, _, _, _, _, _, _, _, _, _, _, _, _, _, _, _, _, _, _, _, _, _, _, _, _, _, _, _, _, _, _, _, _, _, _, _, _, _, _, _, _, HR.out, rfl⟩ | exact ⟨_, _, _, _, _, _, _, _, _, _, _, _, _, _, _, _, _, _, _, _, _, _, _, _, _, _, _, _, _, _, _, _, _, _, _, _, _, _, _, _, _, _, _, _, _, _, _, _, _, _, _, _, _, _, _, _, _, _, _, _, _, _, _, _, _, _, _, _, _, _, _, _, _, _, _, _, _, _, _, _, _, _, _, _, _, _, _, _, _, _, _, _, _, _, _, _, _, _, _, _, _, _, _, _, _, _, _, _, _, _, _, _, _, _, _, _, _, _, _, _, _, HR.out, rfl⟩ | exact ⟨_, _, _, _, _, _, _, _, _, _, _, _, _, _, _, _, _, _, _, _, _, _, _, _, _, _, _, _, _, _, _, _, _, _, _, _, _, _, _, _, _, _, _, _, _, _, _, _, _, _, _, _, _, _, _, _, _, _, _, _, _, _, _, _, _, _, _, _, _, _, _, _, _, _, _, _, _, _, _, _, _, _, _, _, _, _, _, _, _, _, _, _, _, _, _, _, _, _, _, _, _, _, _, _, _, _, _, _, _, _, _, _, _, _, _, _, _, _, _, _, _, _, HR.out, rfl⟩ | exact ⟨_, _, _, _, _, _, _, _, _, _, _, _, _, _, _, _, _, _, _, _, _, _, _, _, _, _, _, _, _, _, _, _, _, _, _, _, _, _, _, _, _, _, _, _, _, _, _, _, _, _, _, _, _, _, _, _, _, _, _, _, _, _, _, _, _, _, _, _, _, _, _, _, _, _, _, _, _, _, _, _, _, _, _, _, _, _, _, _, _, _, _, _, _, _, _, _, _, _, _, _, _, _, _, _, _, _, _, _, _, _, _, _, _, _, _, _, _, _, _, _, _, _, _, HR.out, rfl⟩ | exact ⟨_, _, _, _, _, _, _, _, _, _, _, _, _, _, _, _, _, _, _, _, _, _, _, _, _, _, _, _, _, _, _, _, _, _, _, _, _, _, _, _, _, _, _, _, _, _, _, _, _, _, _, _, _, _, _, _, _, _, _, _, _, _, _, _, _, _, _, _, _, _, _, _, _, _, _, _, _, _, _, _, _, _, _, _, _, _, _, _, _, _, _, _, _, _, _, _, _, _, _, _, _, _, _, _, _, _, _, _, _, _, _, _, _, _, _, _, _, _, _, _, _, _, _, _, HR.out, rfl⟩
      · have hd : ((k : Int) == p) = false := by simpa using hkp
        have HEQ : Hid (readZ X k = readZ d k) := by show _ = _; rw [HRW.out, if_neg (fun e => hkp e.symm)]
        clear hkp
        go_wp2_with fail
        refine Calls.mono HIR.out ?_
        rintro e wB ⟨uB, rfl, oB, bB⟩
        have BB := HBA.out.trans (bB.mono HBA.out.size)
        have sB := bB.size
        obtain ⟨ba, bn, bc, rfl⟩ := oB.rd.sliced
        have rW : RdB wB wr.heap.size wA.heap.size (.slice aa an ac) (readZ d k) := (OwB.rd HOA.out).same (SameIn.ofBelow bB (Nat.le_refl _))
        have rB := oB.rd
        rw [HEQ.out] at rB
        have HS1 : Hid _ := sameB_same _ _ _ _ _ _ _ wB rB rW
        have rF := (HFF.out _ BB).parts.1
        obtain ⟨a2, n2, q2, us, he2, hl2, _, hc2, hv2⟩ := rF
        simp only [Value.slice.injEq] at he2
        obtain ⟨rfl, rfl, rfl⟩ := he2
        have hkf : k < fn := by rw [HFN.out, HFLN.out]; exact hkd
        obtain ⟨gf, of, rfl, _, _, hcc2⟩ := hc2.resolve_left (by omega)
        have f2 := hcc2 k hkf
        have hr2 := hv2 k hkf
        rw [HFR.out k hkd, HEQ.out] at hr2
        generalize us k = p2 at f2 hr2
        obtain ⟨p2a, p2n, p2c, rfl⟩ := hr2.sliced
        have HS2 : Hid _ := sameB_same _ _ _ _ _ _ _ wB hr2 rW
        have y0 := (HVF.out _ BB).c0
        have hi0 : (0 : Int) ≤ (k : Int) := by omega
        have hi1 : (k : Int) < (fn : Int) := by omega
        have HR : Hid (SDRel w7 n (.int .i64 ((k : Int) + 1)) wB) := ⟨k + 1, by omega, by go_num, BB⟩
        clear HIR oB bB BB rW rB hl2 hc2 hv2 hr2 hcc2 HBA HOA HEQ x0 x1
        go_wp2_with fail
        refine Calls.mono HS1.out ?_
        rintro e wC ⟨rfl, hwC⟩
        subst hwC
        clear HS1
        go_wp2_with fail
        refine Calls.mono HS2.out ?_
        rintro e wD ⟨rfl, hwD⟩
        subst hwD
        clear HS2
        go_wp2
        refine ⟨?_, by simp [intOf]; omega⟩
        first | exact HR.out | exact ⟨_, _, _, _, _, _, _, _, _, _, _, _, _, _, _, _, _, _, _, _, _, _, _, _, _, _, _, _, _, _, _, _, _, _, _, _, _, _, _, _, _, _, _, _, _, _, _, _, _, _, _, _, _, _, _, _, _, _, _, _, _, _, _, _, _, _, _, _, _, _, _, _, _, _, _, _, _, _, _, _, _, _, _, _, _, _, _, _, _, _, HR.out, rfl⟩ | exact ⟨_, _, _, _, _, _, _, _, _, _, _, _, _, _, _, _, _, _, _, _, _, _, _, _, _, _, _, _, _, _, _, _, _, _, _, _, _, _, _, _, _, _, _, _, _, _, _, _, _, _, _, _, _, _, _, _, _, _, _, _, _, _, _, _, _, _, _, _, _, _, _, _, _, _, _, _, _, _, _, _, _, _, _, _, _, _, _, _, _, _, _, HR.out, rfl⟩ | exact ⟨_, _, _, _, _, _, _, _, _, _, _, _, _, _, _, _, _, _, _, _, _, _, _, _, _, _, _, _, _, _, _, _, _, _, _, _, _, _, _, _, _, _, _, _, _, _, _, _, _, _, _, _, _, _, _, _, _, _, _, _, _, _, _, _, _, _, _, _, _, _, _, _, _, _, _, _, _, _, _, _, _, _, _, _, _, _, _, _, _, _, _, _, HR.out, rfl⟩ | exact ⟨_, _, _, _, _, _, _, _, _, _, _, _, _, _, _, _, _, _, _, _, _, _, _, _, _, _, _, _, _, _, _, _, _, _, _, _, _, _, _, _, _, _, _, _, _, _, _, _, _, _, _, _, _, _, _, _, _, _, _, _, _, _, _, _, _, _, _, _, _, _, _, _, _, _, _, _, _, _, _, _, _, _, _, _, _, _, _, _, _, _, _, _, _, HR.out, rfl⟩ | exact ⟨_, _, _, _, _, _, _, _, _, _, _, _, _, _, _, _, _, _, _, _, _, _, _, _, _, _, _, _, _, _, _, _, _, _, _, _, _, _, _, _, _, _, _, _, _, _, _, _, _, _, _, _, _, _, _, _, _, _, _, _, _, _, _, _, _, _, _, _, _, _, _, _, _, _, _, _, _, _, _, _, _, _, _, _, _, _, _, _, _, _, _, _, _, _, HR.out, rfl⟩ | exact ⟨_, _, _, _, _, _, _, _, _, _, _, _, _, _, _, _, _, _, _, _, _, _, _, _, _, _, _, _, _, _, _, _, _, _, _, _, _, _, _, _, _, _, _, _, _, _, _, _, _, _, _, _, _, _, _, _, _, _, _, _, _, _, _, _, _, _, _, _, _, _, _, _, _, _, _, _, _, _, _, _, _, _, _, _, _, _, _, _, _, _, _, _, _, _, _, HR.out, rfl⟩ | exact ⟨_, _, _, _, _, _, _, _, _, _, _, _, _, _, _, _, _, _, _, _, _, _, _, _, _, _, _, _, _, _, _, _, _, _, _, _, _, _, _, _, _, _, _, _, _, _, _, _, _, _, _, _, _, _, _, _, _, _, _, _, _, _, _, _, _, _, _, _, _, _, _, _, _, _, _, _, _, _, _, _, _, _, _, _, _, _, _, _, _, _, _, _, _, _, _, _, HR.out, rfl⟩ | exact ⟨_, _, _, _, _, _, _, _, _, _, _, _, _, _, _, _, _, _, _, _, _, _, _, _, _, _, _, _, _, _, _, _, _, _, _, _, _, _, _, _, _, _, _, _, _, _, _, _, _, _, _, _, _, _, _, _, _, _, _, _, _, _, _, _, _, _, _, _, _, _, _, _, _, _, _, _, _, _, _, _, _, _, _, _, _, _, _, _, _, _, _, _, _, _, _, _, _, HR.out, rfl⟩ | exact ⟨_, _, _, _, _, _, _, _, _, _, _, _, _, _, _, _, _, _, _, _, _, _, _, _, _, _, _, _, _, _, _, _, _, _, _, _, _, _, _, _, _, _, _, _, _, _, _, _, _, _, _, _, _, _, _, _, _, _, _, _, _, _, _, _, _, _, _, _, _, _, _, _, _, _, _, _, _, _, _, _, _, _, _, _, _, _, _, _, _, _, _, _, _, _, _, _, _, _, HR.out, rfl⟩ | exact ⟨_, _, _, _, _, _, _, _, _, _, _, _, _, _, _, _, _, _, _, _, _, _, _, _, _, _, _, _, _, _, _, _, _, _, _, _, _, _, _, _, _, _, _, _, _, _, _, _, _, _, _, _, _, _, _, _, _, _, _, _, _, _, _, _, _, _, _, _, _, _, _, _, _, _, _, _, _, _, _, _, _, _, _, _, _, _, _, _, _, _, _, _, _, _, _, _, _, _, _, HR.out, rfl⟩ | exact ⟨_, _, _, _, _, _, _, _, _, _, _, _, _, _, _, _, _, _, _, _, _, _, _, _, _, _, _, _, _, _, _, _, _, _, _, _, _, _, _, _, _, _, _, _, _, _, _, _, _, _, _, _, _, _, _, _, _, _, _, _, _, _, _, _, _, _, _, _, _, _, _, _, _, _, _, _, _, _, _, _, _, _, _, _, _, _, _, _, _, _, _, _, _, _, _, _, _, _, _, _, HR.out, rfl⟩ | exact ⟨_, _, _, _, _, _, _, _, _, _, _, _, _, _, _, _, _, _, _, _, _, _, _, _, _, _, _, _, _, _, _, _, _, _, _, _, _, _, _, _, _, _, _, _, _, _, _, _, _, _, _, _, _, _, _, _, _, _, _, _, _, _, _, _, _, _, _, _, _, _, _, _, _, _, _, _, _, _, _, _, _, _, _, _, _, _, _, _, _, _, _, _, _, _, _, _, _, _, _, _, _, HR.out, rfl⟩ | exact ⟨_, _, _, _, _, _, _, _, _, _, _, _, _, _, _, _, _, _, _, _, _, _, _, _, _, _, _, _, _, _, _, _, _, _, _, _, _, _, _, _, _, _, _, _, _, _, _, _, _, _, _, _, _, _, _, _, _, _, _, _, _, _, _, _, _, _, _, _, _, _, _, _, _, _, _, _, _, _, _, _, _, _, _, _, _, _, _, _, _, _, _, _, _, _, _, _, _, _, _, _, _, _, HR.out, rfl⟩ | exact ⟨_, _, _, _, _, _, _, _, _, _, _, _, _, _, _, _, _, _, _, _, _, _, _, _, _, _, _, _, _, _, _, _, _, _, _, _, _, _, _, _, _, _, _, _, _, _, _, _, _, _, _, _, _, _, _, _, _, _, _, _, _, _, _, _, _, _, _, _, _, _, _, _, _, _, _, _, _, _, _, _, _, _, _, _, _, _, _, _, _, _, _, _, _, _, _, _, _, _, _, _, _, _, _, HR.out, rfl⟩ | exact ⟨_, _, _, _, _, _, _, _, _, _, _, _, _, _, _, _, _, _, _, _, _, _, _, _, _, _, _, _, _, _, _, _, _, _, _, _, _, _, _, _, _, _, _, _, _, _, _, _, _, _, _, _, _, _, _, _, _, _, _, _, _, _, _, _, _, _, _, _, _, _, _, _, _, _, _, _, _, _, _, _, _, _, _, _, _, _, _, _, _, _, _, _, _, _, _, _, _, _, _, _, _, _, _, _, HR.out, rfl⟩ | exact ⟨_, _, _, _, _, _, _, _, _, _, _, _, _, _, _, _, _, _, _, _, _, _, _, _, _, _, _, _, _, _, _, _, _, _, _, _, _, _, _, _, _, _, _, _, _, _, _, _, _, _, _, _, _, _, _, _, _, _, _, _, _, _, _, _, _, _, _, _, _, _, _, _, _, _, _, _, _, _, _, _, _, _, _, _, _, _, _, _, _, _, _, _, _, _, _, _, _, _, _, _, _, _, _, _, _, HR.out, rfl⟩ | exact ⟨_, _, _, _, _, _, _, _, _, _, _, _, _, _, _, _, _, _, _, _, _, _, _, _, _, _, _, _, _, _, _, _, _, _, _, _, _, _, _, _, _, _, _, _, _, _, _, _, _, _, _, _, _, _, _, _, _, _, _, _, _, _, _, _, _, _, _, _, _, _, _, _, _, _, _, _, _, _, _, _, _, _, _, _, _, _, _, _, _, _, _, _, _, _, _, _, _, _, _, _, _, _, _, _, _, _, HR.out, rfl⟩ | exact ⟨_, _, _, _, _, _, _, _, _, _, _, _, _, _, _, _, _, _, _, _, _, _, _, _, _, _, _, _, _, _, _, _, _, _, _, _, _, _, _, _, _, _, _, _, _, _, _, _, _, _, _, _, _, _, _, _, _, _, _, _, _, _, _, _, _, _, _, _, _, _, _, _, _, _, _, _, _, _, _, _, _, _, _, _, _, _, _, _, _, _, _, _, _, _, _, _, _, _, _, _, _, _, _, _, _, _, _, HR.out, rfl⟩ | exact ⟨_, _, _, _, _, _, _, _, _, _, _, _, _, _, _, _, _, _, _, _, _, _, _, _, _, _, _, _, _, _, _, _, _, _, _, _, _, _, _, _, _, _, _, _, _, _, _, _, _, _, _, _, _, _, _, _, _, _, _, _, _, _, _, _, _, _, _, _, _, _, _, _, _, _, _, _, _, _, _, _, _, _, _, _, _, _, _, _, _, _, _, _, _, _, _, _, _, _, _, _, _, _, _, _, _, _, _, _, HR.out, rfl⟩ | exact ⟨_, _, _, _, _, _, _, _, _, _, _, _, _, _, _, _, _, _, _, _, _, _, _, _, _, _, _, _, _, _, _, _, _, _, _, _, _, _, _, _, _, _, _, _, _, _, _, _, _, _, _, _, _, _, _, _, _, _, _, _, _, _, _, _, _, _, _, _, _, _, _, _, _, _, _, _, _, _, _, _, _, _, _, _, _, _, _, _, _, _, _, _, _, _, _, _, _, _, _, _, _, _, _, _, _, _, _, _, _, HR.out, rfl⟩ | exact ⟨_, _, _, _, _, _, _, _, _, _, _, _, _, _, _, _, _, _, _, _, _, _, _, _, _, _, _, _, _, _, _, _, _, _, _, _, _, _, _, _, _, _, _, _, _, _, _, _, _, _, _, _, _, _, _, _, _, _, _, _, _, _, _, _, _, _, _, _, _, _, _, _, _, _, _, _, _, _, _, _, _, _, _, _, _, _, _, _, _, _, _, _, _, _, _, _, _, _, _, _, _, _, _, _, _, _, _, _, _, _, HR.out, rfl⟩ | exact ⟨_, _, _, _, _, _, _, _, _, _, _, _, _, _, _, _, _, _, _, _, _, _, _, _, _, _, _, _, _, _, _, _, _, _, _, _, _, _, _, _, _, _, _, _, _, _, _, _, _, _, _, _, _, _, _, _, _, _, _, _, _, _, _, _, _, _, _, _, _, _, _, _, _, _, _, _, _, _, _, _, _, _, _, _, _, _, _, _, _, _, _, _, _, _, _, _, _, _, _, _, _, _, _, _, _, _, _, _, _, _, _, HR.out, rfl⟩ | exact ⟨_, _, _, _, _, _, _, _, _, _, _, _, _, _, _, _, _, _, _, _, _, _, _, _, _, _, _, _, _, _, _, _, _, _, _, _, _, _, _, _, _, _, _, _, _, _, _, _, _, _, _, _, _, _, _, _, _, _, _, _, _, _, _, _, _, _, _, _, _, _, _, _, _, _, _, _, _, _, _, _, _, _, _, _, _, _, _, _, _, _, _, _, _, _, _, _, _, _, _, _, _, _, _, _, _, _, _, _, _, _, _, _, HR.out, rfl⟩ | exact ⟨_, _, _, _, _, _, _, _, _, _, _, _, _, _, _, _, _, _, _, _, _, _, _, _, _, _, _, _, _, _, _, _, _, _, _, _, _, _, _, _, _, _, _, _, _, _, _, _, _, _, _, _, _, _, _, _, _, _, _, _, _, _, _, _, _, _, _, _, _, _, _, _, _, _, _, _, _, _, _, _, _, _, _, _, _, _, _, _, _, _, _, _, _, _, _, _, _, _, _, _, _, _, _, _, _, _, _, _, _, _, _, _, _, HR.out, rfl⟩ | exact ⟨_, _, _, _, _, _, _, _, _, _, _, _, _, _, _, _, _, _, _, _, _, _, _, _, _, _, _, _, _, _, _, _, _, _, _, _, _, _, _, _, _, _, _, _, _, _, _, _, _, _, _, _, _, _, _, _, _, _, _, _, _, _, _, _, _, _, _, _, _, _, _, _, _, _, _, _, _, _, _, _, _, _, _, _, _, _, _, _, _, _, _, _, _, _, _, _, _, _, _, _, _, _, _, _, _, _, _, _, _, _, _, _, _, _, HR.out, rfl⟩ | exact ⟨_, _, _, _, _, _, _, _, _, _, _, _, _, _, _, _, _, _, _, _, _, _, _, _, _, _, _, _, _, _, _, _, _, _, _, _, _, _, _, _, _, _, _, _, _, _, _, _, _, _, _, _, _, _, _, _, _, _, _, _, _, _, _, _, _, _, _, _, _, _, _, _, _, _, _, _, _, _, _, _, _, _, _, _, _, _, _, _, _, _, _, _, _, _, _, _, _, _, _, _, _, _, _, _, _, _, _, _, _, _, _, _, _, _, _, HR.out, rfl⟩ | exact ⟨_, _, _, _, _, _, _, _, _, _, _, _, _, _, _, _, _, _, _, _, _, _, _, _, _, _, _, _, _, _, _, _, _, _, _, _, _, _, _, _, _, _, _, _, _, _, _, _, _, _, _, _, _, _, _, _, _, _, _, _, _, _, _, _, _, _, _, _, _, _, _, _, _, _, _, _, _, _, _, _, _, _, _, _, _, _, _, _, _, _, _, _, _, _, _, _, _, _, _, _, _, _, _, _, _, _, _, _, _, _, _, _, _, _, _, _, HR.out, rfl⟩ | exact ⟨_, _, _, _, _, _, _, _, _, _, _, _, _, _, _, _, _, _, _, _, _, _, _, _, _, _, _, _, _, _, _, _, _, _, _, _, _, _, _, _, _, _, _, _, _, _, _, _, _, _, _, _, _, _, _, _, _, _, _, _, _, _, _, _, _, _, _, _, _, _, _, _, _, _, _, _, _, _, _, _, _, _, _, _, _, _, _, _, _, _, _, _, _, _, _, _, _, _, _, _, _, _, _, _, _, _, _, _, _, _, _, _, _, _, _, _, _, HR.out, rfl⟩ | exact ⟨_, _, _, _, _, _, _, _, _, _, _, _, _, _, _, _, _, _, _, _, _, _, _, _, _, _, _, _, _, _, _, _, _, _, _, _, _, _, _, _, _, _, _, _, _, _, _, _, _, _, _, _, _, _, _, _, _, _, _, _, _, _, _, _, _, _, _, _, _, _, _, _, _, _, _, _, _, _, _, _, _, _, _, _, _, _, _, _, _, _, _, _, _, _, _, _, _, _, _, _, _, _, _, _, _, _, _, _, _, _, _, _, _, _, _, _, _, _, HR.out, rfl⟩ | exact ⟨_, _, _, _, _, _, _, _, _, _, _, _, _, _, _, _, _, _, _, _, _, _, _, _, _, _, _, _, _, _, _, _, _, _, _, _, _, _, _, _, _, _, _, _, _, _, _, _, _, _, _, _, _, _, _, _, _, _, _, _, _, _, _, _, _, _, _, _, _, _, _, _, _, _, _, _, _, _, _, _, _, _, _, _, _, _, _, _, _, _, _, _, _, _, _, _, _, _, _, _, _, _, _, _, _, _, _, _, _, _, _, _, _, _, _, _, _, _, _, HR.out, rfl⟩ | exact ⟨_, _, _, _, _, _, _, _, _, _, _, _, _, _, _, _, _, _, _, _, _, _, _, _, _, _, _, _, _, _, _, _, _, _, _, _, _, _, _, _, _, _, _, _, _, _, _, _, _, _, _, _, _, _, _, _, _, _, _, _, _, _, _, _, _, _, _, _, _, _, _, _, _, _, _, _, _, _, _, _, _, _, _, _, _, _, _, _, _, _, _, _, _, _, _, _, _, _, _, _, _, _, _, _, _, _, _, _, _, _, _, _, _, _, _, _, _, _, _, _, HR.out, rfl⟩ | exact ⟨_, _, _, _, _, _, _, _, _, _, _, _, _, _, _, _, _, _, _, _, _, _, _, _, _, _, _, _, _, _, _, _, _, _, _, _, _, _, _, _, _, _, _, _, _, _, _, _, _, _, _, _, _, _, _, _, _, _, _, _, _, _, _, _, _, _, _, _, _, _, _, _, _, _, _, _, _, _, _, _, _, _, _, _, _, _, _, _, _, _, _, _, _, _, _, _, _, _, _, _, _, _, _, _, _, _, _, _, _, _, _, _, _, _, _, _, _, _, _, _, _, HR.out, rfl⟩ | exact ⟨_, _, _, _, _, _, _, _, _, _, _, _, _, _, _, _, _, _, _, _, _, _, _, _, _, _, _, _, _, _, _, _, _, _, _, _, _, _, _, _, _, _, _, _, _, _, _, _, _, _, _, _, _, _, _, _, _, _, _, _, _, _, _, _, _, _, _, _, _, _, _, _, _, _, _, _, _, _, _, _, _, _, _, _, _, _, _, _, _, _, _, _, _, _, _, _, _, _, _, _, _, _, _, _, _, _, _, _, _, _, _, _, _, _, _, _, _, _, _, _, _, _, HR.out, rfl⟩ | exact ⟨_, _, _, _, _, _, _, _, _, _, _, _, _, _, _, _, _, _, _, _, _, _, _, _, _, _, _, _, _, _, _, _, _, _, _, _, _, _, _, _, _, _, _, _, _, _, _, _, _, _, _, _, _, _, _, _, _, _, _, _, _, _, _, _, _, _, _, _, _, _, _, _, _, _, _, _, _, _, _, _, _, _, _, _, _, _, _, _, _, _, _, _, _, _, _, _, _, _, _, _, _, _, _, _, _, _, _, _, _, _, _, _, _, _, _, _, _, _, _, _, _, _, _, HR.out, rfl⟩ | exact ⟨_, _, _, _, _, _, _, _, _, _, _, _, _, _, _, _, _, _, _, _, _, _, _, _, _, _, _, _, _, _, _, _, _, _, _, _, _, _, _, _, _, _, _, _, _, _, _, _, _, _, _, _, _, _, _, _, _, _, _, _, _, _, _, _, _, _, _, _, _, _, _, _, _, _, _, _, _, _, _, _, _, _, _, _, _, _, _, _, _, _, _, _, _, _, _, _, _, _, _, _, _, _, _, _, _, _, _, _, _, _, _, _, _, _, _, _, _, _, _, _, _, _, _, _, HR.out, rfl⟩
    · have hk9 : ¬ (k : Int) < (n : Int) := by omega
      have HB : Hid (Below w7.heap.size w7 wr) := hbel
      have y1 := (HVF.out _ hbel).c1
      have x0 := (HVX.out _ hbel).c0
      have x1 := (HVX.out _ hbel).c1
      have HIO : Hid _ := implOk_any _ X _ _ a wr (HXX.out _ hbel) (by omega) (HG.out _ (HBB.out _ hbel))
      rw [HXO.out] at HIO
      clear hbel
      go_wp2_with fail
      refine Calls.mono HIO.out ?_
      rintro e wA ⟨rfl, bA⟩
      have BA := HB.out.trans (bA.mono HB.out.size)
      have z0 := (HVF.out _ BA).c0
      have z1 := (HVF.out _ BA).c1
      have HIF : Hid _ := implOk_any _ (FS, []) _ _ a wA (HFF.out _ BA) (by have := bA.size; omega) (HG.out _ (HBB.out _ BA))
      rw [HFO.out] at HIF
      have HBA : Hid (Below w7.heap.size w7 wA) := BA
      clear bA BA HIO HB x0 x1 y1 c0 c1
      go_wp2_with fail
      refine Calls.mono HIF.out ?_
      rintro e wB ⟨rfl, bB⟩
      have HBF : Hid _ := HBB.out _ (HBA.out.trans (bB.mono HBA.out.size))
      clear bB HBA
      go_wp2
      go_ret
      exact ⟨rfl, HBF.out⟩
end Go.Proofs.YtdpigkcdfjnpdaaDoor.fnDisks
