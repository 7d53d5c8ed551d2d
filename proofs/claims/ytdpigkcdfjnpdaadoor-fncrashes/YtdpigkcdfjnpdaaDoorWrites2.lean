/- The specification's WriteSector as a plain function of its arguments. Condition: the disk is of at most 2^21 bytes and writes. -/
import Derived.Test.YtdpigkcdfjnpdaaDoorFlushes
import Derived.Test.YtdpigkcdfjnpdaaDoorImplWrite3
import Derived.Test.YtdpigkcdfjnpdaaDoorReads2
namespace Go.Proofs.YtdpigkcdfjnpdaaDoor
open Go.RowKit
set_option linter.unusedVariables false
set_option linter.unusedSimpArgs false

theorem RdWs.len {w : World} {l h : Nat} {a : Option Addr} {n c : Nat} {z : List Wt} (r : RdWs w l h (.slice a n c) z) : n = z.length ∧ n ≤ 9223372036854775807 := by
  obtain ⟨a', n', c', vs, he, hl, hh, _⟩ := r
  simp only [Value.slice.injEq] at he
  obtain ⟨rfl, rfl, rfl⟩ := he
  exact ⟨hl, by have := hh.1; have := hh.2.1; unfold maxLen at this; omega⟩
theorem RdB.len {w : World} {l h : Nat} {a : Option Addr} {n c : Nat} {z : List Int} (r : RdB w l h (.slice a n c) z) : n = z.length := by
  obtain ⟨_, a', n', c', he, hl, _⟩ := r
  simp only [Value.slice.injEq] at he
  obtain ⟨rfl, rfl, rfl⟩ := he
  exact hl
theorem RdB.most {w : World} {l h : Nat} {a : Option Addr} {n c : Nat} {z : List Int} (r : RdB w l h (.slice a n c) z) : n ≤ 9223372036854775807 := by
  obtain ⟨_, a', n', c', he, hl, hh, _⟩ := r
  simp only [Value.slice.injEq] at he
  obtain ⟨rfl, rfl, rfl⟩ := he
  have := hh.1; have := hh.2.1; unfold maxLen at this; omega

/-- One more write was laid behind those of a disk in a variable at b. -/
theorem writeS_leaf {w wz wa w5 : World} {x y u : Value} {d : Dk} {l H h b g5 c5 : Nat} {p : Int} {zs : List Int} {xs C : List Value} (hK : KpBB w l H x d.1) (hlH : l ≤ H) (hHh : H ≤ h) (hhb : h ≤ b) (hbw : b < w.heap.size)
    (hxl : xs.length = d.2.length) (hrow : w.ownsRow H 43 2 y d.2.length C) (hyb : Before y h) (hC : ∀ i, i < d.2.length → C[i * 2]? = some (.int .i64 (d.2[i]?.getD (0, [])).1) ∧ C[i * 2 + 1]? = some (xs[i]?.getD undef))
    (he : ∀ i, i < d.2.length → RdB w H h (xs[i]?.getD undef) (d.2[i]?.getD (0, [])).2 ∧ ∀ g, (xs[i]?.getD undef).ownBlock = some g → (H ≤ g ∧ g < h) ∧ y.ownBlock ≠ some g)
    (hb : Below w.heap.size w wz) (hu : OwB wz w.heap.size wz.heap.size u zs) (hba : Below wz.heap.size wz wa)
    (ho5 : w5.ownsRow H 43 2 (.slice (some ⟨g5, 0, none⟩) (d.2.length + 1) c5) (d.2.length + 1) (C ++ [.int .i64 p, u])) (hg5 : wa.grownBy w5 y.ownBlock) (ha5 : y.ownBlock = some g5 ∨ g5 = wa.heap.size) :
    RdD (w5.setCell ⟨b, 1, none⟩ (.slice (some ⟨g5, 0, none⟩) (d.2.length + 1) c5)) l w5.heap.size (.agg #[x, .slice (some ⟨g5, 0, none⟩) (d.2.length + 1) c5]) (d.1, d.2 ++ [(p, zs)]) ∧
      TurnsV [y, .slice (some ⟨b, 0, none⟩) 0 0] w (w5.setCell ⟨b, 1, none⟩ (.slice (some ⟨g5, 0, none⟩) (d.2.length + 1) c5)) := by
  have sz := hb.size
  have sa := hba.size
  have s5 := hg5.size
  have hCl : C.length = d.2.length * 2 := hrow.1
  have hbb : Below w.heap.size w wa := hb.trans (hba.mono sz)
  have g5b : g5 ≠ b := by rcases ha5 with e | e
                          · have := hyb _ e; omega
                          · omega
  have g5w : g5 < w5.heap.size := (ho5.lt g5 rfl).2
  have hset : ∀ q, q ≠ b → (w5.setCell ⟨b, 1, none⟩ (.slice (some ⟨g5, 0, none⟩) (d.2.length + 1) c5)).heap[q]? = w5.heap[q]? := fun q hq => heap_setCell_other _ _ _ _ hq
  have hgb : w5.grownBy (w5.setCell ⟨b, 1, none⟩ (.slice (some ⟨g5, 0, none⟩) (d.2.length + 1) c5)) (some b) := ⟨rfl, rfl, rfl, by simp, fun q _ hq => hset q (fun e => hq (by rw [e]))⟩
  have hyH : ∀ q, y.ownBlock = some q → H ≤ q := fun q hq => (hrow.lt q hq).1
  have ownu : ∀ q, u.ownBlock = some q → w.heap.size ≤ q ∧ q < wz.heap.size := fun q hq => ⟨(hu.2.1.lt q hq).1, hu.2.2 q hq⟩
  generalize hw6 : w5.setCell ⟨b, 1, none⟩ (.slice (some ⟨g5, 0, none⟩) (d.2.length + 1) c5) = w6 at hset hgb
  have s6 : w6.heap.size = w5.heap.size := by rw [← hw6]; simp
  refine ⟨⟨_, _, rfl, ?_, ?_⟩, ?_⟩
  · have hx : SameIn l H w w6 := ⟨by omega, fun q h1 h2 => (hset q (by omega)).trans ((hg5.block q (by omega) (fun e => by have := hyH q e.symm; omega)).trans (hbb.block q (by omega)))⟩
    exact (hK.same hx).rd.wide (Nat.le_refl _) (by omega)
  · have hG : GrWs w6 H (.slice (some ⟨g5, 0, none⟩) (d.2.length + 1) c5) (d.2 ++ [(p, zs)]) := by
      refine ⟨xs ++ [u], C ++ [.int .i64 p, u], by simp [hxl], ?_, fun i hi => ?_, fun i hi => ?_⟩
      · have := ownsRow_kept2 (w' := w6) ho5 (fun q hq => hset q (by have := slice_block hq; simp at this; omega))
        simpa using this
      · rw [List.length_append, List.length_singleton] at hi
        rw [getD_snoc, getD_snoc, List.getElem?_append, List.getElem?_append]
        by_cases h1 : i < d.2.length
        · rw [if_pos (by omega), if_pos h1, if_pos (by omega), if_pos (by omega)]
          exact hC i h1
        · have e : i = d.2.length := by omega
          subst e
          rw [if_neg (by omega), if_neg (by omega), if_pos rfl, if_neg (by omega), if_neg (by omega), if_pos hxl.symm]
          rw [show d.2.length * 2 - C.length = 0 by omega, show d.2.length * 2 + 1 - C.length = 1 by omega]
          exact ⟨rfl, rfl⟩
      · rw [List.length_append, List.length_singleton] at hi
        rw [getD_snoc, getD_snoc]
        by_cases h1 : i < d.2.length
        · rw [if_pos (by omega), if_pos h1]
          obtain ⟨h2, h3⟩ := he i h1
          have hx : RdB w5 H h (xs[i]?.getD undef) (d.2[i]?.getD (0, [])).2 := (h2.same (SameIn.ofBelow hbb (by omega))).keep hg5 (by omega) (fun q hq => (h3 q hq).2)
          have hx' : RdB w6 H h (xs[i]?.getD undef) (d.2[i]?.getD (0, [])).2 := hx.same ⟨by omega, fun q _ hq => hset q (by omega)⟩
          refine ⟨hx'.wide (Nat.le_refl _) (by omega), fun q hq => ⟨by have := (h3 q hq).1; omega, fun e => ?_⟩⟩
          have e' : g5 = q := by have := slice_block e; simpa using this
          subst e'
          rcases ha5 with ha5 | ha5
          · exact (h3 g5 hq).2 ha5
          · have := (h3 g5 hq).1
            omega
        · have h4 : i = d.2.length := by omega
          subst h4
          rw [if_neg (by omega), if_pos hxl.symm, if_neg (by omega), if_pos rfl]
          have hua : RdB wa w.heap.size wz.heap.size u zs := hu.rd.same (SameIn.ofBelow hba (Nat.le_refl _))
          have hu5 : RdB w5 w.heap.size wz.heap.size u zs := hua.keep hg5 sa (fun q hq e => by have := (ownu q hq).1; have := hyb q e; omega)
          have hu6 : RdB w6 w.heap.size wz.heap.size u zs := hu5.keep hgb (by omega) (fun q hq e => by have h1 := (ownu q hq).1; have h2 : b = q := (by simpa using e); omega)
          refine ⟨hu6.wide (by omega) (by omega), fun q hq => ⟨by have := ownu q hq; omega, fun e => ?_⟩⟩
          have e' : g5 = q := by have := slice_block e; simpa using this
          subst e'
          have h5 := ownu g5 hq
          rcases ha5 with ha5 | ha5
          · have := hyb g5 ha5; omega
          · omega
    have := hG.rd
    rw [s6] at this
    exact this.wide hlH (Nat.le_refl _)
  · refine ⟨hgb.os.trans (hg5.os.trans hbb.os), hgb.tape.trans (hg5.tape.trans hbb.tape), hgb.output.trans (hg5.output.trans hbb.output), by omega, fun q hq hnb => ?_⟩
    refine (hset q (fun e => hnb ⟨1, by simp, ?_⟩)).trans ((hg5.block q (by omega) (fun e => hnb ⟨0, by simp, ?_⟩)).trans (hbb.block q hq))
    · subst e; rfl
    · simpa using e.symm


set_option maxHeartbeats 2000000 in
theorem specWriteSector_bad (v : Value) (d : Dk) (l h : Nat) (p : Int) (sv : Value) (zs : List Int) (lz hz : Nat) (w : World) (r : RdD w l h v d) (hh : h ≤ w.heap.size) (rz : RdB w lz hz sv zs) (hhz : hz ≤ w.heap.size) (hsm : Small d) (hok : okD d = true) (hb : writeOk d p zs = false) :
    Calls Tryd.prog 28 #[v, .int .i64 p, sv] w fun e w' => ∃ u, e = .returned (.tuple #[u, .bool false]) ∧ RdD w' w.heap.size w'.heap.size u d ∧ Below w.heap.size w w' := by
  obtain ⟨xa, xn, xc, ya, yn, yc, rfl⟩ := r.open
  obtain ⟨za, zn, zc, rfl⟩ := rz.sliced
  have b0 := Below.new (w := w) (.cells #[.slice xa xn xc, .slice ya yn yc] 26)
  have v0 := VarD.new w (.slice xa xn xc) (.slice ya yn yc)
  generalize hw0 : w.alloc (.cells #[.slice xa xn xc, .slice ya yn yc] 26) = w0 at b0 v0
  have s0 : w0.heap.size = w.heap.size + 1 := by rw [← hw0]; simp
  have b1 := Below.new (w := w0) (.cells #[.slice none 0 0, .slice none 0 0] 26)
  have vR := VarD.new w0 (.slice none 0 0) (.slice none 0 0)
  rw [s0] at vR
  have v1 := v0.step b1
  generalize hw1 : w0.alloc (.cells #[.slice none 0 0, .slice none 0 0] 26) = w1 at b1 vR v1
  have B1 : Below w.heap.size w w1 := b0.trans (b1.mono (by omega))
  have r1 := r.step hh B1
  have sR := vR.lt
  have hln := r1.parts.1.len
  have hlm := r1.parts.2.len
  have hxm := hln.2
  have hym := hlm.2
  have hzl := rz.len
  have hzm := rz.most
  have HOK : Hid _ := specOk_any _ d l h w1 r1 (by omega)
  have HW : Hid ((w.alloc (.cells #[.slice xa xn xc, .slice ya yn yc] 26)).alloc (.cells #[.slice none 0 0, .slice none 0 0] 26) = w1) := by show _ = _; rw [hw0, hw1]
  have HR1 : Hid (RdD w1 l h _ d) := r1
  have HRZ : Hid (∀ W, Below w.heap.size w W → RdB W lz hz (.slice za zn zc) zs) := fun W hW => rz.same (SameIn.ofBelow hW hhz)
  have HV1 : Hid (VarD w1 w.heap.size _ _) := v1
  have HVR : Hid (VarD w1 (w.heap.size + 1) _ _) := vR
  have HB1 : Hid (Below w.heap.size w w1) := B1
  have HSM : Hid _ := hsm
  have c0 := v1.c0
  have c1 := v1.c1
  clear hw0 hw1 r b0 v0 b1 vR v1 r1 B1 s0 hsm rz
  rw [hok] at HOK
  have hbad : p < 0 ∨ (xn : Int) ≤ p ∨ zn ≠ 32 ∨ 2000 ≤ yn := by
    unfold writeOk at hb
    simp only [Bool.and_eq_false_iff, decide_eq_false_iff_not] at hb
    rw [hln.1, hlm.1, hzl]
    omega
  clear hln hlm hzl hb hok
  by_cases h0 : p < 0
  · have hd0 : decide (p < 0) = true := by simpa using h0
    clear hbad
    go_enter Tryd.func28, Tryd.ntmps28
    go_wp2_with fail
    rw [HW.out]
    refine Calls.mono HOK.out ?_
    rintro e w2 ⟨rfl, b2⟩
    have v2 := VarD.step HV1.out b2
    have vR2 := VarD.step HVR.out b2
    have r2 := RdD.step HR1.out (by omega) b2
    have B2 := HB1.out.trans (b2.mono HB1.out.size)
    have s2 := b2.size
    have k0 := v2.c0
    have k1 := v2.c1
    have HCL : Hid _ := specCopy_any _ d l h w2 r2 (by omega) HSM.out
    have HVR2 : Hid (VarD w2 (w.heap.size + 1) _ _) := vR2
    have HV2 : Hid (VarD w2 w.heap.size _ _) := v2
    have HB2 : Hid (Below w.heap.size w w2) := B2
    clear r2 v2 vR2 b2 B2 c0 c1 HR1 HV1 HVR HB1 HOK
    go_wp2_with fail
    refine Calls.mono HCL.out ?_
    rintro e w3 ⟨x, y, H, rfl, oX, oY, hH, b3⟩
    obtain ⟨pa, pc, rfl⟩ := oX.sliced
    obtain ⟨qa, qn, qc, rfl⟩ := oY.rd.sliced
    have s3 := b3.size
    have b4 := Below.new (w := w3) (.cells #[.slice pa d.1.length pc, .slice qa qn qc] 26)
    have vO := VarD.new w3 (.slice pa d.1.length pc) (.slice qa qn qc)
    have vR4 := (VarD.step HVR2.out b3).step b4
    have v4 := (VarD.step HV2.out b3).step b4
    have oX4 := oX.same (SameIn.ofBelow b4 hH.2)
    have oY4 := oY.same (SameIn.ofBelow b4 (Nat.le_refl _))
    have B4 := (HB2.out.trans (b3.mono HB2.out.size)).trans (b4.mono (by have := HB2.out.size; omega))
    generalize hw4 : w3.alloc (.cells #[.slice pa d.1.length pc, .slice qa qn qc] 26) = w4 at b4 vO vR4 v4 oX4 oY4 B4
    have HW4 : Hid _ := hw4
    have s4 := vO.lt
    have k0 := v4.c0
    have k1 := v4.c1
    have o0 := vO.c0
    have o1 := vO.c1
    have e0 := vR4.c0
    have e1 := vR4.c1
    have f0 := vR4.f 0
    have f1 := vR4.f 1
    have HX4 : Hid (KpBB w4 w2.heap.size H _ d.1) := oX4
    have HY4 : Hid (GrWs w4 H _ d.2) := oY4
    have HB4 : Hid (Below w.heap.size w w4) := B4
    clear hw4 oX oY oX4 oY4 vO vR4 v4 B4 b4 b3 HVR2 HV2 HB2 HCL
    go_wp2_with (rw [HW4.out])
    refine bodyPost_ret (v := .tuple #[.agg #[.slice pa d.1.length pc, .slice qa qn qc], .bool false]) (by simp [results, Tryd.results28, go_sem, e0, e1]) rfl ⟨_, rfl, ?_, ?_⟩
    · have same : SameIn w2.heap.size w4.heap.size w4 ((w4.setCell ⟨w.heap.size + 1, 0, none⟩ (.slice pa d.1.length pc)).setCell ⟨w.heap.size + 1, 1, none⟩ (.slice qa qn qc)) := SameIn.trans (SameIn.set (.inl (by show w.heap.size + 1 < _; omega))) (SameIn.set (.inl (by show w.heap.size + 1 < _; omega)))
      exact RdD.wide (RdD.same ⟨_, _, rfl, HX4.out.rd.wide (Nat.le_refl _) (by omega), HY4.out.rd.wide hH.1 (Nat.le_refl _)⟩ same) (by omega) (by simp)
    · exact (HB4.out.setCell (by show w.heap.size ≤ w.heap.size + 1; omega) _).setCell (by show w.heap.size ≤ w.heap.size + 1; omega) _
  · skip
    by_cases h1 : (xn : Int) ≤ p
    · have hd0 : decide (p < 0) = false := by simpa using h0
      have hd1 : decide ((xn : Int) ≤ p) = true := by simpa using h1
      clear hbad
      go_enter Tryd.func28, Tryd.ntmps28
      go_wp2_with fail
      rw [HW.out]
      refine Calls.mono HOK.out ?_
      rintro e w2 ⟨rfl, b2⟩
      have v2 := VarD.step HV1.out b2
      have vR2 := VarD.step HVR.out b2
      have r2 := RdD.step HR1.out (by omega) b2
      have B2 := HB1.out.trans (b2.mono HB1.out.size)
      have s2 := b2.size
      have k0 := v2.c0
      have k1 := v2.c1
      have HCL : Hid _ := specCopy_any _ d l h w2 r2 (by omega) HSM.out
      have HVR2 : Hid (VarD w2 (w.heap.size + 1) _ _) := vR2
      have HV2 : Hid (VarD w2 w.heap.size _ _) := v2
      have HB2 : Hid (Below w.heap.size w w2) := B2
      clear r2 v2 vR2 b2 B2 c0 c1 HR1 HV1 HVR HB1 HOK
      go_wp2_with fail
      refine Calls.mono HCL.out ?_
      rintro e w3 ⟨x, y, H, rfl, oX, oY, hH, b3⟩
      obtain ⟨pa, pc, rfl⟩ := oX.sliced
      obtain ⟨qa, qn, qc, rfl⟩ := oY.rd.sliced
      have s3 := b3.size
      have b4 := Below.new (w := w3) (.cells #[.slice pa d.1.length pc, .slice qa qn qc] 26)
      have vO := VarD.new w3 (.slice pa d.1.length pc) (.slice qa qn qc)
      have vR4 := (VarD.step HVR2.out b3).step b4
      have v4 := (VarD.step HV2.out b3).step b4
      have oX4 := oX.same (SameIn.ofBelow b4 hH.2)
      have oY4 := oY.same (SameIn.ofBelow b4 (Nat.le_refl _))
      have B4 := (HB2.out.trans (b3.mono HB2.out.size)).trans (b4.mono (by have := HB2.out.size; omega))
      generalize hw4 : w3.alloc (.cells #[.slice pa d.1.length pc, .slice qa qn qc] 26) = w4 at b4 vO vR4 v4 oX4 oY4 B4
      have HW4 : Hid _ := hw4
      have s4 := vO.lt
      have k0 := v4.c0
      have k1 := v4.c1
      have o0 := vO.c0
      have o1 := vO.c1
      have e0 := vR4.c0
      have e1 := vR4.c1
      have f0 := vR4.f 0
      have f1 := vR4.f 1
      have HX4 : Hid (KpBB w4 w2.heap.size H _ d.1) := oX4
      have HY4 : Hid (GrWs w4 H _ d.2) := oY4
      have HB4 : Hid (Below w.heap.size w w4) := B4
      clear hw4 oX oY oX4 oY4 vO vR4 v4 B4 b4 b3 HVR2 HV2 HB2 HCL
      go_wp2_with (rw [HW4.out])
      refine bodyPost_ret (v := .tuple #[.agg #[.slice pa d.1.length pc, .slice qa qn qc], .bool false]) (by simp [results, Tryd.results28, go_sem, e0, e1]) rfl ⟨_, rfl, ?_, ?_⟩
      · have same : SameIn w2.heap.size w4.heap.size w4 ((w4.setCell ⟨w.heap.size + 1, 0, none⟩ (.slice pa d.1.length pc)).setCell ⟨w.heap.size + 1, 1, none⟩ (.slice qa qn qc)) := SameIn.trans (SameIn.set (.inl (by show w.heap.size + 1 < _; omega))) (SameIn.set (.inl (by show w.heap.size + 1 < _; omega)))
        exact RdD.wide (RdD.same ⟨_, _, rfl, HX4.out.rd.wide (Nat.le_refl _) (by omega), HY4.out.rd.wide hH.1 (Nat.le_refl _)⟩ same) (by omega) (by simp)
      · exact (HB4.out.setCell (by show w.heap.size ≤ w.heap.size + 1; omega) _).setCell (by show w.heap.size ≤ w.heap.size + 1; omega) _
    · skip
      by_cases h2 : zn ≠ 32
      · have hd0 : decide (p < 0) = false := by simpa using h0
        have hd1 : decide ((xn : Int) ≤ p) = false := by simpa using h1
        have hd2 : ((zn : Int) != 32) = true := by simp; omega
        clear hbad
        go_enter Tryd.func28, Tryd.ntmps28
        go_wp2_with fail
        rw [HW.out]
        refine Calls.mono HOK.out ?_
        rintro e w2 ⟨rfl, b2⟩
        have v2 := VarD.step HV1.out b2
        have vR2 := VarD.step HVR.out b2
        have r2 := RdD.step HR1.out (by omega) b2
        have B2 := HB1.out.trans (b2.mono HB1.out.size)
        have s2 := b2.size
        have k0 := v2.c0
        have k1 := v2.c1
        have HCL : Hid _ := specCopy_any _ d l h w2 r2 (by omega) HSM.out
        have HVR2 : Hid (VarD w2 (w.heap.size + 1) _ _) := vR2
        have HV2 : Hid (VarD w2 w.heap.size _ _) := v2
        have HB2 : Hid (Below w.heap.size w w2) := B2
        clear r2 v2 vR2 b2 B2 c0 c1 HR1 HV1 HVR HB1 HOK
        go_wp2_with fail
        refine Calls.mono HCL.out ?_
        rintro e w3 ⟨x, y, H, rfl, oX, oY, hH, b3⟩
        obtain ⟨pa, pc, rfl⟩ := oX.sliced
        obtain ⟨qa, qn, qc, rfl⟩ := oY.rd.sliced
        have s3 := b3.size
        have b4 := Below.new (w := w3) (.cells #[.slice pa d.1.length pc, .slice qa qn qc] 26)
        have vO := VarD.new w3 (.slice pa d.1.length pc) (.slice qa qn qc)
        have vR4 := (VarD.step HVR2.out b3).step b4
        have v4 := (VarD.step HV2.out b3).step b4
        have oX4 := oX.same (SameIn.ofBelow b4 hH.2)
        have oY4 := oY.same (SameIn.ofBelow b4 (Nat.le_refl _))
        have B4 := (HB2.out.trans (b3.mono HB2.out.size)).trans (b4.mono (by have := HB2.out.size; omega))
        generalize hw4 : w3.alloc (.cells #[.slice pa d.1.length pc, .slice qa qn qc] 26) = w4 at b4 vO vR4 v4 oX4 oY4 B4
        have HW4 : Hid _ := hw4
        have s4 := vO.lt
        have k0 := v4.c0
        have k1 := v4.c1
        have o0 := vO.c0
        have o1 := vO.c1
        have e0 := vR4.c0
        have e1 := vR4.c1
        have f0 := vR4.f 0
        have f1 := vR4.f 1
        have HX4 : Hid (KpBB w4 w2.heap.size H _ d.1) := oX4
        have HY4 : Hid (GrWs w4 H _ d.2) := oY4
        have HB4 : Hid (Below w.heap.size w w4) := B4
        clear hw4 oX oY oX4 oY4 vO vR4 v4 B4 b4 b3 HVR2 HV2 HB2 HCL
        go_wp2_with (rw [HW4.out])
        refine bodyPost_ret (v := .tuple #[.agg #[.slice pa d.1.length pc, .slice qa qn qc], .bool false]) (by simp [results, Tryd.results28, go_sem, e0, e1]) rfl ⟨_, rfl, ?_, ?_⟩
        · have same : SameIn w2.heap.size w4.heap.size w4 ((w4.setCell ⟨w.heap.size + 1, 0, none⟩ (.slice pa d.1.length pc)).setCell ⟨w.heap.size + 1, 1, none⟩ (.slice qa qn qc)) := SameIn.trans (SameIn.set (.inl (by show w.heap.size + 1 < _; omega))) (SameIn.set (.inl (by show w.heap.size + 1 < _; omega)))
          exact RdD.wide (RdD.same ⟨_, _, rfl, HX4.out.rd.wide (Nat.le_refl _) (by omega), HY4.out.rd.wide hH.1 (Nat.le_refl _)⟩ same) (by omega) (by simp)
        · exact (HB4.out.setCell (by show w.heap.size ≤ w.heap.size + 1; omega) _).setCell (by show w.heap.size ≤ w.heap.size + 1; omega) _
      · skip
        have hd0 : decide (p < 0) = false := by simpa using h0
        have hd1 : decide ((xn : Int) ≤ p) = false := by simpa using h1
        have hd2 : ((zn : Int) != 32) = false := by simp; omega
        have hd3 : decide ((2000 : Int) ≤ (yn : Int)) = true := by simp; omega
        clear hbad
        go_enter Tryd.func28, Tryd.ntmps28
        go_wp2_with fail
        rw [HW.out]
        refine Calls.mono HOK.out ?_
        rintro e w2 ⟨rfl, b2⟩
        have v2 := VarD.step HV1.out b2
        have vR2 := VarD.step HVR.out b2
        have r2 := RdD.step HR1.out (by omega) b2
        have B2 := HB1.out.trans (b2.mono HB1.out.size)
        have s2 := b2.size
        have k0 := v2.c0
        have k1 := v2.c1
        have HCL : Hid _ := specCopy_any _ d l h w2 r2 (by omega) HSM.out
        have HVR2 : Hid (VarD w2 (w.heap.size + 1) _ _) := vR2
        have HV2 : Hid (VarD w2 w.heap.size _ _) := v2
        have HB2 : Hid (Below w.heap.size w w2) := B2
        clear r2 v2 vR2 b2 B2 c0 c1 HR1 HV1 HVR HB1 HOK
        go_wp2_with fail
        refine Calls.mono HCL.out ?_
        rintro e w3 ⟨x, y, H, rfl, oX, oY, hH, b3⟩
        obtain ⟨pa, pc, rfl⟩ := oX.sliced
        obtain ⟨qa, qn, qc, rfl⟩ := oY.rd.sliced
        have s3 := b3.size
        have b4 := Below.new (w := w3) (.cells #[.slice pa d.1.length pc, .slice qa qn qc] 26)
        have vO := VarD.new w3 (.slice pa d.1.length pc) (.slice qa qn qc)
        have vR4 := (VarD.step HVR2.out b3).step b4
        have v4 := (VarD.step HV2.out b3).step b4
        have oX4 := oX.same (SameIn.ofBelow b4 hH.2)
        have oY4 := oY.same (SameIn.ofBelow b4 (Nat.le_refl _))
        have B4 := (HB2.out.trans (b3.mono HB2.out.size)).trans (b4.mono (by have := HB2.out.size; omega))
        generalize hw4 : w3.alloc (.cells #[.slice pa d.1.length pc, .slice qa qn qc] 26) = w4 at b4 vO vR4 v4 oX4 oY4 B4
        have HW4 : Hid _ := hw4
        have s4 := vO.lt
        have k0 := v4.c0
        have k1 := v4.c1
        have o0 := vO.c0
        have o1 := vO.c1
        have e0 := vR4.c0
        have e1 := vR4.c1
        have f0 := vR4.f 0
        have f1 := vR4.f 1
        have HX4 : Hid (KpBB w4 w2.heap.size H _ d.1) := oX4
        have HY4 : Hid (GrWs w4 H _ d.2) := oY4
        have HB4 : Hid (Below w.heap.size w w4) := B4
        clear hw4 oX oY oX4 oY4 vO vR4 v4 B4 b4 b3 HVR2 HV2 HB2 HCL
        go_wp2_with (rw [HW4.out])
        refine bodyPost_ret (v := .tuple #[.agg #[.slice pa d.1.length pc, .slice qa qn qc], .bool false]) (by simp [results, Tryd.results28, go_sem, e0, e1]) rfl ⟨_, rfl, ?_, ?_⟩
        · have same : SameIn w2.heap.size w4.heap.size w4 ((w4.setCell ⟨w.heap.size + 1, 0, none⟩ (.slice pa d.1.length pc)).setCell ⟨w.heap.size + 1, 1, none⟩ (.slice qa qn qc)) := SameIn.trans (SameIn.set (.inl (by show w.heap.size + 1 < _; omega))) (SameIn.set (.inl (by show w.heap.size + 1 < _; omega)))
          exact RdD.wide (RdD.same ⟨_, _, rfl, HX4.out.rd.wide (Nat.le_refl _) (by omega), HY4.out.rd.wide hH.1 (Nat.le_refl _)⟩ same) (by omega) (by simp)
        · exact (HB4.out.setCell (by show w.heap.size ≤ w.heap.size + 1; omega) _).setCell (by show w.heap.size ≤ w.heap.size + 1; omega) _

set_option maxHeartbeats 2000000 in
theorem specWriteSector_not (v : Value) (d : Dk) (l h : Nat) (p : Int) (sv : Value) (zs : List Int) (lz hz : Nat) (w : World) (r : RdD w l h v d) (hh : h ≤ w.heap.size) (rz : RdB w lz hz sv zs) (hhz : hz ≤ w.heap.size) (hsm : Small d) (hok : okD d = false) :
    Calls Tryd.prog 28 #[v, .int .i64 p, sv] w fun e w' => ∃ u, e = .returned (.tuple #[u, .bool false]) ∧ RdD w' w.heap.size w'.heap.size u ([], []) ∧ Below w.heap.size w w' := by
  obtain ⟨xa, xn, xc, ya, yn, yc, rfl⟩ := r.open
  obtain ⟨za, zn, zc, rfl⟩ := rz.sliced
  have b0 := Below.new (w := w) (.cells #[.slice xa xn xc, .slice ya yn yc] 26)
  have v0 := VarD.new w (.slice xa xn xc) (.slice ya yn yc)
  generalize hw0 : w.alloc (.cells #[.slice xa xn xc, .slice ya yn yc] 26) = w0 at b0 v0
  have s0 : w0.heap.size = w.heap.size + 1 := by rw [← hw0]; simp
  have b1 := Below.new (w := w0) (.cells #[.slice none 0 0, .slice none 0 0] 26)
  have vR := VarD.new w0 (.slice none 0 0) (.slice none 0 0)
  rw [s0] at vR
  have v1 := v0.step b1
  generalize hw1 : w0.alloc (.cells #[.slice none 0 0, .slice none 0 0] 26) = w1 at b1 vR v1
  have B1 : Below w.heap.size w w1 := b0.trans (b1.mono (by omega))
  have r1 := r.step hh B1
  have sR := vR.lt
  have hln := r1.parts.1.len
  have hlm := r1.parts.2.len
  have hxm := hln.2
  have hym := hlm.2
  have hzl := rz.len
  have hzm := rz.most
  have HOK : Hid _ := specOk_any _ d l h w1 r1 (by omega)
  have HW : Hid ((w.alloc (.cells #[.slice xa xn xc, .slice ya yn yc] 26)).alloc (.cells #[.slice none 0 0, .slice none 0 0] 26) = w1) := by show _ = _; rw [hw0, hw1]
  have HR1 : Hid (RdD w1 l h _ d) := r1
  have HRZ : Hid (∀ W, Below w.heap.size w W → RdB W lz hz (.slice za zn zc) zs) := fun W hW => rz.same (SameIn.ofBelow hW hhz)
  have HV1 : Hid (VarD w1 w.heap.size _ _) := v1
  have HVR : Hid (VarD w1 (w.heap.size + 1) _ _) := vR
  have HB1 : Hid (Below w.heap.size w w1) := B1
  have HSM : Hid _ := hsm
  have c0 := v1.c0
  have c1 := v1.c1
  clear hw0 hw1 r b0 v0 b1 vR v1 r1 B1 s0 hsm rz
  rw [hok] at HOK
  clear hln hlm hzl hok
  go_enter Tryd.func28, Tryd.ntmps28
  go_wp2_with fail
  rw [HW.out]
  refine Calls.mono HOK.out ?_
  rintro e w2 ⟨rfl, b2⟩
  have vR2 := VarD.step HVR.out b2
  have B2 := HB1.out.trans (b2.mono HB1.out.size)
  have e0 := vR2.c0
  have e1 := vR2.c1
  have f0 := vR2.f 0
  have f1 := vR2.f 1
  have HB2 : Hid (Below w.heap.size w w2) := B2
  clear b2 vR2 B2 HR1 HV1 HVR HB1 c0 c1 HOK
  go_wp2
  refine bodyPost_ret (v := .tuple #[.agg #[.slice none 0 0, .slice none 0 0], .bool false]) (by simp [results, Tryd.results28, go_sem, e0, e1]) rfl ⟨_, rfl, RdD_nil _ _ _, ?_⟩
  exact (HB2.out.setCell (by show w.heap.size ≤ w.heap.size + 1; omega) _).setCell (by show w.heap.size ≤ w.heap.size + 1; omega) _

set_option maxHeartbeats 2000000 in
theorem specWriteSector_good (v : Value) (d : Dk) (l h : Nat) (p : Int) (sv : Value) (zs : List Int) (lz hz : Nat) (w : World) (r : RdD w l h v d) (hh : h ≤ w.heap.size) (rz : RdB w lz hz sv zs) (hhz : hz ≤ w.heap.size) (hsm : Small d) (hok : okD d = true) (hb : writeOk d p zs = true) :
    Calls Tryd.prog 28 #[v, .int .i64 p, sv] w fun e w' => ∃ u, e = .returned (.tuple #[u, .bool true]) ∧ RdD w' w.heap.size w'.heap.size u (d.1, d.2 ++ [(p, zs)]) ∧ Below w.heap.size w w' := by
  obtain ⟨xa, xn, xc, ya, yn, yc, rfl⟩ := r.open
  obtain ⟨za, zn, zc, rfl⟩ := rz.sliced
  have b0 := Below.new (w := w) (.cells #[.slice xa xn xc, .slice ya yn yc] 26)
  have v0 := VarD.new w (.slice xa xn xc) (.slice ya yn yc)
  generalize hw0 : w.alloc (.cells #[.slice xa xn xc, .slice ya yn yc] 26) = w0 at b0 v0
  have s0 : w0.heap.size = w.heap.size + 1 := by rw [← hw0]; simp
  have b1 := Below.new (w := w0) (.cells #[.slice none 0 0, .slice none 0 0] 26)
  have vR := VarD.new w0 (.slice none 0 0) (.slice none 0 0)
  rw [s0] at vR
  have v1 := v0.step b1
  generalize hw1 : w0.alloc (.cells #[.slice none 0 0, .slice none 0 0] 26) = w1 at b1 vR v1
  have B1 : Below w.heap.size w w1 := b0.trans (b1.mono (by omega))
  have r1 := r.step hh B1
  have sR := vR.lt
  have hln := r1.parts.1.len
  have hlm := r1.parts.2.len
  have hxm := hln.2
  have hym := hlm.2
  have hzl := rz.len
  have hzm := rz.most
  have HOK : Hid _ := specOk_any _ d l h w1 r1 (by omega)
  have HW : Hid ((w.alloc (.cells #[.slice xa xn xc, .slice ya yn yc] 26)).alloc (.cells #[.slice none 0 0, .slice none 0 0] 26) = w1) := by show _ = _; rw [hw0, hw1]
  have HR1 : Hid (RdD w1 l h _ d) := r1
  have HRZ : Hid (∀ W, Below w.heap.size w W → RdB W lz hz (.slice za zn zc) zs) := fun W hW => rz.same (SameIn.ofBelow hW hhz)
  have HV1 : Hid (VarD w1 w.heap.size _ _) := v1
  have HVR : Hid (VarD w1 (w.heap.size + 1) _ _) := vR
  have HB1 : Hid (Below w.heap.size w w1) := B1
  have HSM : Hid _ := hsm
  have c0 := v1.c0
  have c1 := v1.c1
  clear hw0 hw1 r b0 v0 b1 vR v1 r1 B1 s0 hsm rz
  rw [hok] at HOK
  have hgood : ¬ p < 0 ∧ ¬ (xn : Int) ≤ p ∧ zn = 32 ∧ ¬ 2000 ≤ yn := by
    unfold writeOk at hb
    simp only [Bool.and_eq_true, decide_eq_true_eq] at hb
    rw [hln.1, hlm.1, hzl]
    omega
  have HZL : Hid _ := hzl
  have hd2l : d.2.length < 2000 := by omega
  have hzl9 : zs.length ≤ 32 := by omega
  clear hln hlm hzl hb hok
  have hd0 : decide (p < 0) = false := by simpa using hgood.1
  have hd1 : decide ((xn : Int) ≤ p) = false := by simpa using hgood.2.1
  have hd2 : ((zn : Int) != 32) = false := by simp; omega
  have hd3 : decide ((2000 : Int) ≤ (yn : Int)) = false := by simp; omega
  clear hgood
  go_enter Tryd.func28, Tryd.ntmps28
  go_wp2_with fail
  rw [HW.out]
  refine Calls.mono HOK.out ?_
  rintro e w2 ⟨rfl, b2⟩
  have v2 := VarD.step HV1.out b2
  have vR2 := VarD.step HVR.out b2
  have r2 := RdD.step HR1.out (by omega) b2
  have B2 := HB1.out.trans (b2.mono HB1.out.size)
  have s2 := b2.size
  have k0 := v2.c0
  have k1 := v2.c1
  have HCL : Hid _ := specCopy_any _ d l h w2 r2 (by omega) HSM.out
  have HVR2 : Hid (VarD w2 (w.heap.size + 1) _ _) := vR2
  have HV2 : Hid (VarD w2 w.heap.size _ _) := v2
  have HB2 : Hid (Below w.heap.size w w2) := B2
  clear r2 v2 vR2 b2 B2 c0 c1 HR1 HV1 HVR HB1 HOK
  go_wp2_with fail
  refine Calls.mono HCL.out ?_
  rintro e w3 ⟨x, y, H, rfl, oX, oY, hH, b3⟩
  obtain ⟨pa, pc, rfl⟩ := oX.sliced
  obtain ⟨qa, qn, qc, rfl⟩ := oY.rd.sliced
  have s3 := b3.size
  have b4 := Below.new (w := w3) (.cells #[.slice pa d.1.length pc, .slice qa qn qc] 26)
  have vO := VarD.new w3 (.slice pa d.1.length pc) (.slice qa qn qc)
  have vR4 := (VarD.step HVR2.out b3).step b4
  have v4 := (VarD.step HV2.out b3).step b4
  have oX4 := oX.same (SameIn.ofBelow b4 hH.2)
  have oY4 := oY.same (SameIn.ofBelow b4 (Nat.le_refl _))
  have B4 := (HB2.out.trans (b3.mono HB2.out.size)).trans (b4.mono (by have := HB2.out.size; omega))
  generalize hw4 : w3.alloc (.cells #[.slice pa d.1.length pc, .slice qa qn qc] 26) = w4 at b4 vO vR4 v4 oX4 oY4 B4
  have HW4 : Hid _ := hw4
  have s4 := vO.lt
  have k0 := v4.c0
  have k1 := v4.c1
  have o0 := vO.c0
  have o1 := vO.c1
  have e0 := vR4.c0
  have e1 := vR4.c1
  have f0 := vR4.f 0
  have f1 := vR4.f 1
  have HX4 : Hid (KpBB w4 w2.heap.size H _ d.1) := oX4
  have HB4 : Hid (Below w.heap.size w w4) := B4
  obtain ⟨xs, C, hxl, hrow, hCC, hee⟩ := oY
  have HROW : Hid (w4.ownsRow H 43 2 (.slice qa qn qc) d.2.length C) := ownsRow_same hrow (fun k hk => (hrow.lt k hk).2) (SameIn.ofBelow b4 (Nat.le_refl _))
  have HYH : Hid (∀ q, (Value.slice qa qn qc).ownBlock = some q → H ≤ q ∧ q < w3.heap.size) := fun q hq => hrow.lt q hq
  have HYB : Hid ((Value.slice qa qn qc).ownBlock ≠ some w3.heap.size) := fun e => by have := (hrow.lt _ e).2; omega
  have HREST : Hid (xs.length = d.2.length ∧ Before (.slice qa qn qc) w3.heap.size ∧ (∀ i, i < d.2.length → C[i * 2]? = some (.int .i64 (d.2[i]?.getD (0, [])).1) ∧ C[i * 2 + 1]? = some (xs[i]?.getD undef)) ∧ ∀ i, i < d.2.length → RdB w4 H w3.heap.size (xs[i]?.getD undef) (d.2[i]?.getD (0, [])).2 ∧ ∀ g, (xs[i]?.getD undef).ownBlock = some g → (H ≤ g ∧ g < w3.heap.size) ∧ (Value.slice qa qn qc).ownBlock ≠ some g) := ⟨hxl, fun q hq => (hrow.lt q hq).2, hCC, fun i hi => ⟨(hee i hi).1.same (SameIn.ofBelow b4 (Nat.le_refl _)), (hee i hi).2⟩⟩
  have HNB : Hid (∀ q, q < w2.heap.size → ¬ Blk [.slice qa qn qc, .slice (some ⟨w3.heap.size, 0, none⟩) 0 0] q) := fun q hq hb => by
    obtain ⟨i, hi, hk⟩ := hb
    match i, hi, hk with
    | 0, _, hk => have := (hrow.lt q (by simpa using hk)).1; omega
    | 1, _, hk => have := slice_block (show (Value.slice (some ⟨w3.heap.size, 0, none⟩) 0 0).ownBlock = some q by simpa using hk); simp at this; omega
    | i + 2, hi, _ => have h2 : i + 2 < 2 := hi; omega
  have HVO : Hid (VarD w4 w3.heap.size _ _) := vO
  have HVR4 : Hid (VarD w4 (w.heap.size + 1) _ _) := vR4
  clear hw4 oX oX4 oY4 vO vR4 v4 B4 b4 b3 HVR2 HV2 HB2 HCL hxl hrow hCC hee
  go_wp2_with (rw [HW4.out])
  obtain ⟨hzb, za', zn', zc', hze, hzn, hzh, hzr⟩ := (HRZ.out _ HB4.out).reads
  simp only [Value.slice.injEq] at hze
  obtain ⟨rfl, rfl, rfl⟩ := hze
  have HZN : Hid _ := hzn
  have HZH : Hid _ := hzh.2.2
  have HZB : Hid _ := hzb
  have HRR : Hid (Reads (w4.alloc (.cells #[] 5)).drew za zs) := hzr.below (((Below.refl _ _).alloc (Nat.le_refl _) _).drew)
  have HOE : Hid (Owns (w4.alloc (.cells #[] 5)).drew w4.heap.size (.slice (some ⟨w4.heap.size, 0, none⟩) 0 0) []) := (owns_empty w4).step (Below.drew (Below.refl _ _))
  have HSZ : Hid (w4.heap.size ≤ (w4.alloc (.cells #[] 5)).drew.heap.size) := by show _ ≤ _; simp
  have HBE0 : Hid (Below w4.heap.size w4 (w4.alloc (.cells #[] 5)).drew) := ((Below.refl _ _).alloc (Nat.le_refl _) _).drew
  have hzl : zs.length ≤ 4194304 := by omega
  have hm4 : d.2.length ≤ 4194304 := by omega
  have n1 : ¬ w3.heap.size = w4.heap.size := by omega
  have of := VarD.f HVO.out 1
  have HRE : Hid (∀ W, W.heap[w.heap.size + 1]? = w4.heap[w.heap.size + 1]? → VarD W (w.heap.size + 1) (.slice none 0 0) (.slice none 0 0)) := fun W hW => hW.trans HVR4.out
  clear hzn hzh hzr hzb
  refine wp_region_noPanic ?_
  refine wp_region_held_drew (S := fun _ => True) (by kernel_rfl) trivial (fun hHeld => ?_)
  clear hHeld
  refine wpAnyH_take (i := 0) (v := ?_) rfl (by kernel_rfl) (by kernel_rfl) (by kernel_rfl) (fun _ _ _ h => h) (Or.inl ⟨by rfl, ?_⟩) trivial ?_
  rotate_left
  · (intro w_ hSw_; (try dsimp only at hSw_); go_simp; try with_reducible rfl)
  try simp only [Act.put, List.setIfInBounds_toArray, List.set_cons_zero, List.set_cons_succ, List.getElem_toArray, List.getElem_cons_zero, List.getElem_cons_succ]
  refine wpAnyH_take (i := 2) (v := ?_) rfl (by kernel_rfl) (by kernel_rfl) (by kernel_rfl) (fun _ _ _ h => h) (Or.inl ⟨by rfl, ?_⟩) trivial ?_
  rotate_left
  · (intro w_ hSw_; (try dsimp only at hSw_); go_simp; try with_reducible rfl)
  try simp only [Act.put, List.setIfInBounds_toArray, List.set_cons_zero, List.set_cons_succ, List.getElem_toArray, List.getElem_cons_zero, List.getElem_cons_succ]
  refine wpAnyH_take (i := 4) (v := ?_) rfl (by kernel_rfl) (by kernel_rfl) (by kernel_rfl) (fun _ _ _ h => h) (Or.inl ⟨by rfl, ?_⟩) trivial ?_
  rotate_left
  · (intro w_ hSw_; (try dsimp only at hSw_); go_simp; try with_reducible rfl)
  try simp only [Act.put, List.setIfInBounds_toArray, List.set_cons_zero, List.set_cons_succ, List.getElem_toArray, List.getElem_cons_zero, List.getElem_cons_succ]
  refine wpAnyH_ready (rs := [1, 3]) (by kernel_rfl) (by simp) ?_
  refine AllReadyH.cons rfl (fun K hK => ?_) ?_
  · go_simp
    refine hK.out _ _ trivial (fun hHeld => ?_)
    clear hK K hHeld
    try simp only [Act.put, List.setIfInBounds_toArray, List.set_cons_zero, List.set_cons_succ, List.getElem_toArray, List.getElem_cons_zero, List.getElem_cons_succ]
    refine wpAnyH_ready (rs := [3]) (by kernel_rfl) (by simp) ?_
    refine AllReadyH.cons rfl (fun K hK => ?_) AllReadyH.nil
    go_simp
    have tO := (VarD.step HVO.out HBE0.out).c1
    refine hK.out _ _ trivial (fun hHeld => ?_)
    clear hK K hHeld
    try simp only [Act.put, List.setIfInBounds_toArray, List.set_cons_zero, List.set_cons_succ, List.getElem_toArray, List.getElem_cons_zero, List.getElem_cons_succ]
    refine wpAnyH_ready (rs := [5]) (by kernel_rfl) (by simp) ?_
    refine AllReadyH.cons rfl (fun K hK => ?_) AllReadyH.nil
    refine step_app rfl (.tmp 39) (.tmp 40) (by rfl) w4.heap.size _ [] zs (by rfl) HOE.out za zn zc (by rfl) HZN.out HRR.out (Nat.zero_le _) hzl HSZ.out HZH.out ?_
    intro v5 w5 ho5 hg5
    obtain ⟨a5, n5, c5, rfl⟩ := Owns.sliced ho5
    have hb5 : Below w4.heap.size w4 w5 := below_mark HBE0.out hg5 HSZ.out (fun q hq => by have := slice_block hq; simp at this; omega)
    have hs5 := hb5.size
    have uo := (VarD.step HVO.out hb5).c1
    have n5a : ¬ w3.heap.size = w5.heap.size := by omega
    refine hK.out _ _ trivial (fun hHeld => ?_)
    clear hK K hHeld
    try simp only [Act.put, List.setIfInBounds_toArray, List.set_cons_zero, List.set_cons_succ, List.getElem_toArray, List.getElem_cons_zero, List.getElem_cons_succ]
    refine wpAnyH_take (i := 6) (v := ?_) rfl (by kernel_rfl) (by kernel_rfl) (by kernel_rfl) (fun _ _ _ h => h) (Or.inl ⟨by rfl, ?_⟩) trivial ?_
    rotate_left
    · (intro w_ hSw_; (try dsimp only at hSw_); go_simp; try with_reducible rfl)
    try simp only [Act.put, List.setIfInBounds_toArray, List.set_cons_zero, List.set_cons_succ, List.getElem_toArray, List.getElem_cons_zero, List.getElem_cons_succ]
    refine wpAnyH_ready (rs := [7]) (by kernel_rfl) (by simp) ?_
    refine AllReadyH.cons rfl (fun K hK => ?_) AllReadyH.nil
    go_simp
    have hb6 := Below.new (w := w5) (.cells #[.int .i64 p, .slice a5 n5 c5] 43)
    have hb56 := hb5.trans (hb6.mono hs5)
    have xo := (VarD.step HVO.out hb56).c1
    refine hK.out _ _ trivial (fun hHeld => ?_)
    clear hK K hHeld
    try simp only [Act.put, List.setIfInBounds_toArray, List.set_cons_zero, List.set_cons_succ, List.getElem_toArray, List.getElem_cons_zero, List.getElem_cons_succ]
    refine wpAnyH_ready (rs := [8]) (by kernel_rfl) (by simp) ?_
    refine AllReadyH.cons rfl (fun K hK => ?_) AllReadyH.nil
    refine step_appW rfl (.tmp 37) (.tmp 43) (by rfl) H _ d.2.length C (by rfl) (ownsRow_kept2 HROW.out (fun q hq => hb56.block q (HROW.out.lt q hq).2)) w5.heap.size p (.slice a5 n5 c5) (by rfl) (heap_alloc_new _ _) rfl hm4 (by simp; omega) ?_
    intro g7 c7 w7 ho7 hg7 ha7 hl7
    have hO7 : VarD w7 w3.heap.size (.slice pa d.1.length pc) (.slice qa qn qc) := (hg7.block _ (by simp; omega) (fun e => HYB.out e.symm)).trans (VarD.step HVO.out hb56)
    have zo := hO7.c1
    have zf := hO7.f 1
    refine hK.out _ _ trivial (fun hHeld => ?_)
    clear hK K hHeld
    try simp only [Act.put, List.setIfInBounds_toArray, List.set_cons_zero, List.set_cons_succ, List.getElem_toArray, List.getElem_cons_zero, List.getElem_cons_succ]
    refine wpAnyH_take (i := 9) (v := ?_) rfl (by kernel_rfl) (by kernel_rfl) (by kernel_rfl) (fun _ _ _ h => h) (Or.inl ⟨by rfl, ?_⟩) trivial ?_
    rotate_left
    · (intro w_ hSw_; (try dsimp only at hSw_); go_simp; try with_reducible rfl)
    try simp only [Act.put, List.setIfInBounds_toArray, List.set_cons_zero, List.set_cons_succ, List.getElem_toArray, List.getElem_cons_zero, List.getElem_cons_succ]
    refine wpAnyH_ready (rs := [10]) (by kernel_rfl) (by simp) ?_
    refine AllReadyH.cons rfl (fun K hK => ?_) AllReadyH.nil
    go_simp
    refine hK.out _ _ trivial (fun hHeld => ?_)
    clear hK K hHeld
    try simp only [Act.put, List.setIfInBounds_toArray, List.set_cons_zero, List.set_cons_succ, List.getElem_toArray, List.getElem_cons_zero, List.getElem_cons_succ]
    refine wpAnyH_done (by kernel_rfl) (NoPanic.normal ?_) _
    rw [List.nil_append] at ho5
    have HL : Hid _ := writeS_leaf HX4.out hH.1 hH.2 (Nat.le_refl _) s4 HREST.out.1 HROW.out HREST.out.2.1 HREST.out.2.2.1 HREST.out.2.2.2 hb5 (OwB.of HZB.out ho5) (Below.new _) ho7 hg7 ha7
    have hb8 : w7.heap[w.heap.size + 1]? = w4.heap[w.heap.size + 1]? := (hg7.block _ (by simp; omega) (fun e => by have := HYH.out _ e.symm; omega)).trans (hb56.block _ (by omega))
    have hR8 := HRE.out (w7.setCell ⟨w3.heap.size, 1, none⟩ (.slice (some ⟨g7, 0, none⟩) (d.2.length + 1) c7)) ((heap_setCell_other _ _ _ _ (by show w.heap.size + 1 ≠ w3.heap.size; omega)).trans hb8)
    have hO8 : VarD (w7.setCell ⟨w3.heap.size, 1, none⟩ (.slice (some ⟨g7, 0, none⟩) (d.2.length + 1) c7)) w3.heap.size (.slice pa d.1.length pc) (.slice (some ⟨g7, 0, none⟩) (d.2.length + 1) c7) := by
      show _ = _
      rw [heap_setCell_same _ _ _ _ _ _ hO7]; rfl
    have s7 : w4.heap.size ≤ w7.heap.size := by have := hg7.size; have := hb56.size; omega
    generalize hw8 : w7.setCell ⟨w3.heap.size, 1, none⟩ (.slice (some ⟨g7, 0, none⟩) (d.2.length + 1) c7) = w8 at HL hR8 hO8
    have HW8 : Hid _ := hw8
    have s8 : w7.heap.size = w8.heap.size := by rw [← hw8]; simp
    have k0 := hO8.c0
    have k1 := hO8.c1
    have e0 := hR8.c0
    have e1 := hR8.c1
    have f0 := hR8.f 0
    have f1 := hR8.f 1
    clear hw8 ho5 hg5 hb5 hb6 hb56 ho7 hg7 ha7 hO7 zo zf hb8 hR8 hO8 o0 o1 of
    go_wp2_with (rw [HW8.out])
    refine bodyPost_ret (v := .tuple #[.agg #[.slice pa d.1.length pc, .slice (some ⟨g7, 0, none⟩) (d.2.length + 1) c7], .bool true]) (by simp [results, Tryd.results28, go_sem, e0, e1]) rfl ⟨_, rfl, ?_, ?_⟩
    · have same : SameIn w2.heap.size w8.heap.size w8 ((w8.setCell ⟨w.heap.size + 1, 0, none⟩ (.slice pa d.1.length pc)).setCell ⟨w.heap.size + 1, 1, none⟩ (.slice (some ⟨g7, 0, none⟩) (d.2.length + 1) c7)) := SameIn.trans (SameIn.set (.inl (by show w.heap.size + 1 < _; omega))) (SameIn.set (.inl (by show w.heap.size + 1 < _; omega)))
      exact RdD.wide (RdD.same (RdD.wide HL.out.1 (Nat.le_refl _) (by omega)) same) (by omega) (by simp)
    · have b8 : Below w.heap.size w w8 := HB4.out.trans ⟨HL.out.2.os, HL.out.2.tape, HL.out.2.output, HL.out.2.size, fun q hq => HL.out.2.block q (by omega) (HNB.out q (by omega))⟩
      exact (b8.setCell (by show w.heap.size ≤ w.heap.size + 1; omega) _).setCell (by show w.heap.size ≤ w.heap.size + 1; omega) _
  refine AllReadyH.cons rfl (fun K hK => ?_) AllReadyH.nil
  go_simp
  have tO := (VarD.step HVO.out HBE0.out).c1
  refine hK.out _ _ trivial (fun hHeld => ?_)
  clear hK K hHeld
  try simp only [Act.put, List.setIfInBounds_toArray, List.set_cons_zero, List.set_cons_succ, List.getElem_toArray, List.getElem_cons_zero, List.getElem_cons_succ]
  refine wpAnyH_ready (rs := [1, 5]) (by kernel_rfl) (by simp) ?_
  refine AllReadyH.cons rfl (fun K hK => ?_) ?_
  · go_simp
    refine hK.out _ _ trivial (fun hHeld => ?_)
    clear hK K hHeld
    try simp only [Act.put, List.setIfInBounds_toArray, List.set_cons_zero, List.set_cons_succ, List.getElem_toArray, List.getElem_cons_zero, List.getElem_cons_succ]
    refine wpAnyH_ready (rs := [5]) (by kernel_rfl) (by simp) ?_
    refine AllReadyH.cons rfl (fun K hK => ?_) AllReadyH.nil
    refine step_app rfl (.tmp 39) (.tmp 40) (by rfl) w4.heap.size _ [] zs (by rfl) HOE.out za zn zc (by rfl) HZN.out HRR.out (Nat.zero_le _) hzl HSZ.out HZH.out ?_
    intro v5 w5 ho5 hg5
    obtain ⟨a5, n5, c5, rfl⟩ := Owns.sliced ho5
    have hb5 : Below w4.heap.size w4 w5 := below_mark HBE0.out hg5 HSZ.out (fun q hq => by have := slice_block hq; simp at this; omega)
    have hs5 := hb5.size
    have uo := (VarD.step HVO.out hb5).c1
    have n5a : ¬ w3.heap.size = w5.heap.size := by omega
    refine hK.out _ _ trivial (fun hHeld => ?_)
    clear hK K hHeld
    try simp only [Act.put, List.setIfInBounds_toArray, List.set_cons_zero, List.set_cons_succ, List.getElem_toArray, List.getElem_cons_zero, List.getElem_cons_succ]
    refine wpAnyH_take (i := 6) (v := ?_) rfl (by kernel_rfl) (by kernel_rfl) (by kernel_rfl) (fun _ _ _ h => h) (Or.inl ⟨by rfl, ?_⟩) trivial ?_
    rotate_left
    · (intro w_ hSw_; (try dsimp only at hSw_); go_simp; try with_reducible rfl)
    try simp only [Act.put, List.setIfInBounds_toArray, List.set_cons_zero, List.set_cons_succ, List.getElem_toArray, List.getElem_cons_zero, List.getElem_cons_succ]
    refine wpAnyH_ready (rs := [7]) (by kernel_rfl) (by simp) ?_
    refine AllReadyH.cons rfl (fun K hK => ?_) AllReadyH.nil
    go_simp
    have hb6 := Below.new (w := w5) (.cells #[.int .i64 p, .slice a5 n5 c5] 43)
    have hb56 := hb5.trans (hb6.mono hs5)
    have xo := (VarD.step HVO.out hb56).c1
    refine hK.out _ _ trivial (fun hHeld => ?_)
    clear hK K hHeld
    try simp only [Act.put, List.setIfInBounds_toArray, List.set_cons_zero, List.set_cons_succ, List.getElem_toArray, List.getElem_cons_zero, List.getElem_cons_succ]
    refine wpAnyH_ready (rs := [8]) (by kernel_rfl) (by simp) ?_
    refine AllReadyH.cons rfl (fun K hK => ?_) AllReadyH.nil
    refine step_appW rfl (.tmp 37) (.tmp 43) (by rfl) H _ d.2.length C (by rfl) (ownsRow_kept2 HROW.out (fun q hq => hb56.block q (HROW.out.lt q hq).2)) w5.heap.size p (.slice a5 n5 c5) (by rfl) (heap_alloc_new _ _) rfl hm4 (by simp; omega) ?_
    intro g7 c7 w7 ho7 hg7 ha7 hl7
    have hO7 : VarD w7 w3.heap.size (.slice pa d.1.length pc) (.slice qa qn qc) := (hg7.block _ (by simp; omega) (fun e => HYB.out e.symm)).trans (VarD.step HVO.out hb56)
    have zo := hO7.c1
    have zf := hO7.f 1
    refine hK.out _ _ trivial (fun hHeld => ?_)
    clear hK K hHeld
    try simp only [Act.put, List.setIfInBounds_toArray, List.set_cons_zero, List.set_cons_succ, List.getElem_toArray, List.getElem_cons_zero, List.getElem_cons_succ]
    refine wpAnyH_take (i := 9) (v := ?_) rfl (by kernel_rfl) (by kernel_rfl) (by kernel_rfl) (fun _ _ _ h => h) (Or.inl ⟨by rfl, ?_⟩) trivial ?_
    rotate_left
    · (intro w_ hSw_; (try dsimp only at hSw_); go_simp; try with_reducible rfl)
    try simp only [Act.put, List.setIfInBounds_toArray, List.set_cons_zero, List.set_cons_succ, List.getElem_toArray, List.getElem_cons_zero, List.getElem_cons_succ]
    refine wpAnyH_ready (rs := [10]) (by kernel_rfl) (by simp) ?_
    refine AllReadyH.cons rfl (fun K hK => ?_) AllReadyH.nil
    go_simp
    refine hK.out _ _ trivial (fun hHeld => ?_)
    clear hK K hHeld
    try simp only [Act.put, List.setIfInBounds_toArray, List.set_cons_zero, List.set_cons_succ, List.getElem_toArray, List.getElem_cons_zero, List.getElem_cons_succ]
    refine wpAnyH_done (by kernel_rfl) (NoPanic.normal ?_) _
    rw [List.nil_append] at ho5
    have HL : Hid _ := writeS_leaf HX4.out hH.1 hH.2 (Nat.le_refl _) s4 HREST.out.1 HROW.out HREST.out.2.1 HREST.out.2.2.1 HREST.out.2.2.2 hb5 (OwB.of HZB.out ho5) (Below.new _) ho7 hg7 ha7
    have hb8 : w7.heap[w.heap.size + 1]? = w4.heap[w.heap.size + 1]? := (hg7.block _ (by simp; omega) (fun e => by have := HYH.out _ e.symm; omega)).trans (hb56.block _ (by omega))
    have hR8 := HRE.out (w7.setCell ⟨w3.heap.size, 1, none⟩ (.slice (some ⟨g7, 0, none⟩) (d.2.length + 1) c7)) ((heap_setCell_other _ _ _ _ (by show w.heap.size + 1 ≠ w3.heap.size; omega)).trans hb8)
    have hO8 : VarD (w7.setCell ⟨w3.heap.size, 1, none⟩ (.slice (some ⟨g7, 0, none⟩) (d.2.length + 1) c7)) w3.heap.size (.slice pa d.1.length pc) (.slice (some ⟨g7, 0, none⟩) (d.2.length + 1) c7) := by
      show _ = _
      rw [heap_setCell_same _ _ _ _ _ _ hO7]; rfl
    have s7 : w4.heap.size ≤ w7.heap.size := by have := hg7.size; have := hb56.size; omega
    generalize hw8 : w7.setCell ⟨w3.heap.size, 1, none⟩ (.slice (some ⟨g7, 0, none⟩) (d.2.length + 1) c7) = w8 at HL hR8 hO8
    have HW8 : Hid _ := hw8
    have s8 : w7.heap.size = w8.heap.size := by rw [← hw8]; simp
    have k0 := hO8.c0
    have k1 := hO8.c1
    have e0 := hR8.c0
    have e1 := hR8.c1
    have f0 := hR8.f 0
    have f1 := hR8.f 1
    clear hw8 ho5 hg5 hb5 hb6 hb56 ho7 hg7 ha7 hO7 zo zf hb8 hR8 hO8 o0 o1 of
    go_wp2_with (rw [HW8.out])
    refine bodyPost_ret (v := .tuple #[.agg #[.slice pa d.1.length pc, .slice (some ⟨g7, 0, none⟩) (d.2.length + 1) c7], .bool true]) (by simp [results, Tryd.results28, go_sem, e0, e1]) rfl ⟨_, rfl, ?_, ?_⟩
    · have same : SameIn w2.heap.size w8.heap.size w8 ((w8.setCell ⟨w.heap.size + 1, 0, none⟩ (.slice pa d.1.length pc)).setCell ⟨w.heap.size + 1, 1, none⟩ (.slice (some ⟨g7, 0, none⟩) (d.2.length + 1) c7)) := SameIn.trans (SameIn.set (.inl (by show w.heap.size + 1 < _; omega))) (SameIn.set (.inl (by show w.heap.size + 1 < _; omega)))
      exact RdD.wide (RdD.same (RdD.wide HL.out.1 (Nat.le_refl _) (by omega)) same) (by omega) (by simp)
    · have b8 : Below w.heap.size w w8 := HB4.out.trans ⟨HL.out.2.os, HL.out.2.tape, HL.out.2.output, HL.out.2.size, fun q hq => HL.out.2.block q (by omega) (HNB.out q (by omega))⟩
      exact (b8.setCell (by show w.heap.size ≤ w.heap.size + 1; omega) _).setCell (by show w.heap.size ≤ w.heap.size + 1; omega) _
  refine AllReadyH.cons rfl (fun K hK => ?_) AllReadyH.nil
  refine step_app rfl (.tmp 39) (.tmp 40) (by rfl) w4.heap.size _ [] zs (by rfl) HOE.out za zn zc (by rfl) HZN.out HRR.out (Nat.zero_le _) hzl HSZ.out HZH.out ?_
  intro v5 w5 ho5 hg5
  obtain ⟨a5, n5, c5, rfl⟩ := Owns.sliced ho5
  have hb5 : Below w4.heap.size w4 w5 := below_mark HBE0.out hg5 HSZ.out (fun q hq => by have := slice_block hq; simp at this; omega)
  have hs5 := hb5.size
  have uo := (VarD.step HVO.out hb5).c1
  have n5a : ¬ w3.heap.size = w5.heap.size := by omega
  refine hK.out _ _ trivial (fun hHeld => ?_)
  clear hK K hHeld
  try simp only [Act.put, List.setIfInBounds_toArray, List.set_cons_zero, List.set_cons_succ, List.getElem_toArray, List.getElem_cons_zero, List.getElem_cons_succ]
  refine wpAnyH_take (i := 6) (v := ?_) rfl (by kernel_rfl) (by kernel_rfl) (by kernel_rfl) (fun _ _ _ h => h) (Or.inl ⟨by rfl, ?_⟩) trivial ?_
  rotate_left
  · (intro w_ hSw_; (try dsimp only at hSw_); go_simp; try with_reducible rfl)
  try simp only [Act.put, List.setIfInBounds_toArray, List.set_cons_zero, List.set_cons_succ, List.getElem_toArray, List.getElem_cons_zero, List.getElem_cons_succ]
  refine wpAnyH_ready (rs := [1, 7]) (by kernel_rfl) (by simp) ?_
  refine AllReadyH.cons rfl (fun K hK => ?_) ?_
  · go_simp
    refine hK.out _ _ trivial (fun hHeld => ?_)
    clear hK K hHeld
    try simp only [Act.put, List.setIfInBounds_toArray, List.set_cons_zero, List.set_cons_succ, List.getElem_toArray, List.getElem_cons_zero, List.getElem_cons_succ]
    refine wpAnyH_ready (rs := [7]) (by kernel_rfl) (by simp) ?_
    refine AllReadyH.cons rfl (fun K hK => ?_) AllReadyH.nil
    go_simp
    have hb6 := Below.new (w := w5) (.cells #[.int .i64 p, .slice a5 n5 c5] 43)
    have hb56 := hb5.trans (hb6.mono hs5)
    have xo := (VarD.step HVO.out hb56).c1
    refine hK.out _ _ trivial (fun hHeld => ?_)
    clear hK K hHeld
    try simp only [Act.put, List.setIfInBounds_toArray, List.set_cons_zero, List.set_cons_succ, List.getElem_toArray, List.getElem_cons_zero, List.getElem_cons_succ]
    refine wpAnyH_ready (rs := [8]) (by kernel_rfl) (by simp) ?_
    refine AllReadyH.cons rfl (fun K hK => ?_) AllReadyH.nil
    refine step_appW rfl (.tmp 37) (.tmp 43) (by rfl) H _ d.2.length C (by rfl) (ownsRow_kept2 HROW.out (fun q hq => hb56.block q (HROW.out.lt q hq).2)) w5.heap.size p (.slice a5 n5 c5) (by rfl) (heap_alloc_new _ _) rfl hm4 (by simp; omega) ?_
    intro g7 c7 w7 ho7 hg7 ha7 hl7
    have hO7 : VarD w7 w3.heap.size (.slice pa d.1.length pc) (.slice qa qn qc) := (hg7.block _ (by simp; omega) (fun e => HYB.out e.symm)).trans (VarD.step HVO.out hb56)
    have zo := hO7.c1
    have zf := hO7.f 1
    refine hK.out _ _ trivial (fun hHeld => ?_)
    clear hK K hHeld
    try simp only [Act.put, List.setIfInBounds_toArray, List.set_cons_zero, List.set_cons_succ, List.getElem_toArray, List.getElem_cons_zero, List.getElem_cons_succ]
    refine wpAnyH_take (i := 9) (v := ?_) rfl (by kernel_rfl) (by kernel_rfl) (by kernel_rfl) (fun _ _ _ h => h) (Or.inl ⟨by rfl, ?_⟩) trivial ?_
    rotate_left
    · (intro w_ hSw_; (try dsimp only at hSw_); go_simp; try with_reducible rfl)
    try simp only [Act.put, List.setIfInBounds_toArray, List.set_cons_zero, List.set_cons_succ, List.getElem_toArray, List.getElem_cons_zero, List.getElem_cons_succ]
    refine wpAnyH_ready (rs := [10]) (by kernel_rfl) (by simp) ?_
    refine AllReadyH.cons rfl (fun K hK => ?_) AllReadyH.nil
    go_simp
    refine hK.out _ _ trivial (fun hHeld => ?_)
    clear hK K hHeld
    try simp only [Act.put, List.setIfInBounds_toArray, List.set_cons_zero, List.set_cons_succ, List.getElem_toArray, List.getElem_cons_zero, List.getElem_cons_succ]
    refine wpAnyH_done (by kernel_rfl) (NoPanic.normal ?_) _
    rw [List.nil_append] at ho5
    have HL : Hid _ := writeS_leaf HX4.out hH.1 hH.2 (Nat.le_refl _) s4 HREST.out.1 HROW.out HREST.out.2.1 HREST.out.2.2.1 HREST.out.2.2.2 hb5 (OwB.of HZB.out ho5) (Below.new _) ho7 hg7 ha7
    have hb8 : w7.heap[w.heap.size + 1]? = w4.heap[w.heap.size + 1]? := (hg7.block _ (by simp; omega) (fun e => by have := HYH.out _ e.symm; omega)).trans (hb56.block _ (by omega))
    have hR8 := HRE.out (w7.setCell ⟨w3.heap.size, 1, none⟩ (.slice (some ⟨g7, 0, none⟩) (d.2.length + 1) c7)) ((heap_setCell_other _ _ _ _ (by show w.heap.size + 1 ≠ w3.heap.size; omega)).trans hb8)
    have hO8 : VarD (w7.setCell ⟨w3.heap.size, 1, none⟩ (.slice (some ⟨g7, 0, none⟩) (d.2.length + 1) c7)) w3.heap.size (.slice pa d.1.length pc) (.slice (some ⟨g7, 0, none⟩) (d.2.length + 1) c7) := by
      show _ = _
      rw [heap_setCell_same _ _ _ _ _ _ hO7]; rfl
    have s7 : w4.heap.size ≤ w7.heap.size := by have := hg7.size; have := hb56.size; omega
    generalize hw8 : w7.setCell ⟨w3.heap.size, 1, none⟩ (.slice (some ⟨g7, 0, none⟩) (d.2.length + 1) c7) = w8 at HL hR8 hO8
    have HW8 : Hid _ := hw8
    have s8 : w7.heap.size = w8.heap.size := by rw [← hw8]; simp
    have k0 := hO8.c0
    have k1 := hO8.c1
    have e0 := hR8.c0
    have e1 := hR8.c1
    have f0 := hR8.f 0
    have f1 := hR8.f 1
    clear hw8 ho5 hg5 hb5 hb6 hb56 ho7 hg7 ha7 hO7 zo zf hb8 hR8 hO8 o0 o1 of
    go_wp2_with (rw [HW8.out])
    refine bodyPost_ret (v := .tuple #[.agg #[.slice pa d.1.length pc, .slice (some ⟨g7, 0, none⟩) (d.2.length + 1) c7], .bool true]) (by simp [results, Tryd.results28, go_sem, e0, e1]) rfl ⟨_, rfl, ?_, ?_⟩
    · have same : SameIn w2.heap.size w8.heap.size w8 ((w8.setCell ⟨w.heap.size + 1, 0, none⟩ (.slice pa d.1.length pc)).setCell ⟨w.heap.size + 1, 1, none⟩ (.slice (some ⟨g7, 0, none⟩) (d.2.length + 1) c7)) := SameIn.trans (SameIn.set (.inl (by show w.heap.size + 1 < _; omega))) (SameIn.set (.inl (by show w.heap.size + 1 < _; omega)))
      exact RdD.wide (RdD.same (RdD.wide HL.out.1 (Nat.le_refl _) (by omega)) same) (by omega) (by simp)
    · have b8 : Below w.heap.size w w8 := HB4.out.trans ⟨HL.out.2.os, HL.out.2.tape, HL.out.2.output, HL.out.2.size, fun q hq => HL.out.2.block q (by omega) (HNB.out q (by omega))⟩
      exact (b8.setCell (by show w.heap.size ≤ w.heap.size + 1; omega) _).setCell (by show w.heap.size ≤ w.heap.size + 1; omega) _
  refine AllReadyH.cons rfl (fun K hK => ?_) AllReadyH.nil
  go_simp
  have hb6 := Below.new (w := w5) (.cells #[.int .i64 p, .slice a5 n5 c5] 43)
  have hb56 := hb5.trans (hb6.mono hs5)
  have xo := (VarD.step HVO.out hb56).c1
  refine hK.out _ _ trivial (fun hHeld => ?_)
  clear hK K hHeld
  try simp only [Act.put, List.setIfInBounds_toArray, List.set_cons_zero, List.set_cons_succ, List.getElem_toArray, List.getElem_cons_zero, List.getElem_cons_succ]
  refine wpAnyH_ready (rs := [1]) (by kernel_rfl) (by simp) ?_
  refine AllReadyH.cons rfl (fun K hK => ?_) AllReadyH.nil
  go_simp
  refine hK.out _ _ trivial (fun hHeld => ?_)
  clear hK K hHeld
  try simp only [Act.put, List.setIfInBounds_toArray, List.set_cons_zero, List.set_cons_succ, List.getElem_toArray, List.getElem_cons_zero, List.getElem_cons_succ]
  refine wpAnyH_ready (rs := [8]) (by kernel_rfl) (by simp) ?_
  refine AllReadyH.cons rfl (fun K hK => ?_) AllReadyH.nil
  refine step_appW rfl (.tmp 37) (.tmp 43) (by rfl) H _ d.2.length C (by rfl) (ownsRow_kept2 HROW.out (fun q hq => hb56.block q (HROW.out.lt q hq).2)) w5.heap.size p (.slice a5 n5 c5) (by rfl) (heap_alloc_new _ _) rfl hm4 (by simp; omega) ?_
  intro g7 c7 w7 ho7 hg7 ha7 hl7
  have hO7 : VarD w7 w3.heap.size (.slice pa d.1.length pc) (.slice qa qn qc) := (hg7.block _ (by simp; omega) (fun e => HYB.out e.symm)).trans (VarD.step HVO.out hb56)
  have zo := hO7.c1
  have zf := hO7.f 1
  refine hK.out _ _ trivial (fun hHeld => ?_)
  clear hK K hHeld
  try simp only [Act.put, List.setIfInBounds_toArray, List.set_cons_zero, List.set_cons_succ, List.getElem_toArray, List.getElem_cons_zero, List.getElem_cons_succ]
  refine wpAnyH_take (i := 9) (v := ?_) rfl (by kernel_rfl) (by kernel_rfl) (by kernel_rfl) (fun _ _ _ h => h) (Or.inl ⟨by rfl, ?_⟩) trivial ?_
  rotate_left
  · (intro w_ hSw_; (try dsimp only at hSw_); go_simp; try with_reducible rfl)
  try simp only [Act.put, List.setIfInBounds_toArray, List.set_cons_zero, List.set_cons_succ, List.getElem_toArray, List.getElem_cons_zero, List.getElem_cons_succ]
  refine wpAnyH_ready (rs := [10]) (by kernel_rfl) (by simp) ?_
  refine AllReadyH.cons rfl (fun K hK => ?_) AllReadyH.nil
  go_simp
  refine hK.out _ _ trivial (fun hHeld => ?_)
  clear hK K hHeld
  try simp only [Act.put, List.setIfInBounds_toArray, List.set_cons_zero, List.set_cons_succ, List.getElem_toArray, List.getElem_cons_zero, List.getElem_cons_succ]
  refine wpAnyH_done (by kernel_rfl) (NoPanic.normal ?_) _
  rw [List.nil_append] at ho5
  have HL : Hid _ := writeS_leaf HX4.out hH.1 hH.2 (Nat.le_refl _) s4 HREST.out.1 HROW.out HREST.out.2.1 HREST.out.2.2.1 HREST.out.2.2.2 hb5 (OwB.of HZB.out ho5) (Below.new _) ho7 hg7 ha7
  have hb8 : w7.heap[w.heap.size + 1]? = w4.heap[w.heap.size + 1]? := (hg7.block _ (by simp; omega) (fun e => by have := HYH.out _ e.symm; omega)).trans (hb56.block _ (by omega))
  have hR8 := HRE.out (w7.setCell ⟨w3.heap.size, 1, none⟩ (.slice (some ⟨g7, 0, none⟩) (d.2.length + 1) c7)) ((heap_setCell_other _ _ _ _ (by show w.heap.size + 1 ≠ w3.heap.size; omega)).trans hb8)
  have hO8 : VarD (w7.setCell ⟨w3.heap.size, 1, none⟩ (.slice (some ⟨g7, 0, none⟩) (d.2.length + 1) c7)) w3.heap.size (.slice pa d.1.length pc) (.slice (some ⟨g7, 0, none⟩) (d.2.length + 1) c7) := by
    show _ = _
    rw [heap_setCell_same _ _ _ _ _ _ hO7]; rfl
  have s7 : w4.heap.size ≤ w7.heap.size := by have := hg7.size; have := hb56.size; omega
  generalize hw8 : w7.setCell ⟨w3.heap.size, 1, none⟩ (.slice (some ⟨g7, 0, none⟩) (d.2.length + 1) c7) = w8 at HL hR8 hO8
  have HW8 : Hid _ := hw8
  have s8 : w7.heap.size = w8.heap.size := by rw [← hw8]; simp
  have k0 := hO8.c0
  have k1 := hO8.c1
  have e0 := hR8.c0
  have e1 := hR8.c1
  have f0 := hR8.f 0
  have f1 := hR8.f 1
  clear hw8 ho5 hg5 hb5 hb6 hb56 ho7 hg7 ha7 hO7 zo zf hb8 hR8 hO8 o0 o1 of
  go_wp2_with (rw [HW8.out])
  refine bodyPost_ret (v := .tuple #[.agg #[.slice pa d.1.length pc, .slice (some ⟨g7, 0, none⟩) (d.2.length + 1) c7], .bool true]) (by simp [results, Tryd.results28, go_sem, e0, e1]) rfl ⟨_, rfl, ?_, ?_⟩
  · have same : SameIn w2.heap.size w8.heap.size w8 ((w8.setCell ⟨w.heap.size + 1, 0, none⟩ (.slice pa d.1.length pc)).setCell ⟨w.heap.size + 1, 1, none⟩ (.slice (some ⟨g7, 0, none⟩) (d.2.length + 1) c7)) := SameIn.trans (SameIn.set (.inl (by show w.heap.size + 1 < _; omega))) (SameIn.set (.inl (by show w.heap.size + 1 < _; omega)))
    exact RdD.wide (RdD.same (RdD.wide HL.out.1 (Nat.le_refl _) (by omega)) same) (by omega) (by simp)
  · have b8 : Below w.heap.size w w8 := HB4.out.trans ⟨HL.out.2.os, HL.out.2.tape, HL.out.2.output, HL.out.2.size, fun q hq => HL.out.2.block q (by omega) (HNB.out q (by omega))⟩
    exact (b8.setCell (by show w.heap.size ≤ w.heap.size + 1; omega) _).setCell (by show w.heap.size ≤ w.heap.size + 1; omega) _

theorem lenWs_all (s : List Wt) (h : ∀ z ∈ s, z.2.length = 32) : lenWs s = 33 * s.length := by
  induction s with
  | nil => rfl
  | cons z r ih => rw [lenWs, ih (fun y hy => h y (List.mem_cons_of_mem _ hy)), h z (List.mem_cons_self ..), List.length_cons]; omega
theorem writeD_small {d : Dk} (hs : Small d) (p : Int) (zs : List Int) : Small (writeD d p zs).1 := by
  unfold writeD
  split
  · rename_i h
    split
    · rename_i hw
      obtain ⟨⟨h1, h2⟩, hwh, hp⟩ := okD_whole h
      have hl : lenWs d.2 = 33 * d.2.length := lenWs_all _ (fun z hz => by
        obtain ⟨i, hi, rfl⟩ := List.mem_iff_getElem.mp hz
        have := (hp i hi).2.2
        simpa [hi] using this)
      unfold writeOk at hw
      simp only [Bool.and_eq_true, decide_eq_true_eq] at hw
      refine ⟨hs.1, hs.2.1, ?_⟩
      show lenWs (d.2 ++ [(p, zs)]) ≤ _
      rw [lenWs_append, hl]
      simp only [lenWs]
      omega
    · exact hs
  · exact ⟨by simp, by simp [lenBB], by simp [lenWs]⟩
theorem specWriteSector_all (v : Value) (d : Dk) (l h : Nat) (p : Int) (sv : Value) (zs : List Int) (lz hz : Nat) (w : World) (r : RdD w l h v d) (hh : h ≤ w.heap.size) (rz : RdB w lz hz sv zs) (hhz : hz ≤ w.heap.size) (hsm : Small d) :
    Calls Tryd.prog 28 #[v, .int .i64 p, sv] w fun e w' => ∃ u, e = .returned (.tuple #[u, .bool (writeD d p zs).2]) ∧ RdD w' w.heap.size w'.heap.size u (writeD d p zs).1 ∧ Below w.heap.size w w' := by
  unfold writeD
  by_cases hok : okD d = true
  · rw [if_pos hok]
    by_cases hb : writeOk d p zs = true
    · rw [if_pos hb]
      exact specWriteSector_good v d l h p sv zs lz hz w r hh rz hhz hsm hok hb
    · rw [if_neg hb]
      exact specWriteSector_bad v d l h p sv zs lz hz w r hh rz hhz hsm hok (by simpa using hb)
  · rw [if_neg hok]
    exact specWriteSector_not v d l h p sv zs lz hz w r hh rz hhz hsm (by simpa using hok)
theorem markB_more (v : Value) (zs : List Int) (k l h : Nat) (w : World) (o : OwB w l h v zs) (hl : zs.length ≤ 2097152) (hk : k ≤ 8388608) :
    Calls Tryd.prog 26 #[v, .int .i64 k] w fun e w' => e = .returned (.int .i64 ((k : Int) + (zs.length : Int))) ∧ OwB w' l h v (marks zs.length k) ∧ Turns l h w w' := by
  refine (mark_v v zs k l w o.2.1 hl (by omega) (by omega)).mono fun e w' ⟨he, ho, hg⟩ => ⟨he, ⟨marks_isBytes _ _, by simpa using ho, o.2.2⟩, Turns.ofGrown hg fun q hq => ⟨(o.2.1.lt q hq).1, o.2.2 q hq⟩⟩
end Go.Proofs.YtdpigkcdfjnpdaaDoor
