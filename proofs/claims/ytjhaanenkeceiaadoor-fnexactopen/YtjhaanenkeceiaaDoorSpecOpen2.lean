/- Opening, the specification's way, whatever disk. Condition: it is small (a caller can hand in no other). -/
import Derived.Test.YtjhaanenkeceiaaDoorSpecOpen
import Derived.Test.YtjhaanenkeceiaaDoorImplOpen
import Derived.Test.YtjhaanenkeceiaaDoorSpecDisk
namespace Go.Proofs.YtjhaanenkeceiaaDoor
open Go.RowKit
set_option linter.unusedVariables false
set_option linter.unusedSimpArgs false
attribute [local go_sem ↓] Go.wp_at_zero Go.wp_at_succ

theorem four_same9 {w : World} {l h b : Nat} {a c e f : Value} (hb : b < l) : SameIn l h w ((((w.setCell ⟨b, 0, none⟩ a).setCell ⟨b, 1, none⟩ c).setCell ⟨b, 2, none⟩ e).setCell ⟨b, 3, none⟩ f) :=
  ⟨by simp, fun k h1 _ => by rw [heap_setCell_other _ _ _ _ (by show k ≠ b; omega), heap_setCell_other _ _ _ _ (by show k ≠ b; omega), heap_setCell_other _ _ _ _ (by show k ≠ b; omega), heap_setCell_other _ _ _ _ (by show k ≠ b; omega)]⟩
set_option maxRecDepth 100000 in
set_option maxHeartbeats 2000000 in
theorem specOpen_no (v : Value) (d : Dk) (l h : Nat) (w : World) (r : RdD w l h v d) (hh : h ≤ w.heap.size) (hok : openOk d = false) :
    Calls Tryd.prog 12 #[v] w fun e w' => e = .returned (.tuple #[.agg #[.slice none 0 0, .slice none 0 0, .int .i64 0, .int .i64 0], .slice none 0 0, .bool false]) ∧ Below w.heap.size w w' := by
  obtain ⟨xa, xn, xc, ya, yn, yc, rfl⟩ := r.open
  have hyn : yn = d.2.length ∧ yn ≤ 9223372036854775807 := by
    obtain ⟨x', y', he, _, rb⟩ := r
    simp only [Value.agg.injEq, Array.mk.injEq, List.cons.injEq, and_true] at he
    obtain ⟨rfl, rfl⟩ := he
    exact rb.len
  have b0 := Below.new (w := w) (.cells #[.slice xa xn xc, .slice ya yn yc] 26)
  have v0 := VarD.new w (.slice xa xn xc) (.slice ya yn yc)
  generalize hw0 : w.alloc (.cells #[.slice xa xn xc, .slice ya yn yc] 26) = w0 at b0 v0
  have s0 : w0.heap.size = w.heap.size + 1 := by rw [← hw0]; simp
  have b1 := Below.new (w := w0) (.cells #[.slice none 0 0, .slice none 0 0, .int .i64 0, .int .i64 0] 30)
  have vR := VarJ.new (T := 30) w0 (.slice none 0 0) (.slice none 0 0) 0 0
  rw [s0] at vR
  have v1 := v0.step b1
  generalize hw1 : w0.alloc (.cells #[.slice none 0 0, .slice none 0 0, .int .i64 0, .int .i64 0] 30) = w1 at b1 vR v1
  have B1 : Below w.heap.size w w1 := b0.trans (b1.mono (by omega))
  have sR := vR.lt
  have HOK : Hid _ := specOk_any _ d l h w1 (r.step hh B1) (by have := B1.size; omega)
  have HW : Hid ((w.alloc (.cells #[.slice xa xn xc, .slice ya yn yc] 26)).alloc (.cells #[.slice none 0 0, .slice none 0 0, .int .i64 0, .int .i64 0] 30) = w1) := by show _ = _; rw [hw0, hw1]
  have HV1 : Hid (VarD w1 w.heap.size _ _) := v1
  have HVR : Hid (VarJ _ w1 (w.heap.size + 1) _ _ _ _) := vR
  have HB1 : Hid (Below w.heap.size w w1) := B1
  have c0 := v1.c0
  have c1 := v1.c1
  have hym := hyn.2
  have HCS : Hid (okD d = false ∨ (okD d = true ∧ 0 < yn)) := by
    show _ ∨ _
    cases hk : okD d with
    | false => exact .inl rfl
    | true =>
      refine .inr ⟨rfl, ?_⟩
      unfold openOk at hok
      rw [hk, Bool.true_and] at hok
      rw [hyn.1]
      cases hd : d.2 with
      | nil => rw [hd] at hok; simp at hok
      | cons _ _ => simp
  clear hw0 hw1 r b0 v0 b1 vR v1 B1 s0 hyn hok
  rcases HCS.out with hk | ⟨hk, hy0⟩
  · rw [hk] at HOK
    clear hk HCS
    go_enter Tryd.func12, Tryd.ntmps12
    go_wp2_with fail
    rw [HW.out]
    refine Calls.mono HOK.out ?_
    rintro e w2 ⟨rfl, b2⟩
    have vR2 := VarJ.step HVR.out b2
    have e0 := vR2.c0
    have e1 := vR2.c1
    have e2 := vR2.c2
    have e3 := vR2.c3
    have f0 := vR2.f 0
    have f1 := vR2.f 1
    have f2 := vR2.f 2
    have f3 := vR2.f 3
    have HB2 : Hid (Below w.heap.size w w2) := HB1.out.trans (b2.mono HB1.out.size)
    clear b2 vR2 HOK HV1 HVR HB1 c0 c1
    go_wp2
    refine bodyPost_ret (v := .tuple #[.agg #[.slice none 0 0, .slice none 0 0, .int .i64 0, .int .i64 0], .slice none 0 0, .bool false]) (by simp [results, Tryd.results12, go_sem, e0, e1, e2, e3]) rfl ⟨rfl, ?_⟩
    exact (((HB2.out.setCell (Nat.le_succ _) _).setCell (Nat.le_succ _) _).setCell (Nat.le_succ _) _).setCell (Nat.le_succ _) _
  · rw [hk] at HOK
    have hd0 : decide (0 < (yn : Int)) = true := by simp; omega
    clear hk HCS
    go_enter Tryd.func12, Tryd.ntmps12
    go_wp2_with fail
    rw [HW.out]
    refine Calls.mono HOK.out ?_
    rintro e w2 ⟨rfl, b2⟩
    have vR2 := VarJ.step HVR.out b2
    have v2 := VarD.step HV1.out b2
    have k1 := v2.c1
    have e0 := vR2.c0
    have e1 := vR2.c1
    have e2 := vR2.c2
    have e3 := vR2.c3
    have f0 := vR2.f 0
    have f1 := vR2.f 1
    have f2 := vR2.f 2
    have f3 := vR2.f 3
    have HB2 : Hid (Below w.heap.size w w2) := HB1.out.trans (b2.mono HB1.out.size)
    clear b2 vR2 v2 HOK HV1 HVR HB1 c0 c1
    go_wp2
    refine bodyPost_ret (v := .tuple #[.agg #[.slice none 0 0, .slice none 0 0, .int .i64 0, .int .i64 0], .slice none 0 0, .bool false]) (by simp [results, Tryd.results12, go_sem, e0, e1, e2, e3]) rfl ⟨rfl, ?_⟩
    exact (((HB2.out.setCell (Nat.le_succ _) _).setCell (Nat.le_succ _) _).setCell (Nat.le_succ _) _).setCell (Nat.le_succ _) _

set_option maxRecDepth 100000 in
set_option maxHeartbeats 2000000 in
theorem specOpen_yes (v : Value) (d : Dk) (l h : Nat) (w : World) (r : RdD w l h v d) (hh : h ≤ w.heap.size) (hok : okD d = true) (hno : d.2 = []) (hsm : Small d) :
    Calls Tryd.prog 12 #[v] w fun e w' => ∃ X V, e = .returned (.tuple #[X, V, .bool true]) ∧ RdJ w' w.heap.size w'.heap.size X (d, ((openS d.1).1 : Int), ((openS d.1).2.1 : Int)) ∧ RdBB w' w.heap.size w'.heap.size V (openS d.1).2.2 ∧ Below w.heap.size w w' := by
  obtain ⟨xa, xn, xc, ya, yn, yc, rfl⟩ := r.open
  have hyn : yn = 0 := by
    obtain ⟨x', y', he, _, rb⟩ := r
    simp only [Value.agg.injEq, Array.mk.injEq, List.cons.injEq, and_true] at he
    obtain ⟨rfl, rfl⟩ := he
    have := rb.len.1
    rw [hno] at this; exact this
  subst hyn
  have b0 := Below.new (w := w) (.cells #[.slice xa xn xc, .slice ya 0 yc] 26)
  have v0 := VarD.new w (.slice xa xn xc) (.slice ya 0 yc)
  generalize hw0 : w.alloc (.cells #[.slice xa xn xc, .slice ya 0 yc] 26) = w0 at b0 v0
  have s0 : w0.heap.size = w.heap.size + 1 := by rw [← hw0]; simp
  have b1 := Below.new (w := w0) (.cells #[.slice none 0 0, .slice none 0 0, .int .i64 0, .int .i64 0] 30)
  have vR := VarJ.new (T := 30) w0 (.slice none 0 0) (.slice none 0 0) 0 0
  rw [s0] at vR
  have v1 := v0.step b1
  generalize hw1 : w0.alloc (.cells #[.slice none 0 0, .slice none 0 0, .int .i64 0, .int .i64 0] 30) = w1 at b1 vR v1
  have B1 : Below w.heap.size w w1 := b0.trans (b1.mono (by omega))
  have sR := vR.lt
  have s1 := B1.size
  have r1 := r.step hh B1
  have h9 := specOk_any _ d l h w1 r1 (by omega)
  rw [hok] at h9
  have HOK : Hid _ := h9
  have HW : Hid ((w.alloc (.cells #[.slice xa xn xc, .slice ya 0 yc] 26)).alloc (.cells #[.slice none 0 0, .slice none 0 0, .int .i64 0, .int .i64 0] 30) = w1) := by show _ = _; rw [hw0, hw1]
  have HV1 : Hid (VarD w1 w.heap.size _ _) := v1
  have HVR : Hid (VarJ _ w1 (w.heap.size + 1) _ _ _ _) := vR
  have HB1 : Hid (Below w.heap.size w w1) := B1
  have HR1 : Hid (RdD w1 l h _ _) := r1
  have HSM : Hid _ := hsm
  have hpar := hok
  unfold okD at hpar
  simp only [Bool.and_eq_true, decide_eq_true_eq, List.all_eq_true] at hpar
  have hS2 : d.1.length ≤ 2000 := hpar.1.1.1
  have HW32 : Hid (∀ i, i < d.1.length → (d.1[i]?.getD []).length = 32) := fun i hi => by
    have := hpar.1.2 _ (List.getElem_mem hi)
    simp [secOk] at this
    rw [List.getElem?_eq_getElem hi]
    simpa using this
  have HBZ : Hid (∀ i : Nat, isBytes (d.1[i]?.getD [])) := fun i => by
    obtain ⟨x', y', he, ra, _⟩ := r
    obtain ⟨a', n', c', us, _, hl, _, _, hee⟩ := ra
    by_cases hi : i < n'
    · exact (hee i hi).1
    · rw [List.getElem?_eq_none (by omega)]; exact isBytes_nil
  have c0 := v1.c0
  have c1 := v1.c1
  clear hw0 hw1 r b0 v0 b1 vR v1 B1 s0 r1 h9 hok hpar hsm
  go_enter Tryd.func12, Tryd.ntmps12
  go_wp2_with fail
  rw [HW.out]
  refine Calls.mono HOK.out ?_
  rintro e w2 ⟨rfl, b2⟩
  have v2 := VarD.step HV1.out b2
  have k0 := v2.c0
  have k1 := v2.c1
  have r2 := RdD.step HR1.out (by omega) b2
  have s2 := b2.size
  have HCP : Hid _ := specCopy_any _ d l h w2 r2 (by omega) HSM.out
  have HVR2 : Hid (VarJ _ w2 (w.heap.size + 1) _ _ _ _) := VarJ.step HVR.out b2
  have HB2 : Hid (Below w.heap.size w w2) := HB1.out.trans (b2.mono HB1.out.size)
  clear b2 v2 r2 HOK HV1 HVR HB1 HR1 c0 c1
  go_wp2_with fail
  refine Calls.mono HCP.out ?_
  rintro e w3 ⟨x3, y3, H, rfl, kx, gy, hH, b3⟩
  have s3 := b3.size
  have r3 : RdD w3 w2.heap.size w3.heap.size (.agg #[x3, y3]) d := ⟨x3, y3, rfl, kx.rd.wide (Nat.le_refl _) hH.2, gy.rd.wide hH.1 (Nat.le_refl _)⟩
  have HOP : Hid _ := open3_any _ d _ _ w3 r3 (Nat.le_refl _) hS2 HW32.out HBZ.out
  obtain ⟨pa, pn, pc, qa, qn, qc, he⟩ := r3.open
  simp only [Value.agg.injEq, Array.mk.injEq, List.cons.injEq, and_true] at he
  obtain ⟨rfl, rfl⟩ := he
  have HVR3 : Hid (VarJ _ w3 (w.heap.size + 1) _ _ _ _) := VarJ.step HVR2.out b3
  have HB3 : Hid (Below w.heap.size w w3) := HB2.out.trans (b3.mono HB2.out.size)
  clear kx gy b3 r3 HCP HVR2 HB2 k0 k1
  go_wp2_with fail
  refine Calls.mono HOP.out ?_
  rintro e w4 ⟨X, V, rfl, rJ, rV, b4⟩
  obtain ⟨ga, gn, gc, ha, hn, hc, rfl, rD⟩ := rJ.open
  obtain ⟨ea, en, ec, hve⟩ : ∃ a n c, V = .slice a n c := by
    obtain ⟨a', n', c', _, hve, _⟩ := rV
    exact ⟨_, _, _, hve⟩
  subst hve
  have HRV : Hid (RdBB w4 w3.heap.size w4.heap.size (.slice ea en ec) (openS d.1).2.2) := rV
  clear rV
  have s4 := b4.size
  have b5 := Below.new (w := w4) (.cells #[.slice ga gn gc, .slice ha hn hc, .int .i64 ((openS d.1).1 : Int), .int .i64 ((openS d.1).2.1 : Int)] 30)
  have vJ := VarJ.new (T := 30) w4 (.slice ga gn gc) (.slice ha hn hc) ((openS d.1).1 : Int) ((openS d.1).2.1 : Int)
  have vR5 := (VarJ.step HVR3.out b4).step b5
  have HRD5 : Hid (RdD _ w2.heap.size w3.heap.size (.agg #[.slice ga gn gc, .slice ha hn hc]) d) := rD.step s4 b5
  have HRV5 : Hid _ := RdBB.same HRV.out (SameIn.ofBelow b5 (Nat.le_refl _))
  have B5 : Below w.heap.size w _ := (HB3.out.trans (b4.mono HB3.out.size)).trans (b5.mono (by have := HB3.out.size; omega))
  generalize hw5 : w4.alloc (.cells #[.slice ga gn gc, .slice ha hn hc, .int .i64 ((openS d.1).1 : Int), .int .i64 ((openS d.1).2.1 : Int)] 30) = w5 at b5 vJ vR5 HRD5 HRV5 B5
  have HW5 : Hid _ := hw5
  have s5 := b5.size
  have k0 := vJ.c0
  have k1 := vJ.c1
  have k2 := vJ.c2
  have k3 := vJ.c3
  have e0 := vR5.c0
  have e1 := vR5.c1
  have e2 := vR5.c2
  have e3 := vR5.c3
  have f0 := vR5.f 0
  have f1 := vR5.f 1
  have f2 := vR5.f 2
  have f3 := vR5.f 3
  have HB5 : Hid _ := B5
  clear hw5 b4 b5 vJ vR5 B5 HVR3 HB3 HRV rJ rD HOP
  go_wp2_with (rw [HW5.out])
  refine bodyPost_ret (v := .tuple #[.agg #[.slice ga gn gc, .slice ha hn hc, .int .i64 ((openS d.1).1 : Int), .int .i64 ((openS d.1).2.1 : Int)], .slice ea en ec, .bool true]) (by simp [results, Tryd.results12, go_sem, e0, e1, e2, e3]) rfl ⟨_, _, rfl, ?_, ?_, ?_⟩
  · refine ⟨_, _, rfl, RdD.wide (RdD.same HRD5.out (four_same9 (by omega))) (by omega) (by simp; omega)⟩
  · exact (RdBB.same HRV5.out (four_same9 (by omega))).wide (by omega) (by simp; omega)
  · exact (((HB5.out.setCell (Nat.le_succ _) _).setCell (Nat.le_succ _) _).setCell (Nat.le_succ _) _).setCell (Nat.le_succ _) _
end Go.Proofs.YtjhaanenkeceiaaDoor
