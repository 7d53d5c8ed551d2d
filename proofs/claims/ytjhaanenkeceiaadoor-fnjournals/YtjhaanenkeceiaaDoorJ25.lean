/- Joined: WalkFnJournals. -/
import Derived.Test.YtjhaanenkeceiaaDoorJ19
import Derived.Test.YtjhaanenkeceiaaDoorJ20
import Derived.Test.YtjhaanenkeceiaaDoorJ14
import Derived.Test.YtjhaanenkeceiaaDoorJ24
import Derived.Lib.SlBytesConst

section
/- The walk of the law FnJournals; no condition on its argument. -/
namespace Go.Proofs.YtjhaanenkeceiaaDoor.fnJournals
open Go.RowKit Go.Lib
set_option linter.unusedVariables false
set_option linter.unusedSimpArgs false
attribute [local go_sem ↓] Go.wp_at_zero Go.wp_at_succ

theorem sameDisk_empty (u : Value) (d : Dk) (l h : Nat) (w : World) (r : RdD w l h u d) (hh : h ≤ w.heap.size) :
    Calls Tryd.prog 10 #[u, .agg #[.slice none 0 0, .slice none 0 0]] w fun e w' => e = .returned (.bool (d.1.isEmpty && d.2.isEmpty)) ∧ Below w.heap.size w w' := by
  obtain ⟨xa, n, xc, ya, m, yc, rfl⟩ := r.open
  have hn := r.parts.1.len
  have hm := r.parts.2.len
  by_cases h0 : n = 0 ∧ m = 0
  · have hd1 : d.1 = [] := List.eq_nil_of_length_eq_zero (by omega)
    have hd2 : d.2 = [] := List.eq_nil_of_length_eq_zero (by omega)
    have he : d = ([], []) := by cases d; simp_all
    subst he
    exact sameDisk_any _ _ ([], []) l h w.heap.size w.heap.size w r (nilD2 w w.heap.size w.heap.size).rd hh (Nat.le_refl _)
  · have hres : (d.1.isEmpty && d.2.isEmpty) = false := by
      cases h1 : d.1 with
      | nil =>
        cases h2 : d.2 with
        | nil => rw [h1] at hn; rw [h2] at hm; simp at hn hm; omega
        | cons _ _ => rfl
      | cons _ _ => rfl
    rw [hres]
    have hnm := hn.2
    have hmm := hm.2
    clear hn hm r hres
    by_cases h1 : n = 0
    · subst h1
      have e1 : ((m : Int) != 0) = true := by simp; omega
      have e1b : ((m : Int) == 0) = false := by simp; omega
      have e1c : ¬ m = 0 := by omega
      go_enter Tryd.func10, Tryd.ntmps10
      go_wp2
      go_ret
      exact ⟨rfl, (Below.new _).trans ((Below.new _).mono (by simp))⟩
    · have e1 : ((n : Int) != 0) = true := by simp; omega
      have e1b : ((n : Int) == 0) = false := by simp; omega
      go_enter Tryd.func10, Tryd.ntmps10
      go_wp2
      go_ret
      exact ⟨rfl, (Below.new _).trans ((Below.new _).mono (by simp))⟩
theorem first_put : (appendJ (newD 2, 0, 0) [97]).2 = true := by decide
theorem first_seq : (appendJ (newD 2, 0, 0) [97]).1.2.2 = 1 := by decide
/-- Where it is refused, the law's sentence holds. -/
theorem refused {j : Jn} {zs : List Int} (hk : (appendJ j zs).2 = false) (hz : zs.length ≤ 200) : ((!((appendJ j zs).1.1.1.isEmpty && (appendJ j zs).1.1.2.isEmpty)) == okD j.1) = true ∨ j.1.1.length = 0 ∨ (appendJ j zs).1.1.1.length = 0 := by
  unfold appendJ at hk ⊢
  split at hk
  · rename_i hok
    rw [if_pos hok]
    split at hk
    · simp at hk
    · rename_i hno
      rw [if_neg hno]
      have hd : okD j.1 = true := by
        unfold okJ at hok
        simp only [Bool.and_eq_true] at hok
        exact hok.1.1.1.1
      rw [hd]
      cases h1 : j.1.1 with
      | nil => exact .inr (.inl rfl)
      | cons _ _ => exact .inl (by simp [h1])
  · rename_i hok
    rw [if_neg hok]
    exact .inr (.inr rfl)

set_option maxRecDepth 100000 in
set_option maxHeartbeats 8000000 in
theorem walk (v0 : Value) (d0 : List Int) (w : World) (e0 : RdB w 0 w.heap.size v0 d0) (a : Addr) (hg : Glob w a) (b c : Addr) (h1 : w.cell? ⟨0, 0, none⟩ = some (errV b)) (h2 : w.cell? ⟨1, 0, none⟩ = some (errV c)) :
    Calls Tryd.prog 3 #[v0] w fun e w' => e = .returned (.bool true) ∧ Below w.heap.size w w' := by
  have hlt := hg.lt
  have HG : Hid (∀ W, Below w.heap.size w W → Glob W a) := fun W hW => hg.step hW hlt
  obtain ⟨_, ca, cn, cc, rfl, hcn, hch, hcr⟩ := e0.reads
  have HDR : Hid (∀ W, Below w.heap.size w W → Calls Tryd.prog 9 #[.slice ca cn cc] W (DAOut W)) := fun W hW => by
    obtain ⟨_, ca', cn', cc', he', hcn', hch', hcr'⟩ := (e0.same (SameIn.ofBelow hW (Nat.le_refl _))).reads
    simp only [Value.slice.injEq] at he'
    obtain ⟨rfl, rfl, rfl⟩ := he'
    exact drawAppend_any ca d0 cn cc W hcr' hcn' (by rw [← hcn']; exact Nat.le_trans hch'.1 hch'.2.1)
  have HN : Hid _ := implNew_any 2 w
  clear hg h1 h2 e0 hcn hch hcr
  go_enter Tryd.func3, Tryd.ntmps3
  go_wp2_with fail
  refine Calls.mono HN.out ?_
  rintro e w1 ⟨u, rfl, oU, b1⟩
  have rU := oU.rd
  obtain ⟨da, dn, dc, fa, fn, fc, rfl⟩ := rU.open
  have s1 := b1.size
  have b2 := Below.new (w := w1) (.cells #[.slice da dn dc, .slice fa fn fc] 26)
  have vD := VarD.new w1 (.slice da dn dc) (.slice fa fn fc)
  generalize hw2 : w1.alloc (.cells #[.slice da dn dc, .slice fa fn fc] 26) = w2 at b2 vD
  have HW2 : Hid _ := hw2
  have b3 := Below.new (w := w2) (.cells #[.int .u8 97] 5 (1, 2))
  have hnew := heap_alloc_new w2 (.cells #[.int .u8 97] 5 (1, 2))
  have hcv : (convert 22 22 (.slice (some ⟨w2.heap.size, 0, none⟩) 1 1)).run Tryd.prog (w2.alloc (.cells #[.int .u8 97] 5)) = .ok (.slice (some ⟨w2.heap.size, 0, none⟩) 1 1) (w2.alloc (.cells #[.int .u8 97] 5 (1, 2))) := run_convert_bytes_const w2 22 5 #[.int .u8 97] 1 1 Tryd.underlying22 Tryd.underlying5
  generalize hw3 : w2.alloc (.cells #[.int .u8 97] 5 (1, 2)) = w3 at b3 hnew hcv
  have o97 : RdB w3 w2.heap.size w3.heap.size (.slice (some ⟨w2.heap.size, 0, none⟩) 1 1) [97] := by
    have hl9 : w2.heap.size < w3.heap.size := (Array.getElem?_eq_some_iff.1 hnew).1
    refine ⟨isBytes_cons (by omega) (by omega) isBytes_nil, some ⟨w2.heap.size, 0, none⟩, 1, 1, rfl, rfl, ⟨Nat.le_refl _, by unfold maxLen; omega, fun h => by cases h⟩, .inr ⟨w2.heap.size, 0, rfl, Nat.le_refl _, hl9, fun i hi => ?_⟩⟩
    have hi0 : i = 0 := by simp at hi; omega
    subst hi0
    simp [World.cell?, hnew]
  have r3 := (rU.step (Nat.le_refl _) b2).step (by have := b2.size; omega) b3
  have HW3 : Hid _ := hw3
  have s2 := b2.size
  have s3 := b3.size
  have B3 : Below w.heap.size w w3 := (b1.trans (b2.mono s1)).trans (b3.mono (by omega))
  have h9 := implAppend_all (newD 2, 0, 0) [97] a w3 (.agg #[.slice da dn dc, .slice fa fn fc, .int .i64 0, .int .i64 0]) _ _ _ _ _ ⟨_, _, rfl, r3⟩ (by omega) o97 (Nat.le_refl _) (HG.out _ B3)
  rw [first_put] at h9
  have HAP : Hid _ := h9
  have k0 := vD.c0
  have k1 := vD.c1
  have HB3 : Hid _ := B3
  clear HN oU rU b1 hw2 hw3 b2 b3 vD o97 r3 B3 h9 hnew
  go_wp2_with (first | rw [HW2.out] | rw [HW3.out])
  refine Calls.mono HAP.out ?_
  rintro e w4 ⟨x4, rfl, oJ4, b4⟩
  obtain ⟨pa, pn, pc, qa, qn, qc, rfl, _⟩ := oJ4.rd.open
  rw [first_seq]
  generalize (appendJ (newD 2, 0, 0) [97]).1.2.1 = z1
  have s4 := b4.size
  have B4 : Below w.heap.size w w4 := HB3.out.trans (b4.mono HB3.out.size)
  have b5 := Below.new (w := w4) (.cells #[.slice pa pn pc, .slice qa qn qc, .int .i64 z1, .int .i64 1] 30)
  have vF := VarJ.new (T := 30) w4 (.slice pa pn pc) (.slice qa qn qc) z1 1
  generalize hw5 : w4.alloc (.cells #[.slice pa pn pc, .slice qa qn qc, .int .i64 z1, .int .i64 1] 30) = w5 at b5 vF
  have HW5 : Hid _ := hw5
  have s5 := b5.size
  have sl5 := vF.lt
  clear hw5
  have B5 : Below w.heap.size w w5 := B4.trans (b5.mono B4.size)
  have c53 := vF.c3
  have HB5 : Hid _ := B5
  clear HAP oJ4 b4 B4 b5 vF B5 HB3 k0 k1
  go_wp2_with (rw [HW5.out])
  refine Calls.mono (HDR.out w5 HB5.out) ?_
  rintro e w6 ⟨jv, ⟨d, P, Q⟩, rv, ys, rfl, rJ, hsm, rR, hyl, b6⟩
  obtain ⟨xa, xn, xc, ya, yn, yc, rfl, rD⟩ := rJ.open
  obtain ⟨ra, rn, rc, rfl⟩ := rR.sliced
  have hrn : rn = ys.length := rR.len
  have hrm : rn ≤ 300 := by omega
  have s6 := b6.size
  have B6 : Below w.heap.size w w6 := HB5.out.trans (b6.mono HB5.out.size)
  have b7 := Below.new (w := w6) (.cells #[.slice xa xn xc, .slice ya yn yc, .int .i64 P, .int .i64 Q] 30)
  have vJ := VarJ.new (T := 30) w6 (.slice xa xn xc) (.slice ya yn yc) P Q
  generalize hw7 : w6.alloc (.cells #[.slice xa xn xc, .slice ya yn yc, .int .i64 P, .int .i64 Q] 30) = w7 at b7 vJ
  have HW7 : Hid _ := hw7
  have s7 := b7.size
  have sl7 := vJ.lt
  clear hw7
  have hxl := rD.parts.1.len
  have B7 : Below w.heap.size w w7 := B6.trans (b7.mono B6.size)
  have rJ7 : RdJ w7 w5.heap.size w6.heap.size (.agg #[.slice xa xn xc, .slice ya yn yc, .int .i64 P, .int .i64 Q]) (d, P, Q) := rJ.step (Nat.le_refl _) b7
  have rR7 := rR.same (SameIn.ofBelow b7 (Nat.le_refl _))
  have h9 := implAppend_all (d, P, Q) ys a w7 _ _ _ _ _ _ rJ7 (by omega) rR7 (by omega) (HG.out _ B7)
  have k0 := vJ.c0
  have k1 := vJ.c1
  have k2 := vJ.c2
  have k3 := vJ.c3
  have HVJ7 : Hid (VarJ _ w7 w6.heap.size _ _ _ _) := vJ
  have HRJ7 : Hid _ := rJ7
  have HRR7 : Hid _ := rR7
  have HB7 : Hid _ := B7
  have HSM : Hid _ := hsm
  have HRN : Hid _ := hrn
  have HXL : Hid (xn = d.1.length) := hxl.1
  have hxm := hxl.2
  clear HDR HB5 c53 rJ rR b6 B6 b7 vJ rD rJ7 rR7 B7 hsm hrn hxl
  by_cases hk : (appendJ (d, P, Q) ys).2 = true
  case neg =>
    have hk' : (appendJ (d, P, Q) ys).2 = false := by simpa using hk
    rw [hk'] at h9
    have HAP : Hid _ := h9
    have hrf := fun hz => refused hk' hz
    clear h9 hk hk'
    generalize appendJ (d, P, Q) ys = ZB at HAP hrf
    obtain ⟨Z, zb⟩ := ZB
    go_wp2_with (rw [HW7.out])
    refine Calls.mono HAP.out ?_
    rintro e w8 ⟨x8, rfl, oJ8, b8⟩
    obtain ⟨ga, gn, gc, ha, hn, hc, rfl, rD8⟩ := oJ8.rd.open
    have s8 := b8.size
    have b9 := Below.new (w := w8) (.cells #[.slice ga gn gc, .slice ha hn hc, .int .i64 Z.2.1, .int .i64 Z.2.2] 30)
    have vX := VarJ.new (T := 30) w8 (.slice ga gn gc) (.slice ha hn hc) Z.2.1 Z.2.2
    generalize hw9 : w8.alloc (.cells #[.slice ga gn gc, .slice ha hn hc, .int .i64 Z.2.1, .int .i64 Z.2.2] 30) = w9 at b9 vX
    have HW9 : Hid _ := hw9
    have s9 := b9.size
    have sl9 := vX.lt
    clear hw9
    have hgl := rD8.parts.1.len
    have B89 : Below w7.heap.size w7 w9 := b8.trans (b9.mono s8)
    have HB9 : Hid (Below w.heap.size w w9) := HB7.out.trans (B89.mono HB7.out.size)
    have HVX9 : Hid (VarJ _ w9 w8.heap.size _ _ _ _) := vX
    have HVJ9 : Hid (VarJ _ w9 w6.heap.size _ _ _ _) := VarJ.step HVJ7.out B89
    have rX9 := rD8.step (Nat.le_refl _) b9
    obtain ⟨x', y', he', rJd⟩ := HRJ7.out
    simp only [Value.agg.injEq, Array.mk.injEq, List.cons.injEq, and_true] at he'
    obtain ⟨rfl, rfl, _⟩ := he'
    have rJ9 := RdD.step rJd (by omega) B89
    have HSD : Hid (∀ W, Below w9.heap.size w9 W → Calls Tryd.prog 10 #[.agg #[.slice ga gn gc, .slice ha hn hc], .agg #[.slice none 0 0, .slice none 0 0]] W fun e w' => e = .returned (.bool (Z.1.1.isEmpty && Z.1.2.isEmpty)) ∧ Below W.heap.size W w') := fun W hW => sameDisk_empty _ Z.1 _ _ W (rX9.step (by omega) hW) (by have := hW.size; omega)
    have HDO : Hid (∀ W, Below w9.heap.size w9 W → Calls Tryd.prog 11 #[.agg #[.slice xa xn xc, .slice ya yn yc]] W fun e w' => e = .returned (.bool (okD d)) ∧ Below W.heap.size W w') := fun W hW => specOk_any _ d _ _ W (rJ9.step (by omega) hW) (by have := hW.size; omega)
    have hgz : gn = Z.1.1.length := hgl.1
    have hgm := hgl.2
    have hxz := HXL.out
    have hsp : w9.cell? ⟨w8.heap.size, 0, none⟩ = some (.slice ga gn gc) ∧ w9.cell? ⟨w8.heap.size, 1, none⟩ = some (.slice ha hn hc) ∧ w9.cell? ⟨w6.heap.size, 0, none⟩ = some (.slice xa xn xc) ∧ w9.cell? ⟨w6.heap.size, 1, none⟩ = some (.slice ya yn yc) := ⟨VarJ.c0 HVX9.out, VarJ.c1 HVX9.out, VarJ.c0 HVJ9.out, VarJ.c1 HVJ9.out⟩
    by_cases hlong : 200 < rn
    · have e1 : decide ((200 : Int) < (rn : Int)) = true := by simp; omega
      clear hrf HSD HDO oJ8 rD8 b8 b9 vX B89 rX9 rJd rJ9 hgl hgz hxz HAP HRJ7 HRR7 HB7 HVJ7 k0 k1 k2 k3
      go_wp2_with (rw [HW9.out])
      refine wp_region_noPanic ?_
      refine wp_region_held_drew (S := fun w' => w'.cell? ⟨w8.heap.size, 0, none⟩ = some (.slice ga gn gc) ∧ w'.cell? ⟨w8.heap.size, 1, none⟩ = some (.slice ha hn hc) ∧ w'.cell? ⟨w6.heap.size, 0, none⟩ = some (.slice xa xn xc) ∧ w'.cell? ⟨w6.heap.size, 1, none⟩ = some (.slice ya yn yc)) (by kernel_rfl) hsp (fun hHeld => ?_)
      clear hsp
      refine wpAnyH_take (i := 0) (v := ?_) rfl (by kernel_rfl) (by kernel_rfl) (by kernel_rfl) (fun _ _ _ h => h) (Or.inl ⟨by rfl, ?_⟩) (by assumption) ?_
      rotate_left
      · (intro w_ hSw_; (try dsimp only at hSw_); go_simp; try with_reducible rfl)
      try simp only [Act.put, List.setIfInBounds_toArray, List.set_cons_zero, List.set_cons_succ, List.getElem_toArray, List.getElem_cons_zero, List.getElem_cons_succ]
      refine wpAnyH_take (i := 1) (v := ?_) rfl (by kernel_rfl) (by kernel_rfl) (by kernel_rfl) (fun _ _ _ h => h) (Or.inl ⟨by rfl, ?_⟩) (by assumption) ?_
      rotate_left
      · (intro w_ hSw_; (try dsimp only at hSw_); go_simp; try with_reducible rfl)
      try simp only [Act.put, List.setIfInBounds_toArray, List.set_cons_zero, List.set_cons_succ, List.getElem_toArray, List.getElem_cons_zero, List.getElem_cons_succ]
      refine wpAnyH_take (i := 2) (v := ?_) rfl (by kernel_rfl) (by kernel_rfl) (by kernel_rfl) (fun _ _ _ h => h) (Or.inl ⟨by rfl, ?_⟩) (by assumption) ?_
      rotate_left
      · (intro w_ hSw_; (try dsimp only at hSw_); go_simp; try with_reducible rfl)
      try simp only [Act.put, List.setIfInBounds_toArray, List.set_cons_zero, List.set_cons_succ, List.getElem_toArray, List.getElem_cons_zero, List.getElem_cons_succ]
      refine wpAnyH_take (i := 3) (v := ?_) rfl (by kernel_rfl) (by kernel_rfl) (by kernel_rfl) (fun _ _ _ h => h) (Or.inl ⟨by rfl, ?_⟩) (by assumption) ?_
      rotate_left
      · (intro w_ hSw_; (try dsimp only at hSw_); go_simp; try with_reducible rfl)
      try simp only [Act.put, List.setIfInBounds_toArray, List.set_cons_zero, List.set_cons_succ, List.getElem_toArray, List.getElem_cons_zero, List.getElem_cons_succ]
      refine wpAnyH_take (i := 4) (v := undef) rfl (by kernel_rfl) (by kernel_rfl) (by kernel_rfl) (fun _ _ _ h => h) (Or.inr ⟨by rfl, rfl⟩) (by assumption) ?_
      try simp only [Act.put, List.setIfInBounds_toArray, List.set_cons_zero, List.set_cons_succ, List.getElem_toArray, List.getElem_cons_zero, List.getElem_cons_succ]
      refine wpAnyH_take (i := 5) (v := undef) rfl (by kernel_rfl) (by kernel_rfl) (by kernel_rfl) (fun _ _ _ h => h) (Or.inr ⟨by rfl, rfl⟩) (by assumption) ?_
      try simp only [Act.put, List.setIfInBounds_toArray, List.set_cons_zero, List.set_cons_succ, List.getElem_toArray, List.getElem_cons_zero, List.getElem_cons_succ]
      refine wpAnyH_take (i := 6) (v := undef) rfl (by kernel_rfl) (by kernel_rfl) (by kernel_rfl) (fun _ _ _ h => h) (Or.inr ⟨by rfl, rfl⟩) (by assumption) ?_
      try simp only [Act.put, List.setIfInBounds_toArray, List.set_cons_zero, List.set_cons_succ, List.getElem_toArray, List.getElem_cons_zero, List.getElem_cons_succ]
      refine wpAnyH_take (i := 7) (v := undef) rfl (by kernel_rfl) (by kernel_rfl) (by kernel_rfl) (fun _ _ _ h => h) (Or.inr ⟨by rfl, rfl⟩) (by assumption) ?_
      try simp only [Act.put, List.setIfInBounds_toArray, List.set_cons_zero, List.set_cons_succ, List.getElem_toArray, List.getElem_cons_zero, List.getElem_cons_succ]
      refine wpAnyH_take (i := 8) (v := undef) rfl (by kernel_rfl) (by kernel_rfl) (by kernel_rfl) (fun _ _ _ h => h) (Or.inr ⟨by rfl, rfl⟩) (by assumption) ?_
      try simp only [Act.put, List.setIfInBounds_toArray, List.set_cons_zero, List.set_cons_succ, List.getElem_toArray, List.getElem_cons_zero, List.getElem_cons_succ]
      refine wpAnyH_take (i := 9) (v := undef) rfl (by kernel_rfl) (by kernel_rfl) (by kernel_rfl) (fun _ _ _ h => h) (Or.inr ⟨by rfl, rfl⟩) (by assumption) ?_
      try simp only [Act.put, List.setIfInBounds_toArray, List.set_cons_zero, List.set_cons_succ, List.getElem_toArray, List.getElem_cons_zero, List.getElem_cons_succ]
      refine wpAnyH_take (i := 10) (v := undef) rfl (by kernel_rfl) (by kernel_rfl) (by kernel_rfl) (fun _ _ _ h => h) (Or.inr ⟨by rfl, rfl⟩) (by assumption) ?_
      try simp only [Act.put, List.setIfInBounds_toArray, List.set_cons_zero, List.set_cons_succ, List.getElem_toArray, List.getElem_cons_zero, List.getElem_cons_succ]
      refine wpAnyH_take (i := 11) (v := undef) rfl (by kernel_rfl) (by kernel_rfl) (by kernel_rfl) (fun _ _ _ h => h) (Or.inr ⟨by rfl, rfl⟩) (by assumption) ?_
      try simp only [Act.put, List.setIfInBounds_toArray, List.set_cons_zero, List.set_cons_succ, List.getElem_toArray, List.getElem_cons_zero, List.getElem_cons_succ]
      refine wpAnyH_take (i := 12) (v := undef) rfl (by kernel_rfl) (by kernel_rfl) (by kernel_rfl) (fun _ _ _ h => h) (Or.inr ⟨by rfl, rfl⟩) (by assumption) ?_
      try simp only [Act.put, List.setIfInBounds_toArray, List.set_cons_zero, List.set_cons_succ, List.getElem_toArray, List.getElem_cons_zero, List.getElem_cons_succ]
      refine wpAnyH_take (i := 13) (v := ?_) rfl (by kernel_rfl) (by kernel_rfl) (by kernel_rfl) (fun _ _ _ h => h) (Or.inl ⟨by rfl, ?_⟩) (by assumption) ?_
      rotate_left
      · (intro w_ hSw_; (try dsimp only at hSw_); go_simp; try with_reducible rfl)
      try simp only [Act.put, List.setIfInBounds_toArray, List.set_cons_zero, List.set_cons_succ, List.getElem_toArray, List.getElem_cons_zero, List.getElem_cons_succ]
      refine wpAnyH_take (i := 14) (v := ?_) rfl (by kernel_rfl) (by kernel_rfl) (by kernel_rfl) (fun _ _ _ h => h) (Or.inl ⟨by rfl, ?_⟩) (by assumption) ?_
      rotate_left
      · (intro w_ hSw_; (try dsimp only at hSw_); go_simp; try with_reducible rfl)
      try simp only [Act.put, List.setIfInBounds_toArray, List.set_cons_zero, List.set_cons_succ, List.getElem_toArray, List.getElem_cons_zero, List.getElem_cons_succ]
      refine wpAnyH_take (i := 15) (v := undef) rfl (by kernel_rfl) (by kernel_rfl) (by kernel_rfl) (fun _ _ _ h => h) (Or.inr ⟨by rfl, rfl⟩) (by assumption) ?_
      try simp only [Act.put, List.setIfInBounds_toArray, List.set_cons_zero, List.set_cons_succ, List.getElem_toArray, List.getElem_cons_zero, List.getElem_cons_succ]
      refine wpAnyH_take (i := 16) (v := undef) rfl (by kernel_rfl) (by kernel_rfl) (by kernel_rfl) (fun _ _ _ h => h) (Or.inr ⟨by rfl, rfl⟩) (by assumption) ?_
      try simp only [Act.put, List.setIfInBounds_toArray, List.set_cons_zero, List.set_cons_succ, List.getElem_toArray, List.getElem_cons_zero, List.getElem_cons_succ]
      refine wpAnyH_take (i := 17) (v := undef) rfl (by kernel_rfl) (by kernel_rfl) (by kernel_rfl) (fun _ _ _ h => h) (Or.inr ⟨by rfl, rfl⟩) (by assumption) ?_
      try simp only [Act.put, List.setIfInBounds_toArray, List.set_cons_zero, List.set_cons_succ, List.getElem_toArray, List.getElem_cons_zero, List.getElem_cons_succ]
      refine wpAnyH_take (i := 18) (v := undef) rfl (by kernel_rfl) (by kernel_rfl) (by kernel_rfl) (fun _ _ _ h => h) (Or.inr ⟨by rfl, rfl⟩) (by assumption) ?_
      try simp only [Act.put, List.setIfInBounds_toArray, List.set_cons_zero, List.set_cons_succ, List.getElem_toArray, List.getElem_cons_zero, List.getElem_cons_succ]
      refine wpAnyH_take (i := 19) (v := undef) rfl (by kernel_rfl) (by kernel_rfl) (by kernel_rfl) (fun _ _ _ h => h) (Or.inr ⟨by rfl, rfl⟩) (by assumption) ?_
      try simp only [Act.put, List.setIfInBounds_toArray, List.set_cons_zero, List.set_cons_succ, List.getElem_toArray, List.getElem_cons_zero, List.getElem_cons_succ]
      refine wpAnyH_take (i := 20) (v := ?_) rfl (by kernel_rfl) (by kernel_rfl) (by kernel_rfl) (fun _ _ _ h => h) (Or.inl ⟨by rfl, ?_⟩) (by assumption) ?_
      rotate_left
      · (intro w_ hSw_; (try dsimp only at hSw_); go_simp; try with_reducible rfl)
      try simp only [Act.put, List.setIfInBounds_toArray, List.set_cons_zero, List.set_cons_succ, List.getElem_toArray, List.getElem_cons_zero, List.getElem_cons_succ]
      refine wpAnyH_take (i := 21) (v := ?_) rfl (by kernel_rfl) (by kernel_rfl) (by kernel_rfl) (fun _ _ _ h => h) (Or.inl ⟨by rfl, ?_⟩) (by assumption) ?_
      rotate_left
      · (intro w_ hSw_; (try dsimp only at hSw_); go_simp; try with_reducible rfl)
      try simp only [Act.put, List.setIfInBounds_toArray, List.set_cons_zero, List.set_cons_succ, List.getElem_toArray, List.getElem_cons_zero, List.getElem_cons_succ]
      refine wpAnyH_take (i := 22) (v := undef) rfl (by kernel_rfl) (by kernel_rfl) (by kernel_rfl) (fun _ _ _ h => h) (Or.inr ⟨by rfl, rfl⟩) (by assumption) ?_
      try simp only [Act.put, List.setIfInBounds_toArray, List.set_cons_zero, List.set_cons_succ, List.getElem_toArray, List.getElem_cons_zero, List.getElem_cons_succ]
      refine wpAnyH_take (i := 23) (v := undef) rfl (by kernel_rfl) (by kernel_rfl) (by kernel_rfl) (fun _ _ _ h => h) (Or.inr ⟨by rfl, rfl⟩) (by assumption) ?_
      try simp only [Act.put, List.setIfInBounds_toArray, List.set_cons_zero, List.set_cons_succ, List.getElem_toArray, List.getElem_cons_zero, List.getElem_cons_succ]
      refine wpAnyH_take (i := 24) (v := undef) rfl (by kernel_rfl) (by kernel_rfl) (by kernel_rfl) (fun _ _ _ h => h) (Or.inr ⟨by rfl, rfl⟩) (by assumption) ?_
      try simp only [Act.put, List.setIfInBounds_toArray, List.set_cons_zero, List.set_cons_succ, List.getElem_toArray, List.getElem_cons_zero, List.getElem_cons_succ]
      refine wpAnyH_take (i := 25) (v := undef) rfl (by kernel_rfl) (by kernel_rfl) (by kernel_rfl) (fun _ _ _ h => h) (Or.inr ⟨by rfl, rfl⟩) (by assumption) ?_
      try simp only [Act.put, List.setIfInBounds_toArray, List.set_cons_zero, List.set_cons_succ, List.getElem_toArray, List.getElem_cons_zero, List.getElem_cons_succ]
      refine wpAnyH_take (i := 26) (v := undef) rfl (by kernel_rfl) (by kernel_rfl) (by kernel_rfl) (fun _ _ _ h => h) (Or.inr ⟨by rfl, rfl⟩) (by assumption) ?_
      try simp only [Act.put, List.setIfInBounds_toArray, List.set_cons_zero, List.set_cons_succ, List.getElem_toArray, List.getElem_cons_zero, List.getElem_cons_succ]
      refine wpAnyH_take (i := 27) (v := ?_) rfl (by kernel_rfl) (by kernel_rfl) (by kernel_rfl) (fun _ _ _ h => h) (Or.inl ⟨by rfl, ?_⟩) (by assumption) ?_
      rotate_left
      · (intro w_ hSw_; (try dsimp only at hSw_); go_simp; try with_reducible rfl)
      try simp only [Act.put, List.setIfInBounds_toArray, List.set_cons_zero, List.set_cons_succ, List.getElem_toArray, List.getElem_cons_zero, List.getElem_cons_succ]
      refine wpAnyH_take (i := 28) (v := ?_) rfl (by kernel_rfl) (by kernel_rfl) (by kernel_rfl) (fun _ _ _ h => h) (Or.inl ⟨by rfl, ?_⟩) (by assumption) ?_
      rotate_left
      · (intro w_ hSw_; (try dsimp only at hSw_); go_simp; try with_reducible rfl)
      try simp only [Act.put, List.setIfInBounds_toArray, List.set_cons_zero, List.set_cons_succ, List.getElem_toArray, List.getElem_cons_zero, List.getElem_cons_succ]
      refine wpAnyH_done (by kernel_rfl) (NoPanic.normal ?_) _
      clear hHeld
      go_wp2
      go_ret
      exact ⟨rfl, Below.drew HB9.out⟩
    · have e1 : decide ((200 : Int) < (rn : Int)) = false := by simp; omega
      have hrf2 := hrf (by have := HRN.out; omega)
      have hR : ((!(Z.1.1.isEmpty && Z.1.2.isEmpty)) == okD d) = true ∨ xn = 0 ∨ gn = 0 := by
        rcases hrf2 with h8 | h8 | h8
        · exact .inl h8
        · exact .inr (.inl (by rw [hxz]; exact h8))
        · exact .inr (.inr (by rw [hgz]; exact h8))
      clear hrf hrf2 oJ8 rD8 b8 b9 vX B89 rX9 rJd rJ9 hgl hgz hxz HAP HRJ7 HRR7 HB7 HVJ7 k0 k1 k2 k3
      generalize (Z.1.1.isEmpty && Z.1.2.isEmpty) = sv at HSD hR
      generalize okD d = ov at HDO hR
      have case3 : ∀ (p : Prop), True := fun _ => trivial
      clear case3
      cases sv <;> cases ov
      · simp at hR
        by_cases hx0 : xn = 0
        · subst hx0
          clear hR
          go_wp2_with (rw [HW9.out])
          have BB_ : Below w9.heap.size w9 w9.drew := Below.drew (Below.refl _ _)
          refine wp_region_noPanic ?_
          refine wp_region_held_drew (S := fun w' => w'.cell? ⟨w8.heap.size, 0, none⟩ = some (.slice ga gn gc) ∧ w'.cell? ⟨w8.heap.size, 1, none⟩ = some (.slice ha hn hc) ∧ w'.cell? ⟨w6.heap.size, 0, none⟩ = some (.slice xa 0 xc) ∧ w'.cell? ⟨w6.heap.size, 1, none⟩ = some (.slice ya yn yc)) (by kernel_rfl) hsp (fun hHeld => ?_)
          clear hsp
          refine wpAnyH_take (i := 0) (v := ?_) rfl (by kernel_rfl) (by kernel_rfl) (by kernel_rfl) (fun _ _ _ h => h) (Or.inl ⟨by rfl, ?_⟩) (by assumption) ?_
          rotate_left
          · (intro w_ hSw_; (try dsimp only at hSw_); go_simp; try with_reducible rfl)
          try simp only [Act.put, List.setIfInBounds_toArray, List.set_cons_zero, List.set_cons_succ, List.getElem_toArray, List.getElem_cons_zero, List.getElem_cons_succ]
          refine wpAnyH_take (i := 1) (v := ?_) rfl (by kernel_rfl) (by kernel_rfl) (by kernel_rfl) (fun _ _ _ h => h) (Or.inl ⟨by rfl, ?_⟩) (by assumption) ?_
          rotate_left
          · (intro w_ hSw_; (try dsimp only at hSw_); go_simp; try with_reducible rfl)
          try simp only [Act.put, List.setIfInBounds_toArray, List.set_cons_zero, List.set_cons_succ, List.getElem_toArray, List.getElem_cons_zero, List.getElem_cons_succ]
          refine wpAnyH_take (i := 2) (v := ?_) rfl (by kernel_rfl) (by kernel_rfl) (by kernel_rfl) (fun _ _ _ h => h) (Or.inl ⟨by rfl, ?_⟩) (by assumption) ?_
          rotate_left
          · (intro w_ hSw_; (try dsimp only at hSw_); go_simp; try with_reducible rfl)
          try simp only [Act.put, List.setIfInBounds_toArray, List.set_cons_zero, List.set_cons_succ, List.getElem_toArray, List.getElem_cons_zero, List.getElem_cons_succ]
          refine wpAnyH_take (i := 3) (v := ?_) rfl (by kernel_rfl) (by kernel_rfl) (by kernel_rfl) (fun _ _ _ h => h) (Or.inl ⟨by rfl, ?_⟩) (by assumption) ?_
          rotate_left
          · (intro w_ hSw_; (try dsimp only at hSw_); go_simp; try with_reducible rfl)
          try simp only [Act.put, List.setIfInBounds_toArray, List.set_cons_zero, List.set_cons_succ, List.getElem_toArray, List.getElem_cons_zero, List.getElem_cons_succ]
          refine wpAnyH_take (i := 4) (v := ?_) rfl (by kernel_rfl) (by kernel_rfl) (by kernel_rfl) (fun _ _ _ h => h) (Or.inl ⟨by rfl, ?_⟩) (by assumption) ?_
          rotate_left
          · (intro w_ hSw_; (try dsimp only at hSw_); go_simp; try with_reducible rfl)
          try simp only [Act.put, List.setIfInBounds_toArray, List.set_cons_zero, List.set_cons_succ, List.getElem_toArray, List.getElem_cons_zero, List.getElem_cons_succ]
          refine wpAnyH_take (i := 5) (v := ?_) rfl (by kernel_rfl) (by kernel_rfl) (by kernel_rfl) (fun _ _ _ h => h) (Or.inl ⟨by rfl, ?_⟩) (by assumption) ?_
          rotate_left
          · (intro w_ hSw_; (try dsimp only at hSw_); go_simp; try with_reducible rfl)
          try simp only [Act.put, List.setIfInBounds_toArray, List.set_cons_zero, List.set_cons_succ, List.getElem_toArray, List.getElem_cons_zero, List.getElem_cons_succ]
          refine wpAnyH_take (i := 6) (v := ?_) rfl (by kernel_rfl) (by kernel_rfl) (by kernel_rfl) (fun _ _ _ h => h) (Or.inl ⟨by rfl, ?_⟩) (by assumption) ?_
          rotate_left
          · (intro w_ hSw_; (try dsimp only at hSw_); go_simp; try with_reducible rfl)
          try simp only [Act.put, List.setIfInBounds_toArray, List.set_cons_zero, List.set_cons_succ, List.getElem_toArray, List.getElem_cons_zero, List.getElem_cons_succ]
          refine wpAnyH_take (i := 9) (v := ?_) rfl (by kernel_rfl) (by kernel_rfl) (by kernel_rfl) (fun _ _ _ h => h) (Or.inl ⟨by rfl, ?_⟩) (by assumption) ?_
          rotate_left
          · (intro w_ hSw_; (try dsimp only at hSw_); go_simp; try with_reducible rfl)
          try simp only [Act.put, List.setIfInBounds_toArray, List.set_cons_zero, List.set_cons_succ, List.getElem_toArray, List.getElem_cons_zero, List.getElem_cons_succ]
          refine wpAnyH_take (i := 10) (v := ?_) rfl (by kernel_rfl) (by kernel_rfl) (by kernel_rfl) (fun _ _ _ h => h) (Or.inl ⟨by rfl, ?_⟩) (by assumption) ?_
          rotate_left
          · (intro w_ hSw_; (try dsimp only at hSw_); go_simp; try with_reducible rfl)
          try simp only [Act.put, List.setIfInBounds_toArray, List.set_cons_zero, List.set_cons_succ, List.getElem_toArray, List.getElem_cons_zero, List.getElem_cons_succ]
          refine wpAnyH_ready (rs := [7]) (by kernel_rfl) (by simp) ?_
          refine AllReadyH.cons rfl (fun K hK => ?_) AllReadyH.nil
          go_simp
          refine Calls.mono (HSD.out w9.drew (by assumption)) ?_
          rintro e wa ⟨rfl, b_wa⟩
          have B_wa : Below w9.heap.size w9 wa := BB_.trans (b_wa.mono BB_.size)
          clear BB_
          have BB_ := B_wa
          have p_wa : wa.cell? ⟨w8.heap.size, 0, none⟩ = some (.slice ga gn gc) ∧ wa.cell? ⟨w8.heap.size, 1, none⟩ = some (.slice ha hn hc) ∧ wa.cell? ⟨w6.heap.size, 0, none⟩ = some (.slice xa 0 xc) ∧ wa.cell? ⟨w6.heap.size, 1, none⟩ = some (.slice ya yn yc) := ⟨VarJ.c0 (VarJ.step HVX9.out BB_), VarJ.c1 (VarJ.step HVX9.out BB_), VarJ.c0 (VarJ.step HVJ9.out BB_), VarJ.c1 (VarJ.step HVJ9.out BB_)⟩
          clear b_wa B_wa
          go_wp2_with fail
          refine hK.out _ _ p_wa (fun hHeld => ?_)
          clear hK K
          try simp only [Act.put, List.setIfInBounds_toArray, List.set_cons_zero, List.set_cons_succ, List.getElem_toArray, List.getElem_cons_zero, List.getElem_cons_succ]
          refine wpAnyH_take (i := 8) (v := ?_) rfl (by kernel_rfl) (by kernel_rfl) (by kernel_rfl) (fun _ _ _ h => h) (Or.inl ⟨by rfl, ?_⟩) (by assumption) ?_
          rotate_left
          · (intro w_ hSw_; (try dsimp only at hSw_); go_simp; try with_reducible rfl)
          try simp only [Act.put, List.setIfInBounds_toArray, List.set_cons_zero, List.set_cons_succ, List.getElem_toArray, List.getElem_cons_zero, List.getElem_cons_succ]
          refine wpAnyH_ready (rs := [11]) (by kernel_rfl) (by simp) ?_
          refine AllReadyH.cons rfl (fun K hK => ?_) AllReadyH.nil
          go_simp
          refine Calls.mono (HDO.out wa (by assumption)) ?_
          rintro e wb ⟨rfl, b_wb⟩
          have B_wb : Below w9.heap.size w9 wb := BB_.trans (b_wb.mono BB_.size)
          clear BB_
          have BB_ := B_wb
          have p_wb : wb.cell? ⟨w8.heap.size, 0, none⟩ = some (.slice ga gn gc) ∧ wb.cell? ⟨w8.heap.size, 1, none⟩ = some (.slice ha hn hc) ∧ wb.cell? ⟨w6.heap.size, 0, none⟩ = some (.slice xa 0 xc) ∧ wb.cell? ⟨w6.heap.size, 1, none⟩ = some (.slice ya yn yc) := ⟨VarJ.c0 (VarJ.step HVX9.out BB_), VarJ.c1 (VarJ.step HVX9.out BB_), VarJ.c0 (VarJ.step HVJ9.out BB_), VarJ.c1 (VarJ.step HVJ9.out BB_)⟩
          clear b_wb B_wb
          go_wp2_with fail
          refine hK.out _ _ p_wb (fun hHeld => ?_)
          clear hK K
          try simp only [Act.put, List.setIfInBounds_toArray, List.set_cons_zero, List.set_cons_succ, List.getElem_toArray, List.getElem_cons_zero, List.getElem_cons_succ]
          refine wpAnyH_take (i := 12) (v := ?_) rfl (by kernel_rfl) (by kernel_rfl) (by kernel_rfl) (fun _ _ _ h => h) (Or.inl ⟨by rfl, ?_⟩) (by assumption) ?_
          rotate_left
          · (intro w_ hSw_; (try dsimp only at hSw_); go_simp; try with_reducible rfl)
          try simp only [Act.put, List.setIfInBounds_toArray, List.set_cons_zero, List.set_cons_succ, List.getElem_toArray, List.getElem_cons_zero, List.getElem_cons_succ]
          refine wpAnyH_take (i := 13) (v := ?_) rfl (by kernel_rfl) (by kernel_rfl) (by kernel_rfl) (fun _ _ _ h => h) (Or.inl ⟨by rfl, ?_⟩) (by assumption) ?_
          rotate_left
          · (intro w_ hSw_; (try dsimp only at hSw_); go_simp; try with_reducible rfl)
          try simp only [Act.put, List.setIfInBounds_toArray, List.set_cons_zero, List.set_cons_succ, List.getElem_toArray, List.getElem_cons_zero, List.getElem_cons_succ]
          refine wpAnyH_take (i := 14) (v := ?_) rfl (by kernel_rfl) (by kernel_rfl) (by kernel_rfl) (fun _ _ _ h => h) (Or.inl ⟨by rfl, ?_⟩) (by assumption) ?_
          rotate_left
          · (intro w_ hSw_; (try dsimp only at hSw_); go_simp; try with_reducible rfl)
          try simp only [Act.put, List.setIfInBounds_toArray, List.set_cons_zero, List.set_cons_succ, List.getElem_toArray, List.getElem_cons_zero, List.getElem_cons_succ]
          refine wpAnyH_take (i := 15) (v := ?_) rfl (by kernel_rfl) (by kernel_rfl) (by kernel_rfl) (fun _ _ _ h => h) (Or.inl ⟨by rfl, ?_⟩) (by assumption) ?_
          rotate_left
          · (intro w_ hSw_; (try dsimp only at hSw_); go_simp; try with_reducible rfl)
          try simp only [Act.put, List.setIfInBounds_toArray, List.set_cons_zero, List.set_cons_succ, List.getElem_toArray, List.getElem_cons_zero, List.getElem_cons_succ]
          refine wpAnyH_take (i := 16) (v := ?_) rfl (by kernel_rfl) (by kernel_rfl) (by kernel_rfl) (fun _ _ _ h => h) (Or.inl ⟨by rfl, ?_⟩) (by assumption) ?_
          rotate_left
          · (intro w_ hSw_; (try dsimp only at hSw_); go_simp; try with_reducible rfl)
          try simp only [Act.put, List.setIfInBounds_toArray, List.set_cons_zero, List.set_cons_succ, List.getElem_toArray, List.getElem_cons_zero, List.getElem_cons_succ]
          refine wpAnyH_take (i := 17) (v := ?_) rfl (by kernel_rfl) (by kernel_rfl) (by kernel_rfl) (fun _ _ _ h => h) (Or.inl ⟨by rfl, ?_⟩) (by assumption) ?_
          rotate_left
          · (intro w_ hSw_; (try dsimp only at hSw_); go_simp; try with_reducible rfl)
          try simp only [Act.put, List.setIfInBounds_toArray, List.set_cons_zero, List.set_cons_succ, List.getElem_toArray, List.getElem_cons_zero, List.getElem_cons_succ]
          refine wpAnyH_take (i := 18) (v := ?_) rfl (by kernel_rfl) (by kernel_rfl) (by kernel_rfl) (fun _ _ _ h => h) (Or.inl ⟨by rfl, ?_⟩) (by assumption) ?_
          rotate_left
          · (intro w_ hSw_; (try dsimp only at hSw_); go_simp; try with_reducible rfl)
          try simp only [Act.put, List.setIfInBounds_toArray, List.set_cons_zero, List.set_cons_succ, List.getElem_toArray, List.getElem_cons_zero, List.getElem_cons_succ]
          refine wpAnyH_take (i := 19) (v := ?_) rfl (by kernel_rfl) (by kernel_rfl) (by kernel_rfl) (fun _ _ _ h => h) (Or.inl ⟨by rfl, ?_⟩) (by assumption) ?_
          rotate_left
          · (intro w_ hSw_; (try dsimp only at hSw_); go_simp; try with_reducible rfl)
          try simp only [Act.put, List.setIfInBounds_toArray, List.set_cons_zero, List.set_cons_succ, List.getElem_toArray, List.getElem_cons_zero, List.getElem_cons_succ]
          refine wpAnyH_take (i := 20) (v := ?_) rfl (by kernel_rfl) (by kernel_rfl) (by kernel_rfl) (fun _ _ _ h => h) (Or.inl ⟨by rfl, ?_⟩) (by assumption) ?_
          rotate_left
          · (intro w_ hSw_; (try dsimp only at hSw_); go_simp; try with_reducible rfl)
          try simp only [Act.put, List.setIfInBounds_toArray, List.set_cons_zero, List.set_cons_succ, List.getElem_toArray, List.getElem_cons_zero, List.getElem_cons_succ]
          refine wpAnyH_take (i := 21) (v := ?_) rfl (by kernel_rfl) (by kernel_rfl) (by kernel_rfl) (fun _ _ _ h => h) (Or.inl ⟨by rfl, ?_⟩) (by assumption) ?_
          rotate_left
          · (intro w_ hSw_; (try dsimp only at hSw_); go_simp; try with_reducible rfl)
          try simp only [Act.put, List.setIfInBounds_toArray, List.set_cons_zero, List.set_cons_succ, List.getElem_toArray, List.getElem_cons_zero, List.getElem_cons_succ]
          refine wpAnyH_take (i := 22) (v := undef) rfl (by kernel_rfl) (by kernel_rfl) (by kernel_rfl) (fun _ _ _ h => h) (Or.inr ⟨by rfl, rfl⟩) (by assumption) ?_
          try simp only [Act.put, List.setIfInBounds_toArray, List.set_cons_zero, List.set_cons_succ, List.getElem_toArray, List.getElem_cons_zero, List.getElem_cons_succ]
          refine wpAnyH_take (i := 23) (v := undef) rfl (by kernel_rfl) (by kernel_rfl) (by kernel_rfl) (fun _ _ _ h => h) (Or.inr ⟨by rfl, rfl⟩) (by assumption) ?_
          try simp only [Act.put, List.setIfInBounds_toArray, List.set_cons_zero, List.set_cons_succ, List.getElem_toArray, List.getElem_cons_zero, List.getElem_cons_succ]
          refine wpAnyH_take (i := 24) (v := undef) rfl (by kernel_rfl) (by kernel_rfl) (by kernel_rfl) (fun _ _ _ h => h) (Or.inr ⟨by rfl, rfl⟩) (by assumption) ?_
          try simp only [Act.put, List.setIfInBounds_toArray, List.set_cons_zero, List.set_cons_succ, List.getElem_toArray, List.getElem_cons_zero, List.getElem_cons_succ]
          refine wpAnyH_take (i := 25) (v := undef) rfl (by kernel_rfl) (by kernel_rfl) (by kernel_rfl) (fun _ _ _ h => h) (Or.inr ⟨by rfl, rfl⟩) (by assumption) ?_
          try simp only [Act.put, List.setIfInBounds_toArray, List.set_cons_zero, List.set_cons_succ, List.getElem_toArray, List.getElem_cons_zero, List.getElem_cons_succ]
          refine wpAnyH_take (i := 26) (v := undef) rfl (by kernel_rfl) (by kernel_rfl) (by kernel_rfl) (fun _ _ _ h => h) (Or.inr ⟨by rfl, rfl⟩) (by assumption) ?_
          try simp only [Act.put, List.setIfInBounds_toArray, List.set_cons_zero, List.set_cons_succ, List.getElem_toArray, List.getElem_cons_zero, List.getElem_cons_succ]
          refine wpAnyH_take (i := 27) (v := ?_) rfl (by kernel_rfl) (by kernel_rfl) (by kernel_rfl) (fun _ _ _ h => h) (Or.inl ⟨by rfl, ?_⟩) (by assumption) ?_
          rotate_left
          · (intro w_ hSw_; (try dsimp only at hSw_); go_simp; try with_reducible rfl)
          try simp only [Act.put, List.setIfInBounds_toArray, List.set_cons_zero, List.set_cons_succ, List.getElem_toArray, List.getElem_cons_zero, List.getElem_cons_succ]
          refine wpAnyH_take (i := 28) (v := ?_) rfl (by kernel_rfl) (by kernel_rfl) (by kernel_rfl) (fun _ _ _ h => h) (Or.inl ⟨by rfl, ?_⟩) (by assumption) ?_
          rotate_left
          · (intro w_ hSw_; (try dsimp only at hSw_); go_simp; try with_reducible rfl)
          try simp only [Act.put, List.setIfInBounds_toArray, List.set_cons_zero, List.set_cons_succ, List.getElem_toArray, List.getElem_cons_zero, List.getElem_cons_succ]
          refine wpAnyH_done (by kernel_rfl) (NoPanic.normal ?_) _
          clear hHeld
          go_wp2
          go_ret
          exact ⟨rfl, HB9.out.trans (BB_.mono HB9.out.size)⟩
        · have hg0 : gn = 0 := by omega
          subst hg0
          have ex : ((xn : Int) == 0) = false := by simp; omega
          have exb : (xn == 0) = false := by simp; omega
          have exc : decide (xn = 0) = false := by simp; omega
          have exe : decide ((xn : Int) = 0) = false := by simp; omega
          clear hR
          go_wp2_with (rw [HW9.out])
          have BB_ : Below w9.heap.size w9 w9.drew := Below.drew (Below.refl _ _)
          refine wp_region_noPanic ?_
          refine wp_region_held_drew (S := fun w' => w'.cell? ⟨w8.heap.size, 0, none⟩ = some (.slice ga 0 gc) ∧ w'.cell? ⟨w8.heap.size, 1, none⟩ = some (.slice ha hn hc) ∧ w'.cell? ⟨w6.heap.size, 0, none⟩ = some (.slice xa xn xc) ∧ w'.cell? ⟨w6.heap.size, 1, none⟩ = some (.slice ya yn yc)) (by kernel_rfl) hsp (fun hHeld => ?_)
          clear hsp
          refine wpAnyH_take (i := 0) (v := ?_) rfl (by kernel_rfl) (by kernel_rfl) (by kernel_rfl) (fun _ _ _ h => h) (Or.inl ⟨by rfl, ?_⟩) (by assumption) ?_
          rotate_left
          · (intro w_ hSw_; (try dsimp only at hSw_); go_simp; try with_reducible rfl)
          try simp only [Act.put, List.setIfInBounds_toArray, List.set_cons_zero, List.set_cons_succ, List.getElem_toArray, List.getElem_cons_zero, List.getElem_cons_succ]
          refine wpAnyH_take (i := 1) (v := ?_) rfl (by kernel_rfl) (by kernel_rfl) (by kernel_rfl) (fun _ _ _ h => h) (Or.inl ⟨by rfl, ?_⟩) (by assumption) ?_
          rotate_left
          · (intro w_ hSw_; (try dsimp only at hSw_); go_simp; try with_reducible rfl)
          try simp only [Act.put, List.setIfInBounds_toArray, List.set_cons_zero, List.set_cons_succ, List.getElem_toArray, List.getElem_cons_zero, List.getElem_cons_succ]
          refine wpAnyH_take (i := 2) (v := ?_) rfl (by kernel_rfl) (by kernel_rfl) (by kernel_rfl) (fun _ _ _ h => h) (Or.inl ⟨by rfl, ?_⟩) (by assumption) ?_
          rotate_left
          · (intro w_ hSw_; (try dsimp only at hSw_); go_simp; try with_reducible rfl)
          try simp only [Act.put, List.setIfInBounds_toArray, List.set_cons_zero, List.set_cons_succ, List.getElem_toArray, List.getElem_cons_zero, List.getElem_cons_succ]
          refine wpAnyH_take (i := 3) (v := ?_) rfl (by kernel_rfl) (by kernel_rfl) (by kernel_rfl) (fun _ _ _ h => h) (Or.inl ⟨by rfl, ?_⟩) (by assumption) ?_
          rotate_left
          · (intro w_ hSw_; (try dsimp only at hSw_); go_simp; try with_reducible rfl)
          try simp only [Act.put, List.setIfInBounds_toArray, List.set_cons_zero, List.set_cons_succ, List.getElem_toArray, List.getElem_cons_zero, List.getElem_cons_succ]
          refine wpAnyH_take (i := 4) (v := ?_) rfl (by kernel_rfl) (by kernel_rfl) (by kernel_rfl) (fun _ _ _ h => h) (Or.inl ⟨by rfl, ?_⟩) (by assumption) ?_
          rotate_left
          · (intro w_ hSw_; (try dsimp only at hSw_); go_simp; try with_reducible rfl)
          try simp only [Act.put, List.setIfInBounds_toArray, List.set_cons_zero, List.set_cons_succ, List.getElem_toArray, List.getElem_cons_zero, List.getElem_cons_succ]
          refine wpAnyH_take (i := 5) (v := ?_) rfl (by kernel_rfl) (by kernel_rfl) (by kernel_rfl) (fun _ _ _ h => h) (Or.inl ⟨by rfl, ?_⟩) (by assumption) ?_
          rotate_left
          · (intro w_ hSw_; (try dsimp only at hSw_); go_simp; try with_reducible rfl)
          try simp only [Act.put, List.setIfInBounds_toArray, List.set_cons_zero, List.set_cons_succ, List.getElem_toArray, List.getElem_cons_zero, List.getElem_cons_succ]
          refine wpAnyH_take (i := 6) (v := ?_) rfl (by kernel_rfl) (by kernel_rfl) (by kernel_rfl) (fun _ _ _ h => h) (Or.inl ⟨by rfl, ?_⟩) (by assumption) ?_
          rotate_left
          · (intro w_ hSw_; (try dsimp only at hSw_); go_simp; try with_reducible rfl)
          try simp only [Act.put, List.setIfInBounds_toArray, List.set_cons_zero, List.set_cons_succ, List.getElem_toArray, List.getElem_cons_zero, List.getElem_cons_succ]
          refine wpAnyH_take (i := 9) (v := ?_) rfl (by kernel_rfl) (by kernel_rfl) (by kernel_rfl) (fun _ _ _ h => h) (Or.inl ⟨by rfl, ?_⟩) (by assumption) ?_
          rotate_left
          · (intro w_ hSw_; (try dsimp only at hSw_); go_simp; try with_reducible rfl)
          try simp only [Act.put, List.setIfInBounds_toArray, List.set_cons_zero, List.set_cons_succ, List.getElem_toArray, List.getElem_cons_zero, List.getElem_cons_succ]
          refine wpAnyH_take (i := 10) (v := ?_) rfl (by kernel_rfl) (by kernel_rfl) (by kernel_rfl) (fun _ _ _ h => h) (Or.inl ⟨by rfl, ?_⟩) (by assumption) ?_
          rotate_left
          · (intro w_ hSw_; (try dsimp only at hSw_); go_simp; try with_reducible rfl)
          try simp only [Act.put, List.setIfInBounds_toArray, List.set_cons_zero, List.set_cons_succ, List.getElem_toArray, List.getElem_cons_zero, List.getElem_cons_succ]
          refine wpAnyH_ready (rs := [7]) (by kernel_rfl) (by simp) ?_
          refine AllReadyH.cons rfl (fun K hK => ?_) AllReadyH.nil
          go_simp
          refine Calls.mono (HSD.out w9.drew (by assumption)) ?_
          rintro e wa ⟨rfl, b_wa⟩
          have B_wa : Below w9.heap.size w9 wa := BB_.trans (b_wa.mono BB_.size)
          clear BB_
          have BB_ := B_wa
          have p_wa : wa.cell? ⟨w8.heap.size, 0, none⟩ = some (.slice ga 0 gc) ∧ wa.cell? ⟨w8.heap.size, 1, none⟩ = some (.slice ha hn hc) ∧ wa.cell? ⟨w6.heap.size, 0, none⟩ = some (.slice xa xn xc) ∧ wa.cell? ⟨w6.heap.size, 1, none⟩ = some (.slice ya yn yc) := ⟨VarJ.c0 (VarJ.step HVX9.out BB_), VarJ.c1 (VarJ.step HVX9.out BB_), VarJ.c0 (VarJ.step HVJ9.out BB_), VarJ.c1 (VarJ.step HVJ9.out BB_)⟩
          clear b_wa B_wa
          go_wp2_with fail
          refine hK.out _ _ p_wa (fun hHeld => ?_)
          clear hK K
          try simp only [Act.put, List.setIfInBounds_toArray, List.set_cons_zero, List.set_cons_succ, List.getElem_toArray, List.getElem_cons_zero, List.getElem_cons_succ]
          refine wpAnyH_take (i := 8) (v := ?_) rfl (by kernel_rfl) (by kernel_rfl) (by kernel_rfl) (fun _ _ _ h => h) (Or.inl ⟨by rfl, ?_⟩) (by assumption) ?_
          rotate_left
          · (intro w_ hSw_; (try dsimp only at hSw_); go_simp; try with_reducible rfl)
          try simp only [Act.put, List.setIfInBounds_toArray, List.set_cons_zero, List.set_cons_succ, List.getElem_toArray, List.getElem_cons_zero, List.getElem_cons_succ]
          refine wpAnyH_ready (rs := [11]) (by kernel_rfl) (by simp) ?_
          refine AllReadyH.cons rfl (fun K hK => ?_) AllReadyH.nil
          go_simp
          refine Calls.mono (HDO.out wa (by assumption)) ?_
          rintro e wb ⟨rfl, b_wb⟩
          have B_wb : Below w9.heap.size w9 wb := BB_.trans (b_wb.mono BB_.size)
          clear BB_
          have BB_ := B_wb
          have p_wb : wb.cell? ⟨w8.heap.size, 0, none⟩ = some (.slice ga 0 gc) ∧ wb.cell? ⟨w8.heap.size, 1, none⟩ = some (.slice ha hn hc) ∧ wb.cell? ⟨w6.heap.size, 0, none⟩ = some (.slice xa xn xc) ∧ wb.cell? ⟨w6.heap.size, 1, none⟩ = some (.slice ya yn yc) := ⟨VarJ.c0 (VarJ.step HVX9.out BB_), VarJ.c1 (VarJ.step HVX9.out BB_), VarJ.c0 (VarJ.step HVJ9.out BB_), VarJ.c1 (VarJ.step HVJ9.out BB_)⟩
          clear b_wb B_wb
          go_wp2_with fail
          refine hK.out _ _ p_wb (fun hHeld => ?_)
          clear hK K
          try simp only [Act.put, List.setIfInBounds_toArray, List.set_cons_zero, List.set_cons_succ, List.getElem_toArray, List.getElem_cons_zero, List.getElem_cons_succ]
          refine wpAnyH_take (i := 12) (v := ?_) rfl (by kernel_rfl) (by kernel_rfl) (by kernel_rfl) (fun _ _ _ h => h) (Or.inl ⟨by rfl, ?_⟩) (by assumption) ?_
          rotate_left
          · (intro w_ hSw_; (try dsimp only at hSw_); go_simp; try with_reducible rfl)
          try simp only [Act.put, List.setIfInBounds_toArray, List.set_cons_zero, List.set_cons_succ, List.getElem_toArray, List.getElem_cons_zero, List.getElem_cons_succ]
          refine wpAnyH_take (i := 13) (v := ?_) rfl (by kernel_rfl) (by kernel_rfl) (by kernel_rfl) (fun _ _ _ h => h) (Or.inl ⟨by rfl, ?_⟩) (by assumption) ?_
          rotate_left
          · (intro w_ hSw_; (try dsimp only at hSw_); go_simp; try with_reducible rfl)
          try simp only [Act.put, List.setIfInBounds_toArray, List.set_cons_zero, List.set_cons_succ, List.getElem_toArray, List.getElem_cons_zero, List.getElem_cons_succ]
          refine wpAnyH_take (i := 14) (v := ?_) rfl (by kernel_rfl) (by kernel_rfl) (by kernel_rfl) (fun _ _ _ h => h) (Or.inl ⟨by rfl, ?_⟩) (by assumption) ?_
          rotate_left
          · (intro w_ hSw_; (try dsimp only at hSw_); go_simp; try with_reducible rfl)
          try simp only [Act.put, List.setIfInBounds_toArray, List.set_cons_zero, List.set_cons_succ, List.getElem_toArray, List.getElem_cons_zero, List.getElem_cons_succ]
          refine wpAnyH_take (i := 15) (v := ?_) rfl (by kernel_rfl) (by kernel_rfl) (by kernel_rfl) (fun _ _ _ h => h) (Or.inl ⟨by rfl, ?_⟩) (by assumption) ?_
          rotate_left
          · (intro w_ hSw_; (try dsimp only at hSw_); go_simp; try with_reducible rfl)
          try simp only [Act.put, List.setIfInBounds_toArray, List.set_cons_zero, List.set_cons_succ, List.getElem_toArray, List.getElem_cons_zero, List.getElem_cons_succ]
          refine wpAnyH_take (i := 16) (v := ?_) rfl (by kernel_rfl) (by kernel_rfl) (by kernel_rfl) (fun _ _ _ h => h) (Or.inl ⟨by rfl, ?_⟩) (by assumption) ?_
          rotate_left
          · (intro w_ hSw_; (try dsimp only at hSw_); go_simp; try with_reducible rfl)
          try simp only [Act.put, List.setIfInBounds_toArray, List.set_cons_zero, List.set_cons_succ, List.getElem_toArray, List.getElem_cons_zero, List.getElem_cons_succ]
          refine wpAnyH_take (i := 17) (v := ?_) rfl (by kernel_rfl) (by kernel_rfl) (by kernel_rfl) (fun _ _ _ h => h) (Or.inl ⟨by rfl, ?_⟩) (by assumption) ?_
          rotate_left
          · (intro w_ hSw_; (try dsimp only at hSw_); go_simp; try with_reducible rfl)
          try simp only [Act.put, List.setIfInBounds_toArray, List.set_cons_zero, List.set_cons_succ, List.getElem_toArray, List.getElem_cons_zero, List.getElem_cons_succ]
          refine wpAnyH_take (i := 18) (v := ?_) rfl (by kernel_rfl) (by kernel_rfl) (by kernel_rfl) (fun _ _ _ h => h) (Or.inl ⟨by rfl, ?_⟩) (by assumption) ?_
          rotate_left
          · (intro w_ hSw_; (try dsimp only at hSw_); go_simp; try with_reducible rfl)
          try simp only [Act.put, List.setIfInBounds_toArray, List.set_cons_zero, List.set_cons_succ, List.getElem_toArray, List.getElem_cons_zero, List.getElem_cons_succ]
          refine wpAnyH_take (i := 19) (v := ?_) rfl (by kernel_rfl) (by kernel_rfl) (by kernel_rfl) (fun _ _ _ h => h) (Or.inl ⟨by rfl, ?_⟩) (by assumption) ?_
          rotate_left
          · (intro w_ hSw_; (try dsimp only at hSw_); go_simp; try with_reducible rfl)
          try simp only [Act.put, List.setIfInBounds_toArray, List.set_cons_zero, List.set_cons_succ, List.getElem_toArray, List.getElem_cons_zero, List.getElem_cons_succ]
          refine wpAnyH_take (i := 20) (v := ?_) rfl (by kernel_rfl) (by kernel_rfl) (by kernel_rfl) (fun _ _ _ h => h) (Or.inl ⟨by rfl, ?_⟩) (by assumption) ?_
          rotate_left
          · (intro w_ hSw_; (try dsimp only at hSw_); go_simp; try with_reducible rfl)
          try simp only [Act.put, List.setIfInBounds_toArray, List.set_cons_zero, List.set_cons_succ, List.getElem_toArray, List.getElem_cons_zero, List.getElem_cons_succ]
          refine wpAnyH_take (i := 21) (v := ?_) rfl (by kernel_rfl) (by kernel_rfl) (by kernel_rfl) (fun _ _ _ h => h) (Or.inl ⟨by rfl, ?_⟩) (by assumption) ?_
          rotate_left
          · (intro w_ hSw_; (try dsimp only at hSw_); go_simp; try with_reducible rfl)
          try simp only [Act.put, List.setIfInBounds_toArray, List.set_cons_zero, List.set_cons_succ, List.getElem_toArray, List.getElem_cons_zero, List.getElem_cons_succ]
          refine wpAnyH_take (i := 22) (v := ?_) rfl (by kernel_rfl) (by kernel_rfl) (by kernel_rfl) (fun _ _ _ h => h) (Or.inl ⟨by rfl, ?_⟩) (by assumption) ?_
          rotate_left
          · (intro w_ hSw_; (try dsimp only at hSw_); go_simp; try with_reducible rfl)
          try simp only [Act.put, List.setIfInBounds_toArray, List.set_cons_zero, List.set_cons_succ, List.getElem_toArray, List.getElem_cons_zero, List.getElem_cons_succ]
          refine wpAnyH_take (i := 23) (v := ?_) rfl (by kernel_rfl) (by kernel_rfl) (by kernel_rfl) (fun _ _ _ h => h) (Or.inl ⟨by rfl, ?_⟩) (by assumption) ?_
          rotate_left
          · (intro w_ hSw_; (try dsimp only at hSw_); go_simp; try with_reducible rfl)
          try simp only [Act.put, List.setIfInBounds_toArray, List.set_cons_zero, List.set_cons_succ, List.getElem_toArray, List.getElem_cons_zero, List.getElem_cons_succ]
          refine wpAnyH_take (i := 24) (v := ?_) rfl (by kernel_rfl) (by kernel_rfl) (by kernel_rfl) (fun _ _ _ h => h) (Or.inl ⟨by rfl, ?_⟩) (by assumption) ?_
          rotate_left
          · (intro w_ hSw_; (try dsimp only at hSw_); go_simp; try with_reducible rfl)
          try simp only [Act.put, List.setIfInBounds_toArray, List.set_cons_zero, List.set_cons_succ, List.getElem_toArray, List.getElem_cons_zero, List.getElem_cons_succ]
          refine wpAnyH_take (i := 25) (v := ?_) rfl (by kernel_rfl) (by kernel_rfl) (by kernel_rfl) (fun _ _ _ h => h) (Or.inl ⟨by rfl, ?_⟩) (by assumption) ?_
          rotate_left
          · (intro w_ hSw_; (try dsimp only at hSw_); go_simp; try with_reducible rfl)
          try simp only [Act.put, List.setIfInBounds_toArray, List.set_cons_zero, List.set_cons_succ, List.getElem_toArray, List.getElem_cons_zero, List.getElem_cons_succ]
          refine wpAnyH_take (i := 26) (v := ?_) rfl (by kernel_rfl) (by kernel_rfl) (by kernel_rfl) (fun _ _ _ h => h) (Or.inl ⟨by rfl, ?_⟩) (by assumption) ?_
          rotate_left
          · (intro w_ hSw_; (try dsimp only at hSw_); go_simp; try with_reducible rfl)
          try simp only [Act.put, List.setIfInBounds_toArray, List.set_cons_zero, List.set_cons_succ, List.getElem_toArray, List.getElem_cons_zero, List.getElem_cons_succ]
          refine wpAnyH_take (i := 27) (v := ?_) rfl (by kernel_rfl) (by kernel_rfl) (by kernel_rfl) (fun _ _ _ h => h) (Or.inl ⟨by rfl, ?_⟩) (by assumption) ?_
          rotate_left
          · (intro w_ hSw_; (try dsimp only at hSw_); go_simp; try with_reducible rfl)
          try simp only [Act.put, List.setIfInBounds_toArray, List.set_cons_zero, List.set_cons_succ, List.getElem_toArray, List.getElem_cons_zero, List.getElem_cons_succ]
          refine wpAnyH_take (i := 28) (v := ?_) rfl (by kernel_rfl) (by kernel_rfl) (by kernel_rfl) (fun _ _ _ h => h) (Or.inl ⟨by rfl, ?_⟩) (by assumption) ?_
          rotate_left
          · (intro w_ hSw_; (try dsimp only at hSw_); go_simp; try with_reducible rfl)
          try simp only [Act.put, List.setIfInBounds_toArray, List.set_cons_zero, List.set_cons_succ, List.getElem_toArray, List.getElem_cons_zero, List.getElem_cons_succ]
          refine wpAnyH_done (by kernel_rfl) (NoPanic.normal ?_) _
          clear hHeld
          go_wp2
          go_ret
          exact ⟨rfl, HB9.out.trans (BB_.mono HB9.out.size)⟩
      · clear hR
        go_wp2_with (rw [HW9.out])
        have BB_ : Below w9.heap.size w9 w9.drew := Below.drew (Below.refl _ _)
        refine wp_region_noPanic ?_
        refine wp_region_held_drew (S := fun w' => w'.cell? ⟨w8.heap.size, 0, none⟩ = some (.slice ga gn gc) ∧ w'.cell? ⟨w8.heap.size, 1, none⟩ = some (.slice ha hn hc) ∧ w'.cell? ⟨w6.heap.size, 0, none⟩ = some (.slice xa xn xc) ∧ w'.cell? ⟨w6.heap.size, 1, none⟩ = some (.slice ya yn yc)) (by kernel_rfl) hsp (fun hHeld => ?_)
        clear hsp
        refine wpAnyH_take (i := 0) (v := ?_) rfl (by kernel_rfl) (by kernel_rfl) (by kernel_rfl) (fun _ _ _ h => h) (Or.inl ⟨by rfl, ?_⟩) (by assumption) ?_
        rotate_left
        · (intro w_ hSw_; (try dsimp only at hSw_); go_simp; try with_reducible rfl)
        try simp only [Act.put, List.setIfInBounds_toArray, List.set_cons_zero, List.set_cons_succ, List.getElem_toArray, List.getElem_cons_zero, List.getElem_cons_succ]
        refine wpAnyH_take (i := 1) (v := ?_) rfl (by kernel_rfl) (by kernel_rfl) (by kernel_rfl) (fun _ _ _ h => h) (Or.inl ⟨by rfl, ?_⟩) (by assumption) ?_
        rotate_left
        · (intro w_ hSw_; (try dsimp only at hSw_); go_simp; try with_reducible rfl)
        try simp only [Act.put, List.setIfInBounds_toArray, List.set_cons_zero, List.set_cons_succ, List.getElem_toArray, List.getElem_cons_zero, List.getElem_cons_succ]
        refine wpAnyH_take (i := 2) (v := ?_) rfl (by kernel_rfl) (by kernel_rfl) (by kernel_rfl) (fun _ _ _ h => h) (Or.inl ⟨by rfl, ?_⟩) (by assumption) ?_
        rotate_left
        · (intro w_ hSw_; (try dsimp only at hSw_); go_simp; try with_reducible rfl)
        try simp only [Act.put, List.setIfInBounds_toArray, List.set_cons_zero, List.set_cons_succ, List.getElem_toArray, List.getElem_cons_zero, List.getElem_cons_succ]
        refine wpAnyH_take (i := 3) (v := ?_) rfl (by kernel_rfl) (by kernel_rfl) (by kernel_rfl) (fun _ _ _ h => h) (Or.inl ⟨by rfl, ?_⟩) (by assumption) ?_
        rotate_left
        · (intro w_ hSw_; (try dsimp only at hSw_); go_simp; try with_reducible rfl)
        try simp only [Act.put, List.setIfInBounds_toArray, List.set_cons_zero, List.set_cons_succ, List.getElem_toArray, List.getElem_cons_zero, List.getElem_cons_succ]
        refine wpAnyH_take (i := 4) (v := ?_) rfl (by kernel_rfl) (by kernel_rfl) (by kernel_rfl) (fun _ _ _ h => h) (Or.inl ⟨by rfl, ?_⟩) (by assumption) ?_
        rotate_left
        · (intro w_ hSw_; (try dsimp only at hSw_); go_simp; try with_reducible rfl)
        try simp only [Act.put, List.setIfInBounds_toArray, List.set_cons_zero, List.set_cons_succ, List.getElem_toArray, List.getElem_cons_zero, List.getElem_cons_succ]
        refine wpAnyH_take (i := 5) (v := ?_) rfl (by kernel_rfl) (by kernel_rfl) (by kernel_rfl) (fun _ _ _ h => h) (Or.inl ⟨by rfl, ?_⟩) (by assumption) ?_
        rotate_left
        · (intro w_ hSw_; (try dsimp only at hSw_); go_simp; try with_reducible rfl)
        try simp only [Act.put, List.setIfInBounds_toArray, List.set_cons_zero, List.set_cons_succ, List.getElem_toArray, List.getElem_cons_zero, List.getElem_cons_succ]
        refine wpAnyH_take (i := 6) (v := ?_) rfl (by kernel_rfl) (by kernel_rfl) (by kernel_rfl) (fun _ _ _ h => h) (Or.inl ⟨by rfl, ?_⟩) (by assumption) ?_
        rotate_left
        · (intro w_ hSw_; (try dsimp only at hSw_); go_simp; try with_reducible rfl)
        try simp only [Act.put, List.setIfInBounds_toArray, List.set_cons_zero, List.set_cons_succ, List.getElem_toArray, List.getElem_cons_zero, List.getElem_cons_succ]
        refine wpAnyH_take (i := 9) (v := ?_) rfl (by kernel_rfl) (by kernel_rfl) (by kernel_rfl) (fun _ _ _ h => h) (Or.inl ⟨by rfl, ?_⟩) (by assumption) ?_
        rotate_left
        · (intro w_ hSw_; (try dsimp only at hSw_); go_simp; try with_reducible rfl)
        try simp only [Act.put, List.setIfInBounds_toArray, List.set_cons_zero, List.set_cons_succ, List.getElem_toArray, List.getElem_cons_zero, List.getElem_cons_succ]
        refine wpAnyH_take (i := 10) (v := ?_) rfl (by kernel_rfl) (by kernel_rfl) (by kernel_rfl) (fun _ _ _ h => h) (Or.inl ⟨by rfl, ?_⟩) (by assumption) ?_
        rotate_left
        · (intro w_ hSw_; (try dsimp only at hSw_); go_simp; try with_reducible rfl)
        try simp only [Act.put, List.setIfInBounds_toArray, List.set_cons_zero, List.set_cons_succ, List.getElem_toArray, List.getElem_cons_zero, List.getElem_cons_succ]
        refine wpAnyH_ready (rs := [7]) (by kernel_rfl) (by simp) ?_
        refine AllReadyH.cons rfl (fun K hK => ?_) AllReadyH.nil
        go_simp
        refine Calls.mono (HSD.out w9.drew (by assumption)) ?_
        rintro e wa ⟨rfl, b_wa⟩
        have B_wa : Below w9.heap.size w9 wa := BB_.trans (b_wa.mono BB_.size)
        clear BB_
        have BB_ := B_wa
        have p_wa : wa.cell? ⟨w8.heap.size, 0, none⟩ = some (.slice ga gn gc) ∧ wa.cell? ⟨w8.heap.size, 1, none⟩ = some (.slice ha hn hc) ∧ wa.cell? ⟨w6.heap.size, 0, none⟩ = some (.slice xa xn xc) ∧ wa.cell? ⟨w6.heap.size, 1, none⟩ = some (.slice ya yn yc) := ⟨VarJ.c0 (VarJ.step HVX9.out BB_), VarJ.c1 (VarJ.step HVX9.out BB_), VarJ.c0 (VarJ.step HVJ9.out BB_), VarJ.c1 (VarJ.step HVJ9.out BB_)⟩
        clear b_wa B_wa
        go_wp2_with fail
        refine hK.out _ _ p_wa (fun hHeld => ?_)
        clear hK K
        try simp only [Act.put, List.setIfInBounds_toArray, List.set_cons_zero, List.set_cons_succ, List.getElem_toArray, List.getElem_cons_zero, List.getElem_cons_succ]
        refine wpAnyH_take (i := 8) (v := ?_) rfl (by kernel_rfl) (by kernel_rfl) (by kernel_rfl) (fun _ _ _ h => h) (Or.inl ⟨by rfl, ?_⟩) (by assumption) ?_
        rotate_left
        · (intro w_ hSw_; (try dsimp only at hSw_); go_simp; try with_reducible rfl)
        try simp only [Act.put, List.setIfInBounds_toArray, List.set_cons_zero, List.set_cons_succ, List.getElem_toArray, List.getElem_cons_zero, List.getElem_cons_succ]
        refine wpAnyH_ready (rs := [11]) (by kernel_rfl) (by simp) ?_
        refine AllReadyH.cons rfl (fun K hK => ?_) AllReadyH.nil
        go_simp
        refine Calls.mono (HDO.out wa (by assumption)) ?_
        rintro e wb ⟨rfl, b_wb⟩
        have B_wb : Below w9.heap.size w9 wb := BB_.trans (b_wb.mono BB_.size)
        clear BB_
        have BB_ := B_wb
        have p_wb : wb.cell? ⟨w8.heap.size, 0, none⟩ = some (.slice ga gn gc) ∧ wb.cell? ⟨w8.heap.size, 1, none⟩ = some (.slice ha hn hc) ∧ wb.cell? ⟨w6.heap.size, 0, none⟩ = some (.slice xa xn xc) ∧ wb.cell? ⟨w6.heap.size, 1, none⟩ = some (.slice ya yn yc) := ⟨VarJ.c0 (VarJ.step HVX9.out BB_), VarJ.c1 (VarJ.step HVX9.out BB_), VarJ.c0 (VarJ.step HVJ9.out BB_), VarJ.c1 (VarJ.step HVJ9.out BB_)⟩
        clear b_wb B_wb
        go_wp2_with fail
        refine hK.out _ _ p_wb (fun hHeld => ?_)
        clear hK K
        try simp only [Act.put, List.setIfInBounds_toArray, List.set_cons_zero, List.set_cons_succ, List.getElem_toArray, List.getElem_cons_zero, List.getElem_cons_succ]
        refine wpAnyH_take (i := 12) (v := ?_) rfl (by kernel_rfl) (by kernel_rfl) (by kernel_rfl) (fun _ _ _ h => h) (Or.inl ⟨by rfl, ?_⟩) (by assumption) ?_
        rotate_left
        · (intro w_ hSw_; (try dsimp only at hSw_); go_simp; try with_reducible rfl)
        try simp only [Act.put, List.setIfInBounds_toArray, List.set_cons_zero, List.set_cons_succ, List.getElem_toArray, List.getElem_cons_zero, List.getElem_cons_succ]
        refine wpAnyH_take (i := 13) (v := ?_) rfl (by kernel_rfl) (by kernel_rfl) (by kernel_rfl) (fun _ _ _ h => h) (Or.inl ⟨by rfl, ?_⟩) (by assumption) ?_
        rotate_left
        · (intro w_ hSw_; (try dsimp only at hSw_); go_simp; try with_reducible rfl)
        try simp only [Act.put, List.setIfInBounds_toArray, List.set_cons_zero, List.set_cons_succ, List.getElem_toArray, List.getElem_cons_zero, List.getElem_cons_succ]
        refine wpAnyH_take (i := 14) (v := ?_) rfl (by kernel_rfl) (by kernel_rfl) (by kernel_rfl) (fun _ _ _ h => h) (Or.inl ⟨by rfl, ?_⟩) (by assumption) ?_
        rotate_left
        · (intro w_ hSw_; (try dsimp only at hSw_); go_simp; try with_reducible rfl)
        try simp only [Act.put, List.setIfInBounds_toArray, List.set_cons_zero, List.set_cons_succ, List.getElem_toArray, List.getElem_cons_zero, List.getElem_cons_succ]
        refine wpAnyH_take (i := 15) (v := undef) rfl (by kernel_rfl) (by kernel_rfl) (by kernel_rfl) (fun _ _ _ h => h) (Or.inr ⟨by rfl, rfl⟩) (by assumption) ?_
        try simp only [Act.put, List.setIfInBounds_toArray, List.set_cons_zero, List.set_cons_succ, List.getElem_toArray, List.getElem_cons_zero, List.getElem_cons_succ]
        refine wpAnyH_take (i := 16) (v := undef) rfl (by kernel_rfl) (by kernel_rfl) (by kernel_rfl) (fun _ _ _ h => h) (Or.inr ⟨by rfl, rfl⟩) (by assumption) ?_
        try simp only [Act.put, List.setIfInBounds_toArray, List.set_cons_zero, List.set_cons_succ, List.getElem_toArray, List.getElem_cons_zero, List.getElem_cons_succ]
        refine wpAnyH_take (i := 17) (v := undef) rfl (by kernel_rfl) (by kernel_rfl) (by kernel_rfl) (fun _ _ _ h => h) (Or.inr ⟨by rfl, rfl⟩) (by assumption) ?_
        try simp only [Act.put, List.setIfInBounds_toArray, List.set_cons_zero, List.set_cons_succ, List.getElem_toArray, List.getElem_cons_zero, List.getElem_cons_succ]
        refine wpAnyH_take (i := 18) (v := undef) rfl (by kernel_rfl) (by kernel_rfl) (by kernel_rfl) (fun _ _ _ h => h) (Or.inr ⟨by rfl, rfl⟩) (by assumption) ?_
        try simp only [Act.put, List.setIfInBounds_toArray, List.set_cons_zero, List.set_cons_succ, List.getElem_toArray, List.getElem_cons_zero, List.getElem_cons_succ]
        refine wpAnyH_take (i := 19) (v := undef) rfl (by kernel_rfl) (by kernel_rfl) (by kernel_rfl) (fun _ _ _ h => h) (Or.inr ⟨by rfl, rfl⟩) (by assumption) ?_
        try simp only [Act.put, List.setIfInBounds_toArray, List.set_cons_zero, List.set_cons_succ, List.getElem_toArray, List.getElem_cons_zero, List.getElem_cons_succ]
        refine wpAnyH_take (i := 20) (v := ?_) rfl (by kernel_rfl) (by kernel_rfl) (by kernel_rfl) (fun _ _ _ h => h) (Or.inl ⟨by rfl, ?_⟩) (by assumption) ?_
        rotate_left
        · (intro w_ hSw_; (try dsimp only at hSw_); go_simp; try with_reducible rfl)
        try simp only [Act.put, List.setIfInBounds_toArray, List.set_cons_zero, List.set_cons_succ, List.getElem_toArray, List.getElem_cons_zero, List.getElem_cons_succ]
        refine wpAnyH_take (i := 21) (v := ?_) rfl (by kernel_rfl) (by kernel_rfl) (by kernel_rfl) (fun _ _ _ h => h) (Or.inl ⟨by rfl, ?_⟩) (by assumption) ?_
        rotate_left
        · (intro w_ hSw_; (try dsimp only at hSw_); go_simp; try with_reducible rfl)
        try simp only [Act.put, List.setIfInBounds_toArray, List.set_cons_zero, List.set_cons_succ, List.getElem_toArray, List.getElem_cons_zero, List.getElem_cons_succ]
        refine wpAnyH_take (i := 22) (v := undef) rfl (by kernel_rfl) (by kernel_rfl) (by kernel_rfl) (fun _ _ _ h => h) (Or.inr ⟨by rfl, rfl⟩) (by assumption) ?_
        try simp only [Act.put, List.setIfInBounds_toArray, List.set_cons_zero, List.set_cons_succ, List.getElem_toArray, List.getElem_cons_zero, List.getElem_cons_succ]
        refine wpAnyH_take (i := 23) (v := undef) rfl (by kernel_rfl) (by kernel_rfl) (by kernel_rfl) (fun _ _ _ h => h) (Or.inr ⟨by rfl, rfl⟩) (by assumption) ?_
        try simp only [Act.put, List.setIfInBounds_toArray, List.set_cons_zero, List.set_cons_succ, List.getElem_toArray, List.getElem_cons_zero, List.getElem_cons_succ]
        refine wpAnyH_take (i := 24) (v := undef) rfl (by kernel_rfl) (by kernel_rfl) (by kernel_rfl) (fun _ _ _ h => h) (Or.inr ⟨by rfl, rfl⟩) (by assumption) ?_
        try simp only [Act.put, List.setIfInBounds_toArray, List.set_cons_zero, List.set_cons_succ, List.getElem_toArray, List.getElem_cons_zero, List.getElem_cons_succ]
        refine wpAnyH_take (i := 25) (v := undef) rfl (by kernel_rfl) (by kernel_rfl) (by kernel_rfl) (fun _ _ _ h => h) (Or.inr ⟨by rfl, rfl⟩) (by assumption) ?_
        try simp only [Act.put, List.setIfInBounds_toArray, List.set_cons_zero, List.set_cons_succ, List.getElem_toArray, List.getElem_cons_zero, List.getElem_cons_succ]
        refine wpAnyH_take (i := 26) (v := undef) rfl (by kernel_rfl) (by kernel_rfl) (by kernel_rfl) (fun _ _ _ h => h) (Or.inr ⟨by rfl, rfl⟩) (by assumption) ?_
        try simp only [Act.put, List.setIfInBounds_toArray, List.set_cons_zero, List.set_cons_succ, List.getElem_toArray, List.getElem_cons_zero, List.getElem_cons_succ]
        refine wpAnyH_take (i := 27) (v := ?_) rfl (by kernel_rfl) (by kernel_rfl) (by kernel_rfl) (fun _ _ _ h => h) (Or.inl ⟨by rfl, ?_⟩) (by assumption) ?_
        rotate_left
        · (intro w_ hSw_; (try dsimp only at hSw_); go_simp; try with_reducible rfl)
        try simp only [Act.put, List.setIfInBounds_toArray, List.set_cons_zero, List.set_cons_succ, List.getElem_toArray, List.getElem_cons_zero, List.getElem_cons_succ]
        refine wpAnyH_take (i := 28) (v := ?_) rfl (by kernel_rfl) (by kernel_rfl) (by kernel_rfl) (fun _ _ _ h => h) (Or.inl ⟨by rfl, ?_⟩) (by assumption) ?_
        rotate_left
        · (intro w_ hSw_; (try dsimp only at hSw_); go_simp; try with_reducible rfl)
        try simp only [Act.put, List.setIfInBounds_toArray, List.set_cons_zero, List.set_cons_succ, List.getElem_toArray, List.getElem_cons_zero, List.getElem_cons_succ]
        refine wpAnyH_done (by kernel_rfl) (NoPanic.normal ?_) _
        clear hHeld
        go_wp2
        go_ret
        exact ⟨rfl, HB9.out.trans (BB_.mono HB9.out.size)⟩
      · clear hR
        go_wp2_with (rw [HW9.out])
        have BB_ : Below w9.heap.size w9 w9.drew := Below.drew (Below.refl _ _)
        refine wp_region_noPanic ?_
        refine wp_region_held_drew (S := fun w' => w'.cell? ⟨w8.heap.size, 0, none⟩ = some (.slice ga gn gc) ∧ w'.cell? ⟨w8.heap.size, 1, none⟩ = some (.slice ha hn hc) ∧ w'.cell? ⟨w6.heap.size, 0, none⟩ = some (.slice xa xn xc) ∧ w'.cell? ⟨w6.heap.size, 1, none⟩ = some (.slice ya yn yc)) (by kernel_rfl) hsp (fun hHeld => ?_)
        clear hsp
        refine wpAnyH_take (i := 0) (v := ?_) rfl (by kernel_rfl) (by kernel_rfl) (by kernel_rfl) (fun _ _ _ h => h) (Or.inl ⟨by rfl, ?_⟩) (by assumption) ?_
        rotate_left
        · (intro w_ hSw_; (try dsimp only at hSw_); go_simp; try with_reducible rfl)
        try simp only [Act.put, List.setIfInBounds_toArray, List.set_cons_zero, List.set_cons_succ, List.getElem_toArray, List.getElem_cons_zero, List.getElem_cons_succ]
        refine wpAnyH_take (i := 1) (v := ?_) rfl (by kernel_rfl) (by kernel_rfl) (by kernel_rfl) (fun _ _ _ h => h) (Or.inl ⟨by rfl, ?_⟩) (by assumption) ?_
        rotate_left
        · (intro w_ hSw_; (try dsimp only at hSw_); go_simp; try with_reducible rfl)
        try simp only [Act.put, List.setIfInBounds_toArray, List.set_cons_zero, List.set_cons_succ, List.getElem_toArray, List.getElem_cons_zero, List.getElem_cons_succ]
        refine wpAnyH_take (i := 2) (v := ?_) rfl (by kernel_rfl) (by kernel_rfl) (by kernel_rfl) (fun _ _ _ h => h) (Or.inl ⟨by rfl, ?_⟩) (by assumption) ?_
        rotate_left
        · (intro w_ hSw_; (try dsimp only at hSw_); go_simp; try with_reducible rfl)
        try simp only [Act.put, List.setIfInBounds_toArray, List.set_cons_zero, List.set_cons_succ, List.getElem_toArray, List.getElem_cons_zero, List.getElem_cons_succ]
        refine wpAnyH_take (i := 3) (v := ?_) rfl (by kernel_rfl) (by kernel_rfl) (by kernel_rfl) (fun _ _ _ h => h) (Or.inl ⟨by rfl, ?_⟩) (by assumption) ?_
        rotate_left
        · (intro w_ hSw_; (try dsimp only at hSw_); go_simp; try with_reducible rfl)
        try simp only [Act.put, List.setIfInBounds_toArray, List.set_cons_zero, List.set_cons_succ, List.getElem_toArray, List.getElem_cons_zero, List.getElem_cons_succ]
        refine wpAnyH_take (i := 4) (v := ?_) rfl (by kernel_rfl) (by kernel_rfl) (by kernel_rfl) (fun _ _ _ h => h) (Or.inl ⟨by rfl, ?_⟩) (by assumption) ?_
        rotate_left
        · (intro w_ hSw_; (try dsimp only at hSw_); go_simp; try with_reducible rfl)
        try simp only [Act.put, List.setIfInBounds_toArray, List.set_cons_zero, List.set_cons_succ, List.getElem_toArray, List.getElem_cons_zero, List.getElem_cons_succ]
        refine wpAnyH_take (i := 5) (v := ?_) rfl (by kernel_rfl) (by kernel_rfl) (by kernel_rfl) (fun _ _ _ h => h) (Or.inl ⟨by rfl, ?_⟩) (by assumption) ?_
        rotate_left
        · (intro w_ hSw_; (try dsimp only at hSw_); go_simp; try with_reducible rfl)
        try simp only [Act.put, List.setIfInBounds_toArray, List.set_cons_zero, List.set_cons_succ, List.getElem_toArray, List.getElem_cons_zero, List.getElem_cons_succ]
        refine wpAnyH_take (i := 6) (v := ?_) rfl (by kernel_rfl) (by kernel_rfl) (by kernel_rfl) (fun _ _ _ h => h) (Or.inl ⟨by rfl, ?_⟩) (by assumption) ?_
        rotate_left
        · (intro w_ hSw_; (try dsimp only at hSw_); go_simp; try with_reducible rfl)
        try simp only [Act.put, List.setIfInBounds_toArray, List.set_cons_zero, List.set_cons_succ, List.getElem_toArray, List.getElem_cons_zero, List.getElem_cons_succ]
        refine wpAnyH_take (i := 9) (v := ?_) rfl (by kernel_rfl) (by kernel_rfl) (by kernel_rfl) (fun _ _ _ h => h) (Or.inl ⟨by rfl, ?_⟩) (by assumption) ?_
        rotate_left
        · (intro w_ hSw_; (try dsimp only at hSw_); go_simp; try with_reducible rfl)
        try simp only [Act.put, List.setIfInBounds_toArray, List.set_cons_zero, List.set_cons_succ, List.getElem_toArray, List.getElem_cons_zero, List.getElem_cons_succ]
        refine wpAnyH_take (i := 10) (v := ?_) rfl (by kernel_rfl) (by kernel_rfl) (by kernel_rfl) (fun _ _ _ h => h) (Or.inl ⟨by rfl, ?_⟩) (by assumption) ?_
        rotate_left
        · (intro w_ hSw_; (try dsimp only at hSw_); go_simp; try with_reducible rfl)
        try simp only [Act.put, List.setIfInBounds_toArray, List.set_cons_zero, List.set_cons_succ, List.getElem_toArray, List.getElem_cons_zero, List.getElem_cons_succ]
        refine wpAnyH_ready (rs := [7]) (by kernel_rfl) (by simp) ?_
        refine AllReadyH.cons rfl (fun K hK => ?_) AllReadyH.nil
        go_simp
        refine Calls.mono (HSD.out w9.drew (by assumption)) ?_
        rintro e wa ⟨rfl, b_wa⟩
        have B_wa : Below w9.heap.size w9 wa := BB_.trans (b_wa.mono BB_.size)
        clear BB_
        have BB_ := B_wa
        have p_wa : wa.cell? ⟨w8.heap.size, 0, none⟩ = some (.slice ga gn gc) ∧ wa.cell? ⟨w8.heap.size, 1, none⟩ = some (.slice ha hn hc) ∧ wa.cell? ⟨w6.heap.size, 0, none⟩ = some (.slice xa xn xc) ∧ wa.cell? ⟨w6.heap.size, 1, none⟩ = some (.slice ya yn yc) := ⟨VarJ.c0 (VarJ.step HVX9.out BB_), VarJ.c1 (VarJ.step HVX9.out BB_), VarJ.c0 (VarJ.step HVJ9.out BB_), VarJ.c1 (VarJ.step HVJ9.out BB_)⟩
        clear b_wa B_wa
        go_wp2_with fail
        refine hK.out _ _ p_wa (fun hHeld => ?_)
        clear hK K
        try simp only [Act.put, List.setIfInBounds_toArray, List.set_cons_zero, List.set_cons_succ, List.getElem_toArray, List.getElem_cons_zero, List.getElem_cons_succ]
        refine wpAnyH_take (i := 8) (v := ?_) rfl (by kernel_rfl) (by kernel_rfl) (by kernel_rfl) (fun _ _ _ h => h) (Or.inl ⟨by rfl, ?_⟩) (by assumption) ?_
        rotate_left
        · (intro w_ hSw_; (try dsimp only at hSw_); go_simp; try with_reducible rfl)
        try simp only [Act.put, List.setIfInBounds_toArray, List.set_cons_zero, List.set_cons_succ, List.getElem_toArray, List.getElem_cons_zero, List.getElem_cons_succ]
        refine wpAnyH_ready (rs := [11]) (by kernel_rfl) (by simp) ?_
        refine AllReadyH.cons rfl (fun K hK => ?_) AllReadyH.nil
        go_simp
        refine Calls.mono (HDO.out wa (by assumption)) ?_
        rintro e wb ⟨rfl, b_wb⟩
        have B_wb : Below w9.heap.size w9 wb := BB_.trans (b_wb.mono BB_.size)
        clear BB_
        have BB_ := B_wb
        have p_wb : wb.cell? ⟨w8.heap.size, 0, none⟩ = some (.slice ga gn gc) ∧ wb.cell? ⟨w8.heap.size, 1, none⟩ = some (.slice ha hn hc) ∧ wb.cell? ⟨w6.heap.size, 0, none⟩ = some (.slice xa xn xc) ∧ wb.cell? ⟨w6.heap.size, 1, none⟩ = some (.slice ya yn yc) := ⟨VarJ.c0 (VarJ.step HVX9.out BB_), VarJ.c1 (VarJ.step HVX9.out BB_), VarJ.c0 (VarJ.step HVJ9.out BB_), VarJ.c1 (VarJ.step HVJ9.out BB_)⟩
        clear b_wb B_wb
        go_wp2_with fail
        refine hK.out _ _ p_wb (fun hHeld => ?_)
        clear hK K
        try simp only [Act.put, List.setIfInBounds_toArray, List.set_cons_zero, List.set_cons_succ, List.getElem_toArray, List.getElem_cons_zero, List.getElem_cons_succ]
        refine wpAnyH_take (i := 12) (v := ?_) rfl (by kernel_rfl) (by kernel_rfl) (by kernel_rfl) (fun _ _ _ h => h) (Or.inl ⟨by rfl, ?_⟩) (by assumption) ?_
        rotate_left
        · (intro w_ hSw_; (try dsimp only at hSw_); go_simp; try with_reducible rfl)
        try simp only [Act.put, List.setIfInBounds_toArray, List.set_cons_zero, List.set_cons_succ, List.getElem_toArray, List.getElem_cons_zero, List.getElem_cons_succ]
        refine wpAnyH_take (i := 13) (v := ?_) rfl (by kernel_rfl) (by kernel_rfl) (by kernel_rfl) (fun _ _ _ h => h) (Or.inl ⟨by rfl, ?_⟩) (by assumption) ?_
        rotate_left
        · (intro w_ hSw_; (try dsimp only at hSw_); go_simp; try with_reducible rfl)
        try simp only [Act.put, List.setIfInBounds_toArray, List.set_cons_zero, List.set_cons_succ, List.getElem_toArray, List.getElem_cons_zero, List.getElem_cons_succ]
        refine wpAnyH_take (i := 14) (v := ?_) rfl (by kernel_rfl) (by kernel_rfl) (by kernel_rfl) (fun _ _ _ h => h) (Or.inl ⟨by rfl, ?_⟩) (by assumption) ?_
        rotate_left
        · (intro w_ hSw_; (try dsimp only at hSw_); go_simp; try with_reducible rfl)
        try simp only [Act.put, List.setIfInBounds_toArray, List.set_cons_zero, List.set_cons_succ, List.getElem_toArray, List.getElem_cons_zero, List.getElem_cons_succ]
        refine wpAnyH_take (i := 15) (v := undef) rfl (by kernel_rfl) (by kernel_rfl) (by kernel_rfl) (fun _ _ _ h => h) (Or.inr ⟨by rfl, rfl⟩) (by assumption) ?_
        try simp only [Act.put, List.setIfInBounds_toArray, List.set_cons_zero, List.set_cons_succ, List.getElem_toArray, List.getElem_cons_zero, List.getElem_cons_succ]
        refine wpAnyH_take (i := 16) (v := undef) rfl (by kernel_rfl) (by kernel_rfl) (by kernel_rfl) (fun _ _ _ h => h) (Or.inr ⟨by rfl, rfl⟩) (by assumption) ?_
        try simp only [Act.put, List.setIfInBounds_toArray, List.set_cons_zero, List.set_cons_succ, List.getElem_toArray, List.getElem_cons_zero, List.getElem_cons_succ]
        refine wpAnyH_take (i := 17) (v := undef) rfl (by kernel_rfl) (by kernel_rfl) (by kernel_rfl) (fun _ _ _ h => h) (Or.inr ⟨by rfl, rfl⟩) (by assumption) ?_
        try simp only [Act.put, List.setIfInBounds_toArray, List.set_cons_zero, List.set_cons_succ, List.getElem_toArray, List.getElem_cons_zero, List.getElem_cons_succ]
        refine wpAnyH_take (i := 18) (v := undef) rfl (by kernel_rfl) (by kernel_rfl) (by kernel_rfl) (fun _ _ _ h => h) (Or.inr ⟨by rfl, rfl⟩) (by assumption) ?_
        try simp only [Act.put, List.setIfInBounds_toArray, List.set_cons_zero, List.set_cons_succ, List.getElem_toArray, List.getElem_cons_zero, List.getElem_cons_succ]
        refine wpAnyH_take (i := 19) (v := undef) rfl (by kernel_rfl) (by kernel_rfl) (by kernel_rfl) (fun _ _ _ h => h) (Or.inr ⟨by rfl, rfl⟩) (by assumption) ?_
        try simp only [Act.put, List.setIfInBounds_toArray, List.set_cons_zero, List.set_cons_succ, List.getElem_toArray, List.getElem_cons_zero, List.getElem_cons_succ]
        refine wpAnyH_take (i := 20) (v := ?_) rfl (by kernel_rfl) (by kernel_rfl) (by kernel_rfl) (fun _ _ _ h => h) (Or.inl ⟨by rfl, ?_⟩) (by assumption) ?_
        rotate_left
        · (intro w_ hSw_; (try dsimp only at hSw_); go_simp; try with_reducible rfl)
        try simp only [Act.put, List.setIfInBounds_toArray, List.set_cons_zero, List.set_cons_succ, List.getElem_toArray, List.getElem_cons_zero, List.getElem_cons_succ]
        refine wpAnyH_take (i := 21) (v := ?_) rfl (by kernel_rfl) (by kernel_rfl) (by kernel_rfl) (fun _ _ _ h => h) (Or.inl ⟨by rfl, ?_⟩) (by assumption) ?_
        rotate_left
        · (intro w_ hSw_; (try dsimp only at hSw_); go_simp; try with_reducible rfl)
        try simp only [Act.put, List.setIfInBounds_toArray, List.set_cons_zero, List.set_cons_succ, List.getElem_toArray, List.getElem_cons_zero, List.getElem_cons_succ]
        refine wpAnyH_take (i := 22) (v := undef) rfl (by kernel_rfl) (by kernel_rfl) (by kernel_rfl) (fun _ _ _ h => h) (Or.inr ⟨by rfl, rfl⟩) (by assumption) ?_
        try simp only [Act.put, List.setIfInBounds_toArray, List.set_cons_zero, List.set_cons_succ, List.getElem_toArray, List.getElem_cons_zero, List.getElem_cons_succ]
        refine wpAnyH_take (i := 23) (v := undef) rfl (by kernel_rfl) (by kernel_rfl) (by kernel_rfl) (fun _ _ _ h => h) (Or.inr ⟨by rfl, rfl⟩) (by assumption) ?_
        try simp only [Act.put, List.setIfInBounds_toArray, List.set_cons_zero, List.set_cons_succ, List.getElem_toArray, List.getElem_cons_zero, List.getElem_cons_succ]
        refine wpAnyH_take (i := 24) (v := undef) rfl (by kernel_rfl) (by kernel_rfl) (by kernel_rfl) (fun _ _ _ h => h) (Or.inr ⟨by rfl, rfl⟩) (by assumption) ?_
        try simp only [Act.put, List.setIfInBounds_toArray, List.set_cons_zero, List.set_cons_succ, List.getElem_toArray, List.getElem_cons_zero, List.getElem_cons_succ]
        refine wpAnyH_take (i := 25) (v := undef) rfl (by kernel_rfl) (by kernel_rfl) (by kernel_rfl) (fun _ _ _ h => h) (Or.inr ⟨by rfl, rfl⟩) (by assumption) ?_
        try simp only [Act.put, List.setIfInBounds_toArray, List.set_cons_zero, List.set_cons_succ, List.getElem_toArray, List.getElem_cons_zero, List.getElem_cons_succ]
        refine wpAnyH_take (i := 26) (v := undef) rfl (by kernel_rfl) (by kernel_rfl) (by kernel_rfl) (fun _ _ _ h => h) (Or.inr ⟨by rfl, rfl⟩) (by assumption) ?_
        try simp only [Act.put, List.setIfInBounds_toArray, List.set_cons_zero, List.set_cons_succ, List.getElem_toArray, List.getElem_cons_zero, List.getElem_cons_succ]
        refine wpAnyH_take (i := 27) (v := ?_) rfl (by kernel_rfl) (by kernel_rfl) (by kernel_rfl) (fun _ _ _ h => h) (Or.inl ⟨by rfl, ?_⟩) (by assumption) ?_
        rotate_left
        · (intro w_ hSw_; (try dsimp only at hSw_); go_simp; try with_reducible rfl)
        try simp only [Act.put, List.setIfInBounds_toArray, List.set_cons_zero, List.set_cons_succ, List.getElem_toArray, List.getElem_cons_zero, List.getElem_cons_succ]
        refine wpAnyH_take (i := 28) (v := ?_) rfl (by kernel_rfl) (by kernel_rfl) (by kernel_rfl) (fun _ _ _ h => h) (Or.inl ⟨by rfl, ?_⟩) (by assumption) ?_
        rotate_left
        · (intro w_ hSw_; (try dsimp only at hSw_); go_simp; try with_reducible rfl)
        try simp only [Act.put, List.setIfInBounds_toArray, List.set_cons_zero, List.set_cons_succ, List.getElem_toArray, List.getElem_cons_zero, List.getElem_cons_succ]
        refine wpAnyH_done (by kernel_rfl) (NoPanic.normal ?_) _
        clear hHeld
        go_wp2
        go_ret
        exact ⟨rfl, HB9.out.trans (BB_.mono HB9.out.size)⟩
      · simp at hR
        by_cases hx0 : xn = 0
        · subst hx0
          clear hR
          go_wp2_with (rw [HW9.out])
          have BB_ : Below w9.heap.size w9 w9.drew := Below.drew (Below.refl _ _)
          refine wp_region_noPanic ?_
          refine wp_region_held_drew (S := fun w' => w'.cell? ⟨w8.heap.size, 0, none⟩ = some (.slice ga gn gc) ∧ w'.cell? ⟨w8.heap.size, 1, none⟩ = some (.slice ha hn hc) ∧ w'.cell? ⟨w6.heap.size, 0, none⟩ = some (.slice xa 0 xc) ∧ w'.cell? ⟨w6.heap.size, 1, none⟩ = some (.slice ya yn yc)) (by kernel_rfl) hsp (fun hHeld => ?_)
          clear hsp
          refine wpAnyH_take (i := 0) (v := ?_) rfl (by kernel_rfl) (by kernel_rfl) (by kernel_rfl) (fun _ _ _ h => h) (Or.inl ⟨by rfl, ?_⟩) (by assumption) ?_
          rotate_left
          · (intro w_ hSw_; (try dsimp only at hSw_); go_simp; try with_reducible rfl)
          try simp only [Act.put, List.setIfInBounds_toArray, List.set_cons_zero, List.set_cons_succ, List.getElem_toArray, List.getElem_cons_zero, List.getElem_cons_succ]
          refine wpAnyH_take (i := 1) (v := ?_) rfl (by kernel_rfl) (by kernel_rfl) (by kernel_rfl) (fun _ _ _ h => h) (Or.inl ⟨by rfl, ?_⟩) (by assumption) ?_
          rotate_left
          · (intro w_ hSw_; (try dsimp only at hSw_); go_simp; try with_reducible rfl)
          try simp only [Act.put, List.setIfInBounds_toArray, List.set_cons_zero, List.set_cons_succ, List.getElem_toArray, List.getElem_cons_zero, List.getElem_cons_succ]
          refine wpAnyH_take (i := 2) (v := ?_) rfl (by kernel_rfl) (by kernel_rfl) (by kernel_rfl) (fun _ _ _ h => h) (Or.inl ⟨by rfl, ?_⟩) (by assumption) ?_
          rotate_left
          · (intro w_ hSw_; (try dsimp only at hSw_); go_simp; try with_reducible rfl)
          try simp only [Act.put, List.setIfInBounds_toArray, List.set_cons_zero, List.set_cons_succ, List.getElem_toArray, List.getElem_cons_zero, List.getElem_cons_succ]
          refine wpAnyH_take (i := 3) (v := ?_) rfl (by kernel_rfl) (by kernel_rfl) (by kernel_rfl) (fun _ _ _ h => h) (Or.inl ⟨by rfl, ?_⟩) (by assumption) ?_
          rotate_left
          · (intro w_ hSw_; (try dsimp only at hSw_); go_simp; try with_reducible rfl)
          try simp only [Act.put, List.setIfInBounds_toArray, List.set_cons_zero, List.set_cons_succ, List.getElem_toArray, List.getElem_cons_zero, List.getElem_cons_succ]
          refine wpAnyH_take (i := 4) (v := ?_) rfl (by kernel_rfl) (by kernel_rfl) (by kernel_rfl) (fun _ _ _ h => h) (Or.inl ⟨by rfl, ?_⟩) (by assumption) ?_
          rotate_left
          · (intro w_ hSw_; (try dsimp only at hSw_); go_simp; try with_reducible rfl)
          try simp only [Act.put, List.setIfInBounds_toArray, List.set_cons_zero, List.set_cons_succ, List.getElem_toArray, List.getElem_cons_zero, List.getElem_cons_succ]
          refine wpAnyH_take (i := 5) (v := ?_) rfl (by kernel_rfl) (by kernel_rfl) (by kernel_rfl) (fun _ _ _ h => h) (Or.inl ⟨by rfl, ?_⟩) (by assumption) ?_
          rotate_left
          · (intro w_ hSw_; (try dsimp only at hSw_); go_simp; try with_reducible rfl)
          try simp only [Act.put, List.setIfInBounds_toArray, List.set_cons_zero, List.set_cons_succ, List.getElem_toArray, List.getElem_cons_zero, List.getElem_cons_succ]
          refine wpAnyH_take (i := 6) (v := ?_) rfl (by kernel_rfl) (by kernel_rfl) (by kernel_rfl) (fun _ _ _ h => h) (Or.inl ⟨by rfl, ?_⟩) (by assumption) ?_
          rotate_left
          · (intro w_ hSw_; (try dsimp only at hSw_); go_simp; try with_reducible rfl)
          try simp only [Act.put, List.setIfInBounds_toArray, List.set_cons_zero, List.set_cons_succ, List.getElem_toArray, List.getElem_cons_zero, List.getElem_cons_succ]
          refine wpAnyH_take (i := 9) (v := ?_) rfl (by kernel_rfl) (by kernel_rfl) (by kernel_rfl) (fun _ _ _ h => h) (Or.inl ⟨by rfl, ?_⟩) (by assumption) ?_
          rotate_left
          · (intro w_ hSw_; (try dsimp only at hSw_); go_simp; try with_reducible rfl)
          try simp only [Act.put, List.setIfInBounds_toArray, List.set_cons_zero, List.set_cons_succ, List.getElem_toArray, List.getElem_cons_zero, List.getElem_cons_succ]
          refine wpAnyH_take (i := 10) (v := ?_) rfl (by kernel_rfl) (by kernel_rfl) (by kernel_rfl) (fun _ _ _ h => h) (Or.inl ⟨by rfl, ?_⟩) (by assumption) ?_
          rotate_left
          · (intro w_ hSw_; (try dsimp only at hSw_); go_simp; try with_reducible rfl)
          try simp only [Act.put, List.setIfInBounds_toArray, List.set_cons_zero, List.set_cons_succ, List.getElem_toArray, List.getElem_cons_zero, List.getElem_cons_succ]
          refine wpAnyH_ready (rs := [7]) (by kernel_rfl) (by simp) ?_
          refine AllReadyH.cons rfl (fun K hK => ?_) AllReadyH.nil
          go_simp
          refine Calls.mono (HSD.out w9.drew (by assumption)) ?_
          rintro e wa ⟨rfl, b_wa⟩
          have B_wa : Below w9.heap.size w9 wa := BB_.trans (b_wa.mono BB_.size)
          clear BB_
          have BB_ := B_wa
          have p_wa : wa.cell? ⟨w8.heap.size, 0, none⟩ = some (.slice ga gn gc) ∧ wa.cell? ⟨w8.heap.size, 1, none⟩ = some (.slice ha hn hc) ∧ wa.cell? ⟨w6.heap.size, 0, none⟩ = some (.slice xa 0 xc) ∧ wa.cell? ⟨w6.heap.size, 1, none⟩ = some (.slice ya yn yc) := ⟨VarJ.c0 (VarJ.step HVX9.out BB_), VarJ.c1 (VarJ.step HVX9.out BB_), VarJ.c0 (VarJ.step HVJ9.out BB_), VarJ.c1 (VarJ.step HVJ9.out BB_)⟩
          clear b_wa B_wa
          go_wp2_with fail
          refine hK.out _ _ p_wa (fun hHeld => ?_)
          clear hK K
          try simp only [Act.put, List.setIfInBounds_toArray, List.set_cons_zero, List.set_cons_succ, List.getElem_toArray, List.getElem_cons_zero, List.getElem_cons_succ]
          refine wpAnyH_take (i := 8) (v := ?_) rfl (by kernel_rfl) (by kernel_rfl) (by kernel_rfl) (fun _ _ _ h => h) (Or.inl ⟨by rfl, ?_⟩) (by assumption) ?_
          rotate_left
          · (intro w_ hSw_; (try dsimp only at hSw_); go_simp; try with_reducible rfl)
          try simp only [Act.put, List.setIfInBounds_toArray, List.set_cons_zero, List.set_cons_succ, List.getElem_toArray, List.getElem_cons_zero, List.getElem_cons_succ]
          refine wpAnyH_ready (rs := [11]) (by kernel_rfl) (by simp) ?_
          refine AllReadyH.cons rfl (fun K hK => ?_) AllReadyH.nil
          go_simp
          refine Calls.mono (HDO.out wa (by assumption)) ?_
          rintro e wb ⟨rfl, b_wb⟩
          have B_wb : Below w9.heap.size w9 wb := BB_.trans (b_wb.mono BB_.size)
          clear BB_
          have BB_ := B_wb
          have p_wb : wb.cell? ⟨w8.heap.size, 0, none⟩ = some (.slice ga gn gc) ∧ wb.cell? ⟨w8.heap.size, 1, none⟩ = some (.slice ha hn hc) ∧ wb.cell? ⟨w6.heap.size, 0, none⟩ = some (.slice xa 0 xc) ∧ wb.cell? ⟨w6.heap.size, 1, none⟩ = some (.slice ya yn yc) := ⟨VarJ.c0 (VarJ.step HVX9.out BB_), VarJ.c1 (VarJ.step HVX9.out BB_), VarJ.c0 (VarJ.step HVJ9.out BB_), VarJ.c1 (VarJ.step HVJ9.out BB_)⟩
          clear b_wb B_wb
          go_wp2_with fail
          refine hK.out _ _ p_wb (fun hHeld => ?_)
          clear hK K
          try simp only [Act.put, List.setIfInBounds_toArray, List.set_cons_zero, List.set_cons_succ, List.getElem_toArray, List.getElem_cons_zero, List.getElem_cons_succ]
          refine wpAnyH_take (i := 12) (v := ?_) rfl (by kernel_rfl) (by kernel_rfl) (by kernel_rfl) (fun _ _ _ h => h) (Or.inl ⟨by rfl, ?_⟩) (by assumption) ?_
          rotate_left
          · (intro w_ hSw_; (try dsimp only at hSw_); go_simp; try with_reducible rfl)
          try simp only [Act.put, List.setIfInBounds_toArray, List.set_cons_zero, List.set_cons_succ, List.getElem_toArray, List.getElem_cons_zero, List.getElem_cons_succ]
          refine wpAnyH_take (i := 13) (v := ?_) rfl (by kernel_rfl) (by kernel_rfl) (by kernel_rfl) (fun _ _ _ h => h) (Or.inl ⟨by rfl, ?_⟩) (by assumption) ?_
          rotate_left
          · (intro w_ hSw_; (try dsimp only at hSw_); go_simp; try with_reducible rfl)
          try simp only [Act.put, List.setIfInBounds_toArray, List.set_cons_zero, List.set_cons_succ, List.getElem_toArray, List.getElem_cons_zero, List.getElem_cons_succ]
          refine wpAnyH_take (i := 14) (v := ?_) rfl (by kernel_rfl) (by kernel_rfl) (by kernel_rfl) (fun _ _ _ h => h) (Or.inl ⟨by rfl, ?_⟩) (by assumption) ?_
          rotate_left
          · (intro w_ hSw_; (try dsimp only at hSw_); go_simp; try with_reducible rfl)
          try simp only [Act.put, List.setIfInBounds_toArray, List.set_cons_zero, List.set_cons_succ, List.getElem_toArray, List.getElem_cons_zero, List.getElem_cons_succ]
          refine wpAnyH_take (i := 15) (v := ?_) rfl (by kernel_rfl) (by kernel_rfl) (by kernel_rfl) (fun _ _ _ h => h) (Or.inl ⟨by rfl, ?_⟩) (by assumption) ?_
          rotate_left
          · (intro w_ hSw_; (try dsimp only at hSw_); go_simp; try with_reducible rfl)
          try simp only [Act.put, List.setIfInBounds_toArray, List.set_cons_zero, List.set_cons_succ, List.getElem_toArray, List.getElem_cons_zero, List.getElem_cons_succ]
          refine wpAnyH_take (i := 16) (v := ?_) rfl (by kernel_rfl) (by kernel_rfl) (by kernel_rfl) (fun _ _ _ h => h) (Or.inl ⟨by rfl, ?_⟩) (by assumption) ?_
          rotate_left
          · (intro w_ hSw_; (try dsimp only at hSw_); go_simp; try with_reducible rfl)
          try simp only [Act.put, List.setIfInBounds_toArray, List.set_cons_zero, List.set_cons_succ, List.getElem_toArray, List.getElem_cons_zero, List.getElem_cons_succ]
          refine wpAnyH_take (i := 17) (v := ?_) rfl (by kernel_rfl) (by kernel_rfl) (by kernel_rfl) (fun _ _ _ h => h) (Or.inl ⟨by rfl, ?_⟩) (by assumption) ?_
          rotate_left
          · (intro w_ hSw_; (try dsimp only at hSw_); go_simp; try with_reducible rfl)
          try simp only [Act.put, List.setIfInBounds_toArray, List.set_cons_zero, List.set_cons_succ, List.getElem_toArray, List.getElem_cons_zero, List.getElem_cons_succ]
          refine wpAnyH_take (i := 18) (v := ?_) rfl (by kernel_rfl) (by kernel_rfl) (by kernel_rfl) (fun _ _ _ h => h) (Or.inl ⟨by rfl, ?_⟩) (by assumption) ?_
          rotate_left
          · (intro w_ hSw_; (try dsimp only at hSw_); go_simp; try with_reducible rfl)
          try simp only [Act.put, List.setIfInBounds_toArray, List.set_cons_zero, List.set_cons_succ, List.getElem_toArray, List.getElem_cons_zero, List.getElem_cons_succ]
          refine wpAnyH_take (i := 19) (v := ?_) rfl (by kernel_rfl) (by kernel_rfl) (by kernel_rfl) (fun _ _ _ h => h) (Or.inl ⟨by rfl, ?_⟩) (by assumption) ?_
          rotate_left
          · (intro w_ hSw_; (try dsimp only at hSw_); go_simp; try with_reducible rfl)
          try simp only [Act.put, List.setIfInBounds_toArray, List.set_cons_zero, List.set_cons_succ, List.getElem_toArray, List.getElem_cons_zero, List.getElem_cons_succ]
          refine wpAnyH_take (i := 20) (v := ?_) rfl (by kernel_rfl) (by kernel_rfl) (by kernel_rfl) (fun _ _ _ h => h) (Or.inl ⟨by rfl, ?_⟩) (by assumption) ?_
          rotate_left
          · (intro w_ hSw_; (try dsimp only at hSw_); go_simp; try with_reducible rfl)
          try simp only [Act.put, List.setIfInBounds_toArray, List.set_cons_zero, List.set_cons_succ, List.getElem_toArray, List.getElem_cons_zero, List.getElem_cons_succ]
          refine wpAnyH_take (i := 21) (v := ?_) rfl (by kernel_rfl) (by kernel_rfl) (by kernel_rfl) (fun _ _ _ h => h) (Or.inl ⟨by rfl, ?_⟩) (by assumption) ?_
          rotate_left
          · (intro w_ hSw_; (try dsimp only at hSw_); go_simp; try with_reducible rfl)
          try simp only [Act.put, List.setIfInBounds_toArray, List.set_cons_zero, List.set_cons_succ, List.getElem_toArray, List.getElem_cons_zero, List.getElem_cons_succ]
          refine wpAnyH_take (i := 22) (v := undef) rfl (by kernel_rfl) (by kernel_rfl) (by kernel_rfl) (fun _ _ _ h => h) (Or.inr ⟨by rfl, rfl⟩) (by assumption) ?_
          try simp only [Act.put, List.setIfInBounds_toArray, List.set_cons_zero, List.set_cons_succ, List.getElem_toArray, List.getElem_cons_zero, List.getElem_cons_succ]
          refine wpAnyH_take (i := 23) (v := undef) rfl (by kernel_rfl) (by kernel_rfl) (by kernel_rfl) (fun _ _ _ h => h) (Or.inr ⟨by rfl, rfl⟩) (by assumption) ?_
          try simp only [Act.put, List.setIfInBounds_toArray, List.set_cons_zero, List.set_cons_succ, List.getElem_toArray, List.getElem_cons_zero, List.getElem_cons_succ]
          refine wpAnyH_take (i := 24) (v := undef) rfl (by kernel_rfl) (by kernel_rfl) (by kernel_rfl) (fun _ _ _ h => h) (Or.inr ⟨by rfl, rfl⟩) (by assumption) ?_
          try simp only [Act.put, List.setIfInBounds_toArray, List.set_cons_zero, List.set_cons_succ, List.getElem_toArray, List.getElem_cons_zero, List.getElem_cons_succ]
          refine wpAnyH_take (i := 25) (v := undef) rfl (by kernel_rfl) (by kernel_rfl) (by kernel_rfl) (fun _ _ _ h => h) (Or.inr ⟨by rfl, rfl⟩) (by assumption) ?_
          try simp only [Act.put, List.setIfInBounds_toArray, List.set_cons_zero, List.set_cons_succ, List.getElem_toArray, List.getElem_cons_zero, List.getElem_cons_succ]
          refine wpAnyH_take (i := 26) (v := undef) rfl (by kernel_rfl) (by kernel_rfl) (by kernel_rfl) (fun _ _ _ h => h) (Or.inr ⟨by rfl, rfl⟩) (by assumption) ?_
          try simp only [Act.put, List.setIfInBounds_toArray, List.set_cons_zero, List.set_cons_succ, List.getElem_toArray, List.getElem_cons_zero, List.getElem_cons_succ]
          refine wpAnyH_take (i := 27) (v := ?_) rfl (by kernel_rfl) (by kernel_rfl) (by kernel_rfl) (fun _ _ _ h => h) (Or.inl ⟨by rfl, ?_⟩) (by assumption) ?_
          rotate_left
          · (intro w_ hSw_; (try dsimp only at hSw_); go_simp; try with_reducible rfl)
          try simp only [Act.put, List.setIfInBounds_toArray, List.set_cons_zero, List.set_cons_succ, List.getElem_toArray, List.getElem_cons_zero, List.getElem_cons_succ]
          refine wpAnyH_take (i := 28) (v := ?_) rfl (by kernel_rfl) (by kernel_rfl) (by kernel_rfl) (fun _ _ _ h => h) (Or.inl ⟨by rfl, ?_⟩) (by assumption) ?_
          rotate_left
          · (intro w_ hSw_; (try dsimp only at hSw_); go_simp; try with_reducible rfl)
          try simp only [Act.put, List.setIfInBounds_toArray, List.set_cons_zero, List.set_cons_succ, List.getElem_toArray, List.getElem_cons_zero, List.getElem_cons_succ]
          refine wpAnyH_done (by kernel_rfl) (NoPanic.normal ?_) _
          clear hHeld
          go_wp2
          go_ret
          exact ⟨rfl, HB9.out.trans (BB_.mono HB9.out.size)⟩
        · have hg0 : gn = 0 := by omega
          subst hg0
          have ex : ((xn : Int) == 0) = false := by simp; omega
          have exb : (xn == 0) = false := by simp; omega
          have exc : decide (xn = 0) = false := by simp; omega
          have exe : decide ((xn : Int) = 0) = false := by simp; omega
          clear hR
          go_wp2_with (rw [HW9.out])
          have BB_ : Below w9.heap.size w9 w9.drew := Below.drew (Below.refl _ _)
          refine wp_region_noPanic ?_
          refine wp_region_held_drew (S := fun w' => w'.cell? ⟨w8.heap.size, 0, none⟩ = some (.slice ga 0 gc) ∧ w'.cell? ⟨w8.heap.size, 1, none⟩ = some (.slice ha hn hc) ∧ w'.cell? ⟨w6.heap.size, 0, none⟩ = some (.slice xa xn xc) ∧ w'.cell? ⟨w6.heap.size, 1, none⟩ = some (.slice ya yn yc)) (by kernel_rfl) hsp (fun hHeld => ?_)
          clear hsp
          refine wpAnyH_take (i := 0) (v := ?_) rfl (by kernel_rfl) (by kernel_rfl) (by kernel_rfl) (fun _ _ _ h => h) (Or.inl ⟨by rfl, ?_⟩) (by assumption) ?_
          rotate_left
          · (intro w_ hSw_; (try dsimp only at hSw_); go_simp; try with_reducible rfl)
          try simp only [Act.put, List.setIfInBounds_toArray, List.set_cons_zero, List.set_cons_succ, List.getElem_toArray, List.getElem_cons_zero, List.getElem_cons_succ]
          refine wpAnyH_take (i := 1) (v := ?_) rfl (by kernel_rfl) (by kernel_rfl) (by kernel_rfl) (fun _ _ _ h => h) (Or.inl ⟨by rfl, ?_⟩) (by assumption) ?_
          rotate_left
          · (intro w_ hSw_; (try dsimp only at hSw_); go_simp; try with_reducible rfl)
          try simp only [Act.put, List.setIfInBounds_toArray, List.set_cons_zero, List.set_cons_succ, List.getElem_toArray, List.getElem_cons_zero, List.getElem_cons_succ]
          refine wpAnyH_take (i := 2) (v := ?_) rfl (by kernel_rfl) (by kernel_rfl) (by kernel_rfl) (fun _ _ _ h => h) (Or.inl ⟨by rfl, ?_⟩) (by assumption) ?_
          rotate_left
          · (intro w_ hSw_; (try dsimp only at hSw_); go_simp; try with_reducible rfl)
          try simp only [Act.put, List.setIfInBounds_toArray, List.set_cons_zero, List.set_cons_succ, List.getElem_toArray, List.getElem_cons_zero, List.getElem_cons_succ]
          refine wpAnyH_take (i := 3) (v := ?_) rfl (by kernel_rfl) (by kernel_rfl) (by kernel_rfl) (fun _ _ _ h => h) (Or.inl ⟨by rfl, ?_⟩) (by assumption) ?_
          rotate_left
          · (intro w_ hSw_; (try dsimp only at hSw_); go_simp; try with_reducible rfl)
          try simp only [Act.put, List.setIfInBounds_toArray, List.set_cons_zero, List.set_cons_succ, List.getElem_toArray, List.getElem_cons_zero, List.getElem_cons_succ]
          refine wpAnyH_take (i := 4) (v := ?_) rfl (by kernel_rfl) (by kernel_rfl) (by kernel_rfl) (fun _ _ _ h => h) (Or.inl ⟨by rfl, ?_⟩) (by assumption) ?_
          rotate_left
          · (intro w_ hSw_; (try dsimp only at hSw_); go_simp; try with_reducible rfl)
          try simp only [Act.put, List.setIfInBounds_toArray, List.set_cons_zero, List.set_cons_succ, List.getElem_toArray, List.getElem_cons_zero, List.getElem_cons_succ]
          refine wpAnyH_take (i := 5) (v := ?_) rfl (by kernel_rfl) (by kernel_rfl) (by kernel_rfl) (fun _ _ _ h => h) (Or.inl ⟨by rfl, ?_⟩) (by assumption) ?_
          rotate_left
          · (intro w_ hSw_; (try dsimp only at hSw_); go_simp; try with_reducible rfl)
          try simp only [Act.put, List.setIfInBounds_toArray, List.set_cons_zero, List.set_cons_succ, List.getElem_toArray, List.getElem_cons_zero, List.getElem_cons_succ]
          refine wpAnyH_take (i := 6) (v := ?_) rfl (by kernel_rfl) (by kernel_rfl) (by kernel_rfl) (fun _ _ _ h => h) (Or.inl ⟨by rfl, ?_⟩) (by assumption) ?_
          rotate_left
          · (intro w_ hSw_; (try dsimp only at hSw_); go_simp; try with_reducible rfl)
          try simp only [Act.put, List.setIfInBounds_toArray, List.set_cons_zero, List.set_cons_succ, List.getElem_toArray, List.getElem_cons_zero, List.getElem_cons_succ]
          refine wpAnyH_take (i := 9) (v := ?_) rfl (by kernel_rfl) (by kernel_rfl) (by kernel_rfl) (fun _ _ _ h => h) (Or.inl ⟨by rfl, ?_⟩) (by assumption) ?_
          rotate_left
          · (intro w_ hSw_; (try dsimp only at hSw_); go_simp; try with_reducible rfl)
          try simp only [Act.put, List.setIfInBounds_toArray, List.set_cons_zero, List.set_cons_succ, List.getElem_toArray, List.getElem_cons_zero, List.getElem_cons_succ]
          refine wpAnyH_take (i := 10) (v := ?_) rfl (by kernel_rfl) (by kernel_rfl) (by kernel_rfl) (fun _ _ _ h => h) (Or.inl ⟨by rfl, ?_⟩) (by assumption) ?_
          rotate_left
          · (intro w_ hSw_; (try dsimp only at hSw_); go_simp; try with_reducible rfl)
          try simp only [Act.put, List.setIfInBounds_toArray, List.set_cons_zero, List.set_cons_succ, List.getElem_toArray, List.getElem_cons_zero, List.getElem_cons_succ]
          refine wpAnyH_ready (rs := [7]) (by kernel_rfl) (by simp) ?_
          refine AllReadyH.cons rfl (fun K hK => ?_) AllReadyH.nil
          go_simp
          refine Calls.mono (HSD.out w9.drew (by assumption)) ?_
          rintro e wa ⟨rfl, b_wa⟩
          have B_wa : Below w9.heap.size w9 wa := BB_.trans (b_wa.mono BB_.size)
          clear BB_
          have BB_ := B_wa
          have p_wa : wa.cell? ⟨w8.heap.size, 0, none⟩ = some (.slice ga 0 gc) ∧ wa.cell? ⟨w8.heap.size, 1, none⟩ = some (.slice ha hn hc) ∧ wa.cell? ⟨w6.heap.size, 0, none⟩ = some (.slice xa xn xc) ∧ wa.cell? ⟨w6.heap.size, 1, none⟩ = some (.slice ya yn yc) := ⟨VarJ.c0 (VarJ.step HVX9.out BB_), VarJ.c1 (VarJ.step HVX9.out BB_), VarJ.c0 (VarJ.step HVJ9.out BB_), VarJ.c1 (VarJ.step HVJ9.out BB_)⟩
          clear b_wa B_wa
          go_wp2_with fail
          refine hK.out _ _ p_wa (fun hHeld => ?_)
          clear hK K
          try simp only [Act.put, List.setIfInBounds_toArray, List.set_cons_zero, List.set_cons_succ, List.getElem_toArray, List.getElem_cons_zero, List.getElem_cons_succ]
          refine wpAnyH_take (i := 8) (v := ?_) rfl (by kernel_rfl) (by kernel_rfl) (by kernel_rfl) (fun _ _ _ h => h) (Or.inl ⟨by rfl, ?_⟩) (by assumption) ?_
          rotate_left
          · (intro w_ hSw_; (try dsimp only at hSw_); go_simp; try with_reducible rfl)
          try simp only [Act.put, List.setIfInBounds_toArray, List.set_cons_zero, List.set_cons_succ, List.getElem_toArray, List.getElem_cons_zero, List.getElem_cons_succ]
          refine wpAnyH_ready (rs := [11]) (by kernel_rfl) (by simp) ?_
          refine AllReadyH.cons rfl (fun K hK => ?_) AllReadyH.nil
          go_simp
          refine Calls.mono (HDO.out wa (by assumption)) ?_
          rintro e wb ⟨rfl, b_wb⟩
          have B_wb : Below w9.heap.size w9 wb := BB_.trans (b_wb.mono BB_.size)
          clear BB_
          have BB_ := B_wb
          have p_wb : wb.cell? ⟨w8.heap.size, 0, none⟩ = some (.slice ga 0 gc) ∧ wb.cell? ⟨w8.heap.size, 1, none⟩ = some (.slice ha hn hc) ∧ wb.cell? ⟨w6.heap.size, 0, none⟩ = some (.slice xa xn xc) ∧ wb.cell? ⟨w6.heap.size, 1, none⟩ = some (.slice ya yn yc) := ⟨VarJ.c0 (VarJ.step HVX9.out BB_), VarJ.c1 (VarJ.step HVX9.out BB_), VarJ.c0 (VarJ.step HVJ9.out BB_), VarJ.c1 (VarJ.step HVJ9.out BB_)⟩
          clear b_wb B_wb
          go_wp2_with fail
          refine hK.out _ _ p_wb (fun hHeld => ?_)
          clear hK K
          try simp only [Act.put, List.setIfInBounds_toArray, List.set_cons_zero, List.set_cons_succ, List.getElem_toArray, List.getElem_cons_zero, List.getElem_cons_succ]
          refine wpAnyH_take (i := 12) (v := ?_) rfl (by kernel_rfl) (by kernel_rfl) (by kernel_rfl) (fun _ _ _ h => h) (Or.inl ⟨by rfl, ?_⟩) (by assumption) ?_
          rotate_left
          · (intro w_ hSw_; (try dsimp only at hSw_); go_simp; try with_reducible rfl)
          try simp only [Act.put, List.setIfInBounds_toArray, List.set_cons_zero, List.set_cons_succ, List.getElem_toArray, List.getElem_cons_zero, List.getElem_cons_succ]
          refine wpAnyH_take (i := 13) (v := ?_) rfl (by kernel_rfl) (by kernel_rfl) (by kernel_rfl) (fun _ _ _ h => h) (Or.inl ⟨by rfl, ?_⟩) (by assumption) ?_
          rotate_left
          · (intro w_ hSw_; (try dsimp only at hSw_); go_simp; try with_reducible rfl)
          try simp only [Act.put, List.setIfInBounds_toArray, List.set_cons_zero, List.set_cons_succ, List.getElem_toArray, List.getElem_cons_zero, List.getElem_cons_succ]
          refine wpAnyH_take (i := 14) (v := ?_) rfl (by kernel_rfl) (by kernel_rfl) (by kernel_rfl) (fun _ _ _ h => h) (Or.inl ⟨by rfl, ?_⟩) (by assumption) ?_
          rotate_left
          · (intro w_ hSw_; (try dsimp only at hSw_); go_simp; try with_reducible rfl)
          try simp only [Act.put, List.setIfInBounds_toArray, List.set_cons_zero, List.set_cons_succ, List.getElem_toArray, List.getElem_cons_zero, List.getElem_cons_succ]
          refine wpAnyH_take (i := 15) (v := ?_) rfl (by kernel_rfl) (by kernel_rfl) (by kernel_rfl) (fun _ _ _ h => h) (Or.inl ⟨by rfl, ?_⟩) (by assumption) ?_
          rotate_left
          · (intro w_ hSw_; (try dsimp only at hSw_); go_simp; try with_reducible rfl)
          try simp only [Act.put, List.setIfInBounds_toArray, List.set_cons_zero, List.set_cons_succ, List.getElem_toArray, List.getElem_cons_zero, List.getElem_cons_succ]
          refine wpAnyH_take (i := 16) (v := ?_) rfl (by kernel_rfl) (by kernel_rfl) (by kernel_rfl) (fun _ _ _ h => h) (Or.inl ⟨by rfl, ?_⟩) (by assumption) ?_
          rotate_left
          · (intro w_ hSw_; (try dsimp only at hSw_); go_simp; try with_reducible rfl)
          try simp only [Act.put, List.setIfInBounds_toArray, List.set_cons_zero, List.set_cons_succ, List.getElem_toArray, List.getElem_cons_zero, List.getElem_cons_succ]
          refine wpAnyH_take (i := 17) (v := ?_) rfl (by kernel_rfl) (by kernel_rfl) (by kernel_rfl) (fun _ _ _ h => h) (Or.inl ⟨by rfl, ?_⟩) (by assumption) ?_
          rotate_left
          · (intro w_ hSw_; (try dsimp only at hSw_); go_simp; try with_reducible rfl)
          try simp only [Act.put, List.setIfInBounds_toArray, List.set_cons_zero, List.set_cons_succ, List.getElem_toArray, List.getElem_cons_zero, List.getElem_cons_succ]
          refine wpAnyH_take (i := 18) (v := ?_) rfl (by kernel_rfl) (by kernel_rfl) (by kernel_rfl) (fun _ _ _ h => h) (Or.inl ⟨by rfl, ?_⟩) (by assumption) ?_
          rotate_left
          · (intro w_ hSw_; (try dsimp only at hSw_); go_simp; try with_reducible rfl)
          try simp only [Act.put, List.setIfInBounds_toArray, List.set_cons_zero, List.set_cons_succ, List.getElem_toArray, List.getElem_cons_zero, List.getElem_cons_succ]
          refine wpAnyH_take (i := 19) (v := ?_) rfl (by kernel_rfl) (by kernel_rfl) (by kernel_rfl) (fun _ _ _ h => h) (Or.inl ⟨by rfl, ?_⟩) (by assumption) ?_
          rotate_left
          · (intro w_ hSw_; (try dsimp only at hSw_); go_simp; try with_reducible rfl)
          try simp only [Act.put, List.setIfInBounds_toArray, List.set_cons_zero, List.set_cons_succ, List.getElem_toArray, List.getElem_cons_zero, List.getElem_cons_succ]
          refine wpAnyH_take (i := 20) (v := ?_) rfl (by kernel_rfl) (by kernel_rfl) (by kernel_rfl) (fun _ _ _ h => h) (Or.inl ⟨by rfl, ?_⟩) (by assumption) ?_
          rotate_left
          · (intro w_ hSw_; (try dsimp only at hSw_); go_simp; try with_reducible rfl)
          try simp only [Act.put, List.setIfInBounds_toArray, List.set_cons_zero, List.set_cons_succ, List.getElem_toArray, List.getElem_cons_zero, List.getElem_cons_succ]
          refine wpAnyH_take (i := 21) (v := ?_) rfl (by kernel_rfl) (by kernel_rfl) (by kernel_rfl) (fun _ _ _ h => h) (Or.inl ⟨by rfl, ?_⟩) (by assumption) ?_
          rotate_left
          · (intro w_ hSw_; (try dsimp only at hSw_); go_simp; try with_reducible rfl)
          try simp only [Act.put, List.setIfInBounds_toArray, List.set_cons_zero, List.set_cons_succ, List.getElem_toArray, List.getElem_cons_zero, List.getElem_cons_succ]
          refine wpAnyH_take (i := 22) (v := ?_) rfl (by kernel_rfl) (by kernel_rfl) (by kernel_rfl) (fun _ _ _ h => h) (Or.inl ⟨by rfl, ?_⟩) (by assumption) ?_
          rotate_left
          · (intro w_ hSw_; (try dsimp only at hSw_); go_simp; try with_reducible rfl)
          try simp only [Act.put, List.setIfInBounds_toArray, List.set_cons_zero, List.set_cons_succ, List.getElem_toArray, List.getElem_cons_zero, List.getElem_cons_succ]
          refine wpAnyH_take (i := 23) (v := ?_) rfl (by kernel_rfl) (by kernel_rfl) (by kernel_rfl) (fun _ _ _ h => h) (Or.inl ⟨by rfl, ?_⟩) (by assumption) ?_
          rotate_left
          · (intro w_ hSw_; (try dsimp only at hSw_); go_simp; try with_reducible rfl)
          try simp only [Act.put, List.setIfInBounds_toArray, List.set_cons_zero, List.set_cons_succ, List.getElem_toArray, List.getElem_cons_zero, List.getElem_cons_succ]
          refine wpAnyH_take (i := 24) (v := ?_) rfl (by kernel_rfl) (by kernel_rfl) (by kernel_rfl) (fun _ _ _ h => h) (Or.inl ⟨by rfl, ?_⟩) (by assumption) ?_
          rotate_left
          · (intro w_ hSw_; (try dsimp only at hSw_); go_simp; try with_reducible rfl)
          try simp only [Act.put, List.setIfInBounds_toArray, List.set_cons_zero, List.set_cons_succ, List.getElem_toArray, List.getElem_cons_zero, List.getElem_cons_succ]
          refine wpAnyH_take (i := 25) (v := ?_) rfl (by kernel_rfl) (by kernel_rfl) (by kernel_rfl) (fun _ _ _ h => h) (Or.inl ⟨by rfl, ?_⟩) (by assumption) ?_
          rotate_left
          · (intro w_ hSw_; (try dsimp only at hSw_); go_simp; try with_reducible rfl)
          try simp only [Act.put, List.setIfInBounds_toArray, List.set_cons_zero, List.set_cons_succ, List.getElem_toArray, List.getElem_cons_zero, List.getElem_cons_succ]
          refine wpAnyH_take (i := 26) (v := ?_) rfl (by kernel_rfl) (by kernel_rfl) (by kernel_rfl) (fun _ _ _ h => h) (Or.inl ⟨by rfl, ?_⟩) (by assumption) ?_
          rotate_left
          · (intro w_ hSw_; (try dsimp only at hSw_); go_simp; try with_reducible rfl)
          try simp only [Act.put, List.setIfInBounds_toArray, List.set_cons_zero, List.set_cons_succ, List.getElem_toArray, List.getElem_cons_zero, List.getElem_cons_succ]
          refine wpAnyH_take (i := 27) (v := ?_) rfl (by kernel_rfl) (by kernel_rfl) (by kernel_rfl) (fun _ _ _ h => h) (Or.inl ⟨by rfl, ?_⟩) (by assumption) ?_
          rotate_left
          · (intro w_ hSw_; (try dsimp only at hSw_); go_simp; try with_reducible rfl)
          try simp only [Act.put, List.setIfInBounds_toArray, List.set_cons_zero, List.set_cons_succ, List.getElem_toArray, List.getElem_cons_zero, List.getElem_cons_succ]
          refine wpAnyH_take (i := 28) (v := ?_) rfl (by kernel_rfl) (by kernel_rfl) (by kernel_rfl) (fun _ _ _ h => h) (Or.inl ⟨by rfl, ?_⟩) (by assumption) ?_
          rotate_left
          · (intro w_ hSw_; (try dsimp only at hSw_); go_simp; try with_reducible rfl)
          try simp only [Act.put, List.setIfInBounds_toArray, List.set_cons_zero, List.set_cons_succ, List.getElem_toArray, List.getElem_cons_zero, List.getElem_cons_succ]
          refine wpAnyH_done (by kernel_rfl) (NoPanic.normal ?_) _
          clear hHeld
          go_wp2
          go_ret
          exact ⟨rfl, HB9.out.trans (BB_.mono HB9.out.size)⟩
  rw [hk] at h9
  have HAP : Hid _ := h9
  have HGO : Hid _ := good_open hk
  have HRB : Hid _ := read_back (zs := ys) hk
  clear h9 hk
  generalize appendJ (d, P, Q) ys = ZB at HAP HGO HRB
  obtain ⟨⟨D, P', Q'⟩, zb⟩ := ZB
  go_wp2_with (rw [HW7.out])
  refine Calls.mono HAP.out ?_
  rintro e w8 ⟨x8, rfl, oJ8, b8⟩
  obtain ⟨ga, gn, gc, ha, hn, hc, rfl, rD8⟩ := oJ8.rd.open
  have s8 := b8.size
  have b9 := Below.new (w := w8) (.cells #[.slice ga gn gc, .slice ha hn hc, .int .i64 P', .int .i64 Q'] 30)
  have vX := VarJ.new (T := 30) w8 (.slice ga gn gc) (.slice ha hn hc) P' Q'
  generalize hw9 : w8.alloc (.cells #[.slice ga gn gc, .slice ha hn hc, .int .i64 P', .int .i64 Q'] 30) = w9 at b9 vX
  have HW9 : Hid _ := hw9
  have s9 := b9.size
  have sl9 := vX.lt
  clear hw9
  have B89 : Below w7.heap.size w7 w9 := b8.trans (b9.mono s8)
  have B9 : Below w.heap.size w w9 := HB7.out.trans (B89.mono HB7.out.size)
  have vJ9 := VarJ.step HVJ7.out B89
  have rX9 := rD8.step (Nat.le_refl _) b9
  obtain ⟨x', y', he', rJd⟩ := HRJ7.out
  simp only [Value.agg.injEq, Array.mk.injEq, List.cons.injEq, and_true] at he'
  obtain ⟨rfl, rfl, _⟩ := he'
  have rJ9 := RdD.step rJd (by omega) B89
  have HS : Hid _ := fnExactOpen.specOpen_all _ d _ _ w9 rJ9 (by omega) HSM.out
  have j0 := VarJ.c0 vJ9
  have j1 := VarJ.c1 vJ9
  have HVJ9 : Hid _ := vJ9
  have HVX9 : Hid _ := vX
  have HRX9 : Hid _ := rX9
  have HB9 : Hid _ := B9
  have HB89 : Hid _ := B89
  clear HAP oJ8 rD8 b8 b9 vX B89 vJ9 rX9 rJd rJ9 B9 k0 k1 k2 k3
  go_wp2_with (rw [HW9.out])
  refine Calls.mono HS.out ?_
  rintro e wa ⟨Xs, V, rfl, rS, rV, ba⟩
  obtain ⟨sa, sn, sc, ta, tn, tc, rfl, rSd⟩ := rS.open
  have sza := ba.size
  obtain ⟨va, vn, vc, rfl⟩ := rV.sliced
  have hbl := rV.len
  have HVL : Hid _ := hbl
  have hvm := hbl.2
  clear hbl
  have bb := Below.new (w := wa) (.cells #[.slice sa sn sc, .slice ta tn tc, .int .i64 (openJ d).2.1, .int .i64 (openJ d).2.2] 30)
  have vS := VarJ.new (T := 30) wa (.slice sa sn sc) (.slice ta tn tc) (openJ d).2.1 (openJ d).2.2
  generalize hwb : wa.alloc (.cells #[.slice sa sn sc, .slice ta tn tc, .int .i64 (openJ d).2.1, .int .i64 (openJ d).2.2] 30) = wb at bb vS
  have HWb : Hid _ := hwb
  have sb := bb.size
  have slb := vS.lt
  clear hwb
  have Bb9 : Below w9.heap.size w9 wb := ba.trans (bb.mono sza)
  have Bb : Below w.heap.size w wb := HB9.out.trans (Bb9.mono HB9.out.size)
  have vXb := VarJ.step HVX9.out Bb9
  have rXb := RdD.step HRX9.out (by omega) Bb9
  have rVb := rV.same (SameIn.ofBelow bb (Nat.le_refl _))
  have HI : Hid _ := implOpen_all _ D _ _ wb rXb (by omega) a (HG.out _ Bb)
  have x0 := VarJ.c0 vXb
  have x1 := VarJ.c1 vXb
  have HVB : Hid _ := vS
  have HBb : Hid _ := Bb
  have HBb9 : Hid _ := Bb9
  have HRV : Hid _ := rVb
  clear HS rS rV rSd ba bb vS Bb9 Bb vXb rXb rVb j0 j1
  go_wp2_with (rw [HWb.out])
  refine Calls.mono HI.out ?_
  rintro e wc ⟨X, L, vs, H, rfl, oX, oL, hH, hH2, bc⟩
  obtain ⟨la, ln, lc, rfl⟩ := oL.bb.rd.sliced
  have rL := oL.bb.rd
  have hll := rL.len
  obtain ⟨ma, mn, mc, na, nn, nc, rfl, _⟩ := oX.rd.open
  generalize (openJ D).2.1 = z2
  generalize (openJ D).2.2 = z3
  have szc := bc.size
  have bd := Below.new (w := wc) (.cells #[.slice ma mn mc, .slice na nn nc, .int .i64 z2, .int .i64 z3] 30)
  have vO := VarJ.new (T := 30) wc (.slice ma mn mc) (.slice na nn nc) z2 z3
  generalize hwd : wc.alloc (.cells #[.slice ma mn mc, .slice na nn nc, .int .i64 z2, .int .i64 z3] 30) = wd at bd vO
  have HWd : Hid _ := hwd
  have sd := bd.size
  have sld := vO.lt
  clear hwd
  have Bdb : Below wb.heap.size wb wd := bc.trans (bd.mono szc)
  have Bd : Below w.heap.size w wd := HBb.out.trans (Bdb.mono HBb.out.size)
  have Bd9 : Below w9.heap.size w9 wd := HBb9.out.trans (Bdb.mono HBb9.out.size)
  have hgo := HGO.out
  have s0 := VarJ.c2 (VarJ.step HVB.out Bdb)
  have s1' := VarJ.c3 (VarJ.step HVB.out Bdb)
  have j2 := VarJ.c2 (VarJ.step HVJ9.out Bd9)
  have j3 := VarJ.c3 (VarJ.step HVJ9.out Bd9)
  have HBd : Hid _ := Bd
  have HBd9 : Hid _ := Bd9
  have rLd := rL.same (SameIn.ofBelow bd (Nat.le_refl _))
  have HRL : Hid _ := rLd
  have rVd := RdBB.same HRV.out (SameIn.ofBelow Bdb (by omega))
  have HRVd : Hid _ := rVd
  have HLL : Hid _ := hll
  have hlm := hll.2
  clear HI oX oL bc bd rL rLd rVd Bd Bd9 Bdb hll x0 x1 vO
  have HRB2 : Hid (openOk d = true → (openJ d).2.1 = P → (openJ d).2.2 = Q → ∃ t, openR D = openR d ++ [ys] ++ t) := fun h1 h2 h3 => HRB.out h1 h2 h3
  rw [hgo]
  clear HRB HGO hgo
  generalize (openJ d).2.1 = n1 at *
  generalize (openJ d).2.2 = q1 at *
  generalize openOk d = fine at *
  cases fine
  · clear HRB2
    go_wp2_with (rw [HWd.out])
    go_ret
    exact ⟨rfl, HBd.out⟩
  by_cases hP : n1 = P
  case neg =>
    have e1 : (n1 != P) = true := by simpa using hP
    have e2 : (n1 == P) = false := by simpa using hP
    have e3 : decide (n1 = P) = false := by simpa using hP
    clear HRB2
    go_wp2_with (rw [HWd.out])
    go_ret
    exact ⟨rfl, HBd.out⟩
  subst hP
  by_cases hQ : q1 = Q
  case neg =>
    have e1 : (q1 != Q) = true := by simpa using hQ
    have e2 : (q1 == Q) = false := by simpa using hQ
    have e3 : decide (q1 = Q) = false := by simpa using hQ
    clear HRB2
    go_wp2_with (rw [HWd.out])
    go_ret
    exact ⟨rfl, HBd.out⟩
  subst hQ
  obtain ⟨t, ht⟩ := HRB2.out rfl rfl rfl
  have hvl := HVL.out.1
  have hll := HLL.out.1
  have hlen : ln = vn + 1 + t.length := by rw [hll, ht, hvl]; simp; omega
  have hat : (openR D)[vn]?.getD [] = ys := by
    rw [ht, hvl]
    simp
  have hah : ∀ i, i < vn → (openR D)[i]?.getD [] = (openR d)[i]?.getD [] := fun i hi => by
    rw [ht, List.append_assoc, List.getElem?_append_left (by omega)]
  obtain ⟨_, _, _, lv, he1, hl1, _, hc1, hv1⟩ := HRL.out
  simp only [Value.slice.injEq] at he1
  obtain ⟨rfl, rfl, rfl⟩ := he1
  obtain ⟨lb, lo, rfl, _, hlb, hcc1⟩ := hc1.resolve_left (by omega)
  have f1 := hcc1 vn (by omega)
  have hr1 := hv1 vn (by omega)
  rw [hat] at hr1
  generalize hp1 : lv vn = p1 at f1 hr1
  obtain ⟨p1a, p1n, p1c, rfl⟩ := hr1.sliced
  have B7d : Below w7.heap.size w7 wd := HB89.out.trans (HBd9.out.mono HB89.out.size)
  have rRd := RdB.same HRR7.out (SameIn.ofBelow B7d (by omega))
  have HC : Hid _ := sameB_same _ _ _ _ _ _ _ wd hr1 rRd
  have HAH : Hid _ := hah
  have l1 : vn + 1 ≤ ln := by omega
  have l2 : decide ((ln : Int) < (vn : Int) + 1) = false := by simp; omega
  have HLS : Hid (∀ W, Below wd.heap.size wd W → RdBB W _ _ _ (openR D)) := fun W hW => RdBB.same HRL.out (SameIn.ofBelow hW (by omega))
  have HVS : Hid (∀ W, Below wd.heap.size wd W → RdBB W _ _ _ (openR d)) := fun W hW => RdBB.same HRVd.out (SameIn.ofBelow hW (by omega))
  clear ht HRB2 hvl hll hlen hat hah hc1 hv1 hcc1 hr1 hp1 rRd B7d hl1
  go_wp2_with (rw [HWd.out])
  refine Calls.mono HC.out ?_
  rintro e w20 ⟨rfl, rfl⟩
  go_wp2_with fail
  clear HC f1
  go_loopw [17] (fun i wr => SDRel w20 vn i wr) (fun i _ => vn - (intOf i).toNat)
  case atStart => exact ⟨0, Nat.zero_le _, rfl, Below.refl _ _⟩
  case round =>
    obtain ⟨k, hk, rfl, hbel⟩ := hrel
    by_cases hlt : k < vn
    · obtain ⟨_, _, _, vs1, he1, hl1, _, hc1, hv1⟩ := HLS.out _ hbel
      obtain ⟨_, _, _, vs2, he2, hl2, _, hc2, hv2⟩ := HVS.out _ hbel
      simp only [Value.slice.injEq] at he1 he2
      obtain ⟨hea, rfl, rfl⟩ := he1
      obtain ⟨rfl, rfl, rfl⟩ := he2
      subst hea
      obtain ⟨g1, o1, hg1, _, _, hcc1⟩ := hc1.resolve_left (by omega)
      simp only [Option.some.injEq, Addr.mk.injEq, and_true] at hg1
      obtain ⟨rfl, rfl⟩ := hg1
      obtain ⟨g2, o2, rfl, _, _, hcc2⟩ := hc2.resolve_left (by omega)
      have f1 := hcc1 k (by omega)
      have f2 := hcc2 k hlt
      have hr1 := hv1 k (by omega)
      have hr2 := hv2 k hlt
      rw [HAH.out k hlt] at hr1
      generalize vs1 k = p1 at f1 hr1
      generalize vs2 k = p2 at f2 hr2
      obtain ⟨u1a, u1n, u1c, rfl⟩ := hr1.sliced
      obtain ⟨u2a, u2n, u2c, rfl⟩ := hr2.sliced
      have HC : Hid _ := sameB_same _ _ _ _ _ _ _ wr.drew (hr1.same (w' := wr.drew) ⟨Nat.le_refl _, fun _ _ _ => rfl⟩) (hr2.same (w' := wr.drew) ⟨Nat.le_refl _, fun _ _ _ => rfl⟩)
      have hi0 : (0 : Int) ≤ (k : Int) := by omega
      have hi1 : (k : Int) < (vn : Int) := by omega
      have hi2 : (k : Int) < (ln : Int) := by omega
      have HB : Hid _ := hbel
      have hsp : wr.cell? ⟨lb, lo + k, none⟩ = some (.slice u1a u1n u1c) ∧ wr.cell? ⟨g2, o2 + k, none⟩ = some (.slice u2a u2n u2c) := ⟨f1, f2⟩
      clear hl1 hl2 hcc1 hcc2 hv1 hv2 hr1 hr2 hbel hc1 hc2 f1 f2
      go_wp2
      refine wp_region_noPanic ?_
      refine wp_region_held_drew (S := fun w' => w'.cell? ⟨lb, lo + k, none⟩ = some (.slice u1a u1n u1c) ∧ w'.cell? ⟨g2, o2 + k, none⟩ = some (.slice u2a u2n u2c)) (by kernel_rfl) hsp (fun hHeld => ?_)
      clear hsp
      refine wpAnyH_take (i := 0) (v := ?_) rfl (by kernel_rfl) (by kernel_rfl) (by kernel_rfl) (fun _ _ _ h => h) (Or.inl ⟨by rfl, ?_⟩) (by assumption) ?_
      rotate_left
      · (intro w_ hSw_; (try dsimp only at hSw_); go_simp; try with_reducible rfl)
      try simp only [Act.put, List.setIfInBounds_toArray, List.set_cons_zero, List.set_cons_succ, List.getElem_toArray, List.getElem_cons_zero, List.getElem_cons_succ]
      refine wpAnyH_take (i := 1) (v := ?_) rfl (by kernel_rfl) (by kernel_rfl) (by kernel_rfl) (fun _ _ _ h => h) (Or.inl ⟨by rfl, ?_⟩) (by assumption) ?_
      rotate_left
      · (intro w_ hSw_; (try dsimp only at hSw_); go_simp; try with_reducible rfl)
      try simp only [Act.put, List.setIfInBounds_toArray, List.set_cons_zero, List.set_cons_succ, List.getElem_toArray, List.getElem_cons_zero, List.getElem_cons_succ]
      refine wpAnyH_take (i := 2) (v := ?_) rfl (by kernel_rfl) (by kernel_rfl) (by kernel_rfl) (fun _ _ _ h => h) (Or.inl ⟨by rfl, ?_⟩) (by assumption) ?_
      rotate_left
      · (intro w_ hSw_; (try dsimp only at hSw_); go_simp; try with_reducible rfl)
      try simp only [Act.put, List.setIfInBounds_toArray, List.set_cons_zero, List.set_cons_succ, List.getElem_toArray, List.getElem_cons_zero, List.getElem_cons_succ]
      refine wpAnyH_take (i := 3) (v := ?_) rfl (by kernel_rfl) (by kernel_rfl) (by kernel_rfl) (fun _ _ _ h => h) (Or.inl ⟨by rfl, ?_⟩) (by assumption) ?_
      rotate_left
      · (intro w_ hSw_; (try dsimp only at hSw_); go_simp; try with_reducible rfl)
      try simp only [Act.put, List.setIfInBounds_toArray, List.set_cons_zero, List.set_cons_succ, List.getElem_toArray, List.getElem_cons_zero, List.getElem_cons_succ]
      refine wpAnyH_take (i := 4) (v := ?_) rfl (by kernel_rfl) (by kernel_rfl) (by kernel_rfl) (fun _ _ _ h => h) (Or.inl ⟨by rfl, ?_⟩) (by assumption) ?_
      rotate_left
      · (intro w_ hSw_; (try dsimp only at hSw_); go_simp; try with_reducible rfl)
      try simp only [Act.put, List.setIfInBounds_toArray, List.set_cons_zero, List.set_cons_succ, List.getElem_toArray, List.getElem_cons_zero, List.getElem_cons_succ]
      refine wpAnyH_take (i := 5) (v := ?_) rfl (by kernel_rfl) (by kernel_rfl) (by kernel_rfl) (fun _ _ _ h => h) (Or.inl ⟨by rfl, ?_⟩) (by assumption) ?_
      rotate_left
      · (intro w_ hSw_; (try dsimp only at hSw_); go_simp; try with_reducible rfl)
      try simp only [Act.put, List.setIfInBounds_toArray, List.set_cons_zero, List.set_cons_succ, List.getElem_toArray, List.getElem_cons_zero, List.getElem_cons_succ]
      refine wpAnyH_take (i := 6) (v := ?_) rfl (by kernel_rfl) (by kernel_rfl) (by kernel_rfl) (fun _ _ _ h => h) (Or.inl ⟨by rfl, ?_⟩) (by assumption) ?_
      rotate_left
      · (intro w_ hSw_; (try dsimp only at hSw_); go_simp; try with_reducible rfl)
      try simp only [Act.put, List.setIfInBounds_toArray, List.set_cons_zero, List.set_cons_succ, List.getElem_toArray, List.getElem_cons_zero, List.getElem_cons_succ]
      refine wpAnyH_take (i := 7) (v := ?_) rfl (by kernel_rfl) (by kernel_rfl) (by kernel_rfl) (fun _ _ _ h => h) (Or.inl ⟨by rfl, ?_⟩) (by assumption) ?_
      rotate_left
      · (intro w_ hSw_; (try dsimp only at hSw_); go_simp; try with_reducible rfl)
      try simp only [Act.put, List.setIfInBounds_toArray, List.set_cons_zero, List.set_cons_succ, List.getElem_toArray, List.getElem_cons_zero, List.getElem_cons_succ]
      refine wpAnyH_ready (rs := [8]) (by kernel_rfl) (by simp) ?_
      refine AllReadyH.cons rfl (fun K hK => ?_) AllReadyH.nil
      go_simp
      refine Calls.mono HC.out ?_
      rintro e w21 ⟨rfl, hw21⟩
      subst hw21
      go_wp2_with fail
      refine hK.out _ _ (by assumption) (fun hHeld => ?_)
      clear hK K
      try simp only [Act.put, List.setIfInBounds_toArray, List.set_cons_zero, List.set_cons_succ, List.getElem_toArray, List.getElem_cons_zero, List.getElem_cons_succ]
      refine wpAnyH_take (i := 9) (v := ?_) rfl (by kernel_rfl) (by kernel_rfl) (by kernel_rfl) (fun _ _ _ h => h) (Or.inl ⟨by rfl, ?_⟩) (by assumption) ?_
      rotate_left
      · (intro w_ hSw_; (try dsimp only at hSw_); go_simp; try with_reducible rfl)
      try simp only [Act.put, List.setIfInBounds_toArray, List.set_cons_zero, List.set_cons_succ, List.getElem_toArray, List.getElem_cons_zero, List.getElem_cons_succ]
      refine wpAnyH_done (by kernel_rfl) (NoPanic.normal ?_) _
      go_wp2
      refine ⟨?_, by simp [intOf]; omega⟩
      have HR : SDRel w20 vn (.int .i64 ((k : Int) + 1)) wr.drew := ⟨k + 1, by omega, by go_num, HB.out.drew⟩
      first | exact HR | (repeat (first | exact ⟨HR, rfl⟩ | apply Exists.intro))
    · clear hk
      have hk9 : ¬ (k : Int) < (vn : Int) := by omega
      have HB : Hid _ := hbel
      clear hbel
      go_wp2
      go_ret
      exact ⟨rfl, HBd.out.trans (HB.out.mono HBd.out.size)⟩
end Go.Proofs.YtjhaanenkeceiaaDoor.fnJournals
end
