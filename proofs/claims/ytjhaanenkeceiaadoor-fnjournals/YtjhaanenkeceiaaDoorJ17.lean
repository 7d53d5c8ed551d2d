/- Joined: Appends2. -/
import Derived.Test.YtjhaanenkeceiaaDoorJ16
import Derived.Test.YtjhaanenkeceiaaDoorJ10

section
/- The specification's Append as a plain function of its arguments, whole. Condition: the disk is of at most 2^21 bytes and writes. -/
namespace Go.Proofs.YtjhaanenkeceiaaDoor
open Go.RowKit
set_option linter.unusedVariables false
set_option linter.unusedSimpArgs false
attribute [local go_sem ↓] Go.wp_at_zero Go.wp_at_succ

theorem RdJ_nil (w : World) (l h : Nat) : RdJ w l h (.agg #[.slice none 0 0, .slice none 0 0, .int .i64 0, .int .i64 0]) (([], []), 0, 0) := ⟨_, _, rfl, RdD_nil _ _ _⟩
theorem VarJ.set0 {T : TypeId} {w : World} {b : Nat} {x y : Value} {p q : Int} (h : VarJ T w b x y p q) (u : Value) : VarJ T (w.setCell ⟨b, 0, none⟩ u) b u y p q := by
  show _ = _
  rw [heap_setCell_same _ _ _ _ _ _ h]; rfl
theorem appendJ_small {j : Jn} (hs : Small j.1) (zs : List Int) : Small (appendJ j zs).1.1 := by
  unfold appendJ
  split
  · rename_i hok
    split
    · rename_i hr
      unfold okJ at hok
      simp only [Bool.and_eq_true, decide_eq_true_eq] at hok
      obtain ⟨⟨⟨⟨hod, hp0⟩, hp1⟩, hq0⟩, hq1⟩ := hok
      obtain ⟨d, p, q⟩ := j
      replace hp0 : 0 ≤ p := hp0
      replace hq0 : 0 ≤ q := hq0
      obtain ⟨P, rfl⟩ : ∃ P : Nat, p = (P : Int) := ⟨p.toNat, by omega⟩
      obtain ⟨Q, rfl⟩ : ∃ Q : Nat, q = (Q : Int) := ⟨q.toNat, by omega⟩
      have hof := okD_frame hod hr.2
      obtain ⟨⟨h1, h2⟩, hw, hp⟩ := okD_whole hof
      replace h1 : d.1.length ≤ 2000 := h1
      have hf := Whole.flush hw (fun i hi => (hp i hi).2.2) _ (Nat.le_refl _)
      rw [List.take_length] at hf
      refine ⟨?_, ?_, ?_⟩
      · show (flushS d.1 _).length ≤ _
        rw [flushS_length]; omega
      · show lenBB (flushS d.1 _) ≤ _
        simp only [Int.toNat_natCast]
        rw [lenBB_whole hf, flushS_length]; show 32 * d.1.length ≤ _; omega
      · simp [lenWs]
    · exact hs
  · exact ⟨by simp, by simp [lenBB], by simp [lenWs]⟩
theorem KwG.rd {w : World} {l h b : Nat} {v : Value} {ws : List Wt} (o : KwG w l h b v ws) : RdWs w l h v ws := o.e.rd

set_option maxRecDepth 100000 in
set_option maxHeartbeats 8000000 in
theorem specAppend_all (v : Value) (j : Jn) (l h : Nat) (sv : Value) (zs : List Int) (lz hz : Nat) (w : World) (r : RdJ w l h v j) (hh : h ≤ w.heap.size) (rz : RdB w lz hz sv zs) (hhz : hz ≤ w.heap.size) (hsm : Small j.1) :
    Calls Tryd.prog 20 #[v, sv] w fun e w' => ∃ u, e = .returned (.tuple #[u, .bool (appendJ j zs).2]) ∧ RdJ w' w.heap.size w'.heap.size u (appendJ j zs).1 ∧ Below w.heap.size w w' := by
  obtain ⟨xa, xn, xc, ya, yn, yc, rfl, r1⟩ := r.open
  clear r
  obtain ⟨sa, sn, sc, rfl⟩ := rz.sliced
  obtain ⟨d, p, q⟩ := j
  have HSN : Hid (sn = zs.length ∧ sn ≤ 9223372036854775807) := by
    obtain ⟨_, a', n', c', he, hl, hh, _⟩ := rz
    simp only [Value.slice.injEq] at he
    obtain ⟨rfl, rfl, rfl⟩ := he
    exact ⟨hl, by have := hh.1; have := hh.2.1; unfold maxLen at this; omega⟩
  have hsnm := HSN.out.2
  have b0 := Below.new (w := w) (.cells #[.slice xa xn xc, .slice ya yn yc, .int .i64 p, .int .i64 q] 30)
  have v0 := VarJ.new (T := 30) w (.slice xa xn xc) (.slice ya yn yc) p q
  generalize hw0 : w.alloc (.cells #[.slice xa xn xc, .slice ya yn yc, .int .i64 p, .int .i64 q] 30) = w0 at b0 v0
  have s0 : w0.heap.size = w.heap.size + 1 := by rw [← hw0]; simp
  have b1 := Below.new (w := w0) (.cells #[.slice none 0 0, .slice none 0 0, .int .i64 0, .int .i64 0] 30)
  have vR := VarJ.new (T := 30) w0 (.slice none 0 0) (.slice none 0 0) 0 0
  rw [s0] at vR
  have v1 := v0.step b1
  generalize hw1 : w0.alloc (.cells #[.slice none 0 0, .slice none 0 0, .int .i64 0, .int .i64 0] 30) = w1 at b1 vR v1
  have B1 : Below w.heap.size w w1 := b0.trans (b1.mono (by omega))
  have sR := vR.lt
  have HW : Hid ((w.alloc (.cells #[.slice xa xn xc, .slice ya yn yc, .int .i64 p, .int .i64 q] 30)).alloc (.cells #[.slice none 0 0, .slice none 0 0, .int .i64 0, .int .i64 0] 30) = w1) := by show _ = _; rw [hw0, hw1]
  have r2 : RdJ w1 l h (.agg #[.slice xa xn xc, .slice ya yn yc, .int .i64 p, .int .i64 q]) (d, p, q) := ⟨_, _, rfl, r1.step hh B1⟩
  have HJK : Hid _ := jok_any _ (d, p, q) l h w1 r2 (by omega)
  have HRD : Hid (∀ W, Below w.heap.size w W → RdD W l h (.agg #[.slice xa xn xc, .slice ya yn yc]) d) := fun W hW => r1.step hh hW
  have HRZ : Hid (∀ W, Below w.heap.size w W → RdB W lz hz (.slice sa sn sc) zs) := fun W hW => rz.same (SameIn.ofBelow hW hhz)
  have HV1 : Hid (VarJ _ w1 w.heap.size _ _ _ _) := v1
  have HVR : Hid (VarJ _ w1 (w.heap.size + 1) _ _ _ _) := vR
  have HB1 : Hid (Below w.heap.size w w1) := B1
  have HSM : Hid (Small d) := hsm
  have c0 := v1.c0
  have c1 := v1.c1
  have c2 := v1.c2
  have c3 := v1.c3
  clear hw0 hw1 r1 r2 b0 v0 b1 vR v1 B1 s0 hsm rz
  by_cases hok : okJ (d, p, q) = true
  case neg =>
    have hok' : okJ (d, p, q) = false := by simpa using hok
    have hap : appendJ (d, p, q) zs = ((([], []), 0, 0), false) := by unfold appendJ; rw [if_neg hok]
    rw [hok'] at HJK
    rw [hap]
    clear hok hok' hap
    go_enter Tryd.func20, Tryd.ntmps20
    go_wp2_with (rw [HW.out])
    refine Calls.mono HJK.out ?_
    rintro e w2 ⟨rfl, b2⟩
    have vR2 := VarJ.step HVR.out b2
    have e0 := vR2.c0
    have e1 := vR2.c1
    have e2 := vR2.c2
    have e3 := vR2.c3
    have f0 := vR2.f 0
    have f1 := vR2.f 1
    have f2 := vR2.f 2
    have f3 := vR2.f 3
    have HB2 : Hid (Below w.heap.size w w2) := HB1.out.trans (b2.mono HB1.out.size)
    clear b2 vR2 HV1 HVR HB1 c0 c1 c2 c3 HJK
    go_wp2
    refine bodyPost_ret (v := .tuple #[.agg #[.slice none 0 0, .slice none 0 0, .int .i64 0, .int .i64 0], .bool false]) (by simp [results, Tryd.results20, go_sem, e0, e1, e2, e3]) rfl ⟨_, rfl, RdJ_nil _ _ _, ?_⟩
    have s : ∀ (W : World) (b i : Nat) (z : Value), w.heap.size ≤ b → Below w.heap.size w W → Below w.heap.size w (W.setCell ⟨b, i, none⟩ z) := fun W b i z hb hW => hW.setCell hb z
    repeat (refine s _ _ _ _ (by omega) ?_)
    exact HB2.out
  have hok2 := hok
  unfold okJ at hok2
  simp only [Bool.and_eq_true, decide_eq_true_eq] at hok2
  obtain ⟨⟨⟨⟨hod, hp0⟩, hp1⟩, hq0⟩, hq1⟩ := hok2
  obtain ⟨P, rfl⟩ : ∃ P : Nat, p = (P : Int) := ⟨p.toNat, by omega⟩
  obtain ⟨Q, rfl⟩ : ∃ Q : Nat, q = (Q : Int) := ⟨q.toNat, by omega⟩
  obtain ⟨⟨hn2, hm2⟩, hwh, _⟩ := okD_whole hod
  have hap : appendJ (d, (P : Int), (Q : Int)) zs = if zs.length ≤ 200 ∧ roomJ (d, (P : Int), (Q : Int)) zs = true then (((flushS d.1 (d.2 ++ frameW P (frameN Q zs)), []), (P : Int) + (manyN zs.length : Int), (Q : Int) + 1), true) else ((d, (P : Int), (Q : Int)), false) := by
    unfold appendJ; rw [if_pos hok]; simp only [Int.toNat_natCast]
  rw [hok] at HJK
  have HOD : Hid (okD d = true) := hod
  have HWH : Hid (Whole d.1) := hwh
  have hPd : P ≤ d.1.length := by have h9 : (P : Int) ≤ (d.1.length : Int) := hp1; omega
  have hQ6 : Q ≤ 60000 := by have h9 : (Q : Int) ≤ 60000 := hq1; omega
  have hof : roomJ (d, (P : Int), (Q : Int)) zs = true → okD (d.1, d.2 ++ frameW P (frameN Q zs)) = true := fun hr => okD_frame hod hr
  have HOF : Hid _ := hof
  have hw3 := write3_any (zs := zs) (d := d) (p := P) (q := Q)
  have HW3 : Hid _ := hw3
  generalize roomJ (d, (P : Int), (Q : Int)) zs = room at HOF HW3 hap
  clear hok hod hwh hp0 hp1 hq0 hq1 hof hw3
  by_cases h200 : zs.length ≤ 200
  case neg =>
    rw [if_neg (fun hc => h200 hc.1)] at hap
    rw [hap]
    clear hap
    go_enter Tryd.func20, Tryd.ntmps20
    go_wp2_with (rw [HW.out])
    refine Calls.mono HJK.out ?_
    rintro e w2 ⟨rfl, b2⟩
    have vA := VarJ.step HV1.out b2
    have vR2 := VarJ.step HVR.out b2
    have B2 := HB1.out.trans (b2.mono HB1.out.size)
    have s2 := b2.size
    have c0 := vA.c0
    have c1 := vA.c1
    have c2 := vA.c2
    have c3 := vA.c3
    have HVA : Hid (VarJ _ w2 w.heap.size _ _ _ _) := vA
    have HVR2 : Hid (VarJ _ w2 (w.heap.size + 1) _ _ _ _) := vR2
    have HB2 : Hid (Below w.heap.size w w2) := B2
    have HCP : Hid (∀ W, Below w2.heap.size w2 W → _) := fun W hW => specCopy_any _ d l h W (HRD.out _ (B2.trans (hW.mono B2.size))) (by have := hW.size; omega) HSM.out
    clear b2 B2 vA vR2 HV1 HVR HB1 HJK
    go_wp2
    refine wp_region_noPanic ?_
    refine wp_region_held_drew (S := fun w' => w'.cell? ⟨w.heap.size, 0, none⟩ = some (.slice xa xn xc) ∧ w'.cell? ⟨w.heap.size, 1, none⟩ = some (.slice ya yn yc) ∧ w'.cell? ⟨w.heap.size, 2, none⟩ = some (.int .i64 (P : Int)) ∧ w'.cell? ⟨w.heap.size, 3, none⟩ = some (.int .i64 (Q : Int))) (by kernel_rfl) ⟨c0, c1, c2, c3⟩ (fun hHeld => ?_)
    refine wpAnyH_take (i := 0) (v := ?_) rfl (by kernel_rfl) (by kernel_rfl) (by kernel_rfl) (fun _ _ _ h => h) (Or.inl ⟨by rfl, ?_⟩) (by assumption) ?_
    rotate_left
    · (intro w_ hSw_; (try dsimp only at hSw_); go_simp; try with_reducible rfl)
    try simp only [Act.put, List.setIfInBounds_toArray, List.set_cons_zero, List.set_cons_succ, List.getElem_toArray, List.getElem_cons_zero, List.getElem_cons_succ]
    refine wpAnyH_take (i := 1) (v := ?_) rfl (by kernel_rfl) (by kernel_rfl) (by kernel_rfl) (fun _ _ _ h => h) (Or.inl ⟨by rfl, ?_⟩) (by assumption) ?_
    rotate_left
    · (intro w_ hSw_; (try dsimp only at hSw_); go_simp; try with_reducible rfl)
    try simp only [Act.put, List.setIfInBounds_toArray, List.set_cons_zero, List.set_cons_succ, List.getElem_toArray, List.getElem_cons_zero, List.getElem_cons_succ]
    refine wpAnyH_take (i := 3) (v := ?_) rfl (by kernel_rfl) (by kernel_rfl) (by kernel_rfl) (fun _ _ _ h => h) (Or.inl ⟨by rfl, ?_⟩) (by assumption) ?_
    rotate_left
    · (intro w_ hSw_; (try dsimp only at hSw_); go_simp; try with_reducible rfl)
    try simp only [Act.put, List.setIfInBounds_toArray, List.set_cons_zero, List.set_cons_succ, List.getElem_toArray, List.getElem_cons_zero, List.getElem_cons_succ]
    refine wpAnyH_take (i := 4) (v := ?_) rfl (by kernel_rfl) (by kernel_rfl) (by kernel_rfl) (fun _ _ _ h => h) (Or.inl ⟨by rfl, ?_⟩) (by assumption) ?_
    rotate_left
    · (intro w_ hSw_; (try dsimp only at hSw_); go_simp; try with_reducible rfl)
    try simp only [Act.put, List.setIfInBounds_toArray, List.set_cons_zero, List.set_cons_succ, List.getElem_toArray, List.getElem_cons_zero, List.getElem_cons_succ]
    refine wpAnyH_take (i := 5) (v := ?_) rfl (by kernel_rfl) (by kernel_rfl) (by kernel_rfl) (fun _ _ _ h => h) (Or.inl ⟨by rfl, ?_⟩) (by assumption) ?_
    rotate_left
    · (intro w_ hSw_; (try dsimp only at hSw_); go_simp; try with_reducible rfl)
    try simp only [Act.put, List.setIfInBounds_toArray, List.set_cons_zero, List.set_cons_succ, List.getElem_toArray, List.getElem_cons_zero, List.getElem_cons_succ]
    refine wpAnyH_take (i := 6) (v := ?_) rfl (by kernel_rfl) (by kernel_rfl) (by kernel_rfl) (fun _ _ _ h => h) (Or.inl ⟨by rfl, ?_⟩) (by assumption) ?_
    rotate_left
    · (intro w_ hSw_; (try dsimp only at hSw_); go_simp; try with_reducible rfl)
    try simp only [Act.put, List.setIfInBounds_toArray, List.set_cons_zero, List.set_cons_succ, List.getElem_toArray, List.getElem_cons_zero, List.getElem_cons_succ]
    refine wpAnyH_ready (rs := [2, 8]) (by kernel_rfl) (by simp) ?_
    refine AllReadyH.cons rfl (fun K hK => ?_) ?_
    · go_simp
      refine Calls.mono (HCP.out _ (Below.drew (Below.refl _ _))) ?_
      rintro e w3 ⟨x, y, H, rfl, oX, oY, hH, b3_⟩
      obtain ⟨ca, cc, rfl⟩ := oX.sliced
      obtain ⟨da, dn, dc, rfl⟩ := oY.rd.sliced
      have b3 : Below w2.heap.size w2 w3 := (Below.drew (Below.refl _ _)).trans b3_
      have s3 := b3.size
      have VA3 := VarJ.step HVA.out b3
      go_wp2_with fail
      have t0 := VA3.c0
      have t1 := VA3.c1
      have t2 := VA3.c2
      have t3 := VA3.c3
      refine hK.out _ _ ⟨t0, t1, t2, t3⟩ (fun hHeld => ?_)
      clear hK K
      try simp only [Act.put, List.setIfInBounds_toArray, List.set_cons_zero, List.set_cons_succ, List.getElem_toArray, List.getElem_cons_zero, List.getElem_cons_succ]
      refine wpAnyH_take (i := 7) (v := ?_) rfl (by kernel_rfl) (by kernel_rfl) (by kernel_rfl) (fun _ _ _ h => h) (Or.inl ⟨by rfl, ?_⟩) (by assumption) ?_
      rotate_left
      · (intro w_ hSw_; (try dsimp only at hSw_); go_simp; try with_reducible rfl)
      try simp only [Act.put, List.setIfInBounds_toArray, List.set_cons_zero, List.set_cons_succ, List.getElem_toArray, List.getElem_cons_zero, List.getElem_cons_succ]
      refine wpAnyH_ready (rs := [8]) (by kernel_rfl) (by simp) ?_
      refine AllReadyH.cons rfl (fun K hK => ?_) AllReadyH.nil
      go_simp
      have b4 := Below.new (w := w3) (.cells #[.slice none 0 0, .slice none 0 0, .int .i64 0, .int .i64 0] 30)
      have VB4 := VarJ.new (T := 30) w3 (.slice none 0 0) (.slice none 0 0) 0 0
      have VA4 := VA3.step b4
      have g0 := VB4.f 0
      have g1 := VB4.f 1
      have g2 := VB4.f 2
      have g3 := VB4.f 3
      have h0_ := VB4.c0
      have h1_ := VB4.c1
      have h2_ := VB4.c2
      have h3_ := VB4.c3
      have u0 := VA4.c0
      have u1 := VA4.c1
      have u2 := VA4.c2
      have u3 := VA4.c3
      refine hK.out _ _ ⟨u0, u1, u2, u3⟩ (fun hHeld => ?_)
      clear hK K
      try simp only [Act.put, List.setIfInBounds_toArray, List.set_cons_zero, List.set_cons_succ, List.getElem_toArray, List.getElem_cons_zero, List.getElem_cons_succ]
      refine wpAnyH_ready (rs := [9]) (by kernel_rfl) (by simp) ?_
      refine AllReadyH.cons rfl (fun K hK => ?_) AllReadyH.nil
      go_simp
      have VB9 := VarJ.new (T := 30) w3 (.slice ca d.1.length cc) (.slice da dn dc) (P : Int) (Q : Int)
      have b9n := Below.new (w := w3) (.cells #[.slice ca d.1.length cc, .slice da dn dc, .int .i64 (P : Int), .int .i64 (Q : Int)] 30)
      have VA9 := VA3.step b9n
      have y0 := VA9.c0
      have y1 := VA9.c1
      have y2 := VA9.c2
      have y3 := VA9.c3
      refine hK.out _ _ ⟨y0, y1, y2, y3⟩ (fun hHeld => ?_)
      clear hK K
      try simp only [Act.put, List.setIfInBounds_toArray, List.set_cons_zero, List.set_cons_succ, List.getElem_toArray, List.getElem_cons_zero, List.getElem_cons_succ]
      refine wpAnyH_done (by kernel_rfl) (NoPanic.normal ?_) _
      have KX := ((oX.kpe (b := w3.heap.size) hH.2 HWH.out).low (l' := w2.heap.size) (Nat.le_refl _)).keep (w' := (w3.alloc (.cells #[.slice ca d.1.length cc, .slice da dn dc, .int .i64 (P : Int), .int .i64 (Q : Int)] 30))) (fun g _ h2 h3 => b9n.block g (by omega))
      have KY := ((oY.kwg (b := w3.heap.size) (Nat.le_refl _)).keep (w' := (w3.alloc (.cells #[.slice ca d.1.length cc, .slice da dn dc, .int .i64 (P : Int), .int .i64 (Q : Int)] 30))) (fun g _ h2 h3 => b9n.block g h2)).up (h' := (w3.alloc (.cells #[.slice ca d.1.length cc, .slice da dn dc, .int .i64 (P : Int), .int .i64 (Q : Int)] 30)).heap.size) (by simp)
      have B9 : Below w2.heap.size w2 (w3.alloc (.cells #[.slice ca d.1.length cc, .slice da dn dc, .int .i64 (P : Int), .int .i64 (Q : Int)] 30)) := b3.trans (b9n.mono s3)
      have hb9 : w2.heap.size ≤ w3.heap.size := by omega
      have hHs : w2.heap.size ≤ H := hH.1
      have hHe : H ≤ (w3.alloc (.cells #[.slice ca d.1.length cc, .slice da dn dc, .int .i64 (P : Int), .int .i64 (Q : Int)] 30)).heap.size := by have := hH.2; simp; omega
      generalize (w3.alloc (.cells #[.slice ca d.1.length cc, .slice da dn dc, .int .i64 (P : Int), .int .i64 (Q : Int)] 30)) = w9 at KX KY B9 VB9 VA9 hHe hHeld ⊢
      clear oX oY b3 b3_ b4 VA3 VA4 VB4 b9n hH t0 t1 t2 t3 u0 u1 u2 u3 y0 y1 y2 y3 g0 h0_ g1 h1_ g2 h2_ g3 h3_ c0 c1 c2 c3 HCP hHeld
      have hbb := VB9.lt
      have hsz9 := B9.size
      have HB9 : Hid (Below w.heap.size w w9) := HB2.out.trans (B9.mono HB2.out.size)
      have VR9 := VarJ.step HVR2.out B9
      have HVR9 : Hid (VarJ 30 w9 (w.heap.size + 1) (.slice none 0 0) (.slice none 0 0) 0 0) := VR9
      have hbR : w.heap.size + 1 < w2.heap.size := by omega
      obtain ⟨bb, hbbe⟩ : ∃ bb, bb = w3.heap.size := ⟨_, rfl⟩
      have HVB : Hid (VarJ 30 w9 bb (.slice ca d.1.length cc) (.slice da dn dc) (P : Int) (Q : Int)) := by rw [hbbe]; exact VB9
      have HKX : Hid (KpE w9 w2.heap.size H bb (.slice ca d.1.length cc) d.1) := by rw [hbbe]; exact KX
      have HKY : Hid (KwG w9 H w9.heap.size bb (.slice da dn dc) d.2) := by rw [hbbe]; exact KY
      have hb9' : w2.heap.size ≤ bb := by rw [hbbe]; exact hb9
      clear hb9
      rw [← hbbe]
      have hb9 := hb9'
      clear hb9'
      have HB92 : Hid (Below w2.heap.size w2 w9) := B9
      clear KX KY VB9 VA9 B9 VR9 hbbe HVA HVR2 hbb
      have HRET : Hid (∀ (W : World) (b i : Nat) (z : Value), w.heap.size ≤ b → Below w.heap.size w W → Below w.heap.size w (W.setCell ⟨b, i, none⟩ z)) := fun W b i z hb hW => hW.setCell hb z
      have HSAM : Hid (∀ (W : World) (k i : Nat) (z : Value), SameIn w2.heap.size k W (W.setCell ⟨w.heap.size + 1, i, none⟩ z)) := fun W k i z => SameIn.set (p := ⟨w.heap.size + 1, i, none⟩) (.inl (by show w.heap.size + 1 < _; omega))
      have hd2 : decide ((200 : Int) < (sn : Int)) = true := by have := HSN.out.1; simp; omega
      have o0 := VarJ.c0 HVB.out
      have o1 := VarJ.c1 HVB.out
      have o2 := VarJ.c2 HVB.out
      have o3 := VarJ.c3 HVB.out
      have e0 := VarJ.c0 HVR9.out
      have e1 := VarJ.c1 HVR9.out
      have e2 := VarJ.c2 HVR9.out
      have e3 := VarJ.c3 HVR9.out
      have f0 := VarJ.f HVR9.out 0
      have f1 := VarJ.f HVR9.out 1
      have f2 := VarJ.f HVR9.out 2
      have f3 := VarJ.f HVR9.out 3
      go_wp2
      refine bodyPost_ret (v := .tuple #[.agg #[.slice ca d.1.length cc, .slice da dn dc, .int .i64 (P : Int), .int .i64 (Q : Int)], .bool false]) (by simp [results, Tryd.results20, go_sem, e0, e1, e2, e3]) rfl ⟨_, rfl, ?_, ?_⟩
      · have hrd : RdD w9 w2.heap.size w9.heap.size (.agg #[.slice ca d.1.length cc, .slice da dn dc]) d := ⟨_, _, rfl, (KpE.rd HKX.out).wide (Nat.le_refl _) hHe, (KwG.rd HKY.out).wide hHs (Nat.le_refl _)⟩
        refine ⟨_, _, rfl, (hrd.same ?_).wide (by omega) (by simp)⟩
        repeat (refine SameIn.trans ?_ (HSAM.out _ _ _ _))
        exact SameIn.refl _ _ _
      · repeat (refine HRET.out _ _ _ _ (by omega) ?_)
        exact HB9.out
    refine AllReadyH.cons rfl (fun K hK => ?_) AllReadyH.nil
    go_simp
    have b4 : Below w2.heap.size w2 (w2.alloc (.cells #[.slice none 0 0, .slice none 0 0, .int .i64 0, .int .i64 0] 30)).drew := ((Below.refl _ _).alloc (Nat.le_refl _) _).drew
    have VB3 : VarJ 30 (w2.alloc (.cells #[.slice none 0 0, .slice none 0 0, .int .i64 0, .int .i64 0] 30)).drew w2.heap.size (.slice none 0 0) (.slice none 0 0) 0 0 := heap_alloc_new w2 _
    have VA3 := VarJ.step HVA.out b4
    have sz4 : (w2.alloc (.cells #[.slice none 0 0, .slice none 0 0, .int .i64 0, .int .i64 0] 30)).drew.heap.size = w2.heap.size + 1 := by show (w2.alloc (.cells #[.slice none 0 0, .slice none 0 0, .int .i64 0, .int .i64 0] 30)).heap.size = _; simp
    have u0 := VA3.c0
    have u1 := VA3.c1
    have u2 := VA3.c2
    have u3 := VA3.c3
    refine hK.out _ _ ⟨u0, u1, u2, u3⟩ (fun hHeld => ?_)
    clear hK K
    try simp only [Act.put, List.setIfInBounds_toArray, List.set_cons_zero, List.set_cons_succ, List.getElem_toArray, List.getElem_cons_zero, List.getElem_cons_succ]
    refine wpAnyH_ready (rs := [2]) (by kernel_rfl) (by simp) ?_
    refine AllReadyH.cons rfl (fun K hK => ?_) AllReadyH.nil
    go_simp
    refine Calls.mono (HCP.out _ b4) ?_
    rintro e w3 ⟨x, y, H, rfl, oX, oY, hH, b3_⟩
    obtain ⟨ca, cc, rfl⟩ := oX.sliced
    obtain ⟨da, dn, dc, rfl⟩ := oY.rd.sliced
    have b3 : Below w2.heap.size w2 w3 := b4.trans (b3_.mono b4.size)
    have s3 := b3_.size
    have VA4 := VarJ.step HVA.out b3
    have VB4 := VB3.step b3_
    have g0 := VB4.f 0
    have g1 := VB4.f 1
    have g2 := VB4.f 2
    have g3 := VB4.f 3
    have h0_ := VB4.c0
    have h1_ := VB4.c1
    have h2_ := VB4.c2
    have h3_ := VB4.c3
    go_wp2_with fail
    have t0 := VA4.c0
    have t1 := VA4.c1
    have t2 := VA4.c2
    have t3 := VA4.c3
    refine hK.out _ _ ⟨t0, t1, t2, t3⟩ (fun hHeld => ?_)
    clear hK K
    try simp only [Act.put, List.setIfInBounds_toArray, List.set_cons_zero, List.set_cons_succ, List.getElem_toArray, List.getElem_cons_zero, List.getElem_cons_succ]
    refine wpAnyH_take (i := 7) (v := ?_) rfl (by kernel_rfl) (by kernel_rfl) (by kernel_rfl) (fun _ _ _ h => h) (Or.inl ⟨by rfl, ?_⟩) (by assumption) ?_
    rotate_left
    · (intro w_ hSw_; (try dsimp only at hSw_); go_simp; try with_reducible rfl)
    try simp only [Act.put, List.setIfInBounds_toArray, List.set_cons_zero, List.set_cons_succ, List.getElem_toArray, List.getElem_cons_zero, List.getElem_cons_succ]
    refine wpAnyH_ready (rs := [9]) (by kernel_rfl) (by simp) ?_
    refine AllReadyH.cons rfl (fun K hK => ?_) AllReadyH.nil
    go_simp
    have VB9 := (((VB4.set0 (.slice ca d.1.length cc)).set1 (.slice da dn dc)).set2 (P : Int)).set3 (Q : Int)
    have hst : ∀ g, g ≠ w2.heap.size → ((((w3.setCell ⟨w2.heap.size, 0, none⟩ (.slice ca d.1.length cc)).setCell ⟨w2.heap.size, 1, none⟩ (.slice da dn dc)).setCell ⟨w2.heap.size, 2, none⟩ (.int .i64 (P : Int))).setCell ⟨w2.heap.size, 3, none⟩ (.int .i64 (Q : Int))).heap[g]? = w3.heap[g]? := fun g hg => (heap_setCell_other _ _ _ _ hg).trans ((heap_setCell_other _ _ _ _ hg).trans ((heap_setCell_other _ _ _ _ hg).trans (heap_setCell_other _ _ _ _ hg)))
    have VA9 : VarJ 30 ((((w3.setCell ⟨w2.heap.size, 0, none⟩ (.slice ca d.1.length cc)).setCell ⟨w2.heap.size, 1, none⟩ (.slice da dn dc)).setCell ⟨w2.heap.size, 2, none⟩ (.int .i64 (P : Int))).setCell ⟨w2.heap.size, 3, none⟩ (.int .i64 (Q : Int))) w.heap.size _ _ _ _ := (hst _ (by omega)).trans VA4
    have y0 := VA9.c0
    have y1 := VA9.c1
    have y2 := VA9.c2
    have y3 := VA9.c3
    refine hK.out _ _ ⟨y0, y1, y2, y3⟩ (fun hHeld => ?_)
    clear hK K
    try simp only [Act.put, List.setIfInBounds_toArray, List.set_cons_zero, List.set_cons_succ, List.getElem_toArray, List.getElem_cons_zero, List.getElem_cons_succ]
    refine wpAnyH_done (by kernel_rfl) (NoPanic.normal ?_) _
    have KX := ((oX.kpeL (b := w2.heap.size) (by rw [sz4]; omega) HWH.out).low (l' := w2.heap.size) (by rw [sz4]; omega)).keep (w' := ((((w3.setCell ⟨w2.heap.size, 0, none⟩ (.slice ca d.1.length cc)).setCell ⟨w2.heap.size, 1, none⟩ (.slice da dn dc)).setCell ⟨w2.heap.size, 2, none⟩ (.int .i64 (P : Int))).setCell ⟨w2.heap.size, 3, none⟩ (.int .i64 (Q : Int)))) (fun g _ _ h3 => hst g h3)
    have KY := ((oY.kwgL (b := w2.heap.size) (by have := hH.1; rw [sz4] at this; omega)).keep (w' := ((((w3.setCell ⟨w2.heap.size, 0, none⟩ (.slice ca d.1.length cc)).setCell ⟨w2.heap.size, 1, none⟩ (.slice da dn dc)).setCell ⟨w2.heap.size, 2, none⟩ (.int .i64 (P : Int))).setCell ⟨w2.heap.size, 3, none⟩ (.int .i64 (Q : Int)))) (fun g _ _ h3 => hst g h3)).up (h' := ((((w3.setCell ⟨w2.heap.size, 0, none⟩ (.slice ca d.1.length cc)).setCell ⟨w2.heap.size, 1, none⟩ (.slice da dn dc)).setCell ⟨w2.heap.size, 2, none⟩ (.int .i64 (P : Int))).setCell ⟨w2.heap.size, 3, none⟩ (.int .i64 (Q : Int))).heap.size) (by simp)
    have B9 : Below w2.heap.size w2 ((((w3.setCell ⟨w2.heap.size, 0, none⟩ (.slice ca d.1.length cc)).setCell ⟨w2.heap.size, 1, none⟩ (.slice da dn dc)).setCell ⟨w2.heap.size, 2, none⟩ (.int .i64 (P : Int))).setCell ⟨w2.heap.size, 3, none⟩ (.int .i64 (Q : Int))) := (((b3.setCell (Nat.le_refl _) _).setCell (Nat.le_refl _) _).setCell (Nat.le_refl _) _).setCell (Nat.le_refl _) _
    have hb9 : w2.heap.size ≤ w2.heap.size := by omega
    have hHs : w2.heap.size ≤ H := by have := hH.1; rw [sz4] at this; omega
    have hHe : H ≤ ((((w3.setCell ⟨w2.heap.size, 0, none⟩ (.slice ca d.1.length cc)).setCell ⟨w2.heap.size, 1, none⟩ (.slice da dn dc)).setCell ⟨w2.heap.size, 2, none⟩ (.int .i64 (P : Int))).setCell ⟨w2.heap.size, 3, none⟩ (.int .i64 (Q : Int))).heap.size := by have := hH.2; simp; omega
    generalize ((((w3.setCell ⟨w2.heap.size, 0, none⟩ (.slice ca d.1.length cc)).setCell ⟨w2.heap.size, 1, none⟩ (.slice da dn dc)).setCell ⟨w2.heap.size, 2, none⟩ (.int .i64 (P : Int))).setCell ⟨w2.heap.size, 3, none⟩ (.int .i64 (Q : Int))) = w9 at KX KY B9 VB9 VA9 hHe hHeld ⊢
    clear oX oY b3 b3_ b4 VA3 VA4 VB4 hst VB3 sz4 hH t0 t1 t2 t3 u0 u1 u2 u3 y0 y1 y2 y3 g0 h0_ g1 h1_ g2 h2_ g3 h3_ c0 c1 c2 c3 HCP hHeld
    have hbb := VB9.lt
    have hsz9 := B9.size
    have HB9 : Hid (Below w.heap.size w w9) := HB2.out.trans (B9.mono HB2.out.size)
    have VR9 := VarJ.step HVR2.out B9
    have HVR9 : Hid (VarJ 30 w9 (w.heap.size + 1) (.slice none 0 0) (.slice none 0 0) 0 0) := VR9
    have hbR : w.heap.size + 1 < w2.heap.size := by omega
    obtain ⟨bb, hbbe⟩ : ∃ bb, bb = w2.heap.size := ⟨_, rfl⟩
    have HVB : Hid (VarJ 30 w9 bb (.slice ca d.1.length cc) (.slice da dn dc) (P : Int) (Q : Int)) := by rw [hbbe]; exact VB9
    have HKX : Hid (KpE w9 w2.heap.size H bb (.slice ca d.1.length cc) d.1) := by rw [hbbe]; exact KX
    have HKY : Hid (KwG w9 H w9.heap.size bb (.slice da dn dc) d.2) := by rw [hbbe]; exact KY
    have hb9' : w2.heap.size ≤ bb := by rw [hbbe]; exact hb9
    clear hb9
    rw [← hbbe]
    have hb9 := hb9'
    clear hb9'
    have HB92 : Hid (Below w2.heap.size w2 w9) := B9
    clear KX KY VB9 VA9 B9 VR9 hbbe HVA HVR2 hbb
    have HRET : Hid (∀ (W : World) (b i : Nat) (z : Value), w.heap.size ≤ b → Below w.heap.size w W → Below w.heap.size w (W.setCell ⟨b, i, none⟩ z)) := fun W b i z hb hW => hW.setCell hb z
    have HSAM : Hid (∀ (W : World) (k i : Nat) (z : Value), SameIn w2.heap.size k W (W.setCell ⟨w.heap.size + 1, i, none⟩ z)) := fun W k i z => SameIn.set (p := ⟨w.heap.size + 1, i, none⟩) (.inl (by show w.heap.size + 1 < _; omega))
    have hd2 : decide ((200 : Int) < (sn : Int)) = true := by have := HSN.out.1; simp; omega
    have o0 := VarJ.c0 HVB.out
    have o1 := VarJ.c1 HVB.out
    have o2 := VarJ.c2 HVB.out
    have o3 := VarJ.c3 HVB.out
    have e0 := VarJ.c0 HVR9.out
    have e1 := VarJ.c1 HVR9.out
    have e2 := VarJ.c2 HVR9.out
    have e3 := VarJ.c3 HVR9.out
    have f0 := VarJ.f HVR9.out 0
    have f1 := VarJ.f HVR9.out 1
    have f2 := VarJ.f HVR9.out 2
    have f3 := VarJ.f HVR9.out 3
    go_wp2
    refine bodyPost_ret (v := .tuple #[.agg #[.slice ca d.1.length cc, .slice da dn dc, .int .i64 (P : Int), .int .i64 (Q : Int)], .bool false]) (by simp [results, Tryd.results20, go_sem, e0, e1, e2, e3]) rfl ⟨_, rfl, ?_, ?_⟩
    · have hrd : RdD w9 w2.heap.size w9.heap.size (.agg #[.slice ca d.1.length cc, .slice da dn dc]) d := ⟨_, _, rfl, (KpE.rd HKX.out).wide (Nat.le_refl _) hHe, (KwG.rd HKY.out).wide hHs (Nat.le_refl _)⟩
      refine ⟨_, _, rfl, (hrd.same ?_).wide (by omega) (by simp)⟩
      repeat (refine SameIn.trans ?_ (HSAM.out _ _ _ _))
      exact SameIn.refl _ _ _
    · repeat (refine HRET.out _ _ _ _ (by omega) ?_)
      exact HB9.out
  cases room with
  | false =>
    rw [if_neg (fun hc => by cases hc.2)] at hap
    rw [hap]
    clear hap
    go_enter Tryd.func20, Tryd.ntmps20
    go_wp2_with (rw [HW.out])
    refine Calls.mono HJK.out ?_
    rintro e w2 ⟨rfl, b2⟩
    have vA := VarJ.step HV1.out b2
    have vR2 := VarJ.step HVR.out b2
    have B2 := HB1.out.trans (b2.mono HB1.out.size)
    have s2 := b2.size
    have c0 := vA.c0
    have c1 := vA.c1
    have c2 := vA.c2
    have c3 := vA.c3
    have HVA : Hid (VarJ _ w2 w.heap.size _ _ _ _) := vA
    have HVR2 : Hid (VarJ _ w2 (w.heap.size + 1) _ _ _ _) := vR2
    have HB2 : Hid (Below w.heap.size w w2) := B2
    have HCP : Hid (∀ W, Below w2.heap.size w2 W → _) := fun W hW => specCopy_any _ d l h W (HRD.out _ (B2.trans (hW.mono B2.size))) (by have := hW.size; omega) HSM.out
    clear b2 B2 vA vR2 HV1 HVR HB1 HJK
    go_wp2
    refine wp_region_noPanic ?_
    refine wp_region_held_drew (S := fun w' => w'.cell? ⟨w.heap.size, 0, none⟩ = some (.slice xa xn xc) ∧ w'.cell? ⟨w.heap.size, 1, none⟩ = some (.slice ya yn yc) ∧ w'.cell? ⟨w.heap.size, 2, none⟩ = some (.int .i64 (P : Int)) ∧ w'.cell? ⟨w.heap.size, 3, none⟩ = some (.int .i64 (Q : Int))) (by kernel_rfl) ⟨c0, c1, c2, c3⟩ (fun hHeld => ?_)
    refine wpAnyH_take (i := 0) (v := ?_) rfl (by kernel_rfl) (by kernel_rfl) (by kernel_rfl) (fun _ _ _ h => h) (Or.inl ⟨by rfl, ?_⟩) (by assumption) ?_
    rotate_left
    · (intro w_ hSw_; (try dsimp only at hSw_); go_simp; try with_reducible rfl)
    try simp only [Act.put, List.setIfInBounds_toArray, List.set_cons_zero, List.set_cons_succ, List.getElem_toArray, List.getElem_cons_zero, List.getElem_cons_succ]
    refine wpAnyH_take (i := 1) (v := ?_) rfl (by kernel_rfl) (by kernel_rfl) (by kernel_rfl) (fun _ _ _ h => h) (Or.inl ⟨by rfl, ?_⟩) (by assumption) ?_
    rotate_left
    · (intro w_ hSw_; (try dsimp only at hSw_); go_simp; try with_reducible rfl)
    try simp only [Act.put, List.setIfInBounds_toArray, List.set_cons_zero, List.set_cons_succ, List.getElem_toArray, List.getElem_cons_zero, List.getElem_cons_succ]
    refine wpAnyH_take (i := 3) (v := ?_) rfl (by kernel_rfl) (by kernel_rfl) (by kernel_rfl) (fun _ _ _ h => h) (Or.inl ⟨by rfl, ?_⟩) (by assumption) ?_
    rotate_left
    · (intro w_ hSw_; (try dsimp only at hSw_); go_simp; try with_reducible rfl)
    try simp only [Act.put, List.setIfInBounds_toArray, List.set_cons_zero, List.set_cons_succ, List.getElem_toArray, List.getElem_cons_zero, List.getElem_cons_succ]
    refine wpAnyH_take (i := 4) (v := ?_) rfl (by kernel_rfl) (by kernel_rfl) (by kernel_rfl) (fun _ _ _ h => h) (Or.inl ⟨by rfl, ?_⟩) (by assumption) ?_
    rotate_left
    · (intro w_ hSw_; (try dsimp only at hSw_); go_simp; try with_reducible rfl)
    try simp only [Act.put, List.setIfInBounds_toArray, List.set_cons_zero, List.set_cons_succ, List.getElem_toArray, List.getElem_cons_zero, List.getElem_cons_succ]
    refine wpAnyH_take (i := 5) (v := ?_) rfl (by kernel_rfl) (by kernel_rfl) (by kernel_rfl) (fun _ _ _ h => h) (Or.inl ⟨by rfl, ?_⟩) (by assumption) ?_
    rotate_left
    · (intro w_ hSw_; (try dsimp only at hSw_); go_simp; try with_reducible rfl)
    try simp only [Act.put, List.setIfInBounds_toArray, List.set_cons_zero, List.set_cons_succ, List.getElem_toArray, List.getElem_cons_zero, List.getElem_cons_succ]
    refine wpAnyH_take (i := 6) (v := ?_) rfl (by kernel_rfl) (by kernel_rfl) (by kernel_rfl) (fun _ _ _ h => h) (Or.inl ⟨by rfl, ?_⟩) (by assumption) ?_
    rotate_left
    · (intro w_ hSw_; (try dsimp only at hSw_); go_simp; try with_reducible rfl)
    try simp only [Act.put, List.setIfInBounds_toArray, List.set_cons_zero, List.set_cons_succ, List.getElem_toArray, List.getElem_cons_zero, List.getElem_cons_succ]
    refine wpAnyH_ready (rs := [2, 8]) (by kernel_rfl) (by simp) ?_
    refine AllReadyH.cons rfl (fun K hK => ?_) ?_
    · go_simp
      refine Calls.mono (HCP.out _ (Below.drew (Below.refl _ _))) ?_
      rintro e w3 ⟨x, y, H, rfl, oX, oY, hH, b3_⟩
      obtain ⟨ca, cc, rfl⟩ := oX.sliced
      obtain ⟨da, dn, dc, rfl⟩ := oY.rd.sliced
      have b3 : Below w2.heap.size w2 w3 := (Below.drew (Below.refl _ _)).trans b3_
      have s3 := b3.size
      have VA3 := VarJ.step HVA.out b3
      go_wp2_with fail
      have t0 := VA3.c0
      have t1 := VA3.c1
      have t2 := VA3.c2
      have t3 := VA3.c3
      refine hK.out _ _ ⟨t0, t1, t2, t3⟩ (fun hHeld => ?_)
      clear hK K
      try simp only [Act.put, List.setIfInBounds_toArray, List.set_cons_zero, List.set_cons_succ, List.getElem_toArray, List.getElem_cons_zero, List.getElem_cons_succ]
      refine wpAnyH_take (i := 7) (v := ?_) rfl (by kernel_rfl) (by kernel_rfl) (by kernel_rfl) (fun _ _ _ h => h) (Or.inl ⟨by rfl, ?_⟩) (by assumption) ?_
      rotate_left
      · (intro w_ hSw_; (try dsimp only at hSw_); go_simp; try with_reducible rfl)
      try simp only [Act.put, List.setIfInBounds_toArray, List.set_cons_zero, List.set_cons_succ, List.getElem_toArray, List.getElem_cons_zero, List.getElem_cons_succ]
      refine wpAnyH_ready (rs := [8]) (by kernel_rfl) (by simp) ?_
      refine AllReadyH.cons rfl (fun K hK => ?_) AllReadyH.nil
      go_simp
      have b4 := Below.new (w := w3) (.cells #[.slice none 0 0, .slice none 0 0, .int .i64 0, .int .i64 0] 30)
      have VB4 := VarJ.new (T := 30) w3 (.slice none 0 0) (.slice none 0 0) 0 0
      have VA4 := VA3.step b4
      have g0 := VB4.f 0
      have g1 := VB4.f 1
      have g2 := VB4.f 2
      have g3 := VB4.f 3
      have h0_ := VB4.c0
      have h1_ := VB4.c1
      have h2_ := VB4.c2
      have h3_ := VB4.c3
      have u0 := VA4.c0
      have u1 := VA4.c1
      have u2 := VA4.c2
      have u3 := VA4.c3
      refine hK.out _ _ ⟨u0, u1, u2, u3⟩ (fun hHeld => ?_)
      clear hK K
      try simp only [Act.put, List.setIfInBounds_toArray, List.set_cons_zero, List.set_cons_succ, List.getElem_toArray, List.getElem_cons_zero, List.getElem_cons_succ]
      refine wpAnyH_ready (rs := [9]) (by kernel_rfl) (by simp) ?_
      refine AllReadyH.cons rfl (fun K hK => ?_) AllReadyH.nil
      go_simp
      have VB9 := VarJ.new (T := 30) w3 (.slice ca d.1.length cc) (.slice da dn dc) (P : Int) (Q : Int)
      have b9n := Below.new (w := w3) (.cells #[.slice ca d.1.length cc, .slice da dn dc, .int .i64 (P : Int), .int .i64 (Q : Int)] 30)
      have VA9 := VA3.step b9n
      have y0 := VA9.c0
      have y1 := VA9.c1
      have y2 := VA9.c2
      have y3 := VA9.c3
      refine hK.out _ _ ⟨y0, y1, y2, y3⟩ (fun hHeld => ?_)
      clear hK K
      try simp only [Act.put, List.setIfInBounds_toArray, List.set_cons_zero, List.set_cons_succ, List.getElem_toArray, List.getElem_cons_zero, List.getElem_cons_succ]
      refine wpAnyH_done (by kernel_rfl) (NoPanic.normal ?_) _
      have KX := ((oX.kpe (b := w3.heap.size) hH.2 HWH.out).low (l' := w2.heap.size) (Nat.le_refl _)).keep (w' := (w3.alloc (.cells #[.slice ca d.1.length cc, .slice da dn dc, .int .i64 (P : Int), .int .i64 (Q : Int)] 30))) (fun g _ h2 h3 => b9n.block g (by omega))
      have KY := ((oY.kwg (b := w3.heap.size) (Nat.le_refl _)).keep (w' := (w3.alloc (.cells #[.slice ca d.1.length cc, .slice da dn dc, .int .i64 (P : Int), .int .i64 (Q : Int)] 30))) (fun g _ h2 h3 => b9n.block g h2)).up (h' := (w3.alloc (.cells #[.slice ca d.1.length cc, .slice da dn dc, .int .i64 (P : Int), .int .i64 (Q : Int)] 30)).heap.size) (by simp)
      have B9 : Below w2.heap.size w2 (w3.alloc (.cells #[.slice ca d.1.length cc, .slice da dn dc, .int .i64 (P : Int), .int .i64 (Q : Int)] 30)) := b3.trans (b9n.mono s3)
      have hb9 : w2.heap.size ≤ w3.heap.size := by omega
      have hHs : w2.heap.size ≤ H := hH.1
      have hHe : H ≤ (w3.alloc (.cells #[.slice ca d.1.length cc, .slice da dn dc, .int .i64 (P : Int), .int .i64 (Q : Int)] 30)).heap.size := by have := hH.2; simp; omega
      generalize (w3.alloc (.cells #[.slice ca d.1.length cc, .slice da dn dc, .int .i64 (P : Int), .int .i64 (Q : Int)] 30)) = w9 at KX KY B9 VB9 VA9 hHe hHeld ⊢
      clear oX oY b3 b3_ b4 VA3 VA4 VB4 b9n hH t0 t1 t2 t3 u0 u1 u2 u3 y0 y1 y2 y3 g0 h0_ g1 h1_ g2 h2_ g3 h3_ c0 c1 c2 c3 HCP hHeld
      have hbb := VB9.lt
      have hsz9 := B9.size
      have HB9 : Hid (Below w.heap.size w w9) := HB2.out.trans (B9.mono HB2.out.size)
      have VR9 := VarJ.step HVR2.out B9
      have HVR9 : Hid (VarJ 30 w9 (w.heap.size + 1) (.slice none 0 0) (.slice none 0 0) 0 0) := VR9
      have hbR : w.heap.size + 1 < w2.heap.size := by omega
      obtain ⟨bb, hbbe⟩ : ∃ bb, bb = w3.heap.size := ⟨_, rfl⟩
      have HVB : Hid (VarJ 30 w9 bb (.slice ca d.1.length cc) (.slice da dn dc) (P : Int) (Q : Int)) := by rw [hbbe]; exact VB9
      have HKX : Hid (KpE w9 w2.heap.size H bb (.slice ca d.1.length cc) d.1) := by rw [hbbe]; exact KX
      have HKY : Hid (KwG w9 H w9.heap.size bb (.slice da dn dc) d.2) := by rw [hbbe]; exact KY
      have hb9' : w2.heap.size ≤ bb := by rw [hbbe]; exact hb9
      clear hb9
      rw [← hbbe]
      have hb9 := hb9'
      clear hb9'
      have HB92 : Hid (Below w2.heap.size w2 w9) := B9
      clear KX KY VB9 VA9 B9 VR9 hbbe HVA HVR2 hbb
      have HRET : Hid (∀ (W : World) (b i : Nat) (z : Value), w.heap.size ≤ b → Below w.heap.size w W → Below w.heap.size w (W.setCell ⟨b, i, none⟩ z)) := fun W b i z hb hW => hW.setCell hb z
      have HSAM : Hid (∀ (W : World) (k i : Nat) (z : Value), SameIn w2.heap.size k W (W.setCell ⟨w.heap.size + 1, i, none⟩ z)) := fun W k i z => SameIn.set (p := ⟨w.heap.size + 1, i, none⟩) (.inl (by show w.heap.size + 1 < _; omega))
      have hd2 : decide ((200 : Int) < (sn : Int)) = false := by have := HSN.out.1; simp; omega
      have HWR : Hid _ := HW3.out bb _ _ _ lz hz w2.heap.size H w9 HVB.out HKX.out HKY.out hHs hHe hb9 (HRZ.out _ HB9.out) (by omega) h200 hQ6 hPd hn2 hm2
      go_wp2_with fail
      refine Calls.mono HWR.out ?_
      rintro e w10 ⟨rfl, hlo, hos, hsz, hX, hY⟩
      simp only [Bool.false_eq_true, if_false] at hY
      have o0 := hY.1.c0
      have o1 := hY.1.c1
      have o2 := hY.1.c2
      have o3 := hY.1.c3
      have VR10 : VarJ 30 w10 (w.heap.size + 1) (.slice none 0 0) (.slice none 0 0) 0 0 := (hlo _ hbR).trans HVR9.out
      have e0 := VR10.c0
      have e1 := VR10.c1
      have e2 := VR10.c2
      have e3 := VR10.c3
      have f0 := VR10.f 0
      have f1 := VR10.f 1
      have f2 := VR10.f 2
      have f3 := VR10.f 3
      have HRD2 : Hid (RdD w10 w2.heap.size w10.heap.size (.agg #[.slice ca d.1.length cc, .slice da dn dc]) d) := ⟨_, _, rfl, hX.rd.wide (Nat.le_refl _) (by omega), hY.2.rd.wide hHs (Nat.le_refl _)⟩
      have HB10 : Hid (Below w.heap.size w w10) := HB9.out.trans ⟨hos.1, hos.2.1, hos.2.2, hsz, fun g hg => hlo g (by omega)⟩
      clear hlo hos hX hY VR10 HWR HVB HKX HKY HVR9 HB9
      go_wp2
      refine bodyPost_ret (v := .tuple #[.agg #[.slice ca d.1.length cc, .slice da dn dc, .int .i64 (P : Int), .int .i64 (Q : Int)], .bool false]) (by simp [results, Tryd.results20, go_sem, e0, e1, e2, e3]) rfl ?_
      refine ⟨_, by first | rfl | simp, ?_, ?_⟩
      · have h9 : RdJ w10 w2.heap.size w10.heap.size (.agg #[.slice ca d.1.length cc, .slice da dn dc, .int .i64 (P : Int), .int .i64 (Q : Int)]) (d, (P : Int), (Q : Int)) := ⟨_, _, rfl, HRD2.out⟩
        refine RdJ.wide (RdJ.same (h := w10.heap.size) (l := w2.heap.size) (by simpa using h9) ?_) (by omega) (by simp)
        repeat (refine SameIn.trans ?_ (HSAM.out _ _ _ _))
        exact SameIn.refl _ _ _
      · repeat (refine HRET.out _ _ _ _ (by omega) ?_)
        exact HB10.out
    refine AllReadyH.cons rfl (fun K hK => ?_) AllReadyH.nil
    go_simp
    have b4 : Below w2.heap.size w2 (w2.alloc (.cells #[.slice none 0 0, .slice none 0 0, .int .i64 0, .int .i64 0] 30)).drew := ((Below.refl _ _).alloc (Nat.le_refl _) _).drew
    have VB3 : VarJ 30 (w2.alloc (.cells #[.slice none 0 0, .slice none 0 0, .int .i64 0, .int .i64 0] 30)).drew w2.heap.size (.slice none 0 0) (.slice none 0 0) 0 0 := heap_alloc_new w2 _
    have VA3 := VarJ.step HVA.out b4
    have sz4 : (w2.alloc (.cells #[.slice none 0 0, .slice none 0 0, .int .i64 0, .int .i64 0] 30)).drew.heap.size = w2.heap.size + 1 := by show (w2.alloc (.cells #[.slice none 0 0, .slice none 0 0, .int .i64 0, .int .i64 0] 30)).heap.size = _; simp
    have u0 := VA3.c0
    have u1 := VA3.c1
    have u2 := VA3.c2
    have u3 := VA3.c3
    refine hK.out _ _ ⟨u0, u1, u2, u3⟩ (fun hHeld => ?_)
    clear hK K
    try simp only [Act.put, List.setIfInBounds_toArray, List.set_cons_zero, List.set_cons_succ, List.getElem_toArray, List.getElem_cons_zero, List.getElem_cons_succ]
    refine wpAnyH_ready (rs := [2]) (by kernel_rfl) (by simp) ?_
    refine AllReadyH.cons rfl (fun K hK => ?_) AllReadyH.nil
    go_simp
    refine Calls.mono (HCP.out _ b4) ?_
    rintro e w3 ⟨x, y, H, rfl, oX, oY, hH, b3_⟩
    obtain ⟨ca, cc, rfl⟩ := oX.sliced
    obtain ⟨da, dn, dc, rfl⟩ := oY.rd.sliced
    have b3 : Below w2.heap.size w2 w3 := b4.trans (b3_.mono b4.size)
    have s3 := b3_.size
    have VA4 := VarJ.step HVA.out b3
    have VB4 := VB3.step b3_
    have g0 := VB4.f 0
    have g1 := VB4.f 1
    have g2 := VB4.f 2
    have g3 := VB4.f 3
    have h0_ := VB4.c0
    have h1_ := VB4.c1
    have h2_ := VB4.c2
    have h3_ := VB4.c3
    go_wp2_with fail
    have t0 := VA4.c0
    have t1 := VA4.c1
    have t2 := VA4.c2
    have t3 := VA4.c3
    refine hK.out _ _ ⟨t0, t1, t2, t3⟩ (fun hHeld => ?_)
    clear hK K
    try simp only [Act.put, List.setIfInBounds_toArray, List.set_cons_zero, List.set_cons_succ, List.getElem_toArray, List.getElem_cons_zero, List.getElem_cons_succ]
    refine wpAnyH_take (i := 7) (v := ?_) rfl (by kernel_rfl) (by kernel_rfl) (by kernel_rfl) (fun _ _ _ h => h) (Or.inl ⟨by rfl, ?_⟩) (by assumption) ?_
    rotate_left
    · (intro w_ hSw_; (try dsimp only at hSw_); go_simp; try with_reducible rfl)
    try simp only [Act.put, List.setIfInBounds_toArray, List.set_cons_zero, List.set_cons_succ, List.getElem_toArray, List.getElem_cons_zero, List.getElem_cons_succ]
    refine wpAnyH_ready (rs := [9]) (by kernel_rfl) (by simp) ?_
    refine AllReadyH.cons rfl (fun K hK => ?_) AllReadyH.nil
    go_simp
    have VB9 := (((VB4.set0 (.slice ca d.1.length cc)).set1 (.slice da dn dc)).set2 (P : Int)).set3 (Q : Int)
    have hst : ∀ g, g ≠ w2.heap.size → ((((w3.setCell ⟨w2.heap.size, 0, none⟩ (.slice ca d.1.length cc)).setCell ⟨w2.heap.size, 1, none⟩ (.slice da dn dc)).setCell ⟨w2.heap.size, 2, none⟩ (.int .i64 (P : Int))).setCell ⟨w2.heap.size, 3, none⟩ (.int .i64 (Q : Int))).heap[g]? = w3.heap[g]? := fun g hg => (heap_setCell_other _ _ _ _ hg).trans ((heap_setCell_other _ _ _ _ hg).trans ((heap_setCell_other _ _ _ _ hg).trans (heap_setCell_other _ _ _ _ hg)))
    have VA9 : VarJ 30 ((((w3.setCell ⟨w2.heap.size, 0, none⟩ (.slice ca d.1.length cc)).setCell ⟨w2.heap.size, 1, none⟩ (.slice da dn dc)).setCell ⟨w2.heap.size, 2, none⟩ (.int .i64 (P : Int))).setCell ⟨w2.heap.size, 3, none⟩ (.int .i64 (Q : Int))) w.heap.size _ _ _ _ := (hst _ (by omega)).trans VA4
    have y0 := VA9.c0
    have y1 := VA9.c1
    have y2 := VA9.c2
    have y3 := VA9.c3
    refine hK.out _ _ ⟨y0, y1, y2, y3⟩ (fun hHeld => ?_)
    clear hK K
    try simp only [Act.put, List.setIfInBounds_toArray, List.set_cons_zero, List.set_cons_succ, List.getElem_toArray, List.getElem_cons_zero, List.getElem_cons_succ]
    refine wpAnyH_done (by kernel_rfl) (NoPanic.normal ?_) _
    have KX := ((oX.kpeL (b := w2.heap.size) (by rw [sz4]; omega) HWH.out).low (l' := w2.heap.size) (by rw [sz4]; omega)).keep (w' := ((((w3.setCell ⟨w2.heap.size, 0, none⟩ (.slice ca d.1.length cc)).setCell ⟨w2.heap.size, 1, none⟩ (.slice da dn dc)).setCell ⟨w2.heap.size, 2, none⟩ (.int .i64 (P : Int))).setCell ⟨w2.heap.size, 3, none⟩ (.int .i64 (Q : Int)))) (fun g _ _ h3 => hst g h3)
    have KY := ((oY.kwgL (b := w2.heap.size) (by have := hH.1; rw [sz4] at this; omega)).keep (w' := ((((w3.setCell ⟨w2.heap.size, 0, none⟩ (.slice ca d.1.length cc)).setCell ⟨w2.heap.size, 1, none⟩ (.slice da dn dc)).setCell ⟨w2.heap.size, 2, none⟩ (.int .i64 (P : Int))).setCell ⟨w2.heap.size, 3, none⟩ (.int .i64 (Q : Int)))) (fun g _ _ h3 => hst g h3)).up (h' := ((((w3.setCell ⟨w2.heap.size, 0, none⟩ (.slice ca d.1.length cc)).setCell ⟨w2.heap.size, 1, none⟩ (.slice da dn dc)).setCell ⟨w2.heap.size, 2, none⟩ (.int .i64 (P : Int))).setCell ⟨w2.heap.size, 3, none⟩ (.int .i64 (Q : Int))).heap.size) (by simp)
    have B9 : Below w2.heap.size w2 ((((w3.setCell ⟨w2.heap.size, 0, none⟩ (.slice ca d.1.length cc)).setCell ⟨w2.heap.size, 1, none⟩ (.slice da dn dc)).setCell ⟨w2.heap.size, 2, none⟩ (.int .i64 (P : Int))).setCell ⟨w2.heap.size, 3, none⟩ (.int .i64 (Q : Int))) := (((b3.setCell (Nat.le_refl _) _).setCell (Nat.le_refl _) _).setCell (Nat.le_refl _) _).setCell (Nat.le_refl _) _
    have hb9 : w2.heap.size ≤ w2.heap.size := by omega
    have hHs : w2.heap.size ≤ H := by have := hH.1; rw [sz4] at this; omega
    have hHe : H ≤ ((((w3.setCell ⟨w2.heap.size, 0, none⟩ (.slice ca d.1.length cc)).setCell ⟨w2.heap.size, 1, none⟩ (.slice da dn dc)).setCell ⟨w2.heap.size, 2, none⟩ (.int .i64 (P : Int))).setCell ⟨w2.heap.size, 3, none⟩ (.int .i64 (Q : Int))).heap.size := by have := hH.2; simp; omega
    generalize ((((w3.setCell ⟨w2.heap.size, 0, none⟩ (.slice ca d.1.length cc)).setCell ⟨w2.heap.size, 1, none⟩ (.slice da dn dc)).setCell ⟨w2.heap.size, 2, none⟩ (.int .i64 (P : Int))).setCell ⟨w2.heap.size, 3, none⟩ (.int .i64 (Q : Int))) = w9 at KX KY B9 VB9 VA9 hHe hHeld ⊢
    clear oX oY b3 b3_ b4 VA3 VA4 VB4 hst VB3 sz4 hH t0 t1 t2 t3 u0 u1 u2 u3 y0 y1 y2 y3 g0 h0_ g1 h1_ g2 h2_ g3 h3_ c0 c1 c2 c3 HCP hHeld
    have hbb := VB9.lt
    have hsz9 := B9.size
    have HB9 : Hid (Below w.heap.size w w9) := HB2.out.trans (B9.mono HB2.out.size)
    have VR9 := VarJ.step HVR2.out B9
    have HVR9 : Hid (VarJ 30 w9 (w.heap.size + 1) (.slice none 0 0) (.slice none 0 0) 0 0) := VR9
    have hbR : w.heap.size + 1 < w2.heap.size := by omega
    obtain ⟨bb, hbbe⟩ : ∃ bb, bb = w2.heap.size := ⟨_, rfl⟩
    have HVB : Hid (VarJ 30 w9 bb (.slice ca d.1.length cc) (.slice da dn dc) (P : Int) (Q : Int)) := by rw [hbbe]; exact VB9
    have HKX : Hid (KpE w9 w2.heap.size H bb (.slice ca d.1.length cc) d.1) := by rw [hbbe]; exact KX
    have HKY : Hid (KwG w9 H w9.heap.size bb (.slice da dn dc) d.2) := by rw [hbbe]; exact KY
    have hb9' : w2.heap.size ≤ bb := by rw [hbbe]; exact hb9
    clear hb9
    rw [← hbbe]
    have hb9 := hb9'
    clear hb9'
    have HB92 : Hid (Below w2.heap.size w2 w9) := B9
    clear KX KY VB9 VA9 B9 VR9 hbbe HVA HVR2 hbb
    have HRET : Hid (∀ (W : World) (b i : Nat) (z : Value), w.heap.size ≤ b → Below w.heap.size w W → Below w.heap.size w (W.setCell ⟨b, i, none⟩ z)) := fun W b i z hb hW => hW.setCell hb z
    have HSAM : Hid (∀ (W : World) (k i : Nat) (z : Value), SameIn w2.heap.size k W (W.setCell ⟨w.heap.size + 1, i, none⟩ z)) := fun W k i z => SameIn.set (p := ⟨w.heap.size + 1, i, none⟩) (.inl (by show w.heap.size + 1 < _; omega))
    have hd2 : decide ((200 : Int) < (sn : Int)) = false := by have := HSN.out.1; simp; omega
    have HWR : Hid _ := HW3.out bb _ _ _ lz hz w2.heap.size H w9 HVB.out HKX.out HKY.out hHs hHe hb9 (HRZ.out _ HB9.out) (by omega) h200 hQ6 hPd hn2 hm2
    go_wp2_with fail
    refine Calls.mono HWR.out ?_
    rintro e w10 ⟨rfl, hlo, hos, hsz, hX, hY⟩
    simp only [Bool.false_eq_true, if_false] at hY
    have o0 := hY.1.c0
    have o1 := hY.1.c1
    have o2 := hY.1.c2
    have o3 := hY.1.c3
    have VR10 : VarJ 30 w10 (w.heap.size + 1) (.slice none 0 0) (.slice none 0 0) 0 0 := (hlo _ hbR).trans HVR9.out
    have e0 := VR10.c0
    have e1 := VR10.c1
    have e2 := VR10.c2
    have e3 := VR10.c3
    have f0 := VR10.f 0
    have f1 := VR10.f 1
    have f2 := VR10.f 2
    have f3 := VR10.f 3
    have HRD2 : Hid (RdD w10 w2.heap.size w10.heap.size (.agg #[.slice ca d.1.length cc, .slice da dn dc]) d) := ⟨_, _, rfl, hX.rd.wide (Nat.le_refl _) (by omega), hY.2.rd.wide hHs (Nat.le_refl _)⟩
    have HB10 : Hid (Below w.heap.size w w10) := HB9.out.trans ⟨hos.1, hos.2.1, hos.2.2, hsz, fun g hg => hlo g (by omega)⟩
    clear hlo hos hX hY VR10 HWR HVB HKX HKY HVR9 HB9
    go_wp2
    refine bodyPost_ret (v := .tuple #[.agg #[.slice ca d.1.length cc, .slice da dn dc, .int .i64 (P : Int), .int .i64 (Q : Int)], .bool false]) (by simp [results, Tryd.results20, go_sem, e0, e1, e2, e3]) rfl ?_
    refine ⟨_, by first | rfl | simp, ?_, ?_⟩
    · have h9 : RdJ w10 w2.heap.size w10.heap.size (.agg #[.slice ca d.1.length cc, .slice da dn dc, .int .i64 (P : Int), .int .i64 (Q : Int)]) (d, (P : Int), (Q : Int)) := ⟨_, _, rfl, HRD2.out⟩
      refine RdJ.wide (RdJ.same (h := w10.heap.size) (l := w2.heap.size) (by simpa using h9) ?_) (by omega) (by simp)
      repeat (refine SameIn.trans ?_ (HSAM.out _ _ _ _))
      exact SameIn.refl _ _ _
    · repeat (refine HRET.out _ _ _ _ (by omega) ?_)
      exact HB10.out
  | true =>
    rw [if_pos ⟨h200, rfl⟩] at hap
    rw [hap]
    clear hap
    go_enter Tryd.func20, Tryd.ntmps20
    go_wp2_with (rw [HW.out])
    refine Calls.mono HJK.out ?_
    rintro e w2 ⟨rfl, b2⟩
    have vA := VarJ.step HV1.out b2
    have vR2 := VarJ.step HVR.out b2
    have B2 := HB1.out.trans (b2.mono HB1.out.size)
    have s2 := b2.size
    have c0 := vA.c0
    have c1 := vA.c1
    have c2 := vA.c2
    have c3 := vA.c3
    have HVA : Hid (VarJ _ w2 w.heap.size _ _ _ _) := vA
    have HVR2 : Hid (VarJ _ w2 (w.heap.size + 1) _ _ _ _) := vR2
    have HB2 : Hid (Below w.heap.size w w2) := B2
    have HCP : Hid (∀ W, Below w2.heap.size w2 W → _) := fun W hW => specCopy_any _ d l h W (HRD.out _ (B2.trans (hW.mono B2.size))) (by have := hW.size; omega) HSM.out
    clear b2 B2 vA vR2 HV1 HVR HB1 HJK
    go_wp2
    refine wp_region_noPanic ?_
    refine wp_region_held_drew (S := fun w' => w'.cell? ⟨w.heap.size, 0, none⟩ = some (.slice xa xn xc) ∧ w'.cell? ⟨w.heap.size, 1, none⟩ = some (.slice ya yn yc) ∧ w'.cell? ⟨w.heap.size, 2, none⟩ = some (.int .i64 (P : Int)) ∧ w'.cell? ⟨w.heap.size, 3, none⟩ = some (.int .i64 (Q : Int))) (by kernel_rfl) ⟨c0, c1, c2, c3⟩ (fun hHeld => ?_)
    refine wpAnyH_take (i := 0) (v := ?_) rfl (by kernel_rfl) (by kernel_rfl) (by kernel_rfl) (fun _ _ _ h => h) (Or.inl ⟨by rfl, ?_⟩) (by assumption) ?_
    rotate_left
    · (intro w_ hSw_; (try dsimp only at hSw_); go_simp; try with_reducible rfl)
    try simp only [Act.put, List.setIfInBounds_toArray, List.set_cons_zero, List.set_cons_succ, List.getElem_toArray, List.getElem_cons_zero, List.getElem_cons_succ]
    refine wpAnyH_take (i := 1) (v := ?_) rfl (by kernel_rfl) (by kernel_rfl) (by kernel_rfl) (fun _ _ _ h => h) (Or.inl ⟨by rfl, ?_⟩) (by assumption) ?_
    rotate_left
    · (intro w_ hSw_; (try dsimp only at hSw_); go_simp; try with_reducible rfl)
    try simp only [Act.put, List.setIfInBounds_toArray, List.set_cons_zero, List.set_cons_succ, List.getElem_toArray, List.getElem_cons_zero, List.getElem_cons_succ]
    refine wpAnyH_take (i := 3) (v := ?_) rfl (by kernel_rfl) (by kernel_rfl) (by kernel_rfl) (fun _ _ _ h => h) (Or.inl ⟨by rfl, ?_⟩) (by assumption) ?_
    rotate_left
    · (intro w_ hSw_; (try dsimp only at hSw_); go_simp; try with_reducible rfl)
    try simp only [Act.put, List.setIfInBounds_toArray, List.set_cons_zero, List.set_cons_succ, List.getElem_toArray, List.getElem_cons_zero, List.getElem_cons_succ]
    refine wpAnyH_take (i := 4) (v := ?_) rfl (by kernel_rfl) (by kernel_rfl) (by kernel_rfl) (fun _ _ _ h => h) (Or.inl ⟨by rfl, ?_⟩) (by assumption) ?_
    rotate_left
    · (intro w_ hSw_; (try dsimp only at hSw_); go_simp; try with_reducible rfl)
    try simp only [Act.put, List.setIfInBounds_toArray, List.set_cons_zero, List.set_cons_succ, List.getElem_toArray, List.getElem_cons_zero, List.getElem_cons_succ]
    refine wpAnyH_take (i := 5) (v := ?_) rfl (by kernel_rfl) (by kernel_rfl) (by kernel_rfl) (fun _ _ _ h => h) (Or.inl ⟨by rfl, ?_⟩) (by assumption) ?_
    rotate_left
    · (intro w_ hSw_; (try dsimp only at hSw_); go_simp; try with_reducible rfl)
    try simp only [Act.put, List.setIfInBounds_toArray, List.set_cons_zero, List.set_cons_succ, List.getElem_toArray, List.getElem_cons_zero, List.getElem_cons_succ]
    refine wpAnyH_take (i := 6) (v := ?_) rfl (by kernel_rfl) (by kernel_rfl) (by kernel_rfl) (fun _ _ _ h => h) (Or.inl ⟨by rfl, ?_⟩) (by assumption) ?_
    rotate_left
    · (intro w_ hSw_; (try dsimp only at hSw_); go_simp; try with_reducible rfl)
    try simp only [Act.put, List.setIfInBounds_toArray, List.set_cons_zero, List.set_cons_succ, List.getElem_toArray, List.getElem_cons_zero, List.getElem_cons_succ]
    refine wpAnyH_ready (rs := [2, 8]) (by kernel_rfl) (by simp) ?_
    refine AllReadyH.cons rfl (fun K hK => ?_) ?_
    · go_simp
      refine Calls.mono (HCP.out _ (Below.drew (Below.refl _ _))) ?_
      rintro e w3 ⟨x, y, H, rfl, oX, oY, hH, b3_⟩
      obtain ⟨ca, cc, rfl⟩ := oX.sliced
      obtain ⟨da, dn, dc, rfl⟩ := oY.rd.sliced
      have b3 : Below w2.heap.size w2 w3 := (Below.drew (Below.refl _ _)).trans b3_
      have s3 := b3.size
      have VA3 := VarJ.step HVA.out b3
      go_wp2_with fail
      have t0 := VA3.c0
      have t1 := VA3.c1
      have t2 := VA3.c2
      have t3 := VA3.c3
      refine hK.out _ _ ⟨t0, t1, t2, t3⟩ (fun hHeld => ?_)
      clear hK K
      try simp only [Act.put, List.setIfInBounds_toArray, List.set_cons_zero, List.set_cons_succ, List.getElem_toArray, List.getElem_cons_zero, List.getElem_cons_succ]
      refine wpAnyH_take (i := 7) (v := ?_) rfl (by kernel_rfl) (by kernel_rfl) (by kernel_rfl) (fun _ _ _ h => h) (Or.inl ⟨by rfl, ?_⟩) (by assumption) ?_
      rotate_left
      · (intro w_ hSw_; (try dsimp only at hSw_); go_simp; try with_reducible rfl)
      try simp only [Act.put, List.setIfInBounds_toArray, List.set_cons_zero, List.set_cons_succ, List.getElem_toArray, List.getElem_cons_zero, List.getElem_cons_succ]
      refine wpAnyH_ready (rs := [8]) (by kernel_rfl) (by simp) ?_
      refine AllReadyH.cons rfl (fun K hK => ?_) AllReadyH.nil
      go_simp
      have b4 := Below.new (w := w3) (.cells #[.slice none 0 0, .slice none 0 0, .int .i64 0, .int .i64 0] 30)
      have VB4 := VarJ.new (T := 30) w3 (.slice none 0 0) (.slice none 0 0) 0 0
      have VA4 := VA3.step b4
      have g0 := VB4.f 0
      have g1 := VB4.f 1
      have g2 := VB4.f 2
      have g3 := VB4.f 3
      have h0_ := VB4.c0
      have h1_ := VB4.c1
      have h2_ := VB4.c2
      have h3_ := VB4.c3
      have u0 := VA4.c0
      have u1 := VA4.c1
      have u2 := VA4.c2
      have u3 := VA4.c3
      refine hK.out _ _ ⟨u0, u1, u2, u3⟩ (fun hHeld => ?_)
      clear hK K
      try simp only [Act.put, List.setIfInBounds_toArray, List.set_cons_zero, List.set_cons_succ, List.getElem_toArray, List.getElem_cons_zero, List.getElem_cons_succ]
      refine wpAnyH_ready (rs := [9]) (by kernel_rfl) (by simp) ?_
      refine AllReadyH.cons rfl (fun K hK => ?_) AllReadyH.nil
      go_simp
      have VB9 := VarJ.new (T := 30) w3 (.slice ca d.1.length cc) (.slice da dn dc) (P : Int) (Q : Int)
      have b9n := Below.new (w := w3) (.cells #[.slice ca d.1.length cc, .slice da dn dc, .int .i64 (P : Int), .int .i64 (Q : Int)] 30)
      have VA9 := VA3.step b9n
      have y0 := VA9.c0
      have y1 := VA9.c1
      have y2 := VA9.c2
      have y3 := VA9.c3
      refine hK.out _ _ ⟨y0, y1, y2, y3⟩ (fun hHeld => ?_)
      clear hK K
      try simp only [Act.put, List.setIfInBounds_toArray, List.set_cons_zero, List.set_cons_succ, List.getElem_toArray, List.getElem_cons_zero, List.getElem_cons_succ]
      refine wpAnyH_done (by kernel_rfl) (NoPanic.normal ?_) _
      have KX := ((oX.kpe (b := w3.heap.size) hH.2 HWH.out).low (l' := w2.heap.size) (Nat.le_refl _)).keep (w' := (w3.alloc (.cells #[.slice ca d.1.length cc, .slice da dn dc, .int .i64 (P : Int), .int .i64 (Q : Int)] 30))) (fun g _ h2 h3 => b9n.block g (by omega))
      have KY := ((oY.kwg (b := w3.heap.size) (Nat.le_refl _)).keep (w' := (w3.alloc (.cells #[.slice ca d.1.length cc, .slice da dn dc, .int .i64 (P : Int), .int .i64 (Q : Int)] 30))) (fun g _ h2 h3 => b9n.block g h2)).up (h' := (w3.alloc (.cells #[.slice ca d.1.length cc, .slice da dn dc, .int .i64 (P : Int), .int .i64 (Q : Int)] 30)).heap.size) (by simp)
      have B9 : Below w2.heap.size w2 (w3.alloc (.cells #[.slice ca d.1.length cc, .slice da dn dc, .int .i64 (P : Int), .int .i64 (Q : Int)] 30)) := b3.trans (b9n.mono s3)
      have hb9 : w2.heap.size ≤ w3.heap.size := by omega
      have hHs : w2.heap.size ≤ H := hH.1
      have hHe : H ≤ (w3.alloc (.cells #[.slice ca d.1.length cc, .slice da dn dc, .int .i64 (P : Int), .int .i64 (Q : Int)] 30)).heap.size := by have := hH.2; simp; omega
      generalize (w3.alloc (.cells #[.slice ca d.1.length cc, .slice da dn dc, .int .i64 (P : Int), .int .i64 (Q : Int)] 30)) = w9 at KX KY B9 VB9 VA9 hHe hHeld ⊢
      clear oX oY b3 b3_ b4 VA3 VA4 VB4 b9n hH t0 t1 t2 t3 u0 u1 u2 u3 y0 y1 y2 y3 g0 h0_ g1 h1_ g2 h2_ g3 h3_ c0 c1 c2 c3 HCP hHeld
      have hbb := VB9.lt
      have hsz9 := B9.size
      have HB9 : Hid (Below w.heap.size w w9) := HB2.out.trans (B9.mono HB2.out.size)
      have VR9 := VarJ.step HVR2.out B9
      have HVR9 : Hid (VarJ 30 w9 (w.heap.size + 1) (.slice none 0 0) (.slice none 0 0) 0 0) := VR9
      have hbR : w.heap.size + 1 < w2.heap.size := by omega
      obtain ⟨bb, hbbe⟩ : ∃ bb, bb = w3.heap.size := ⟨_, rfl⟩
      have HVB : Hid (VarJ 30 w9 bb (.slice ca d.1.length cc) (.slice da dn dc) (P : Int) (Q : Int)) := by rw [hbbe]; exact VB9
      have HKX : Hid (KpE w9 w2.heap.size H bb (.slice ca d.1.length cc) d.1) := by rw [hbbe]; exact KX
      have HKY : Hid (KwG w9 H w9.heap.size bb (.slice da dn dc) d.2) := by rw [hbbe]; exact KY
      have hb9' : w2.heap.size ≤ bb := by rw [hbbe]; exact hb9
      clear hb9
      rw [← hbbe]
      have hb9 := hb9'
      clear hb9'
      have HB92 : Hid (Below w2.heap.size w2 w9) := B9
      clear KX KY VB9 VA9 B9 VR9 hbbe HVA HVR2 hbb
      have HRET : Hid (∀ (W : World) (b i : Nat) (z : Value), w.heap.size ≤ b → Below w.heap.size w W → Below w.heap.size w (W.setCell ⟨b, i, none⟩ z)) := fun W b i z hb hW => hW.setCell hb z
      have HSAM : Hid (∀ (W : World) (k i : Nat) (z : Value), SameIn w2.heap.size k W (W.setCell ⟨w.heap.size + 1, i, none⟩ z)) := fun W k i z => SameIn.set (p := ⟨w.heap.size + 1, i, none⟩) (.inl (by show w.heap.size + 1 < _; omega))
      have hd2 : decide ((200 : Int) < (sn : Int)) = false := by have := HSN.out.1; simp; omega
      have HWR : Hid _ := HW3.out bb _ _ _ lz hz w2.heap.size H w9 HVB.out HKX.out HKY.out hHs hHe hb9 (HRZ.out _ HB9.out) (by omega) h200 hQ6 hPd hn2 hm2
      go_wp2_with fail
      refine Calls.mono HWR.out ?_
      rintro e w10 ⟨rfl, hlo, hos, hsz, hX, hY⟩
      simp only [if_true] at hY
      obtain ⟨y', hV10, hK10⟩ := hY
      have VR10 : VarJ 30 w10 (w.heap.size + 1) (.slice none 0 0) (.slice none 0 0) 0 0 := (hlo _ hbR).trans HVR9.out
      have HFL : Hid _ := specFlushT_in 30 [.int .i64 ((P : Int) + (manyN zs.length : Int)), .int .i64 ((Q : Int) + 1)] bb _ y' (d.1, d.2 ++ frameW P (frameN Q zs)) w2.heap.size H w10.heap.size w10 hV10 hX hK10.e (by omega) hHs (Nat.le_refl _) (by first | exact HOF.out rfl | exact HOF.out trivial)
      have HB10 : Hid (Below w.heap.size w w10) := HB9.out.trans ⟨hos.1, hos.2.1, hos.2.2, hsz, fun g hg => hlo g (by omega)⟩
      have hxl : ∀ g, (Value.slice ca d.1.length cc).ownBlock = some g → w2.heap.size ≤ g := fun g hg => by obtain ⟨_, _, ho, _⟩ := hX; exact (ho.lt g hg).1
      have HXL : Hid _ := hxl
      have HVR10 : Hid (VarJ 30 w10 (w.heap.size + 1) _ _ _ _) := VR10
      have s10 : w2.heap.size ≤ w10.heap.size := by omega
      clear hlo hos hX hV10 hK10 VR10 HWR HVB HKX HKY HVR9 HB9 hxl
      go_wp2_with fail
      refine Calls.mono HFL.out ?_
      rintro e w11 ⟨⟨u11, rfl⟩, oX11, vO11, t11⟩
      have nlt : ∀ g, g < w2.heap.size → ¬ Blk [.slice (some ⟨bb, 0, none⟩) 0 0, .slice ca d.1.length cc] g := fun g hg hb => by
        obtain ⟨i, hi, hk⟩ := hb
        match i, hi, hk with
        | 0, _, hk => have := slice_block (show (Value.slice (some ⟨bb, 0, none⟩) 0 0).ownBlock = some g by simpa using hk); simp at this; omega
        | 1, _, hk => have := HXL.out g (by simpa using hk); omega
        | i + 2, hi, _ => have h2 : i + 2 < 2 := hi; omega
      have s11 := t11.size
      have VR11 : VarJ 30 w11 (w.heap.size + 1) (.slice none 0 0) (.slice none 0 0) 0 0 := (t11.block _ (by omega) (nlt _ hbR)).trans HVR10.out
      have vJ11 : VarJ 30 w11 bb (.slice ca d.1.length cc) (.slice none 0 0) ((P : Int) + (manyN zs.length : Int)) ((Q : Int) + 1) := vO11
      have o0 := vJ11.c0
      have o1 := vJ11.c1
      have o2 := vJ11.c2
      have o3 := vJ11.c3
      have e0 := VR11.c0
      have e1 := VR11.c1
      have e2 := VR11.c2
      have e3 := VR11.c3
      have f0 := VR11.f 0
      have f1 := VR11.f 1
      have f2 := VR11.f 2
      have f3 := VR11.f 3
      have HRD2 : Hid (RdD w11 w2.heap.size w11.heap.size (.agg #[.slice ca d.1.length cc, .slice none 0 0]) (flushS d.1 (d.2 ++ frameW P (frameN Q zs)), [])) := ⟨_, _, rfl, oX11.rd.wide (Nat.le_refl _) s11, RdWs_nil _ _ _⟩
      have HB11 : Hid (Below w.heap.size w w11) := HB10.out.trans ⟨t11.os, t11.tape, t11.output, t11.size, fun g hg => t11.block g (by omega) (nlt g (by omega))⟩
      clear oX11 vO11 t11 nlt VR11 vJ11 HFL HB10 HVR10
      go_wp2
      refine bodyPost_ret (v := .tuple #[.agg #[.slice ca d.1.length cc, .slice none 0 0, .int .i64 ((P : Int) + (manyN zs.length : Int)), .int .i64 ((Q : Int) + 1)], .bool true]) (by simp [results, Tryd.results20, go_sem, e0, e1, e2, e3]) rfl ?_
      refine ⟨_, by first | rfl | simp, ?_, ?_⟩
      · have h9 : RdJ w11 w2.heap.size w11.heap.size (.agg #[.slice ca d.1.length cc, .slice none 0 0, .int .i64 ((P : Int) + (manyN zs.length : Int)), .int .i64 ((Q : Int) + 1)]) ((flushS d.1 (d.2 ++ frameW P (frameN Q zs)), []), (P : Int) + (manyN zs.length : Int), (Q : Int) + 1) := ⟨_, _, rfl, HRD2.out⟩
        refine RdJ.wide (RdJ.same (h := w11.heap.size) (l := w2.heap.size) (by simpa using h9) ?_) (by omega) (by simp)
        repeat (refine SameIn.trans ?_ (HSAM.out _ _ _ _))
        exact SameIn.refl _ _ _
      · repeat (refine HRET.out _ _ _ _ (by omega) ?_)
        exact HB11.out
    refine AllReadyH.cons rfl (fun K hK => ?_) AllReadyH.nil
    go_simp
    have b4 : Below w2.heap.size w2 (w2.alloc (.cells #[.slice none 0 0, .slice none 0 0, .int .i64 0, .int .i64 0] 30)).drew := ((Below.refl _ _).alloc (Nat.le_refl _) _).drew
    have VB3 : VarJ 30 (w2.alloc (.cells #[.slice none 0 0, .slice none 0 0, .int .i64 0, .int .i64 0] 30)).drew w2.heap.size (.slice none 0 0) (.slice none 0 0) 0 0 := heap_alloc_new w2 _
    have VA3 := VarJ.step HVA.out b4
    have sz4 : (w2.alloc (.cells #[.slice none 0 0, .slice none 0 0, .int .i64 0, .int .i64 0] 30)).drew.heap.size = w2.heap.size + 1 := by show (w2.alloc (.cells #[.slice none 0 0, .slice none 0 0, .int .i64 0, .int .i64 0] 30)).heap.size = _; simp
    have u0 := VA3.c0
    have u1 := VA3.c1
    have u2 := VA3.c2
    have u3 := VA3.c3
    refine hK.out _ _ ⟨u0, u1, u2, u3⟩ (fun hHeld => ?_)
    clear hK K
    try simp only [Act.put, List.setIfInBounds_toArray, List.set_cons_zero, List.set_cons_succ, List.getElem_toArray, List.getElem_cons_zero, List.getElem_cons_succ]
    refine wpAnyH_ready (rs := [2]) (by kernel_rfl) (by simp) ?_
    refine AllReadyH.cons rfl (fun K hK => ?_) AllReadyH.nil
    go_simp
    refine Calls.mono (HCP.out _ b4) ?_
    rintro e w3 ⟨x, y, H, rfl, oX, oY, hH, b3_⟩
    obtain ⟨ca, cc, rfl⟩ := oX.sliced
    obtain ⟨da, dn, dc, rfl⟩ := oY.rd.sliced
    have b3 : Below w2.heap.size w2 w3 := b4.trans (b3_.mono b4.size)
    have s3 := b3_.size
    have VA4 := VarJ.step HVA.out b3
    have VB4 := VB3.step b3_
    have g0 := VB4.f 0
    have g1 := VB4.f 1
    have g2 := VB4.f 2
    have g3 := VB4.f 3
    have h0_ := VB4.c0
    have h1_ := VB4.c1
    have h2_ := VB4.c2
    have h3_ := VB4.c3
    go_wp2_with fail
    have t0 := VA4.c0
    have t1 := VA4.c1
    have t2 := VA4.c2
    have t3 := VA4.c3
    refine hK.out _ _ ⟨t0, t1, t2, t3⟩ (fun hHeld => ?_)
    clear hK K
    try simp only [Act.put, List.setIfInBounds_toArray, List.set_cons_zero, List.set_cons_succ, List.getElem_toArray, List.getElem_cons_zero, List.getElem_cons_succ]
    refine wpAnyH_take (i := 7) (v := ?_) rfl (by kernel_rfl) (by kernel_rfl) (by kernel_rfl) (fun _ _ _ h => h) (Or.inl ⟨by rfl, ?_⟩) (by assumption) ?_
    rotate_left
    · (intro w_ hSw_; (try dsimp only at hSw_); go_simp; try with_reducible rfl)
    try simp only [Act.put, List.setIfInBounds_toArray, List.set_cons_zero, List.set_cons_succ, List.getElem_toArray, List.getElem_cons_zero, List.getElem_cons_succ]
    refine wpAnyH_ready (rs := [9]) (by kernel_rfl) (by simp) ?_
    refine AllReadyH.cons rfl (fun K hK => ?_) AllReadyH.nil
    go_simp
    have VB9 := (((VB4.set0 (.slice ca d.1.length cc)).set1 (.slice da dn dc)).set2 (P : Int)).set3 (Q : Int)
    have hst : ∀ g, g ≠ w2.heap.size → ((((w3.setCell ⟨w2.heap.size, 0, none⟩ (.slice ca d.1.length cc)).setCell ⟨w2.heap.size, 1, none⟩ (.slice da dn dc)).setCell ⟨w2.heap.size, 2, none⟩ (.int .i64 (P : Int))).setCell ⟨w2.heap.size, 3, none⟩ (.int .i64 (Q : Int))).heap[g]? = w3.heap[g]? := fun g hg => (heap_setCell_other _ _ _ _ hg).trans ((heap_setCell_other _ _ _ _ hg).trans ((heap_setCell_other _ _ _ _ hg).trans (heap_setCell_other _ _ _ _ hg)))
    have VA9 : VarJ 30 ((((w3.setCell ⟨w2.heap.size, 0, none⟩ (.slice ca d.1.length cc)).setCell ⟨w2.heap.size, 1, none⟩ (.slice da dn dc)).setCell ⟨w2.heap.size, 2, none⟩ (.int .i64 (P : Int))).setCell ⟨w2.heap.size, 3, none⟩ (.int .i64 (Q : Int))) w.heap.size _ _ _ _ := (hst _ (by omega)).trans VA4
    have y0 := VA9.c0
    have y1 := VA9.c1
    have y2 := VA9.c2
    have y3 := VA9.c3
    refine hK.out _ _ ⟨y0, y1, y2, y3⟩ (fun hHeld => ?_)
    clear hK K
    try simp only [Act.put, List.setIfInBounds_toArray, List.set_cons_zero, List.set_cons_succ, List.getElem_toArray, List.getElem_cons_zero, List.getElem_cons_succ]
    refine wpAnyH_done (by kernel_rfl) (NoPanic.normal ?_) _
    have KX := ((oX.kpeL (b := w2.heap.size) (by rw [sz4]; omega) HWH.out).low (l' := w2.heap.size) (by rw [sz4]; omega)).keep (w' := ((((w3.setCell ⟨w2.heap.size, 0, none⟩ (.slice ca d.1.length cc)).setCell ⟨w2.heap.size, 1, none⟩ (.slice da dn dc)).setCell ⟨w2.heap.size, 2, none⟩ (.int .i64 (P : Int))).setCell ⟨w2.heap.size, 3, none⟩ (.int .i64 (Q : Int)))) (fun g _ _ h3 => hst g h3)
    have KY := ((oY.kwgL (b := w2.heap.size) (by have := hH.1; rw [sz4] at this; omega)).keep (w' := ((((w3.setCell ⟨w2.heap.size, 0, none⟩ (.slice ca d.1.length cc)).setCell ⟨w2.heap.size, 1, none⟩ (.slice da dn dc)).setCell ⟨w2.heap.size, 2, none⟩ (.int .i64 (P : Int))).setCell ⟨w2.heap.size, 3, none⟩ (.int .i64 (Q : Int)))) (fun g _ _ h3 => hst g h3)).up (h' := ((((w3.setCell ⟨w2.heap.size, 0, none⟩ (.slice ca d.1.length cc)).setCell ⟨w2.heap.size, 1, none⟩ (.slice da dn dc)).setCell ⟨w2.heap.size, 2, none⟩ (.int .i64 (P : Int))).setCell ⟨w2.heap.size, 3, none⟩ (.int .i64 (Q : Int))).heap.size) (by simp)
    have B9 : Below w2.heap.size w2 ((((w3.setCell ⟨w2.heap.size, 0, none⟩ (.slice ca d.1.length cc)).setCell ⟨w2.heap.size, 1, none⟩ (.slice da dn dc)).setCell ⟨w2.heap.size, 2, none⟩ (.int .i64 (P : Int))).setCell ⟨w2.heap.size, 3, none⟩ (.int .i64 (Q : Int))) := (((b3.setCell (Nat.le_refl _) _).setCell (Nat.le_refl _) _).setCell (Nat.le_refl _) _).setCell (Nat.le_refl _) _
    have hb9 : w2.heap.size ≤ w2.heap.size := by omega
    have hHs : w2.heap.size ≤ H := by have := hH.1; rw [sz4] at this; omega
    have hHe : H ≤ ((((w3.setCell ⟨w2.heap.size, 0, none⟩ (.slice ca d.1.length cc)).setCell ⟨w2.heap.size, 1, none⟩ (.slice da dn dc)).setCell ⟨w2.heap.size, 2, none⟩ (.int .i64 (P : Int))).setCell ⟨w2.heap.size, 3, none⟩ (.int .i64 (Q : Int))).heap.size := by have := hH.2; simp; omega
    generalize ((((w3.setCell ⟨w2.heap.size, 0, none⟩ (.slice ca d.1.length cc)).setCell ⟨w2.heap.size, 1, none⟩ (.slice da dn dc)).setCell ⟨w2.heap.size, 2, none⟩ (.int .i64 (P : Int))).setCell ⟨w2.heap.size, 3, none⟩ (.int .i64 (Q : Int))) = w9 at KX KY B9 VB9 VA9 hHe hHeld ⊢
    clear oX oY b3 b3_ b4 VA3 VA4 VB4 hst VB3 sz4 hH t0 t1 t2 t3 u0 u1 u2 u3 y0 y1 y2 y3 g0 h0_ g1 h1_ g2 h2_ g3 h3_ c0 c1 c2 c3 HCP hHeld
    have hbb := VB9.lt
    have hsz9 := B9.size
    have HB9 : Hid (Below w.heap.size w w9) := HB2.out.trans (B9.mono HB2.out.size)
    have VR9 := VarJ.step HVR2.out B9
    have HVR9 : Hid (VarJ 30 w9 (w.heap.size + 1) (.slice none 0 0) (.slice none 0 0) 0 0) := VR9
    have hbR : w.heap.size + 1 < w2.heap.size := by omega
    obtain ⟨bb, hbbe⟩ : ∃ bb, bb = w2.heap.size := ⟨_, rfl⟩
    have HVB : Hid (VarJ 30 w9 bb (.slice ca d.1.length cc) (.slice da dn dc) (P : Int) (Q : Int)) := by rw [hbbe]; exact VB9
    have HKX : Hid (KpE w9 w2.heap.size H bb (.slice ca d.1.length cc) d.1) := by rw [hbbe]; exact KX
    have HKY : Hid (KwG w9 H w9.heap.size bb (.slice da dn dc) d.2) := by rw [hbbe]; exact KY
    have hb9' : w2.heap.size ≤ bb := by rw [hbbe]; exact hb9
    clear hb9
    rw [← hbbe]
    have hb9 := hb9'
    clear hb9'
    have HB92 : Hid (Below w2.heap.size w2 w9) := B9
    clear KX KY VB9 VA9 B9 VR9 hbbe HVA HVR2 hbb
    have HRET : Hid (∀ (W : World) (b i : Nat) (z : Value), w.heap.size ≤ b → Below w.heap.size w W → Below w.heap.size w (W.setCell ⟨b, i, none⟩ z)) := fun W b i z hb hW => hW.setCell hb z
    have HSAM : Hid (∀ (W : World) (k i : Nat) (z : Value), SameIn w2.heap.size k W (W.setCell ⟨w.heap.size + 1, i, none⟩ z)) := fun W k i z => SameIn.set (p := ⟨w.heap.size + 1, i, none⟩) (.inl (by show w.heap.size + 1 < _; omega))
    have hd2 : decide ((200 : Int) < (sn : Int)) = false := by have := HSN.out.1; simp; omega
    have HWR : Hid _ := HW3.out bb _ _ _ lz hz w2.heap.size H w9 HVB.out HKX.out HKY.out hHs hHe hb9 (HRZ.out _ HB9.out) (by omega) h200 hQ6 hPd hn2 hm2
    go_wp2_with fail
    refine Calls.mono HWR.out ?_
    rintro e w10 ⟨rfl, hlo, hos, hsz, hX, hY⟩
    simp only [if_true] at hY
    obtain ⟨y', hV10, hK10⟩ := hY
    have VR10 : VarJ 30 w10 (w.heap.size + 1) (.slice none 0 0) (.slice none 0 0) 0 0 := (hlo _ hbR).trans HVR9.out
    have HFL : Hid _ := specFlushT_in 30 [.int .i64 ((P : Int) + (manyN zs.length : Int)), .int .i64 ((Q : Int) + 1)] bb _ y' (d.1, d.2 ++ frameW P (frameN Q zs)) w2.heap.size H w10.heap.size w10 hV10 hX hK10.e (by omega) hHs (Nat.le_refl _) (by first | exact HOF.out rfl | exact HOF.out trivial)
    have HB10 : Hid (Below w.heap.size w w10) := HB9.out.trans ⟨hos.1, hos.2.1, hos.2.2, hsz, fun g hg => hlo g (by omega)⟩
    have hxl : ∀ g, (Value.slice ca d.1.length cc).ownBlock = some g → w2.heap.size ≤ g := fun g hg => by obtain ⟨_, _, ho, _⟩ := hX; exact (ho.lt g hg).1
    have HXL : Hid _ := hxl
    have HVR10 : Hid (VarJ 30 w10 (w.heap.size + 1) _ _ _ _) := VR10
    have s10 : w2.heap.size ≤ w10.heap.size := by omega
    clear hlo hos hX hV10 hK10 VR10 HWR HVB HKX HKY HVR9 HB9 hxl
    go_wp2_with fail
    refine Calls.mono HFL.out ?_
    rintro e w11 ⟨⟨u11, rfl⟩, oX11, vO11, t11⟩
    have nlt : ∀ g, g < w2.heap.size → ¬ Blk [.slice (some ⟨bb, 0, none⟩) 0 0, .slice ca d.1.length cc] g := fun g hg hb => by
      obtain ⟨i, hi, hk⟩ := hb
      match i, hi, hk with
      | 0, _, hk => have := slice_block (show (Value.slice (some ⟨bb, 0, none⟩) 0 0).ownBlock = some g by simpa using hk); simp at this; omega
      | 1, _, hk => have := HXL.out g (by simpa using hk); omega
      | i + 2, hi, _ => have h2 : i + 2 < 2 := hi; omega
    have s11 := t11.size
    have VR11 : VarJ 30 w11 (w.heap.size + 1) (.slice none 0 0) (.slice none 0 0) 0 0 := (t11.block _ (by omega) (nlt _ hbR)).trans HVR10.out
    have vJ11 : VarJ 30 w11 bb (.slice ca d.1.length cc) (.slice none 0 0) ((P : Int) + (manyN zs.length : Int)) ((Q : Int) + 1) := vO11
    have o0 := vJ11.c0
    have o1 := vJ11.c1
    have o2 := vJ11.c2
    have o3 := vJ11.c3
    have e0 := VR11.c0
    have e1 := VR11.c1
    have e2 := VR11.c2
    have e3 := VR11.c3
    have f0 := VR11.f 0
    have f1 := VR11.f 1
    have f2 := VR11.f 2
    have f3 := VR11.f 3
    have HRD2 : Hid (RdD w11 w2.heap.size w11.heap.size (.agg #[.slice ca d.1.length cc, .slice none 0 0]) (flushS d.1 (d.2 ++ frameW P (frameN Q zs)), [])) := ⟨_, _, rfl, oX11.rd.wide (Nat.le_refl _) s11, RdWs_nil _ _ _⟩
    have HB11 : Hid (Below w.heap.size w w11) := HB10.out.trans ⟨t11.os, t11.tape, t11.output, t11.size, fun g hg => t11.block g (by omega) (nlt g (by omega))⟩
    clear oX11 vO11 t11 nlt VR11 vJ11 HFL HB10 HVR10
    go_wp2
    refine bodyPost_ret (v := .tuple #[.agg #[.slice ca d.1.length cc, .slice none 0 0, .int .i64 ((P : Int) + (manyN zs.length : Int)), .int .i64 ((Q : Int) + 1)], .bool true]) (by simp [results, Tryd.results20, go_sem, e0, e1, e2, e3]) rfl ?_
    refine ⟨_, by first | rfl | simp, ?_, ?_⟩
    · have h9 : RdJ w11 w2.heap.size w11.heap.size (.agg #[.slice ca d.1.length cc, .slice none 0 0, .int .i64 ((P : Int) + (manyN zs.length : Int)), .int .i64 ((Q : Int) + 1)]) ((flushS d.1 (d.2 ++ frameW P (frameN Q zs)), []), (P : Int) + (manyN zs.length : Int), (Q : Int) + 1) := ⟨_, _, rfl, HRD2.out⟩
      refine RdJ.wide (RdJ.same (h := w11.heap.size) (l := w2.heap.size) (by simpa using h9) ?_) (by omega) (by simp)
      repeat (refine SameIn.trans ?_ (HSAM.out _ _ _ _))
      exact SameIn.refl _ _ _
    · repeat (refine HRET.out _ _ _ _ (by omega) ?_)
      exact HB11.out
end Go.Proofs.YtjhaanenkeceiaaDoor
end
