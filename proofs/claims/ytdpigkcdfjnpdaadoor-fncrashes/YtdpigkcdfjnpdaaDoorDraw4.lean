/- What is drawn for WriteSector: some disk, some number, some bytes, in memory of their own. No condition. -/
import Derived.Test.YtdpigkcdfjnpdaaDoorDraw3
import Derived.Test.YtdpigkcdfjnpdaaDoorReads2
namespace Go.Proofs.YtdpigkcdfjnpdaaDoor
open Go.RowKit
set_option linter.unusedVariables false
set_option linter.unusedSimpArgs false
attribute [local go_sem ↓] Go.wp_at_zero Go.wp_at_succ

theorem RdD.blk2 {w w' : World} {l h : Nat} {v : Value} {d : Dk} (r : RdD w l h v d) (hk : ∀ q, l ≤ q → q < h → w'.heap[q]? = w.heap[q]?) (hs : w.heap.size ≤ w'.heap.size) : RdD w' l h v d := r.same ⟨hs, hk⟩
theorem below_of_grown {w0 w w' : World} {B pb : Nat} (h : Below B w0 w) (hg : w.grownBy w' (some pb)) (hB : B ≤ w.heap.size) (hp : B ≤ pb) : Below B w0 w' := below_grown h hg hB hp
theorem RdB.cur {w w' : World} {l h pb : Nat} {v : Value} {zs : List Int} (r : RdB w l h v zs) (hg : w.grownBy w' (some pb)) (hp : pb < l) (hh : h ≤ w.heap.size) : RdB w' l h v zs :=
  r.same ⟨hg.size, fun q h1 h2 => hg.block q (by omega) (fun e => by have h9 : q = pb := (by simpa using e); omega)⟩
theorem RdD.cur {w w' : World} {l h pb : Nat} {v : Value} {d : Dk} (r : RdD w l h v d) (hg : w.grownBy w' (some pb)) (hp : pb < l) (hh : h ≤ w.heap.size) : RdD w' l h v d :=
  r.same ⟨hg.size, fun q h1 h2 => hg.block q (by omega) (fun e => by have h9 : q = pb := (by simpa using e); omega)⟩
theorem RdB.tail {w : World} {l h : Nat} {sb so sc : Nat} {zs : List Int} (r : RdB w l h (.slice (some ⟨sb, so, none⟩) 32 sc) zs) (h1 : zs.length = 32) : RdB w l h (.slice (some ⟨sb, so + 1, none⟩) 31 (sc - 1)) (zs.drop 1) := by
  obtain ⟨hsb, sa, sn, sc', he, hsn, hsh, hsc⟩ := r
  simp only [Value.slice.injEq] at he
  obtain ⟨rfl, rfl, rfl⟩ := he
  obtain ⟨b, o, hb, hsl, hsH, hscell⟩ := hsc.resolve_left (fun e => by rw [e] at h1; simp at h1)
  simp only [Option.some.injEq, Addr.mk.injEq, and_true] at hb
  obtain ⟨rfl, rfl⟩ := hb
  refine ⟨isBytes_drop hsb 1, _, _, _, rfl, by simp; omega, ⟨by have := hsh.1; omega, by have := hsh.2.1; omega, fun e => by cases e⟩, .inr ⟨sb, so + 1, rfl, hsl, hsH, fun i hi => ?_⟩⟩
  have hi' : i < 31 := by simp at hi; omega
  have := hscell (1 + i) (by omega)
  rw [Nat.add_assoc, this, List.getElem?_drop]

theorem VarD.cur4 {w w' : World} {b pb : Nat} {x y : Value} (h : VarD w b x y) (hg : w.grownBy w' (some pb)) (hp : b < pb) : VarD w' b x y :=
  (hg.block b h.lt (fun e => by have h9 : b = pb := (by simpa using e); omega)).trans h

set_option maxRecDepth 100000 in
set_option maxHeartbeats 4000000 in
theorem drawWrite_any (a : Option Addr) (zs : List Int) (len cap : Nat) (w : World) (h : Reads w a zs) (hlen : len = zs.length) (hm : zs.length ≤ maxLen) :
    Calls Tryd.prog 10 #[.slice a len cap] w fun e w' => ∃ v d p u ys, e = .returned (.tuple #[v, .int .i64 p, u]) ∧ RdD w' w.heap.size w'.heap.size v d ∧ Tiny d ∧ RdB w' w.heap.size w'.heap.size u ys ∧ ys.length ≤ 32 ∧ Below w.heap.size w w' := by
  have b0 := Below.new (w := w) (.cells #[.slice none 0 0, .slice none 0 0] 26)
  have v0 := VarD.new w (.slice none 0 0) (.slice none 0 0)
  have r0 := h.below b0
  generalize hw0 : w.alloc (.cells #[.slice none 0 0, .slice none 0 0] 26) = w0 at b0 v0 r0
  have HW0 : Hid _ := hw0
  have s0 := v0.lt
  have HLEN : Hid _ := hlen
  clear hw0 h hlen
  go_enter Tryd.func10, Tryd.ntmps10
  go_wp2_with fail
  rw [HW0.out]
  refine (new_any a zs len cap w0 r0 HLEN.out hm).mono ?_
  rintro e w1 ⟨rfl, c1, b1⟩
  have B1 := b0.trans (b1.mono b0.size)
  have v1 := v0.step b1
  have s1 := b1.size
  obtain ⟨pb, hpb⟩ : ∃ pb, pb = w0.heap.size := ⟨_, rfl⟩
  rw [← hpb] at c1
  have hp1 := c1.lt
  have hwp : w.heap.size < pb := by omega
  have HPB : Hid _ := hpb
  clear b0 b1 v0 r0 hpb
  go_wp2_with fail
  rw [← HPB.out]
  refine (disk_any pb w1 c1).mono ?_
  rintro e w2 ⟨v, d, rfl, r2, ht, c2, g2⟩
  have B2 := below_grown B1 g2 (by omega) (by omega)
  have v2 : VarD w2 w.heap.size _ _ := (g2.block _ v1.lt (by simp; omega)).trans v1
  have s2 := g2.size
  obtain ⟨xa, xn, xc, ya, yn, yc, rfl⟩ := r2.open
  have HLN : Hid (xn = d.1.length) := r2.parts.1.len.1
  have hxm : xn ≤ 9223372036854775807 := r2.parts.1.len.2
  have b3 := Below.new (w := w2) (.cells #[.slice xa xn xc, .slice ya yn yc] 26)
  have vV := VarD.new w2 (.slice xa xn xc) (.slice ya yn yc)
  have c3 := c2.below b3
  have v3 := v2.step b3
  have r3 := r2.step (Nat.le_refl _) b3
  have B3 := B2.trans (b3.mono B2.size)
  obtain ⟨vb, hvb⟩ : ∃ vb, vb = w2.heap.size := ⟨_, rfl⟩
  rw [← hvb] at vV r3
  generalize hw3 : w2.alloc (.cells #[.slice xa xn xc, .slice ya yn yc] 26) = w3 at b3 vV c3 v3 r3 B3
  have HW3 : Hid _ := hw3
  have HVB : Hid _ := hvb
  have s3 := vV.lt
  have hvb1 : w1.heap.size ≤ vb := by omega
  clear hvb hw3 b3 c2 v2 r2 B2 B1 v1 g2 c1
  go_wp2_with fail
  rw [← HVB.out, HW3.out]
  refine (sector_any pb w3 c3).mono ?_
  rintro e w4 ⟨u, ys, rfl, o4, hyb, hyl, c4, g4⟩
  have B4 := below_grown B3 g4 (by omega) (by omega)
  have v4 := v3.cur4 g4 (by omega)
  have vV4 := vV.cur g4 (by omega)
  have r4 := r3.cur g4 (by omega) (by omega)
  have u4 := (OwB.of hyb o4).rd
  have s4 := g4.size
  clear B3 v3 vV r3 o4 hyb g4 c3 HW3 HVB HPB HW0
  go_wp2_with fail
  refine (once_any pb 8 w4 c4 (by omega) (by omega)).mono ?_
  rintro e w5 ⟨bo, rfl, c5, g5⟩
  have B5 := below_grown B4 g5 (by omega) (by omega)
  have v5 := v4.cur4 g5 (by omega)
  have vV5 := vV4.cur g5 (by omega)
  have r5 := r4.cur g5 (by omega) (by omega)
  have u5 := u4.cur g5 (by omega) (Nat.le_refl _)
  have s5 := g5.size
  obtain ⟨sb, so, sc, rfl⟩ : ∃ sb so sc, u = .slice (some ⟨sb, so, none⟩) 32 sc := by
    obtain ⟨_, sa, sn, sc, he, hsn, hsh, hsc⟩ := u5
    obtain ⟨b, o, hb, _⟩ := hsc.resolve_left (fun e => by rw [e] at hyl; simp at hyl)
    exact ⟨b, o, sc, by rw [he, hb, hsn, hyl]⟩
  have hsc32 : 32 ≤ sc := by obtain ⟨_, sa, sn, sc', he, hsn, hsh, hsc⟩ := u5; simp only [Value.slice.injEq] at he; have := hsh.1; omega
  have hscm : sc ≤ 9223372036854775807 := by obtain ⟨_, sa, sn, sc', he, hsn, hsh, hsc⟩ := u5; simp only [Value.slice.injEq] at he; have := hsh.2.1; unfold maxLen at this; omega
  have hsc1 : ¬ sc = 1 := by omega
  have d0 := vV5.c0
  have d1 := vV5.c1
  have HC6 : Hid (CurAt (w5.alloc (.cells #[.int .i64 0, .int .i64 1, .int .i64 2, .int .i64 (xn : Int), .int .i64 (-1), .int .i64 9223372036854775807] 3)).drew pb) := (c5.alloc _).below (Below.drew (Below.refl _ _))
  have HB6 : Hid (Below w5.heap.size w5 (w5.alloc (.cells #[.int .i64 0, .int .i64 1, .int .i64 2, .int .i64 (xn : Int), .int .i64 (-1), .int .i64 9223372036854775807] 3)).drew) := ((Below.refl _ _).alloc (Nat.le_refl _) _).drew
  have HNEW : Hid ((w5.alloc (.cells #[.int .i64 0, .int .i64 1, .int .i64 2, .int .i64 (xn : Int), .int .i64 (-1), .int .i64 9223372036854775807] 3)).drew.heap[w5.heap.size]? = some (.cells (([0, 1, 2, (xn : Int), -1, 9223372036854775807].map (Value.int .i64)).toArray) 3 (0, 0))) := heap_alloc_new w5 _
  have HR5 : Hid (RdD w5 w1.heap.size vb _ d) := r5
  have HV5 : Hid (VarD w5 vb _ _) := vV5
  have HR0 : Hid (VarD w5 w.heap.size _ _) := v5
  have HB5 : Hid (Below w.heap.size w w5) := B5
  have HTY : Hid (Tiny d) := ht
  clear B4 v4 vV4 r4 u4 g5 c4 c5 r5 vV5 v5 B5 ht
  cases bo with
  | false =>
    have HU : Hid (RdB w5 w3.heap.size w4.heap.size (.slice (some ⟨sb, so, none⟩) 32 sc) ys) := u5
    have HUL : Hid (ys.length ≤ 32) := by show _ ≤ _; omega
    clear u5 hyl
    go_wp2
    refine wp_region_noPanic ?_
    refine wp_region_held_drew (S := fun w' => w'.cell? ⟨vb, 0, none⟩ = some (.slice xa xn xc) ∧ w'.cell? ⟨vb, 1, none⟩ = some (.slice ya yn yc)) (by kernel_rfl) ⟨d0, d1⟩ (fun hHeld => ?_)
    refine wpAnyH_take (i := 0) (v := ?_) rfl (by kernel_rfl) (by kernel_rfl) (by kernel_rfl) (fun _ _ _ h => h) (Or.inl ⟨by rfl, ?_⟩) (by assumption) ?_
    rotate_left
    · (intro w_ hSw_; (try dsimp only at hSw_); go_simp; try with_reducible rfl)
    try simp only [Act.put, List.setIfInBounds_toArray, List.set_cons_zero, List.set_cons_succ, List.getElem_toArray, List.getElem_cons_zero, List.getElem_cons_succ]
    refine wpAnyH_take (i := 1) (v := ?_) rfl (by kernel_rfl) (by kernel_rfl) (by kernel_rfl) (fun _ _ _ h => h) (Or.inl ⟨by rfl, ?_⟩) (by assumption) ?_
    rotate_left
    · (intro w_ hSw_; (try dsimp only at hSw_); go_simp; try with_reducible rfl)
    try simp only [Act.put, List.setIfInBounds_toArray, List.set_cons_zero, List.set_cons_succ, List.getElem_toArray, List.getElem_cons_zero, List.getElem_cons_succ]
    refine wpAnyH_take (i := 2) (v := ?_) rfl (by kernel_rfl) (by kernel_rfl) (by kernel_rfl) (fun _ _ _ h => h) (Or.inl ⟨by rfl, ?_⟩) (by assumption) ?_
    rotate_left
    · (intro w_ hSw_; (try dsimp only at hSw_); go_simp; try with_reducible rfl)
    try simp only [Act.put, List.setIfInBounds_toArray, List.set_cons_zero, List.set_cons_succ, List.getElem_toArray, List.getElem_cons_zero, List.getElem_cons_succ]
    refine wpAnyH_take (i := 3) (v := ?_) rfl (by kernel_rfl) (by kernel_rfl) (by kernel_rfl) (fun _ _ _ h => h) (Or.inl ⟨by rfl, ?_⟩) (by assumption) ?_
    rotate_left
    · (intro w_ hSw_; (try dsimp only at hSw_); go_simp; try with_reducible rfl)
    try simp only [Act.put, List.setIfInBounds_toArray, List.set_cons_zero, List.set_cons_succ, List.getElem_toArray, List.getElem_cons_zero, List.getElem_cons_succ]
    refine wpAnyH_take (i := 4) (v := ?_) rfl (by kernel_rfl) (by kernel_rfl) (by kernel_rfl) (fun _ _ _ h => h) (Or.inl ⟨by rfl, ?_⟩) (by assumption) ?_
    rotate_left
    · (intro w_ hSw_; (try dsimp only at hSw_); go_simp; try with_reducible rfl)
    try simp only [Act.put, List.setIfInBounds_toArray, List.set_cons_zero, List.set_cons_succ, List.getElem_toArray, List.getElem_cons_zero, List.getElem_cons_succ]
    refine wpAnyH_take (i := 7) (v := ?_) rfl (by kernel_rfl) (by kernel_rfl) (by kernel_rfl) (fun _ _ _ h => h) (Or.inl ⟨by rfl, ?_⟩) (by assumption) ?_
    rotate_left
    · (intro w_ hSw_; (try dsimp only at hSw_); go_simp; try with_reducible rfl)
    try simp only [Act.put, List.setIfInBounds_toArray, List.set_cons_zero, List.set_cons_succ, List.getElem_toArray, List.getElem_cons_zero, List.getElem_cons_succ]
    refine wpAnyH_ready (rs := [5]) (by kernel_rfl) (by simp) ?_
    refine AllReadyH.cons rfl (fun K hK => ?_) AllReadyH.nil
    go_simp
    have V6 := VarD.step HV5.out HB6.out
    have m0 := V6.c0
    have m1 := V6.c1
    refine hK.out _ _ ⟨m0, m1⟩ (fun hHeld => ?_)
    clear hK K
    try simp only [Act.put, List.setIfInBounds_toArray, List.set_cons_zero, List.set_cons_succ, List.getElem_toArray, List.getElem_cons_zero, List.getElem_cons_succ]
    refine wpAnyH_ready (rs := [6]) (by kernel_rfl) (by simp) ?_
    refine AllReadyH.cons rfl (fun K hK => ?_) AllReadyH.nil
    go_simp
    refine (pick_any pb w5.heap.size [0, 1, 2, (xn : Int), -1, 9223372036854775807] _ HC6.out (by simp) (by simp) (by omega) HNEW.out).mono ?_
    rintro e w7 ⟨p, rfl, hpm, c7, g7⟩
    have g57 : w5.grownBy w7 (some pb) := grown_trans (grown_below HB6.out) g7
    have s7 := g57.size
    have V7 := VarD.cur HV5.out g57 (by omega)
    have k0 := V7.c0
    have k1 := V7.c1
    have R7 := VarD.cur4 HR0.out g57 (by omega)
    have e0 := R7.c0
    have e1 := R7.c1
    have f0 := R7.f 0
    have f1 := R7.f 1
    go_wp2_with fail
    refine hK.out _ _ ⟨k0, k1⟩ (fun hHeld => ?_)
    clear hK K
    try simp only [Act.put, List.setIfInBounds_toArray, List.set_cons_zero, List.set_cons_succ, List.getElem_toArray, List.getElem_cons_zero, List.getElem_cons_succ]
    refine wpAnyH_ready (rs := [8]) (by kernel_rfl) (by simp) ?_
    refine AllReadyH.cons rfl (fun K hK => ?_) AllReadyH.nil
    go_simp
    have hset : ∀ q, q ≠ w.heap.size → ((w7.setCell ⟨w.heap.size, 0, none⟩ (.slice xa xn xc)).setCell ⟨w.heap.size, 1, none⟩ (.slice ya yn yc)).heap[q]? = w7.heap[q]? := fun q hq => (heap_setCell_other _ _ _ _ hq).trans (heap_setCell_other _ _ _ _ hq)
    have V8 : VarD ((w7.setCell ⟨w.heap.size, 0, none⟩ (.slice xa xn xc)).setCell ⟨w.heap.size, 1, none⟩ (.slice ya yn yc)) vb _ _ := (hset vb (by omega)).trans V7
    have l0 := V8.c0
    have l1 := V8.c1
    have R8 : VarD ((w7.setCell ⟨w.heap.size, 0, none⟩ (.slice xa xn xc)).setCell ⟨w.heap.size, 1, none⟩ (.slice ya yn yc)) w.heap.size (.slice xa xn xc) (.slice ya yn yc) := by
      show _ = _
      rw [heap_setCell_same _ _ _ _ _ _ (show (w7.setCell ⟨w.heap.size, 0, none⟩ (.slice xa xn xc)).heap[w.heap.size]? = some (.cells #[.slice xa xn xc, .slice none 0 0] 26 (0, 0)) by rw [heap_setCell_same _ _ _ _ _ _ R7]; rfl)]; rfl
    refine hK.out _ _ ⟨l0, l1⟩ (fun hHeld => ?_)
    clear hK K
    try simp only [Act.put, List.setIfInBounds_toArray, List.set_cons_zero, List.set_cons_succ, List.getElem_toArray, List.getElem_cons_zero, List.getElem_cons_succ]
    refine wpAnyH_ready (rs := [9]) (by kernel_rfl) (by simp) ?_
    refine AllReadyH.cons rfl (fun K hK => ?_) AllReadyH.nil
    go_simp
    refine hK.out _ _ (by assumption) (fun hHeld => ?_)
    clear hK K
    try simp only [Act.put, List.setIfInBounds_toArray, List.set_cons_zero, List.set_cons_succ, List.getElem_toArray, List.getElem_cons_zero, List.getElem_cons_succ]
    refine wpAnyH_ready (rs := [10]) (by kernel_rfl) (by simp) ?_
    refine AllReadyH.cons rfl (fun K hK => ?_) AllReadyH.nil
    go_simp
    refine hK.out _ _ (by assumption) (fun hHeld => ?_)
    clear hK K
    try simp only [Act.put, List.setIfInBounds_toArray, List.set_cons_zero, List.set_cons_succ, List.getElem_toArray, List.getElem_cons_zero, List.getElem_cons_succ]
    refine wpAnyH_done (by kernel_rfl) (NoPanic.normal ?_) _
    have q0 := R8.c0
    have q1 := R8.c1
    have rd9 := ((RdD.cur HR5.out g57 (by omega) (by omega)).same (w' := (w7.setCell ⟨w.heap.size, 0, none⟩ (.slice xa xn xc)).setCell ⟨w.heap.size, 1, none⟩ (.slice ya yn yc)) ⟨by simp, fun q h1 h2 => hset q (by omega)⟩).wide (l' := w.heap.size) (h' := w7.heap.size) (by omega) (by omega)
    have ru9 := ((RdB.cur HU.out g57 (by omega) (by omega)).same (w' := (w7.setCell ⟨w.heap.size, 0, none⟩ (.slice xa xn xc)).setCell ⟨w.heap.size, 1, none⟩ (.slice ya yn yc)) ⟨by simp, fun q h1 h2 => hset q (by omega)⟩).wide (l' := w.heap.size) (h' := w7.heap.size) (by omega) (by omega)
    have B9 : Below w.heap.size w ((w7.setCell ⟨w.heap.size, 0, none⟩ (.slice xa xn xc)).setCell ⟨w.heap.size, 1, none⟩ (.slice ya yn yc)) := ((below_grown HB5.out g57 (by omega) (by omega)).setCell (by show w.heap.size ≤ w.heap.size; omega) _).setCell (by show w.heap.size ≤ w.heap.size; omega) _
    have s9 : ((w7.setCell ⟨w.heap.size, 0, none⟩ (.slice xa xn xc)).setCell ⟨w.heap.size, 1, none⟩ (.slice ya yn yc)).heap.size = w7.heap.size := by simp
    generalize (w7.setCell ⟨w.heap.size, 0, none⟩ (.slice xa xn xc)).setCell ⟨w.heap.size, 1, none⟩ (.slice ya yn yc) = w9 at q0 q1 rd9 ru9 B9 s9 l0 l1 hHeld ⊢
    rw [← s9] at rd9 ru9
    have HD : Hid _ := rd9
    have HUU : Hid _ := ru9
    have HB : Hid _ := B9
    clear rd9 ru9 B9 V8 R8 hset V7 R7 g57 g7 c7 hpm V6
    go_wp2
    refine bodyPost_ret (v := .tuple #[.agg #[.slice xa xn xc, .slice ya yn yc], .int .i64 p, .slice (some ⟨sb, so, none⟩) 32 sc]) (by simp [results, Tryd.results10, go_sem, q0, q1]) rfl ?_
    first | exact ⟨_, _, _, _, _, rfl, HD.out, HTY.out, HUU.out, HUL.out, HB.out⟩ | exact ⟨_, rfl, _, HD.out, HTY.out, _, HUU.out, HUL.out, HB.out⟩ | exact ⟨_, _, _, rfl, _, HD.out, HTY.out, _, HUU.out, HUL.out, HB.out⟩
  | true =>
    have HU : Hid (RdB w5 w3.heap.size w4.heap.size (.slice (some ⟨sb, so + 1, none⟩) 31 (sc - 1)) (ys.drop 1)) := u5.tail hyl
    have HUL : Hid ((ys.drop 1).length ≤ 32) := by show _ ≤ _; simp; omega
    clear u5 hyl
    go_wp2
    refine wp_region_noPanic ?_
    refine wp_region_held_drew (S := fun w' => w'.cell? ⟨vb, 0, none⟩ = some (.slice xa xn xc) ∧ w'.cell? ⟨vb, 1, none⟩ = some (.slice ya yn yc)) (by kernel_rfl) ⟨d0, d1⟩ (fun hHeld => ?_)
    refine wpAnyH_take (i := 0) (v := ?_) rfl (by kernel_rfl) (by kernel_rfl) (by kernel_rfl) (fun _ _ _ h => h) (Or.inl ⟨by rfl, ?_⟩) (by assumption) ?_
    rotate_left
    · (intro w_ hSw_; (try dsimp only at hSw_); go_simp; try with_reducible rfl)
    try simp only [Act.put, List.setIfInBounds_toArray, List.set_cons_zero, List.set_cons_succ, List.getElem_toArray, List.getElem_cons_zero, List.getElem_cons_succ]
    refine wpAnyH_take (i := 1) (v := ?_) rfl (by kernel_rfl) (by kernel_rfl) (by kernel_rfl) (fun _ _ _ h => h) (Or.inl ⟨by rfl, ?_⟩) (by assumption) ?_
    rotate_left
    · (intro w_ hSw_; (try dsimp only at hSw_); go_simp; try with_reducible rfl)
    try simp only [Act.put, List.setIfInBounds_toArray, List.set_cons_zero, List.set_cons_succ, List.getElem_toArray, List.getElem_cons_zero, List.getElem_cons_succ]
    refine wpAnyH_take (i := 2) (v := ?_) rfl (by kernel_rfl) (by kernel_rfl) (by kernel_rfl) (fun _ _ _ h => h) (Or.inl ⟨by rfl, ?_⟩) (by assumption) ?_
    rotate_left
    · (intro w_ hSw_; (try dsimp only at hSw_); go_simp; try with_reducible rfl)
    try simp only [Act.put, List.setIfInBounds_toArray, List.set_cons_zero, List.set_cons_succ, List.getElem_toArray, List.getElem_cons_zero, List.getElem_cons_succ]
    refine wpAnyH_take (i := 3) (v := ?_) rfl (by kernel_rfl) (by kernel_rfl) (by kernel_rfl) (fun _ _ _ h => h) (Or.inl ⟨by rfl, ?_⟩) (by assumption) ?_
    rotate_left
    · (intro w_ hSw_; (try dsimp only at hSw_); go_simp; try with_reducible rfl)
    try simp only [Act.put, List.setIfInBounds_toArray, List.set_cons_zero, List.set_cons_succ, List.getElem_toArray, List.getElem_cons_zero, List.getElem_cons_succ]
    refine wpAnyH_take (i := 4) (v := ?_) rfl (by kernel_rfl) (by kernel_rfl) (by kernel_rfl) (fun _ _ _ h => h) (Or.inl ⟨by rfl, ?_⟩) (by assumption) ?_
    rotate_left
    · (intro w_ hSw_; (try dsimp only at hSw_); go_simp; try with_reducible rfl)
    try simp only [Act.put, List.setIfInBounds_toArray, List.set_cons_zero, List.set_cons_succ, List.getElem_toArray, List.getElem_cons_zero, List.getElem_cons_succ]
    refine wpAnyH_take (i := 7) (v := ?_) rfl (by kernel_rfl) (by kernel_rfl) (by kernel_rfl) (fun _ _ _ h => h) (Or.inl ⟨by rfl, ?_⟩) (by assumption) ?_
    rotate_left
    · (intro w_ hSw_; (try dsimp only at hSw_); go_simp; try with_reducible rfl)
    try simp only [Act.put, List.setIfInBounds_toArray, List.set_cons_zero, List.set_cons_succ, List.getElem_toArray, List.getElem_cons_zero, List.getElem_cons_succ]
    refine wpAnyH_ready (rs := [5]) (by kernel_rfl) (by simp) ?_
    refine AllReadyH.cons rfl (fun K hK => ?_) AllReadyH.nil
    go_simp
    have V6 := VarD.step HV5.out HB6.out
    have m0 := V6.c0
    have m1 := V6.c1
    refine hK.out _ _ ⟨m0, m1⟩ (fun hHeld => ?_)
    clear hK K
    try simp only [Act.put, List.setIfInBounds_toArray, List.set_cons_zero, List.set_cons_succ, List.getElem_toArray, List.getElem_cons_zero, List.getElem_cons_succ]
    refine wpAnyH_ready (rs := [6]) (by kernel_rfl) (by simp) ?_
    refine AllReadyH.cons rfl (fun K hK => ?_) AllReadyH.nil
    go_simp
    refine (pick_any pb w5.heap.size [0, 1, 2, (xn : Int), -1, 9223372036854775807] _ HC6.out (by simp) (by simp) (by omega) HNEW.out).mono ?_
    rintro e w7 ⟨p, rfl, hpm, c7, g7⟩
    have g57 : w5.grownBy w7 (some pb) := grown_trans (grown_below HB6.out) g7
    have s7 := g57.size
    have V7 := VarD.cur HV5.out g57 (by omega)
    have k0 := V7.c0
    have k1 := V7.c1
    have R7 := VarD.cur4 HR0.out g57 (by omega)
    have e0 := R7.c0
    have e1 := R7.c1
    have f0 := R7.f 0
    have f1 := R7.f 1
    go_wp2_with fail
    refine hK.out _ _ ⟨k0, k1⟩ (fun hHeld => ?_)
    clear hK K
    try simp only [Act.put, List.setIfInBounds_toArray, List.set_cons_zero, List.set_cons_succ, List.getElem_toArray, List.getElem_cons_zero, List.getElem_cons_succ]
    refine wpAnyH_ready (rs := [8]) (by kernel_rfl) (by simp) ?_
    refine AllReadyH.cons rfl (fun K hK => ?_) AllReadyH.nil
    go_simp
    have hset : ∀ q, q ≠ w.heap.size → ((w7.setCell ⟨w.heap.size, 0, none⟩ (.slice xa xn xc)).setCell ⟨w.heap.size, 1, none⟩ (.slice ya yn yc)).heap[q]? = w7.heap[q]? := fun q hq => (heap_setCell_other _ _ _ _ hq).trans (heap_setCell_other _ _ _ _ hq)
    have V8 : VarD ((w7.setCell ⟨w.heap.size, 0, none⟩ (.slice xa xn xc)).setCell ⟨w.heap.size, 1, none⟩ (.slice ya yn yc)) vb _ _ := (hset vb (by omega)).trans V7
    have l0 := V8.c0
    have l1 := V8.c1
    have R8 : VarD ((w7.setCell ⟨w.heap.size, 0, none⟩ (.slice xa xn xc)).setCell ⟨w.heap.size, 1, none⟩ (.slice ya yn yc)) w.heap.size (.slice xa xn xc) (.slice ya yn yc) := by
      show _ = _
      rw [heap_setCell_same _ _ _ _ _ _ (show (w7.setCell ⟨w.heap.size, 0, none⟩ (.slice xa xn xc)).heap[w.heap.size]? = some (.cells #[.slice xa xn xc, .slice none 0 0] 26 (0, 0)) by rw [heap_setCell_same _ _ _ _ _ _ R7]; rfl)]; rfl
    refine hK.out _ _ ⟨l0, l1⟩ (fun hHeld => ?_)
    clear hK K
    try simp only [Act.put, List.setIfInBounds_toArray, List.set_cons_zero, List.set_cons_succ, List.getElem_toArray, List.getElem_cons_zero, List.getElem_cons_succ]
    refine wpAnyH_ready (rs := [9]) (by kernel_rfl) (by simp) ?_
    refine AllReadyH.cons rfl (fun K hK => ?_) AllReadyH.nil
    go_simp
    refine hK.out _ _ (by assumption) (fun hHeld => ?_)
    clear hK K
    try simp only [Act.put, List.setIfInBounds_toArray, List.set_cons_zero, List.set_cons_succ, List.getElem_toArray, List.getElem_cons_zero, List.getElem_cons_succ]
    refine wpAnyH_ready (rs := [10]) (by kernel_rfl) (by simp) ?_
    refine AllReadyH.cons rfl (fun K hK => ?_) AllReadyH.nil
    go_simp
    refine hK.out _ _ (by assumption) (fun hHeld => ?_)
    clear hK K
    try simp only [Act.put, List.setIfInBounds_toArray, List.set_cons_zero, List.set_cons_succ, List.getElem_toArray, List.getElem_cons_zero, List.getElem_cons_succ]
    refine wpAnyH_done (by kernel_rfl) (NoPanic.normal ?_) _
    have q0 := R8.c0
    have q1 := R8.c1
    have rd9 := ((RdD.cur HR5.out g57 (by omega) (by omega)).same (w' := (w7.setCell ⟨w.heap.size, 0, none⟩ (.slice xa xn xc)).setCell ⟨w.heap.size, 1, none⟩ (.slice ya yn yc)) ⟨by simp, fun q h1 h2 => hset q (by omega)⟩).wide (l' := w.heap.size) (h' := w7.heap.size) (by omega) (by omega)
    have ru9 := ((RdB.cur HU.out g57 (by omega) (by omega)).same (w' := (w7.setCell ⟨w.heap.size, 0, none⟩ (.slice xa xn xc)).setCell ⟨w.heap.size, 1, none⟩ (.slice ya yn yc)) ⟨by simp, fun q h1 h2 => hset q (by omega)⟩).wide (l' := w.heap.size) (h' := w7.heap.size) (by omega) (by omega)
    have B9 : Below w.heap.size w ((w7.setCell ⟨w.heap.size, 0, none⟩ (.slice xa xn xc)).setCell ⟨w.heap.size, 1, none⟩ (.slice ya yn yc)) := ((below_grown HB5.out g57 (by omega) (by omega)).setCell (by show w.heap.size ≤ w.heap.size; omega) _).setCell (by show w.heap.size ≤ w.heap.size; omega) _
    have s9 : ((w7.setCell ⟨w.heap.size, 0, none⟩ (.slice xa xn xc)).setCell ⟨w.heap.size, 1, none⟩ (.slice ya yn yc)).heap.size = w7.heap.size := by simp
    generalize (w7.setCell ⟨w.heap.size, 0, none⟩ (.slice xa xn xc)).setCell ⟨w.heap.size, 1, none⟩ (.slice ya yn yc) = w9 at q0 q1 rd9 ru9 B9 s9 l0 l1 hHeld ⊢
    rw [← s9] at rd9 ru9
    have HD : Hid _ := rd9
    have HUU : Hid _ := ru9
    have HB : Hid _ := B9
    clear rd9 ru9 B9 V8 R8 hset V7 R7 g57 g7 c7 hpm V6
    go_wp2
    refine bodyPost_ret (v := .tuple #[.agg #[.slice xa xn xc, .slice ya yn yc], .int .i64 p, .slice (some ⟨sb, so + 1, none⟩) 31 (sc - 1)]) (by simp [results, Tryd.results10, go_sem, q0, q1]) rfl ?_
    first | exact ⟨_, _, _, _, _, rfl, HD.out, HTY.out, HUU.out, HUL.out, HB.out⟩ | exact ⟨_, rfl, _, HD.out, HTY.out, _, HUU.out, HUL.out, HB.out⟩ | exact ⟨_, _, _, rfl, _, HD.out, HTY.out, _, HUU.out, HUL.out, HB.out⟩
end Go.Proofs.YtdpigkcdfjnpdaaDoor
