/- Joined: SpecD9 SpecD10 ImplT2 ImplT3 WMk WHe. -/
import Derived.Test.YtcicadfhfojdpaaGreatQA01
import Derived.Test.YtcicadfhfojdpaaGreatQSpecT4a
import Derived.Lib.BytesEntry
import Derived.Test.YtcicadfhfojdpaaGreatQMks

namespace Go.Proofs.YtcicadfhfojdpaaGreat
open Go.RowKit
set_option linter.unusedVariables false
set_option linter.unusedSimpArgs false
set_option maxRecDepth 100000
section
theorem guardSlice {ops : Array Oper} {rest : List Oper} {t t' : TypeId} {dst : Option Tmp} {x : Operand} {lo hi : Option Operand} {pos : String} {af : Array Edge} {a : Act} {Q : Exit → Act → World → Prop} {w : World}
  (h : wpList Tryz.prog ops Q (⟨dst, .slice t x lo hi none, t', pos, af, none⟩ :: rest) a w) : wpList Tryz.prog ops Q (⟨dst, .slice t x lo hi none, t', pos, af, none⟩ :: rest) a w := h
theorem enRow_one (e : En) (V : Nat → Value) : enRow [e] V = [V 0, .i e.h.sh, .i e.h.ino, .bool e.h.dir] := by simp [enRow, List.range, List.range.loop, enVal]
def pl (es : List En) (nm : List Int) : Nat := es.findIdx (fun e => geS e.nm nm)
theorem pl_at (es : List En) (nm : List Int) (k : Nat) (hk : k ≤ es.length) (h1 : ∀ i, i < k → geS (es[i]?.getD en0).nm nm = false) (h2 : k < es.length → geS (es[k]?.getD en0).nm nm = true) : pl es nm = k := by
 unfold pl
 by_cases hlt : k < es.length
 ·rw [List.findIdx_eq hlt]
  refine ⟨by simpa [hlt] using h2 hlt, fun j hj => ?_⟩
  have := h1 j hj
  have hj' : j < es.length := by omega
  simpa [hj'] using this
 ·have he : k = es.length := by omega
  rw [List.findIdx_eq_length.2, he]
  intro x hx
  obtain ⟨i, hi, rfl⟩ := List.getElem_of_mem hx
  have := h1 i (by omega)
  simpa [hi] using this
def addE (es : List En) (nm : List Int) (h : Hd) : List En := es.take (pl es nm) ++ [⟨nm, h⟩] ++ es.drop (pl es nm)

set_option maxHeartbeats 4000000 in
theorem specAdd_any (g o : Nat) (xa : Option Addr) (xc : Nat) (y : Value) (es : List En) (nm : List Int) (h : Hd) (S S2 : Nat → Prop) (w : World) (c8 : w.cell? ⟨g, o + 8, none⟩ = some (.slice xa es.length xc)) (hfz : w.frozen? ⟨g, o + 8, none⟩ = false) (r : RdV w S (.slice xa es.length xc) (ensDt es)) (hS : ∀ b, S b → b < w.heap.size) (r2 : RdV w S2 y (.bytes nm)) (hn : es.length ≤ 4000) (hnm : nm.length ≤ 2097152) :
  Calls Tryz.prog 106 #[.pointer (some ⟨g, o, none⟩), y, h.v] w fun e w' => e = .returned (.tuple #[]) ∧ ∃ W x, w' = W.setCell ⟨g, o + 8, none⟩ x ∧ Below w.heap.size w W ∧ RdV W (fun b => (S b ∨ w.heap.size ≤ b) ∧ b < W.heap.size) x (ensDt (addE es nm h)) := by
 obtain ⟨ya, yc, rfl⟩ := r2.sliceB
 obtain ⟨p, q, d⟩ := h
 have hgl : g < w.heap.size := block_lt_of_cell (a := ⟨g, o + 8, none⟩) c8
 have hcap : es.length ≤ xc := by obtain ⟨a', cap', V', hv', hh', _⟩ := RdV.inv r; simp only [Value.slice.injEq] at hv'; obtain ⟨-, -, rfl⟩ := hv'; exact hh'.1
 have HR : Hid (∀ W, Below w.heap.size w W → RdV W S (.slice xa es.length xc) (.rows 81 4 es.length (fun i j => enCell (es[i]?.getD en0) j))) := RdV.old r
 have HY : Hid (∀ W, Below w.heap.size w W → RdV W S2 (.slice ya nm.length yc) (.bytes nm)) := fun W hW => r2.step hW
 have HZ : Hid (isBytes nm) := r2.b.1
 have HRB : Hid (∀ W, Below w.heap.size w W → Reads W ya nm ∧ Headed ya nm.length yc) := fun W hW => by
  obtain ⟨a', cap', he, hh, hr⟩ := (r2.step hW).b.reads
  simp only [Value.slice.injEq, true_and] at he
  obtain ⟨rfl, rfl⟩ := he
  exact ⟨hr, hh⟩
 have HC8 : Hid (∀ W, Below w.heap.size w W → W.cell? ⟨g, o + 8, none⟩ = some (.slice xa es.length xc)) := fun W hW => (hW.cell (p := ⟨g, o + 8, none⟩) hgl).trans c8
 have HFZ : Hid (∀ W, Below w.heap.size w W → W.frozen? ⟨g, o + 8, none⟩ = false) := fun W hW => (hW.frozen (p := ⟨g, o + 8, none⟩) hgl).trans hfz
 have HS : Hid (∀ b, S b → b < w.heap.size) := hS
 clear r r2 c8 hfz hS
 go_enter Tryz.func106, Tryz.ntmps106
 go_wp2
 go_loopw [6] (fun i wr => ∃ k : Nat, k ≤ es.length ∧ i = .i k ∧ Below w.heap.size w wr ∧ VarA wr w.heap.size 27 #[.i p, .i q, .bool d] ∧ Hid (∀ i, i < k → geS (es[i]?.getD en0).nm nm = false)) (fun i _ => es.length - (intOf i).toNat)
 case atStart => exact ⟨0, Nat.zero_le _, rfl, Below.newH _, VarA.new w _ _, fun i hi => absurd hi (Nat.not_lt_zero _)⟩
 case round =>
  obtain ⟨k, hk, rfl, bw, vH, HA⟩ := hrel
  have c8 := HC8.out _ bw
  have hgw : g < wr.heap.size := Nat.lt_of_lt_of_le hgl bw.size
  haveI : Nonempty (Cls wr) := Cls.ne wr
  have kc8 := Cls.cell hgw c8
  by_cases hlt : k < es.length
  ·have hlt9 : (k : Int) < (es.length : Int) := by omega
   obtain ⟨b, off, rfl, hbl, _, hx⟩ := RdV.at (HR.out wr bw) hlt
   obtain ⟨x0, c1, r0⟩ := hx 0 (by omega)
   simp only [Nat.add_zero] at c1
   have kc1 := Cls.cell hbl c1
   obtain ⟨e, he⟩ : ∃ e, es[k]?.getD en0 = e := ⟨_, rfl⟩
   rw [he] at r0
   have HE : Hid _ := he
   clear hx he
   obtain ⟨nm1, hh⟩ := e
   have RB : RdV wr S x0 (.bytes nm1) := r0
   have hcv : ∀ i : Cls wr, (convert 22 9 x0).run Tryz.prog i.W = .ok (.string (strOfNums nm1)) i.W := fun i => conv_d _ nm1 S _ (RdV.step RB i.h)
   have hcy : ∀ i : Cls wr, (convert 22 9 (.slice ya nm.length yc)).run Tryz.prog i.W = .ok (.string (strOfNums nm)) i.W := fun i => conv_d _ nm S2 _ (HY.out _ (bw.trans (i.h.mono bw.size)))
   obtain ⟨xa, xc', rfl⟩ := RdV.sliceB RB
   have hgs : geS nm1 nm = !Op.bytesLess (strOfNums nm1).toList (strOfNums nm).toList := rfl
   generalize nm1.length = xn at *
   generalize strOfNums nm1 = s1 at *
   generalize strOfNums nm = s2 at *
   clear r0 RB
   by_cases hge : Op.bytesLess s1.toList s2.toList = true
   ·have HF : Hid (∀ i, i < k + 1 → geS (es[i]?.getD en0).nm nm = false) := fun i hi => by
     by_cases h1 : i < k
     ·exact HA.out i h1
     ·obtain rfl : i = k := by omega
      rw [HE.out]; rw [hgs, hge]; rfl
    go_wp2
    refine wp_region_cls (by kernel_rfl) (by kernel_rfl) ?_
    repeat (go_big_quiet_step (fail))
    refine wpQuiet_nil ?_
    rintro w' ⟨⟨w', hb'⟩, rfl⟩
    have vH' := vH.step hb'
    have hb3 := bw.trans (hb'.mono bw.size)
    go_wp2
    go_roundw
    case rel => exact ⟨k + 1, by omega, by go_num, hb3, vH', HF.out⟩
    case measure => simp [intOf]; omega
   ·have hg2 : Op.bytesLess s1.toList s2.toList = false := by simpa using hge
    have HP : Hid (pl es nm = k) := pl_at es nm k hk HA.out (fun _ => by rw [HE.out]; rw [hgs, hg2]; rfl)
    go_wp2
    refine wp_region_cls (by kernel_rfl) (by kernel_rfl) ?_
    repeat (go_big_quiet_step (fail))
    refine wpQuiet_nil ?_
    rintro w' ⟨⟨w', hb'⟩, rfl⟩
    have B1 : Below w.heap.size w w' := bw.trans (hb'.mono bw.size)
    have V1 : VarA w' w.heap.size 27 #[.i p, .i q, .bool d] := vH.step hb'
    have s1 := B1.size
    have hvl := V1.lt
    have c81 := HC8.out _ B1
    obtain ⟨VV, hV1, hV2⟩ := RdV.lies (HR.out _ B1)
    have hL := (hV2 k hk).1
    have hkc : k ≤ xc := Nat.le_trans hk hcap
    have htl : (es.take k).length = k := by rw [List.length_take]; omega
    have hr1 : ∀ i, i < (es.take k).length → RdV w' (Nm w' (fun b => S b ∨ w.heap.size ≤ b) (.slice none 0 0)) (VV i) (.bytes ((es.take k)[i]?.getD en0).nm) := fun i hi => by
     rw [getD_take _ _ _ _ hi]
     exact RdV.mono (fun b hb => ⟨.inl hb, Nat.lt_of_lt_of_le (HS.out b hb) s1, fun e => by cases e⟩) (hV1 i (by rw [List.length_take] at hi; omega))
    have H1 : Hid _ := hr1
    have H2 : Hid _ := hL
    have HB1 : Hid (Below w.heap.size w w') := B1
    have HV1 : Hid (VarA w' w.heap.size 27 #[.i p, .i q, .bool d]) := V1
    clear hr1 hL hV1 hV2 B1 V1 vH bw hb'
    go_wp2_with (first | ((with_reducible refine guardSlice ?_); refine wpList_sl _ (sliceHE _ _ _ k hkc _) ?_) | (at_builtin; go_must (refine wpList_appE _ rfl (.tmp 31) (.tmp 37) rfl (.slice none 0 0) rfl [] (es.take k) (w.heap.size + 1) _ _ (fun b => S b ∨ w.heap.size ≤ b) (by rw [htl]; rfl) VV H2.out H1.out (SE.nil _ _ _) (by omega) (by rw [htl]; simp; omega) ?_; intro v5 w5 se5 hg5 hgg5)))
    rw [List.nil_append] at se5
    obtain ⟨a5, c5, rfl⟩ := se5.shapeN htl
    have B5 : Below w.heap.size w w5 := Below.grown HB1.out hg5 s1 (fun q hq => by cases hq)
    have V5 : VarA w5 w.heap.size 27 #[.i p, .i q, .bool d] := (hg5.block _ hvl (fun e => by cases e)).trans HV1.out
    have s5 := B5.size
    have hvl5 := V5.lt
    have hb5 := se5.lt
    have HSE5 : Hid _ := se5
    have HB5 : Hid (Below w.heap.size w w5) := B5
    have HV5 : Hid (VarA w5 w.heap.size 27 #[.i p, .i q, .bool d]) := V5
    clear H1 H2 HB1 HV1 c81 hgg5 hg5 se5 B5 V5
    go_wp2
    refine wp_region_noPanic ?_
    refine wp_region_held_drew (S := fun W => W.cell? ⟨w.heap.size, 0, none⟩ = some (.i p) ∧ W.cell? ⟨w.heap.size, 1, none⟩ = some (.i q) ∧ W.cell? ⟨w.heap.size, 2, none⟩ = some (.bool d)) (by kernel_rfl) (HV5.out.dr.l3) (fun hHeld => ?_)
    refine tkh 0 ?_ rfl (by kernel_rfl) rfl (by assumption) ?_ ?_
    rotate_left
    ·(intro _ h; (try dsimp only at h); go_simp; try with_reducible rfl)
    try simp only [Act.put, qz]
    refine tkh 2 ?_ rfl (by kernel_rfl) rfl (by assumption) ?_ ?_
    rotate_left
    ·(intro _ h; (try dsimp only at h); go_simp; try with_reducible rfl)
    try simp only [Act.put, qz]
    refine tkh 4 ?_ rfl (by kernel_rfl) rfl (by assumption) ?_ ?_
    rotate_left
    ·(intro _ h; (try dsimp only at h); go_simp; try with_reducible rfl)
    try simp only [Act.put, qz]
    refine doH 1 (by kernel_rfl) rfl fun K hK => ?_
    go_simp
    have b6 : Below w5.heap.size w5 (w5.drew.alloc (.cells #[] 5)) := Below.alloc (Below.drew (Below.refl w5.heap.size w5)) (Nat.le_refl _) _
    refine hK.out _ _ (HV5.out.step b6).l3 (fun hHeld => ?_)
    clear hK K
    try simp only [Act.put, qz]
    refine doH 3 (by kernel_rfl) rfl fun K hK => ?_
    have hry := HRB.out _ (HB5.out.trans (b6.mono s5))
    refine step_appS rfl (.tmp 40) (.tmp 41) (by rfl) w5.heap.size _ [] nm (by rfl) (owns_empty w5.drew) ya nm.length yc (by rfl) rfl hry.1 (by simp) (by omega) (by simp) (fun h => hry.2.2.2 h) ?_
    intro v6 w6 ho6 hg6
    rw [List.nil_append] at ho6
    obtain ⟨ua, uc, rfl, _⟩ := ho6.shape
    have b7 : Below w5.heap.size w5 w6 := Below.grown b6 hg6 (by simp) (fun q hq => ((owns_empty w5.drew).lt q hq).1)
    have s7 := b7.size
    refine hK.out _ _ (HV5.out.step b7).l3 (fun hHeld => ?_)
    clear hK K
    try simp only [Act.put, qz]
    refine tkh 5 ?_ rfl (by kernel_rfl) rfl (by assumption) ?_ ?_
    rotate_left
    ·(intro _ h; (try dsimp only at h); go_simp; try with_reducible rfl)
    try simp only [Act.put, qz]
    refine doH 6 (by kernel_rfl) rfl fun K hK => ?_
    go_simp
    have b8 : Below w5.heap.size w5 (w6.alloc (.cells #[.slice ua nm.length uc, .i p, .i q, .bool d] 81)) := Below.alloc b7 s7 _
    refine hK.out _ _ (HV5.out.step b8).l3 (fun hHeld => ?_)
    clear hK K
    try simp only [Act.put, qz]
    refine doH 7 (by kernel_rfl) rfl fun K hK => ?_
    refine step_appE (w6.alloc (.cells #[.slice ua nm.length uc, .i p, .i q, .bool d] 81)) rfl (.tmp 39) (.tmp 45) (by rfl) _ (by rfl) (es.take k) [⟨nm, (p, q, d)⟩] (w.heap.size + 1) 1 (some ⟨w6.heap.size, 0, none⟩) (fun b => S b ∨ w.heap.size ≤ b) (by rfl) (fun _ => .slice ua nm.length uc) (.inr ⟨_, rfl, fun t u ht => World.news_of_block (heap_alloc_new _ _) t u (by rw [enRow_one] at ht; exact ht)⟩) ?_ (SE.step HSE5.out b8) (by simp; omega) (by rw [htl]; simp; omega) ?_
    ·intro i hi
     obtain rfl : i = 0 := by simpa using hi
     refine RdV.mono (fun b hb => ⟨.inr (by omega), by simp; omega, fun e => by have := hb5 b e; omega⟩) (RdV.step (OwV.rd (OwV.ofOwns HZ.out ho6)) (Below.newH _))
    intro v9 w9 se9 hg9 hgg9
    have V9 : VarA w9 w.heap.size 27 _ := (hg9.block _ (by simp; omega) (fun e => by have := hb5 _ e.symm; omega)).trans (HV5.out.step b8)
    have B9 : Below w.heap.size w w9 := Below.grown (HB5.out.trans (b8.mono s5)) hg9 (by simp; omega) (fun q hq => by have := hb5 q hq; omega)
    refine hK.out _ _ V9.l3 (fun hHeld => ?_)
    clear hK K
    try simp only [Act.put, qz]
    refine tkh 8 ?_ rfl (by kernel_rfl) rfl (by assumption) ?_ ?_
    rotate_left
    ·(intro _ h; (try dsimp only at h); go_simp; try with_reducible rfl)
    try simp only [Act.put, qz]
    refine wpAnyH_done (by kernel_rfl) (NoPanic.normal ?_) _
    clear hHeld
    have hlen9 : (es.take k ++ [(⟨nm, (p, q, d)⟩ : En)]).length = k + 1 := by rw [List.length_append, htl]; rfl
    obtain ⟨a9, c9, rfl⟩ := se9.shapeN hlen9
    have hb9 := se9.lt
    have s9 := B9.size
    have hvl9 := V9.lt
    obtain ⟨VV, hV1, hV2⟩ := RdV.lies (HR.out _ B9)
    have hL := (hV2 k hk).2
    have hdl : (es.drop k).length = es.length - k := List.length_drop
    have hr1 : ∀ i, i < (es.drop k).length → RdV w9 (Nm w9 (fun b => S b ∨ w.heap.size ≤ b) (.slice a9 (k + 1) c9)) (VV (k + i)) (.bytes ((es.drop k)[i]?.getD en0).nm) := fun i hi => by
     rw [getD_drop]
     exact RdV.mono (fun b hb => ⟨.inl hb, Nat.lt_of_lt_of_le (HS.out b hb) s9, fun e => by have := hb9 b e; have := HS.out b hb; omega⟩) (hV1 (k + i) (by omega))
    have H1 : Hid _ := hr1
    have H2 : Hid _ := hL
    have HB9 : Hid (Below w.heap.size w w9) := B9
    have HSE9 : Hid _ := se9
    have c89 := HC8.out _ B9
    clear hr1 hL hV1 hV2 B9 V9 se9 hg9 hgg9 b6 b7 b8 ho6 hg6 hry
    go_wp2_with (first | ((with_reducible refine guardSlice ?_); refine wpList_sl _ (sliceLE _ _ _ k hk _) ?_) | (at_builtin; go_must (refine wpList_appE _ rfl (.tmp 48) (.tmp 54) rfl _ rfl _ (es.drop k) (w.heap.size + 1) _ _ (fun b => S b ∨ w.heap.size ≤ b) (by rw [hdl]; rfl) (fun i => VV (k + i)) H2.out H1.out HSE9.out (by omega) (by rw [hlen9, hdl]; omega) ?_; intro v10 w10 se10 hg10 hgg10; obtain ⟨n10, hn10⟩ : ∃ n, (es.take k ++ [(⟨nm, (p, q, d)⟩ : En)] ++ es.drop k).length = n := ⟨_, rfl⟩; obtain ⟨a10, c10, rfl⟩ := se10.shapeN hn10; clear hn10; have B10 : Below w.heap.size w w10 := Below.grown HB9.out hg10 s9 (fun q hq => by have := hb9 q hq; omega); have fz := HFZ.out _ B10; have c810 := HC8.out _ B10)))
    all_goals (have HSE10 : Hid (SE w10 (w.heap.size + 1) _ _ _) := se10; have HB10 : Hid (Below w.heap.size w w10) := B10; clear H1 H2 HB9 HSE9 hgg10 hg10 se10 B10; go_end0; refine ⟨rfl, w10, _, rfl, HB10.out, ?_⟩; unfold addE; rw [HP.out]; exact RdV.mono (fun b hb => ⟨hb.1.elim id (fun h => .inr (by omega)), hb.2⟩) (SE.rd HSE10.out))
  ·have HP : Hid (pl es nm = k) := pl_at es nm k hk HA.out (fun h => absurd h hlt)
   have hlt9 : ¬ (k : Int) < (es.length : Int) := by omega
   go_wp2
   refine wp_region_cls (by kernel_rfl) (by kernel_rfl) ?_
   repeat (go_big_quiet_step (fail))
   refine wpQuiet_nil ?_
   rintro w' ⟨⟨w', hb'⟩, rfl⟩
   have B1 : Below w.heap.size w w' := bw.trans (hb'.mono bw.size)
   have V1 : VarA w' w.heap.size 27 #[.i p, .i q, .bool d] := vH.step hb'
   have s1 := B1.size
   have hvl := V1.lt
   have c81 := HC8.out _ B1
   obtain ⟨VV, hV1, hV2⟩ := RdV.lies (HR.out _ B1)
   have hL := (hV2 k hk).1
   have hkc : k ≤ xc := Nat.le_trans hk hcap
   have htl : (es.take k).length = k := by rw [List.length_take]; omega
   have hr1 : ∀ i, i < (es.take k).length → RdV w' (Nm w' (fun b => S b ∨ w.heap.size ≤ b) (.slice none 0 0)) (VV i) (.bytes ((es.take k)[i]?.getD en0).nm) := fun i hi => by
    rw [getD_take _ _ _ _ hi]
    exact RdV.mono (fun b hb => ⟨.inl hb, Nat.lt_of_lt_of_le (HS.out b hb) s1, fun e => by cases e⟩) (hV1 i (by rw [List.length_take] at hi; omega))
   have H1 : Hid _ := hr1
   have H2 : Hid _ := hL
   have HB1 : Hid (Below w.heap.size w w') := B1
   have HV1 : Hid (VarA w' w.heap.size 27 #[.i p, .i q, .bool d]) := V1
   clear hr1 hL hV1 hV2 B1 V1 vH bw hb'
   go_wp2_with (first | ((with_reducible refine guardSlice ?_); refine wpList_sl _ (sliceHE _ _ _ k hkc _) ?_) | (at_builtin; go_must (refine wpList_appE _ rfl (.tmp 31) (.tmp 37) rfl (.slice none 0 0) rfl [] (es.take k) (w.heap.size + 1) _ _ (fun b => S b ∨ w.heap.size ≤ b) (by rw [htl]; rfl) VV H2.out H1.out (SE.nil _ _ _) (by omega) (by rw [htl]; simp; omega) ?_; intro v5 w5 se5 hg5 hgg5)))
   rw [List.nil_append] at se5
   obtain ⟨a5, c5, rfl⟩ := se5.shapeN htl
   have B5 : Below w.heap.size w w5 := Below.grown HB1.out hg5 s1 (fun q hq => by cases hq)
   have V5 : VarA w5 w.heap.size 27 #[.i p, .i q, .bool d] := (hg5.block _ hvl (fun e => by cases e)).trans HV1.out
   have s5 := B5.size
   have hvl5 := V5.lt
   have hb5 := se5.lt
   have HSE5 : Hid _ := se5
   have HB5 : Hid (Below w.heap.size w w5) := B5
   have HV5 : Hid (VarA w5 w.heap.size 27 #[.i p, .i q, .bool d]) := V5
   clear H1 H2 HB1 HV1 c81 hgg5 hg5 se5 B5 V5
   go_wp2
   refine wp_region_noPanic ?_
   refine wp_region_held_drew (S := fun W => W.cell? ⟨w.heap.size, 0, none⟩ = some (.i p) ∧ W.cell? ⟨w.heap.size, 1, none⟩ = some (.i q) ∧ W.cell? ⟨w.heap.size, 2, none⟩ = some (.bool d)) (by kernel_rfl) (HV5.out.dr.l3) (fun hHeld => ?_)
   refine tkh 0 ?_ rfl (by kernel_rfl) rfl (by assumption) ?_ ?_
   rotate_left
   ·(intro _ h; (try dsimp only at h); go_simp; try with_reducible rfl)
   try simp only [Act.put, qz]
   refine tkh 2 ?_ rfl (by kernel_rfl) rfl (by assumption) ?_ ?_
   rotate_left
   ·(intro _ h; (try dsimp only at h); go_simp; try with_reducible rfl)
   try simp only [Act.put, qz]
   refine tkh 4 ?_ rfl (by kernel_rfl) rfl (by assumption) ?_ ?_
   rotate_left
   ·(intro _ h; (try dsimp only at h); go_simp; try with_reducible rfl)
   try simp only [Act.put, qz]
   refine doH 1 (by kernel_rfl) rfl fun K hK => ?_
   go_simp
   have b6 : Below w5.heap.size w5 (w5.drew.alloc (.cells #[] 5)) := Below.alloc (Below.drew (Below.refl w5.heap.size w5)) (Nat.le_refl _) _
   refine hK.out _ _ (HV5.out.step b6).l3 (fun hHeld => ?_)
   clear hK K
   try simp only [Act.put, qz]
   refine doH 3 (by kernel_rfl) rfl fun K hK => ?_
   have hry := HRB.out _ (HB5.out.trans (b6.mono s5))
   refine step_appS rfl (.tmp 40) (.tmp 41) (by rfl) w5.heap.size _ [] nm (by rfl) (owns_empty w5.drew) ya nm.length yc (by rfl) rfl hry.1 (by simp) (by omega) (by simp) (fun h => hry.2.2.2 h) ?_
   intro v6 w6 ho6 hg6
   rw [List.nil_append] at ho6
   obtain ⟨ua, uc, rfl, _⟩ := ho6.shape
   have b7 : Below w5.heap.size w5 w6 := Below.grown b6 hg6 (by simp) (fun q hq => ((owns_empty w5.drew).lt q hq).1)
   have s7 := b7.size
   refine hK.out _ _ (HV5.out.step b7).l3 (fun hHeld => ?_)
   clear hK K
   try simp only [Act.put, qz]
   refine tkh 5 ?_ rfl (by kernel_rfl) rfl (by assumption) ?_ ?_
   rotate_left
   ·(intro _ h; (try dsimp only at h); go_simp; try with_reducible rfl)
   try simp only [Act.put, qz]
   refine doH 6 (by kernel_rfl) rfl fun K hK => ?_
   go_simp
   have b8 : Below w5.heap.size w5 (w6.alloc (.cells #[.slice ua nm.length uc, .i p, .i q, .bool d] 81)) := Below.alloc b7 s7 _
   refine hK.out _ _ (HV5.out.step b8).l3 (fun hHeld => ?_)
   clear hK K
   try simp only [Act.put, qz]
   refine doH 7 (by kernel_rfl) rfl fun K hK => ?_
   refine step_appE (w6.alloc (.cells #[.slice ua nm.length uc, .i p, .i q, .bool d] 81)) rfl (.tmp 39) (.tmp 45) (by rfl) _ (by rfl) (es.take k) [⟨nm, (p, q, d)⟩] (w.heap.size + 1) 1 (some ⟨w6.heap.size, 0, none⟩) (fun b => S b ∨ w.heap.size ≤ b) (by rfl) (fun _ => .slice ua nm.length uc) (.inr ⟨_, rfl, fun t u ht => World.news_of_block (heap_alloc_new _ _) t u (by rw [enRow_one] at ht; exact ht)⟩) ?_ (SE.step HSE5.out b8) (by simp; omega) (by rw [htl]; simp; omega) ?_
   ·intro i hi
    obtain rfl : i = 0 := by simpa using hi
    refine RdV.mono (fun b hb => ⟨.inr (by omega), by simp; omega, fun e => by have := hb5 b e; omega⟩) (RdV.step (OwV.rd (OwV.ofOwns HZ.out ho6)) (Below.newH _))
   intro v9 w9 se9 hg9 hgg9
   have V9 : VarA w9 w.heap.size 27 _ := (hg9.block _ (by simp; omega) (fun e => by have := hb5 _ e.symm; omega)).trans (HV5.out.step b8)
   have B9 : Below w.heap.size w w9 := Below.grown (HB5.out.trans (b8.mono s5)) hg9 (by simp; omega) (fun q hq => by have := hb5 q hq; omega)
   refine hK.out _ _ V9.l3 (fun hHeld => ?_)
   clear hK K
   try simp only [Act.put, qz]
   refine tkh 8 ?_ rfl (by kernel_rfl) rfl (by assumption) ?_ ?_
   rotate_left
   ·(intro _ h; (try dsimp only at h); go_simp; try with_reducible rfl)
   try simp only [Act.put, qz]
   refine wpAnyH_done (by kernel_rfl) (NoPanic.normal ?_) _
   clear hHeld
   have hlen9 : (es.take k ++ [(⟨nm, (p, q, d)⟩ : En)]).length = k + 1 := by rw [List.length_append, htl]; rfl
   obtain ⟨a9, c9, rfl⟩ := se9.shapeN hlen9
   have hb9 := se9.lt
   have s9 := B9.size
   have hvl9 := V9.lt
   obtain ⟨VV, hV1, hV2⟩ := RdV.lies (HR.out _ B9)
   have hL := (hV2 k hk).2
   have hdl : (es.drop k).length = es.length - k := List.length_drop
   have hr1 : ∀ i, i < (es.drop k).length → RdV w9 (Nm w9 (fun b => S b ∨ w.heap.size ≤ b) (.slice a9 (k + 1) c9)) (VV (k + i)) (.bytes ((es.drop k)[i]?.getD en0).nm) := fun i hi => by
    rw [getD_drop]
    exact RdV.mono (fun b hb => ⟨.inl hb, Nat.lt_of_lt_of_le (HS.out b hb) s9, fun e => by have := hb9 b e; have := HS.out b hb; omega⟩) (hV1 (k + i) (by omega))
   have H1 : Hid _ := hr1
   have H2 : Hid _ := hL
   have HB9 : Hid (Below w.heap.size w w9) := B9
   have HSE9 : Hid _ := se9
   have c89 := HC8.out _ B9
   clear hr1 hL hV1 hV2 B9 V9 se9 hg9 hgg9 b6 b7 b8 ho6 hg6 hry
   go_wp2_with (first | ((with_reducible refine guardSlice ?_); refine wpList_sl _ (sliceLE _ _ _ k hk _) ?_) | (at_builtin; go_must (refine wpList_appE _ rfl (.tmp 48) (.tmp 54) rfl _ rfl _ (es.drop k) (w.heap.size + 1) _ _ (fun b => S b ∨ w.heap.size ≤ b) (by rw [hdl]; rfl) (fun i => VV (k + i)) H2.out H1.out HSE9.out (by omega) (by rw [hlen9, hdl]; omega) ?_; intro v10 w10 se10 hg10 hgg10; obtain ⟨n10, hn10⟩ : ∃ n, (es.take k ++ [(⟨nm, (p, q, d)⟩ : En)] ++ es.drop k).length = n := ⟨_, rfl⟩; obtain ⟨a10, c10, rfl⟩ := se10.shapeN hn10; clear hn10; have B10 : Below w.heap.size w w10 := Below.grown HB9.out hg10 s9 (fun q hq => by have := hb9 q hq; omega); have fz := HFZ.out _ B10; have c810 := HC8.out _ B10)))
   all_goals (have HSE10 : Hid (SE w10 (w.heap.size + 1) _ _ _) := se10; have HB10 : Hid (Below w.heap.size w w10) := B10; clear H1 H2 HB9 HSE9 hgg10 hg10 se10 B10; go_end0; refine ⟨rfl, w10, _, rfl, HB10.out, ?_⟩; unfold addE; rw [HP.out]; exact RdV.mono (fun b hb => ⟨hb.1.elim id (fun h => .inr (by omega)), hb.2⟩) (SE.rd HSE10.out))
end
section
theorem wrapI (x : Int) (h1 : -9223372036854775808 ≤ x) (h2 : x ≤ 9223372036854775807) : IntKind.i64.wrap x = x := by
 simp only [IntKind.wrap, IntKind.bits, IntKind.signed]
 simp
 omega
theorem exec_sl {t t' : TypeId} {dst : Option Tmp} {x : Operand} {lo hi : Option Operand} {pos : String} {af : Array Edge} {gd : Option (Nat × Bool)} {ρ : Operand → Value} {w : World} {v : Value}
  (h : (Instr.sliceAt t (ρ x) (lo.map ρ) (hi.map ρ) none).run Tryz.prog w = .ok v w) : (execOp ρ ⟨dst, .slice t x lo hi none, t', pos, af, gd⟩).run Tryz.prog w = .ok (.value v) w := by
 unfold execOp
 simp only [Option.map_none, h, Sem.run_bind, Sem.run_pure, Result.andThen_ok]
theorem exec_slH {t t' : TypeId} {dst : Option Tmp} {x y : Operand} {pos : String} {af : Array Edge} {gd : Option (Nat × Bool)} {ρ : Operand → Value} {w : World} {v u z : Value}
  (hx : ρ x = u) (hy : ρ y = z) (h : (Instr.sliceAt t u none (some z) none).run Tryz.prog w = .ok v w) : (execOp ρ ⟨dst, .slice t x none (some y) none, t', pos, af, gd⟩).run Tryz.prog w = .ok (.value v) w :=
 exec_sl (by rw [hx, Option.map_some, hy]; exact h)
theorem exec_slL {t t' : TypeId} {dst : Option Tmp} {x y : Operand} {pos : String} {af : Array Edge} {gd : Option (Nat × Bool)} {ρ : Operand → Value} {w : World} {v u z : Value}
  (hx : ρ x = u) (hy : ρ y = z) (h : (Instr.sliceAt t u (some z) none none).run Tryz.prog w = .ok v w) : (execOp ρ ⟨dst, .slice t x (some y) none none, t', pos, af, gd⟩).run Tryz.prog w = .ok (.value v) w :=
 exec_sl (by rw [hx, Option.map_some, hy]; exact h)
def cutE (es : List En) (i : Nat) : List En := es.take i ++ es.drop (i + 1)
set_option maxHeartbeats 4000000 in
theorem specCut_any (g o : Nat) (xa : Option Addr) (xc : Nat) (es : List En) (i : Nat) (S : Nat → Prop) (w : World) (c8 : w.cell? ⟨g, o + 8, none⟩ = some (.slice xa es.length xc)) (hfz : w.frozen? ⟨g, o + 8, none⟩ = false) (r : RdV w S (.slice xa es.length xc) (ensDt es)) (hS : ∀ b, S b → b < w.heap.size) (hn : es.length ≤ 4000) (hi : i < es.length) :
  Calls Tryz.prog 126 #[.pointer (some ⟨g, o, none⟩), .i i] w fun e w' => e = .returned (.tuple #[]) ∧ ∃ W x, w' = W.setCell ⟨g, o + 8, none⟩ x ∧ Below w.heap.size w W ∧ RdV W (fun b => (S b ∨ w.heap.size ≤ b) ∧ b < W.heap.size) x (ensDt (cutE es i)) := by
 have hgl : g < w.heap.size := block_lt_of_cell (a := ⟨g, o + 8, none⟩) c8
 have hcap : es.length ≤ xc := by obtain ⟨a', cap', V', hv', hh', _⟩ := RdV.inv r; simp only [Value.slice.injEq] at hv'; obtain ⟨-, -, rfl⟩ := hv'; exact hh'.1
 have HR : Hid (∀ W, Below w.heap.size w W → RdV W S (.slice xa es.length xc) (.rows 81 4 es.length (fun i j => enCell (es[i]?.getD en0) j))) := RdV.old r
 have HC8 : Hid (∀ W, Below w.heap.size w W → W.cell? ⟨g, o + 8, none⟩ = some (.slice xa es.length xc)) := fun W hW => (hW.cell (p := ⟨g, o + 8, none⟩) hgl).trans c8
 have HFZ : Hid (∀ W, Below w.heap.size w W → W.frozen? ⟨g, o + 8, none⟩ = false) := fun W hW => (hW.frozen (p := ⟨g, o + 8, none⟩) hgl).trans hfz
 have HS : Hid (∀ b, S b → b < w.heap.size) := hS
 have hic : i ≤ xc := by omega
 have hwi : IntKind.i64.wrap ((i : Int) + 1) = (i : Int) + 1 := wrapI _ (by omega) (by omega)
 have htl : (es.take i).length = i := by rw [List.length_take]; omega
 have hdl : (es.drop (i + 1)).length = es.length - (i + 1) := List.length_drop
 clear r c8 hfz hS
 go_enter Tryz.func126, Tryz.ntmps126
 refine wp_region_noPanic ?_
 refine wp_region_Z (fun W => W.cell? ⟨g, o + 8, none⟩ = some (.slice xa es.length xc)) 19 (by kernel_rfl) (HC8.out _ (Below.drew (Below.refl w.heap.size w))) (fun hHeld => ?_)
 refine tkz 0 ?_ rfl (by kernel_rfl) rfl (by assumption) ?_ ?_
 rotate_left
 ·(intro _ h; (try dsimp only at h); go_simp; try with_reducible rfl)
 try simp only [Act.put, qz]
 refine tkz 2 ?_ rfl (by kernel_rfl) rfl (by assumption) ?_ ?_
 rotate_left
 ·(intro _ h; (try dsimp only at h); go_simp; try with_reducible rfl)
 try simp only [Act.put, qz]
 refine tkz 3 ?_ rfl (by kernel_rfl) rfl (by assumption) ?_ ?_
 rotate_left
 ·(intro _ h; (try dsimp only at h); go_simp; try with_reducible rfl)
 try simp only [Act.put, qz]
 refine tkz 4 ?_ rfl (by kernel_rfl) rfl (by assumption) ?_ ?_
 rotate_left
 ·(intro _ h; (try dsimp only at h); go_simp; try with_reducible rfl)
 try simp only [Act.put, qz]
 refine tkz 5 ?_ rfl (by kernel_rfl) rfl (by assumption) ?_ ?_
 rotate_left
 ·(intro _ h; (try dsimp only at h); go_simp; try with_reducible rfl)
 try simp only [Act.put, qz]
 refine tkz 6 ?_ rfl (by kernel_rfl) rfl (by assumption) ?_ ?_
 rotate_left
 ·(intro _ h; (try dsimp only at h); go_simp; try with_reducible rfl)
 try simp only [Act.put, qz]
 refine wpAnyZ_take (i := 7) (v := (.slice xa i xc)) rfl (by kernel_rfl) (by kernel_rfl) (by kernel_rfl) (by kernel_rfl) (fun _ _ _ h => h) (Or.inl ⟨by rfl, ?_⟩) (by assumption) ?_
 ·(intro w_ hSw_; (try dsimp only at hSw_); exact exec_slH (u := .slice xa es.length xc) (z := .i (i : Int)) (by rfl) (by rfl) (sliceHE xa es.length xc i hic w_))
 try simp only [Act.put, qz]
 refine tkz 9 ?_ rfl (by kernel_rfl) rfl (by assumption) ?_ ?_
 rotate_left
 ·(intro _ h; (try dsimp only at h); go_simp; try with_reducible rfl)
 try simp only [Act.put, qz]
 refine tkz 10 ?_ rfl (by kernel_rfl) rfl (by assumption) ?_ ?_
 rotate_left
 ·(intro _ h; (try dsimp only at h); go_simp; try with_reducible rfl)
 try simp only [Act.put, qz]
 refine tkz 11 ?_ rfl (by kernel_rfl) rfl (by assumption) ?_ ?_
 rotate_left
 ·(intro _ h; (try dsimp only at h); go_simp; try with_reducible rfl)
 try simp only [Act.put, qz]
 refine tkz 12 ?_ rfl (by kernel_rfl) rfl (by assumption) ?_ ?_
 rotate_left
 ·(intro _ h; (try dsimp only at h); go_simp; try with_reducible rfl)
 try simp only [Act.put, qz]
 refine tkz 13 ?_ rfl (by kernel_rfl) rfl (by assumption) ?_ ?_
 rotate_left
 ·(intro _ h; (try dsimp only at h); go_simp; try with_reducible rfl)
 try simp only [Act.put, qz]
 refine tkz 14 ?_ rfl (by kernel_rfl) rfl (by assumption) ?_ ?_
 rotate_left
 ·(intro _ h; (try dsimp only at h); go_simp; try with_reducible rfl)
 try simp only [Act.put, qz]
 refine wpAnyZ_take (i := 15) (v := (.slice (if xc = i + 1 then xa else xa.map (·.add ((i + 1) * 4))) (es.length - (i + 1)) (xc - (i + 1)))) rfl (by kernel_rfl) (by kernel_rfl) (by kernel_rfl) (by kernel_rfl) (fun _ _ _ h => h) (Or.inl ⟨by rfl, ?_⟩) (by assumption) ?_
 ·(intro w_ hSw_; (try dsimp only at hSw_); exact exec_slL (u := .slice xa es.length xc) (z := .i ((i + 1 : Nat) : Int)) (by rfl) (by rfl) (sliceLE xa es.length xc (i + 1) hi w_))
 try simp only [Act.put, qz]
 refine wpAnyZ_one (i := 1) (by kernel_rfl) rfl (fun K hK => ?_)
 go_simp
 have b1 : Below w.heap.size w (w.drew.alloc (.cells #[] 81)) := Below.alloc (Below.drew (Below.refl w.heap.size w)) (Nat.le_refl _) _
 refine hK.out _ _ (HC8.out _ b1) (fun hHeld => ?_)
 clear hK K
 try simp only [Act.put, qz]
 refine wpAnyZ_one (i := 8) (by kernel_rfl) rfl (fun K hK => ?_)
 obtain ⟨VV, hV1, hV2⟩ := RdV.lies (HR.out _ b1)
 refine step_appE (w.drew.alloc (.cells #[] 81)) rfl (.tmp 5) (.tmp 11) (by rfl) (.slice (some ⟨w.heap.size, 0, none⟩) 0 0) (by rfl) [] (es.take i) w.heap.size xc xa (fun b => S b ∨ w.heap.size ≤ b) (by rw [htl]; rfl) VV (hV2 i (by omega)).1 ?_ (SE.empty w.drew w.heap.size (fun b => S b ∨ w.heap.size ≤ b) (Nat.le_refl _)) (by simp) (by rw [htl]; simp; omega) ?_
 ·intro j hj
  rw [getD_take _ _ _ _ hj]
  rw [htl] at hj
  exact RdV.mono (fun b hb => ⟨.inl hb, by have := HS.out b hb; simp; omega, fun e => by have := HS.out b hb; have e2 : w.heap.size = b := (by simpa [Value.ownBlock] using e); omega⟩) (hV1 j (by omega))
 intro v2 w2 se2 hg2 hgg2
 rw [List.nil_append] at se2
 have b2 : Below w.heap.size w w2 := Below.grown b1 hg2 (by simp) (fun q hq => by have e2 : w.heap.size = q := (by simpa [Value.ownBlock] using hq); omega)
 obtain ⟨a2, c2, rfl⟩ := se2.shapeN htl
 refine hK.out _ _ (HC8.out _ b2) (fun hHeld => ?_)
 clear hK K
 try simp only [Act.put, qz]
 refine wpAnyZ_one (i := 16) (by kernel_rfl) rfl (fun K hK => ?_)
 obtain ⟨VW, hW1, hW2⟩ := RdV.lies (HR.out _ b2)
 have hb2 := se2.lt
 have s2 := b2.size
 refine step_appE w2 rfl (.tmp 12) (.tmp 19) (by rfl) (.slice a2 i c2) (by rfl) (es.take i) (es.drop (i + 1)) w.heap.size (xc - (i + 1)) _ (fun b => S b ∨ w.heap.size ≤ b) (by rw [hdl]; rfl) (fun j => VW (i + 1 + j)) (hW2 (i + 1) (by omega)).2 ?_ se2 s2 (by rw [htl, hdl]; omega) ?_
 ·intro j hj
  rw [getD_drop]
  rw [hdl] at hj
  exact RdV.mono (fun b hb => ⟨.inl hb, by have := HS.out b hb; omega, fun e => by have := HS.out b hb; have := hb2 b e; omega⟩) (hW1 (i + 1 + j) (by omega))
 intro v3 w3 se3 hg3 hgg3
 have b3 : Below w.heap.size w w3 := Below.grown b2 hg3 s2 (fun q hq => (hb2 q hq).1)
 obtain ⟨n3, hn3⟩ : ∃ n, (es.take i ++ es.drop (i + 1)).length = n := ⟨_, rfl⟩
 obtain ⟨a3, c3, rfl⟩ := se3.shapeN hn3
 clear hn3
 refine hK.out _ _ (HC8.out _ b3) (fun hHeld => ?_)
 clear hK K
 try simp only [Act.put, qz]
 refine wpAnyZ_one (i := 17) (by kernel_rfl) rfl (fun K hK => ?_)
 go_simp
 refine hK.out _ _ (by assumption) (fun hHeld => ?_)
 clear hK K
 try simp only [Act.put, qz]
 refine tkz 18 ?_ rfl (by kernel_rfl) rfl (by assumption) ?_ ?_
 rotate_left
 ·(intro _ h; (try dsimp only at h); go_simp; try with_reducible rfl)
 try simp only [Act.put, qz]
 refine wpAnyZ_last (by kernel_rfl) rfl (fun K hK => ?_)
 have fz := HFZ.out _ b3
 have c83 := HC8.out _ b3
 go_simp
 refine hK.out _ _ ?_
 clear hK K
 try simp only [Act.put, qz]
 refine wpAnyZ_done (by kernel_rfl) (NoPanic.normal ?_) _
 have HSE3 : Hid (SE w3 w.heap.size _ _ _) := se3
 have HB3 : Hid (Below w.heap.size w w3) := b3
 clear se3 b3 b1 b2 hHeld
 go_end0
 refine ⟨rfl, w3, _, rfl, HB3.out, ?_⟩
 unfold cutE
 exact RdV.mono (fun b hb => ⟨hb.1.elim id (fun h => .inr h), hb.2⟩) (SE.rd HSE3.out)
end
section
def cmpB (xs ys : List Int) : Int := Lib.compareBytes (Lib.bytesOf xs) (Lib.bytesOf ys)
theorem cmp_less : ∀ (a b : List UInt8), decide (0 ≤ Lib.compareBytes a b) = !Op.bytesLess a b
 | [], [] => by simp [Lib.compareBytes, Op.bytesLess]
 | [], _ :: _ => by simp [Lib.compareBytes, Op.bytesLess]
 | _ :: _, [] => by simp [Lib.compareBytes, Op.bytesLess]
 | x :: a, y :: b => by
  have ih := cmp_less a b
  simp only [Lib.compareBytes, Op.bytesLess]
  by_cases h1 : x < y
  ·simp [h1]
  ·by_cases h2 : y < x
   ·have h3 : ¬ x = y := fun e => by subst e; exact UInt8.lt_irrefl x h2
    simp [h1, h2, h3]
   ·have h3 : x = y := UInt8.le_antisymm (UInt8.not_lt.1 h2) (UInt8.not_lt.1 h1)
    subst h3
    simp [h1]
    simpa using ih
theorem cmpB_ge (xs ys : List Int) : decide (0 ≤ cmpB xs ys) = geS xs ys := by
 unfold cmpB geS
 rw [cmp_less, Lib.strOfNums_toList, Lib.strOfNums_toList]
theorem run_bytesOf (v : Value) (xs : List Int) (S : Nat → Prop) (w : World) (r : RdV w S v (.bytes xs)) : (Extern.Bytes.bytesOf v).run Tryz.prog w = .ok ⟨(Lib.bytesOf xs).toArray⟩ w := by
 obtain ⟨a, cap, rfl, hh, hr⟩ := r.b.reads
 cases a with
 | none =>
  have h0 := (hh.2.2 rfl).1
  have : xs = [] := List.eq_nil_of_length_eq_zero h0
  subst this
  simp [Extern.Bytes.bytesOf, Lib.bytesOf]
  rfl
 | some ad =>
  have hl := Lib.run_loadBytesX (P := Tryz.prog) w xs ad .empty (fun j x hj => by
   have hjl : j < xs.length := (List.getElem?_eq_some_iff.1 hj).1
   have := hr.srcAt j (.int .u8 x) (by simp [bcells, hj])
   exact this)
  have he : (⟨ByteArray.empty.data ++ (Lib.bytesOf xs).toArray⟩ : ByteArray) = ⟨(Lib.bytesOf xs).toArray⟩ := by
   apply ByteArray.ext
   show (#[] : Array UInt8) ++ (Lib.bytesOf xs).toArray = (Lib.bytesOf xs).toArray
   simp
  rw [he] at hl
  exact hl
theorem run_cmp (v u : Value) (xs ys : List Int) (S S2 : Nat → Prop) (w : World) (r : RdV w S v (.bytes xs)) (r2 : RdV w S2 u (.bytes ys)) :
  (Extern.BytealgCompare.compare #[v, u]).run Tryz.prog w = .ok (.i (cmpB xs ys)) w := by
 change Sem.run Tryz.prog (do pure (goInt (Extern.BytealgCompare.cmp (← Extern.Bytes.bytesOf v) (← Extern.Bytes.bytesOf u)))) w = _
 have h1 := run_bytesOf v xs S w r
 have h2 := run_bytesOf u ys S2 w r2
 simp only [Sem.run_bind, Sem.run_pure, h1, h2, Result.andThen]
 rw [Lib.cmp_eq]
 rfl
set_option maxRecDepth 100000 in
theorem bytesCompare_any (v u : Value) (xs ys : List Int) (S S2 : Nat → Prop) (w : World) (r : RdV w S v (.bytes xs)) (r2 : RdV w S2 u (.bytes ys)) :
  Calls Tryz.prog 124 #[v, u] w fun e w' => e = .returned (.i (cmpB xs ys)) ∧ w' = w := by
 have HC : Hid _ := run_cmp v u xs ys S S2 w r r2
 obtain ⟨a, cap, rfl⟩ := r.sliceB
 obtain ⟨a2, cap2, rfl⟩ := r2.sliceB
 generalize xs.length = n0 at *
 generalize ys.length = n1 at *
 generalize cmpB xs ys = c at *
 clear r r2
 go_enter Tryz.func124, Tryz.ntmps124
 go_wp2
 rw [run_callFunc_extern Tryz.func147 (by kernel_rfl) (by kernel_rfl) (by kernel_rfl) (e := Extern.BytealgCompare.compare) (by kernel_rfl), HC.out]
 simp only [Result.andThen]
 rw [Oper.upon_value]
 go_wp2
 go_ret
 exact ⟨rfl, rfl⟩
end
section
def enAt (es : List En) (i : Nat) : Bool := isNm (es[i]?.getD en0).nm && (HOk (es[i]?.getD en0).h && (decide (i = 0) || !geS (es[i - 1]?.getD en0).nm (es[i]?.getD en0).nm))
def entsI (es : List En) : Bool := decide (es.length ≤ 12) && (List.range es.length).all (enAt es)

set_option maxRecDepth 100000 in
set_option maxHeartbeats 2000000 in
theorem entriesOk_any (x : Value) (es : List En) (S : Nat → Prop) (w : World) (r : RdV w S x (ensDt es)) (hl : szEns es ≤ 2097152) :
  Calls Tryz.prog 97 #[x] w fun e w' => e = .returned (.bool (entsI es)) ∧ Below w.heap.size w w' := by
 obtain ⟨a, cap, rfl, _⟩ := RdV.sliced r
 have HR2 : Hid (∀ W, Below w.heap.size w W → RdV W S (.slice a es.length cap) (.rows 81 4 es.length (fun i j => enCell (es[i]?.getD en0) j))) := RdV.old r
 have hmm : es.length ≤ 2097152 := by unfold szEns at hl; omega
 have HL : Hid _ := hl
 obtain ⟨m, hm⟩ : ∃ m, es.length = m := ⟨_, rfl⟩
 have HN : Hid _ := hm
 have HRS : Hid (entsI es = (decide (m ≤ 12) && (List.range m).all (enAt es))) := by show _ = _; unfold entsI; rw [hm]
 rw [hm] at HR2 hmm ⊢
 clear r hl hm
 by_cases h12 : m ≤ 12
 case neg =>
  have HF : Hid (entsI es = false) := by rw [HRS.out]; show _ = _; simp [h12]
  rw [HF.out]
  clear HRS HF HR2 HL HN
  go_enter Tryz.func97, Tryz.ntmps97
  go_wp2
  go_ret
  exact ⟨rfl, Below.refl _ _⟩
 have HRS2 : Hid (entsI es = (List.range m).all (enAt es)) := by rw [HRS.out]; show _ = _; simp [h12]
 rw [HRS2.out]
 clear HRS HRS2
 go_enter Tryz.func97, Tryz.ntmps97
 go_wp2
 go_loopw [10] (fun i wr => ∃ k : Nat, k ≤ m ∧ i = .i k ∧ Below w.heap.size w wr ∧ Hid ((List.range k).all (enAt es) = true)) (fun i _ => m - (intOf i).toNat)
 case atStart => exact ⟨0, Nat.zero_le _, rfl, Below.refl _ _, by show _ = _; simp⟩
 case round =>
  obtain ⟨k, hk, rfl, hbel, HA⟩ := hrel
  by_cases hlt : k < m
  case neg =>
   have he : k = m := by omega
   subst he
   go_wp2
   go_ret
   exact ⟨by rw [HA.out]; rfl, hbel⟩
  obtain ⟨b, off, rfl, hbl, _, hx⟩ := RdV.at (HR2.out wr hbel) hlt
  obtain ⟨e, he⟩ : ∃ e, es[k]?.getD en0 = e := ⟨_, rfl⟩
  obtain ⟨x0, c0, r0⟩ := hx 0 (by omega)
  obtain ⟨x1, c1, r1⟩ := hx 1 (by omega)
  obtain ⟨x2, c2, r2⟩ := hx 2 (by omega)
  obtain ⟨x3, c3, r3⟩ := hx 3 (by omega)
  rw [he] at r0 r1 r2 r3
  have HZ : Hid (e.nm.length ≤ 2097152) := by have h1 := szEns_at es k; rw [he] at h1; have h2 := HL.out; show _ ≤ _; omega
  have HAT : Hid (enAt es k = (isNm e.nm && (HOk e.h && (decide (k = 0) || !geS (es[k - 1]?.getD en0).nm e.nm)))) := by show _ = _; unfold enAt; rw [he]
  clear hx he
  obtain ⟨nm, ⟨s, ino, d⟩⟩ := e
  obtain rfl : x1 = .i s := r1
  obtain rfl : x2 = .i ino := r2
  obtain rfl : x3 = .bool d := r3
  simp only [Nat.add_zero] at c0
  dsimp only at HAT
  have RB : Hid (RdV wr S x0 (.bytes nm)) := r0
  clear r0
  have HNM : Hid (∀ W, Below wr.heap.size wr W → _) := fun W hW => implName_any x0 nm S W (RdV.step RB.out hW) HZ.out
  have HHO : Hid (∀ W, _) := fun W => implHandleOk_w (s, ino, d) W
  have HRX : Hid (∀ W, Below wr.heap.size wr W → RdV W S x0 (.bytes nm)) := fun W hW => RdV.step RB.out hW
  obtain ⟨xa, xc, rfl⟩ := RdV.sliceB RB.out
  clear RB
  generalize nm.length = xn at *
  generalize isNm nm = bn at HNM HAT
  generalize HOk (s, ino, d) = bh at HHO HAT
  cases bn with
  | false =>
   have HF : Hid ((List.range m).all (enAt es) = false) := range_all_false _ _ k hlt (by rw [HAT.out]; rfl)
   go_wp2_with fail
   refine Calls.mono (HNM.out _ (Below.newH _)) ?_
   rintro e w2 ⟨rfl, rfl⟩
   go_wp2
   go_ret
   exact ⟨by rw [HF.out]; rfl, hbel.trans ((Below.newH (w := wr) _).mono hbel.size)⟩
  | true =>
  cases bh with
  | false =>
   have HF : Hid ((List.range m).all (enAt es) = false) := range_all_false _ _ k hlt (by rw [HAT.out]; rfl)
   go_wp2_with fail
   refine Calls.mono (HNM.out _ (Below.newH _)) ?_
   rintro e w2 ⟨rfl, rfl⟩
   go_wp2_with fail
   refine Calls.mono (HHO.out _) ?_
   rintro e w2 ⟨rfl, rfl⟩
   go_wp2
   go_ret
   exact ⟨by rw [HF.out]; rfl, hbel.trans ((Below.newH2 (w := wr) _ _).mono hbel.size)⟩
  | true =>
  by_cases hk0 : k = 0
  ·subst hk0
   have HF : Hid ((List.range (0 + 1)).all (enAt es) = true) := range_all_next _ _ HA.out (by rw [HAT.out]; rfl)
   simp only [Nat.zero_mul, Nat.add_zero] at c0 c1 c2 c3
   go_wp2_with fail
   refine Calls.mono (HNM.out _ (Below.newH _)) ?_
   rintro e w2 ⟨rfl, rfl⟩
   go_wp2_with fail
   refine Calls.mono (HHO.out _) ?_
   rintro e w2 ⟨rfl, rfl⟩
   go_wp2
   haveI : Nonempty (Cls ((wr.alloc (.cells #[.slice xa xn xc, .i s, .i ino, .bool d] 81)).alloc (.cells #[.i s, .i ino, .bool d] 27))) := Cls.ne _
   refine wp_region_cls (by kernel_rfl) (by kernel_rfl) ?_
   repeat (go_big_quiet_step (fail))
   refine wpQuiet_nil ?_
   rintro w' ⟨⟨w', hb'⟩, rfl⟩
   have hb3 : Below w.heap.size w w' := hbel.trans (((Below.newH2 (w := wr) _ _).trans (hb'.mono (by simp; omega))).mono hbel.size)
   go_wp2
   go_roundw
   case rel => exact ⟨0 + 1, by omega, by go_num, hb3, HF.out⟩
   case measure => simp [intOf]; omega
  obtain ⟨j, rfl⟩ : ∃ j, k = j + 1 := ⟨k - 1, by omega⟩
  obtain ⟨b9, off9, hbb, hbl9, _, hz⟩ := RdV.at (HR2.out wr hbel) (show j < m by omega)
  simp only [Option.some.injEq, Addr.mk.injEq, and_true] at hbb
  obtain ⟨rfl, rfl⟩ := hbb
  obtain ⟨y0, d0, s0⟩ := hz 0 (by omega)
  simp only [Nat.add_zero] at d0
  have HAT2 : Hid (enAt es (j + 1) = !geS (es[j]?.getD en0).nm nm) := by rw [HAT.out]; show _ = _; simp
  generalize es[j]?.getD en0 = e1 at s0 HAT2
  obtain ⟨nm1, hd1⟩ := e1
  dsimp only at HAT2
  have RY : Hid (RdV wr S y0 (.bytes nm1)) := s0
  clear hz s0 HAT
  have HCP : Hid (∀ W, Below wr.heap.size wr W → _) := fun W hW => bytesCompare_any y0 (.slice xa xn xc) nm1 nm S S W (RdV.step RY.out hW) (HRX.out W hW)
  rw [← cmpB_ge] at HAT2
  obtain ⟨ya, yc, rfl⟩ := RdV.sliceB RY.out
  clear RY HRX
  generalize nm1.length = yn at *
  generalize cmpB nm1 nm = cb at *
  have i1 : (0 : Int) ≤ (j : Int) := by omega
  have i2 : (j : Int) < (m : Int) := by omega
  by_cases hge : 0 ≤ cb
  ·have HF : Hid ((List.range m).all (enAt es) = false) := range_all_false _ _ (j + 1) hlt (by rw [HAT2.out]; simp [hge])
   have hge2 : decide ((0 : Int) ≤ cb) = true := by simpa using hge
   go_wp2_with fail
   refine Calls.mono (HNM.out _ (Below.newH _)) ?_
   rintro e w2 ⟨rfl, rfl⟩
   go_wp2_with fail
   refine Calls.mono (HHO.out _) ?_
   rintro e w2 ⟨rfl, rfl⟩
   go_wp2
   haveI : Nonempty (Cls ((wr.alloc (.cells #[.slice xa xn xc, .i s, .i ino, .bool d] 81)).alloc (.cells #[.i s, .i ino, .bool d] 27))) := Cls.ne _
   have hblw : b < ((wr.alloc (.cells #[.slice xa xn xc, .i s, .i ino, .bool d] 81)).alloc (.cells #[.i s, .i ino, .bool d] 27)).heap.size := by simp; omega
   have kd0 := Cls.cell hblw (((Below.newH2 (w := wr) (.cells #[.slice xa xn xc, .i s, .i ino, .bool d] 81) (.cells #[.i s, .i ino, .bool d] 27)).cell (p := ⟨b, off + j * 4, none⟩) hbl9).trans d0)
   have ke0 := Cls.cell ((VarA.new wr 81 #[.slice xa xn xc, .i s, .i ino, .bool d]).alloc (.cells #[.i s, .i ino, .bool d] 27)).lt ((VarA.new wr 81 #[.slice xa xn xc, .i s, .i ino, .bool d]).alloc (.cells #[.i s, .i ino, .bool d] 27)).l4.1
   refine wp_region_cls (by kernel_rfl) (by kernel_rfl) ?_
   repeat (go_big_quiet_step (first | (go_at_call 124; exact Calls.cls_same (HCP.out _ ((Below.newH2 (w := wr) _ _).trans ((Cls.h _).mono (by simp; omega)))))))
   refine wpQuiet_nil ?_
   rintro w' ⟨⟨w', hb'⟩, rfl⟩
   have hb3 : Below w.heap.size w w' := hbel.trans (((Below.newH2 (w := wr) _ _).trans (hb'.mono (by simp; omega))).mono hbel.size)
   go_wp2
   go_ret
   exact ⟨by rw [HF.out]; rfl, hb3⟩
  ·have HF : Hid ((List.range (j + 1 + 1)).all (enAt es) = true) := range_all_next _ _ HA.out (by rw [HAT2.out]; simp [hge])
   have hge2 : decide ((0 : Int) ≤ cb) = false := by simpa using hge
   go_wp2_with fail
   refine Calls.mono (HNM.out _ (Below.newH _)) ?_
   rintro e w2 ⟨rfl, rfl⟩
   go_wp2_with fail
   refine Calls.mono (HHO.out _) ?_
   rintro e w2 ⟨rfl, rfl⟩
   go_wp2
   haveI : Nonempty (Cls ((wr.alloc (.cells #[.slice xa xn xc, .i s, .i ino, .bool d] 81)).alloc (.cells #[.i s, .i ino, .bool d] 27))) := Cls.ne _
   have hblw : b < ((wr.alloc (.cells #[.slice xa xn xc, .i s, .i ino, .bool d] 81)).alloc (.cells #[.i s, .i ino, .bool d] 27)).heap.size := by simp; omega
   have kd0 := Cls.cell hblw (((Below.newH2 (w := wr) (.cells #[.slice xa xn xc, .i s, .i ino, .bool d] 81) (.cells #[.i s, .i ino, .bool d] 27)).cell (p := ⟨b, off + j * 4, none⟩) hbl9).trans d0)
   have ke0 := Cls.cell ((VarA.new wr 81 #[.slice xa xn xc, .i s, .i ino, .bool d]).alloc (.cells #[.i s, .i ino, .bool d] 27)).lt ((VarA.new wr 81 #[.slice xa xn xc, .i s, .i ino, .bool d]).alloc (.cells #[.i s, .i ino, .bool d] 27)).l4.1
   refine wp_region_cls (by kernel_rfl) (by kernel_rfl) ?_
   repeat (go_big_quiet_step (first | (go_at_call 124; exact Calls.cls_same (HCP.out _ ((Below.newH2 (w := wr) _ _).trans ((Cls.h _).mono (by simp; omega)))))))
   refine wpQuiet_nil ?_
   rintro w' ⟨⟨w', hb'⟩, rfl⟩
   have hb3 : Below w.heap.size w w' := hbel.trans (((Below.newH2 (w := wr) _ _).trans (hb'.mono (by simp; omega))).mono hbel.size)
   go_wp2
   go_roundw
   case rel => exact ⟨j + 1 + 1, by omega, by go_num, hb3, HF.out⟩
   case measure => simp [intOf]; omega
end
section
set_option maxHeartbeats 4000000 in
theorem markOp_d (o : OpD) (x y : Value) (k : Nat) (Q1 Q2 S : Nat → Prop) (w : World) (o1 : OwV w Q1 x (.bytes o.nm)) (o2 : OwV w Q2 y (.bytes o.asn)) (h12 : ∀ b, Q1 b → ¬ Q2 b) (hs : ∀ b, Q1 b ∨ Q2 b → S b) (hS : ∀ b, S b → b < w.heap.size) (l1 : o.nm.length ≤ 2097152) (l2 : o.asn.length ≤ 2097152) (hk : k ≤ 99511627776) :
  Calls Tryz.prog 23 #[opV o x y, .i k] w fun e w' => e = .returned (.i ((k + o.nm.length + o.asn.length : Nat) : Int)) ∧ Turned (fun b => Q1 b ∨ Q2 b) w w' := by
 obtain ⟨a1, c1, rfl⟩ := o1.rd.sliceB
 obtain ⟨a2, c2, rfl⟩ := o2.rd.sliceB
 have HX : Hid (∀ W, Below w.heap.size w W → _) := fun W hW => mark_d _ _ k Q1 W (o1.step hW) l1 (by omega)
 have HY : Hid (∀ W, Keeps Q2 w W → _) := fun W hW => mark_d _ _ (k + o.nm.length) Q2 W (o2.keep hW) l2 (by omega)
 have HN : Hid (¬ Q1 w.heap.size) := fun h => absurd (hS _ (hs _ (.inl h))) (by omega)
 have H12 : Hid _ := h12
 clear o1 o2 hs hS
 obtain ⟨kd, ⟨p, q, d⟩, nm, ⟨p2, q2, d2⟩, asn, vl⟩ := o
 dsimp only at HX HY l1 l2 ⊢
 generalize nm.length = n1 at *
 generalize asn.length = n2 at *
 go_enter Tryz.func23, Tryz.ntmps23
 go_wp2_with fail
 refine Calls.mono (HX.out _ (Below.newH _)) ?_
 rintro e w2 ⟨rfl, _, t2⟩
 have vA : VarA w2 w.heap.size 29 #[.i kd, .i p, .i q, .bool d, .slice a1 n1 c1, .i p2, .i q2, .bool d2, .slice a2 n2 c2, .i vl] := VarA.turn (VarA.new w _ _) t2 HN.out
 obtain ⟨a0_, a1_, a2_, a3_, a4_, a5_, a6_, a7_, a8_, a9_⟩ := vA.l10
 have HK : Hid (Keeps Q2 w w2) := Keeps.trans (Keeps.ofBelow (Below.newH (w := w) _)) (t2.keeps (fun b h2 h1 => H12.out b h1 h2))
 have HT : Hid (Turned (fun b => Q1 b ∨ Q2 b) w w2) := (Turned.ofBelow (Below.newH (w := w) _)).trans (t2.wide (fun b h => .inl h))
 clear t2 vA HX
 go_wp2_with fail
 refine Calls.mono (HY.out _ HK.out) ?_
 rintro e w3 ⟨rfl, _, t3⟩
 have HT3 : Hid (Turned (fun b => Q1 b ∨ Q2 b) w w3) := HT.out.trans (t3.wide (fun b h => .inr h))
 clear t3 HT HK HY
 go_wp2
 go_ret
 exact ⟨by simp, HT3.out⟩
end
section
def lenMs (m : MsD) : Nat := m.op.nm.length + m.op.asn.length + lenEns m.rp.list + m.pt.asn.length
def mkMs (m : MsD) (k : Nat) : MsD := { m with op := { m.op with nm := marks m.op.nm.length k, asn := marks m.op.asn.length (k + m.op.nm.length) }, rp := { m.rp with list := mkEns m.rp.list (k + m.op.nm.length + m.op.asn.length) }, pt := { m.pt with asn := marks m.pt.asn.length (k + m.op.nm.length + m.op.asn.length + lenEns m.rp.list) } }
theorem heldReply_d (o : RpD) (x : Value) (l : List En) (k : Nat) (S : Nat → Prop) (w : World) (r1 : RdV w S x (ensDt (mkEns l k))) (hl : szEns l ≤ 2097152) (hk : k ≤ 99511627776) :
  Calls Tryz.prog 26 #[rpV o x, .i k] w fun e w' => e = .returned (.i ((k + lenEns l : Nat) : Int)) ∧ Below w.heap.size w w' := by
 have hle := lenEns_le l
 have HX : Hid (∀ W, Below w.heap.size w W → _) := fun W hW => heldEntryS_d x l k S W (r1.step hW) hl (by omega)
 obtain ⟨a1, c1, rfl, _⟩ := RdV.sliced r1
 generalize (mkEns l k).length = n at *
 clear r1
 obtain ⟨kd, ⟨p, q, d⟩, vl, es⟩ := o
 go_enter Tryz.func26, Tryz.ntmps26
 go_wp2_with fail
 refine Calls.mono (HX.out _ (Below.newH _)) ?_
 rintro e w2 ⟨rfl, rfl⟩
 go_wp2
 go_ret
 exact ⟨by simp, Below.newH _⟩
theorem markReply_f (o : RpD) (x : Value) (k : Nat) (S : Nat → Prop) (w : World) (o1 : OwV w S x (ensDt o.list)) (hl : szEns o.list ≤ 2097152) (hk : k ≤ 99511627776) :
  Calls Tryz.prog 24 #[rpV o x, .i k] w fun e w' => e = .returned (.i ((k + lenEns o.list : Nat) : Int)) ∧ OwV w' S x (ensDt (mkEns o.list k)) ∧ Turned S w w' := by
 obtain ⟨a, cap, rfl, _⟩ := RdV.sliced o1.rd
 have hle := lenEns_le o.list
 have HX : Hid (∀ W, Below w.heap.size w W → _) := fun W hW => markEntryS_d _ o.list k S W (o1.step hW) hl (by omega)
 clear o1
 obtain ⟨kd, ⟨p, q, d⟩, vl, es⟩ := o
 dsimp only at HX ⊢
 generalize es.length = n at *
 go_enter Tryz.func24, Tryz.ntmps24
 go_wp2_with fail
 refine Calls.mono (HX.out _ (Below.newH _)) ?_
 rintro e w2 ⟨rfl, o2, t2⟩
 go_wp2
 go_ret
 exact ⟨by simp, o2, (Turned.ofBelow (Below.newH _)).trans t2⟩
end
end Go.Proofs.YtcicadfhfojdpaaGreat
