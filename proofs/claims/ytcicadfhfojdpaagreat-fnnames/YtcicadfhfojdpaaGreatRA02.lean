/- Joined: SpecD9 SpecD10 DW2 DW3 DW9 ImplT2 ImplT3 ST1. -/
import Derived.Test.YtcicadfhfojdpaaGreatRA01
import Derived.Test.YtcicadfhfojdpaaGreatRSpecT4a
import Derived.Lib.BytesEntry

namespace Go.Proofs.YtcicadfhfojdpaaGreat
open Go.RowKit
set_option linter.unusedVariables false
set_option linter.unusedSimpArgs false
set_option maxRecDepth 100000
section
theorem guardSlice {ops : Array Oper} {rest : List Oper} {t t' : TypeId} {dst : Option Tmp} {x : Operand} {lo hi : Option Operand} {pos : String} {af : Array Edge} {a : Act} {Q : Exit → Act → World → Prop} {w : World}
  (h : wpList Tryz.prog ops Q (⟨dst, .slice t x lo hi none, t', pos, af, none⟩ :: rest) a w) : wpList Tryz.prog ops Q (⟨dst, .slice t x lo hi none, t', pos, af, none⟩ :: rest) a w := h
theorem enRow_one (e : En) (V : Nat → Value) : enRow [e] V = [V 0, .i e.h.sh, .i e.h.ino, .bool e.h.dir] := by simp [enRow, List.range, List.range.loop, enVal]
def pl (es : List En) (nm : List Int) : Nat := es.findIdx (fun e => geS e.nm nm)
theorem pl_at (es : List En) (nm : List Int) (k : Nat) (hk : k ≤ es.length) (h1 : ∀ i, i < k → geS (es[i]?.getD en0).nm nm = false) (h2 : k < es.length → geS (es[k]?.getD en0).nm nm = true) : pl es nm = k := by
 unfold pl
 by_cases hlt : k < es.length
 ·rw [List.findIdx_eq hlt]
  refine ⟨by simpa [hlt] using h2 hlt, fun j hj => ?_⟩
  have := h1 j hj
  have hj' : j < es.length := by omega
  simpa [hj'] using this
 ·have he : k = es.length := by omega
  rw [List.findIdx_eq_length.2, he]
  intro x hx
  obtain ⟨i, hi, rfl⟩ := List.getElem_of_mem hx
  have := h1 i (by omega)
  simpa [hi] using this
def addE (es : List En) (nm : List Int) (h : Hd) : List En := es.take (pl es nm) ++ [⟨nm, h⟩] ++ es.drop (pl es nm)

set_option maxHeartbeats 4000000 in
theorem specAdd_any (g o : Nat) (xa : Option Addr) (xc : Nat) (y : Value) (es : List En) (nm : List Int) (h : Hd) (S S2 : Nat → Prop) (w : World) (c8 : w.cell? ⟨g, o + 8, none⟩ = some (.slice xa es.length xc)) (hfz : w.frozen? ⟨g, o + 8, none⟩ = false) (r : RdV w S (.slice xa es.length xc) (ensDt es)) (hS : ∀ b, S b → b < w.heap.size) (r2 : RdV w S2 y (.bytes nm)) (hn : es.length ≤ 4000) (hnm : nm.length ≤ 2097152) :
  Calls Tryz.prog 106 #[.pointer (some ⟨g, o, none⟩), y, h.v] w fun e w' => e = .returned (.tuple #[]) ∧ ∃ W x, w' = W.setCell ⟨g, o + 8, none⟩ x ∧ Below w.heap.size w W ∧ RdV W (fun b => (S b ∨ w.heap.size ≤ b) ∧ b < W.heap.size) x (ensO (addE es nm h)) := by
 obtain ⟨ya, yc, rfl⟩ := r2.sliceB
 obtain ⟨p, q, d⟩ := h
 have hgl : g < w.heap.size := block_lt_of_cell (a := ⟨g, o + 8, none⟩) c8
 have hcap : es.length ≤ xc := by obtain ⟨a', cap', V', hv', hh', _⟩ := RdV.inv r; simp only [Value.slice.injEq] at hv'; obtain ⟨-, -, rfl⟩ := hv'; exact hh'.1
 have HR : Hid (∀ W, Below w.heap.size w W → RdV W S (.slice xa es.length xc) (.rows 81 4 es.length (fun i j => enCell (es[i]?.getD en0) j))) := RdV.old r
 have HY : Hid (∀ W, Below w.heap.size w W → RdV W S2 (.slice ya nm.length yc) (.bytes nm)) := fun W hW => r2.step hW
 have HZ : Hid (isBytes nm) := r2.b.1
 have HRB : Hid (∀ W, Below w.heap.size w W → Reads W ya nm ∧ Headed ya nm.length yc) := fun W hW => by
  obtain ⟨a', cap', he, hh, hr⟩ := (r2.step hW).b.reads
  simp only [Value.slice.injEq, true_and] at he
  obtain ⟨rfl, rfl⟩ := he
  exact ⟨hr, hh⟩
 have HC8 : Hid (∀ W, Below w.heap.size w W → W.cell? ⟨g, o + 8, none⟩ = some (.slice xa es.length xc)) := fun W hW => (hW.cell (p := ⟨g, o + 8, none⟩) hgl).trans c8
 have HFZ : Hid (∀ W, Below w.heap.size w W → W.frozen? ⟨g, o + 8, none⟩ = false) := fun W hW => (hW.frozen (p := ⟨g, o + 8, none⟩) hgl).trans hfz
 have HS : Hid (∀ b, S b → b < w.heap.size) := hS
 clear r r2 c8 hfz hS
 go_enter Tryz.func106, Tryz.ntmps106
 go_wp2
 go_loopw [6] (fun i wr => ∃ k : Nat, k ≤ es.length ∧ i = .i k ∧ Below w.heap.size w wr ∧ VarA wr w.heap.size 27 #[.i p, .i q, .bool d] ∧ Hid (∀ i, i < k → geS (es[i]?.getD en0).nm nm = false)) (fun i _ => es.length - (intOf i).toNat)
 case atStart => exact ⟨0, Nat.zero_le _, rfl, Below.newH _, VarA.new w _ _, fun i hi => absurd hi (Nat.not_lt_zero _)⟩
 case round =>
  obtain ⟨k, hk, rfl, bw, vH, HA⟩ := hrel
  have c8 := HC8.out _ bw
  have hgw : g < wr.heap.size := Nat.lt_of_lt_of_le hgl bw.size
  haveI : Nonempty (Cls wr) := Cls.ne wr
  have kc8 := Cls.cell hgw c8
  by_cases hlt : k < es.length
  ·have hlt9 : (k : Int) < (es.length : Int) := by omega
   obtain ⟨b, off, rfl, hbl, _, hx⟩ := RdV.at (HR.out wr bw) hlt
   obtain ⟨x0, c1, r0⟩ := hx 0 (by omega)
   simp only [Nat.add_zero] at c1
   have kc1 := Cls.cell hbl c1
   obtain ⟨e, he⟩ : ∃ e, es[k]?.getD en0 = e := ⟨_, rfl⟩
   rw [he] at r0
   have HE : Hid _ := he
   clear hx he
   obtain ⟨nm1, hh⟩ := e
   have RB : RdV wr S x0 (.bytes nm1) := r0
   have hcv : ∀ i : Cls wr, (convert 22 9 x0).run Tryz.prog i.W = .ok (.string (strOfNums nm1)) i.W := fun i => conv_d _ nm1 S _ (RdV.step RB i.h)
   have hcy : ∀ i : Cls wr, (convert 22 9 (.slice ya nm.length yc)).run Tryz.prog i.W = .ok (.string (strOfNums nm)) i.W := fun i => conv_d _ nm S2 _ (HY.out _ (bw.trans (i.h.mono bw.size)))
   obtain ⟨xa, xc', rfl⟩ := RdV.sliceB RB
   have hgs : geS nm1 nm = !Op.bytesLess (strOfNums nm1).toList (strOfNums nm).toList := rfl
   generalize nm1.length = xn at *
   generalize strOfNums nm1 = s1 at *
   generalize strOfNums nm = s2 at *
   clear r0 RB
   by_cases hge : Op.bytesLess s1.toList s2.toList = true
   ·have HF : Hid (∀ i, i < k + 1 → geS (es[i]?.getD en0).nm nm = false) := fun i hi => by
     by_cases h1 : i < k
     ·exact HA.out i h1
     ·obtain rfl : i = k := by omega
      rw [HE.out]; rw [hgs, hge]; rfl
    go_wp2
    refine wp_region_cls (by kernel_rfl) (by kernel_rfl) ?_
    repeat (go_big_quiet_step (fail))
    refine wpQuiet_nil ?_
    rintro w' ⟨⟨w', hb'⟩, rfl⟩
    have vH' := vH.step hb'
    have hb3 := bw.trans (hb'.mono bw.size)
    go_wp2
    go_roundw
    case rel => exact ⟨k + 1, by omega, by go_num, hb3, vH', HF.out⟩
    case measure => simp [intOf]; omega
   ·have hg2 : Op.bytesLess s1.toList s2.toList = false := by simpa using hge
    have HP : Hid (pl es nm = k) := pl_at es nm k hk HA.out (fun _ => by rw [HE.out]; rw [hgs, hg2]; rfl)
    go_wp2
    refine wp_region_cls (by kernel_rfl) (by kernel_rfl) ?_
    repeat (go_big_quiet_step (fail))
    refine wpQuiet_nil ?_
    rintro w' ⟨⟨w', hb'⟩, rfl⟩
    have B1 : Below w.heap.size w w' := bw.trans (hb'.mono bw.size)
    have V1 : VarA w' w.heap.size 27 #[.i p, .i q, .bool d] := vH.step hb'
    have s1 := B1.size
    have hvl := V1.lt
    have c81 := HC8.out _ B1
    obtain ⟨VV, hV1, hV2⟩ := RdV.lies (HR.out _ B1)
    have hL := (hV2 k hk).1
    have hkc : k ≤ xc := Nat.le_trans hk hcap
    have htl : (es.take k).length = k := by rw [List.length_take]; omega
    have hr1 : ∀ i, i < (es.take k).length → RdV w' (Nm w' (fun b => S b ∨ w.heap.size ≤ b) (.n0)) (VV i) (.bytes ((es.take k)[i]?.getD en0).nm) := fun i hi => by
     rw [getD_take _ _ _ _ hi]
     exact RdV.mono (fun b hb => ⟨.inl hb, Nat.lt_of_lt_of_le (HS.out b hb) s1, fun e => by cases e⟩) (hV1 i (by rw [List.length_take] at hi; omega))
    have H1 : Hid _ := hr1
    have H2 : Hid _ := hL
    have HB1 : Hid (Below w.heap.size w w') := B1
    have HV1 : Hid (VarA w' w.heap.size 27 #[.i p, .i q, .bool d]) := V1
    clear hr1 hL hV1 hV2 B1 V1 vH bw hb'
    go_wp2_with (first | ((with_reducible refine guardSlice ?_); refine wpList_sl _ (sliceHE _ _ _ k hkc _) ?_) | (at_builtin; go_must (refine wpList_appE _ rfl (.tmp 31) (.tmp 37) rfl (.n0) rfl [] (es.take k) (w.heap.size + 1) _ _ (fun b => S b ∨ w.heap.size ≤ b) (by rw [htl]; rfl) VV H2.out H1.out (SE.nil _ _ _) (by omega) (by rw [htl]; simp; omega) ?_; intro v5 w5 se5 hg5 hgg5)))
    rw [List.nil_append] at se5
    obtain ⟨a5, c5, rfl⟩ := se5.shapeN htl
    have B5 : Below w.heap.size w w5 := Below.grown HB1.out hg5 s1 (fun q hq => by cases hq)
    have V5 : VarA w5 w.heap.size 27 #[.i p, .i q, .bool d] := (hg5.block _ hvl (fun e => by cases e)).trans HV1.out
    have s5 := B5.size
    have hvl5 := V5.lt
    have hb5 := se5.lt
    have HSE5 : Hid _ := se5
    have HB5 : Hid (Below w.heap.size w w5) := B5
    have HV5 : Hid (VarA w5 w.heap.size 27 #[.i p, .i q, .bool d]) := V5
    clear H1 H2 HB1 HV1 c81 hgg5 hg5 se5 B5 V5
    go_wp2
    refine wp_region_noPanic ?_
    refine wp_region_held_drew (S := fun W => W.cell? ⟨w.heap.size, 0, none⟩ = some (.i p) ∧ W.cell? ⟨w.heap.size, 1, none⟩ = some (.i q) ∧ W.cell? ⟨w.heap.size, 2, none⟩ = some (.bool d)) (by kernel_rfl) (HV5.out.dr.l3) (fun hHeld => ?_)
    apply tkh 0 _ rfl (by kernel_rfl) rfl (by assumption)
    ·(intro _ h; (try dsimp only at h); go_simp; try with_reducible rfl)
    try simp only [qz]
    apply tkh 2 _ rfl (by kernel_rfl) rfl (by assumption)
    ·(intro _ h; (try dsimp only at h); go_simp; try with_reducible rfl)
    try simp only [qz]
    apply tkh 4 _ rfl (by kernel_rfl) rfl (by assumption)
    ·(intro _ h; (try dsimp only at h); go_simp; try with_reducible rfl)
    try simp only [qz]
    refine doH 1 (by kernel_rfl) rfl fun K hK => ?_
    go_simp
    have b6 : Below w5.heap.size w5 (w5.drew.alloc (.cells #[] 5)) := Below.alloc (Below.drew (Below.refl w5.heap.size w5)) (Nat.le_refl _) _
    refine hK.out _ _ (HV5.out.step b6).l3 (fun hHeld => ?_)
    clear hK K
    try simp only [qz]
    refine doH 3 (by kernel_rfl) rfl fun K hK => ?_
    have hry := HRB.out _ (HB5.out.trans (b6.mono s5))
    refine step_appS rfl (.tmp 40) (.tmp 41) (by rfl) w5.heap.size _ [] nm (by rfl) (owns_empty w5.drew) ya nm.length yc (by rfl) rfl hry.1 (by simp) (by omega) (by simp) (fun h => hry.2.2.2 h) ?_
    intro v6 w6 ho6 hg6
    rw [List.nil_append] at ho6
    obtain ⟨ua, uc, rfl, _⟩ := ho6.shape
    have b7 : Below w5.heap.size w5 w6 := Below.grown b6 hg6 (by simp) (fun q hq => ((owns_empty w5.drew).lt q hq).1)
    have s7 := b7.size
    refine hK.out _ _ (HV5.out.step b7).l3 (fun hHeld => ?_)
    clear hK K
    try simp only [qz]
    apply tkh 5 _ rfl (by kernel_rfl) rfl (by assumption)
    ·(intro _ h; (try dsimp only at h); go_simp; try with_reducible rfl)
    try simp only [qz]
    refine doH 6 (by kernel_rfl) rfl fun K hK => ?_
    go_simp
    have b8 : Below w5.heap.size w5 (w6.alloc (.cells #[.slice ua nm.length uc, .i p, .i q, .bool d] 81)) := Below.alloc b7 s7 _
    refine hK.out _ _ (HV5.out.step b8).l3 (fun hHeld => ?_)
    clear hK K
    try simp only [qz]
    refine doH 7 (by kernel_rfl) rfl fun K hK => ?_
    refine step_appE (w6.alloc (.cells #[.slice ua nm.length uc, .i p, .i q, .bool d] 81)) rfl (.tmp 39) (.tmp 45) (by rfl) _ (by rfl) (es.take k) [⟨nm, (p, q, d)⟩] (w.heap.size + 1) 1 (some ⟨w6.heap.size, 0, none⟩) (fun b => S b ∨ w.heap.size ≤ b) (by rfl) (fun _ => .slice ua nm.length uc) (.inr ⟨_, rfl, fun t u ht => World.news_of_block (heap_alloc_new _ _) t u (by rw [enRow_one] at ht; exact ht)⟩) ?_ (SE.step HSE5.out b8) (by simp; omega) (by rw [htl]; simp; omega) ?_
    ·intro i hi
     obtain rfl : i = 0 := by simpa using hi
     refine RdV.mono (fun b hb => ⟨.inr (by omega), by simp; omega, fun e => by have := hb5 b e; omega⟩) (RdV.step (OwV.rd (OwV.ofOwns HZ.out ho6)) (Below.newH _))
    intro v9 w9 se9 hg9 hgg9
    have V9 : VarA w9 w.heap.size 27 _ := (hg9.block _ (by simp; omega) (fun e => by have := hb5 _ e.symm; omega)).trans (HV5.out.step b8)
    have B9 : Below w.heap.size w w9 := Below.grown (HB5.out.trans (b8.mono s5)) hg9 (by simp; omega) (fun q hq => by have := hb5 q hq; omega)
    refine hK.out _ _ V9.l3 (fun hHeld => ?_)
    clear hK K
    try simp only [qz]
    apply tkh 8 _ rfl (by kernel_rfl) rfl (by assumption)
    ·(intro _ h; (try dsimp only at h); go_simp; try with_reducible rfl)
    try simp only [qz]
    refine wpAnyH_done (by kernel_rfl) (NoPanic.normal ?_) _
    clear hHeld
    have hlen9 : (es.take k ++ [(⟨nm, (p, q, d)⟩ : En)]).length = k + 1 := by rw [List.length_append, htl]; rfl
    obtain ⟨a9, c9, rfl⟩ := se9.shapeN hlen9
    have hb9 := se9.lt
    have s9 := B9.size
    have hvl9 := V9.lt
    obtain ⟨VV, hV1, hV2⟩ := RdV.lies (HR.out _ B9)
    have hL := (hV2 k hk).2
    have hdl : (es.drop k).length = es.length - k := List.length_drop
    have hr1 : ∀ i, i < (es.drop k).length → RdV w9 (Nm w9 (fun b => S b ∨ w.heap.size ≤ b) (.slice a9 (k + 1) c9)) (VV (k + i)) (.bytes ((es.drop k)[i]?.getD en0).nm) := fun i hi => by
     rw [getD_drop]
     exact RdV.mono (fun b hb => ⟨.inl hb, Nat.lt_of_lt_of_le (HS.out b hb) s9, fun e => by have := hb9 b e; have := HS.out b hb; omega⟩) (hV1 (k + i) (by omega))
    have H1 : Hid _ := hr1
    have H2 : Hid _ := hL
    have HB9 : Hid (Below w.heap.size w w9) := B9
    have HSE9 : Hid _ := se9
    have c89 := HC8.out _ B9
    clear hr1 hL hV1 hV2 B9 V9 se9 hg9 hgg9 b6 b7 b8 ho6 hg6 hry
    go_wp2_with (first | ((with_reducible refine guardSlice ?_); refine wpList_sl _ (sliceLE _ _ _ k hk _) ?_) | (at_builtin; go_must (refine wpList_appE _ rfl (.tmp 48) (.tmp 54) rfl _ rfl _ (es.drop k) (w.heap.size + 1) _ _ (fun b => S b ∨ w.heap.size ≤ b) (by rw [hdl]; rfl) (fun i => VV (k + i)) H2.out H1.out HSE9.out (by omega) (by rw [hlen9, hdl]; omega) ?_; intro v10 w10 se10 hg10 hgg10; obtain ⟨n10, hn10⟩ : ∃ n, (es.take k ++ [(⟨nm, (p, q, d)⟩ : En)] ++ es.drop k).length = n := ⟨_, rfl⟩; obtain ⟨a10, c10, rfl⟩ := se10.shapeN hn10; clear hn10; have B10 : Below w.heap.size w w10 := Below.grown HB9.out hg10 s9 (fun q hq => by have := hb9 q hq; omega); have fz := HFZ.out _ B10; have c810 := HC8.out _ B10)))
    all_goals (have HSE10 : Hid (SE w10 (w.heap.size + 1) _ _ _) := se10; have HB10 : Hid (Below w.heap.size w w10) := B10; clear H1 H2 HB9 HSE9 hgg10 hg10 se10 B10; go_end0; refine ⟨rfl, w10, _, rfl, HB10.out, ?_⟩; unfold addE; rw [HP.out]; exact RdV.mono (fun b hb => ⟨hb.1.elim id (fun h => .inr (by omega)), hb.2⟩) (SE.rdO HSE10.out))
  ·have HP : Hid (pl es nm = k) := pl_at es nm k hk HA.out (fun h => absurd h hlt)
   have hlt9 : ¬ (k : Int) < (es.length : Int) := by omega
   go_wp2
   refine wp_region_cls (by kernel_rfl) (by kernel_rfl) ?_
   repeat (go_big_quiet_step (fail))
   refine wpQuiet_nil ?_
   rintro w' ⟨⟨w', hb'⟩, rfl⟩
   have B1 : Below w.heap.size w w' := bw.trans (hb'.mono bw.size)
   have V1 : VarA w' w.heap.size 27 #[.i p, .i q, .bool d] := vH.step hb'
   have s1 := B1.size
   have hvl := V1.lt
   have c81 := HC8.out _ B1
   obtain ⟨VV, hV1, hV2⟩ := RdV.lies (HR.out _ B1)
   have hL := (hV2 k hk).1
   have hkc : k ≤ xc := Nat.le_trans hk hcap
   have htl : (es.take k).length = k := by rw [List.length_take]; omega
   have hr1 : ∀ i, i < (es.take k).length → RdV w' (Nm w' (fun b => S b ∨ w.heap.size ≤ b) (.n0)) (VV i) (.bytes ((es.take k)[i]?.getD en0).nm) := fun i hi => by
    rw [getD_take _ _ _ _ hi]
    exact RdV.mono (fun b hb => ⟨.inl hb, Nat.lt_of_lt_of_le (HS.out b hb) s1, fun e => by cases e⟩) (hV1 i (by rw [List.length_take] at hi; omega))
   have H1 : Hid _ := hr1
   have H2 : Hid _ := hL
   have HB1 : Hid (Below w.heap.size w w') := B1
   have HV1 : Hid (VarA w' w.heap.size 27 #[.i p, .i q, .bool d]) := V1
   clear hr1 hL hV1 hV2 B1 V1 vH bw hb'
   go_wp2_with (first | ((with_reducible refine guardSlice ?_); refine wpList_sl _ (sliceHE _ _ _ k hkc _) ?_) | (at_builtin; go_must (refine wpList_appE _ rfl (.tmp 31) (.tmp 37) rfl (.n0) rfl [] (es.take k) (w.heap.size + 1) _ _ (fun b => S b ∨ w.heap.size ≤ b) (by rw [htl]; rfl) VV H2.out H1.out (SE.nil _ _ _) (by omega) (by rw [htl]; simp; omega) ?_; intro v5 w5 se5 hg5 hgg5)))
   rw [List.nil_append] at se5
   obtain ⟨a5, c5, rfl⟩ := se5.shapeN htl
   have B5 : Below w.heap.size w w5 := Below.grown HB1.out hg5 s1 (fun q hq => by cases hq)
   have V5 : VarA w5 w.heap.size 27 #[.i p, .i q, .bool d] := (hg5.block _ hvl (fun e => by cases e)).trans HV1.out
   have s5 := B5.size
   have hvl5 := V5.lt
   have hb5 := se5.lt
   have HSE5 : Hid _ := se5
   have HB5 : Hid (Below w.heap.size w w5) := B5
   have HV5 : Hid (VarA w5 w.heap.size 27 #[.i p, .i q, .bool d]) := V5
   clear H1 H2 HB1 HV1 c81 hgg5 hg5 se5 B5 V5
   go_wp2
   refine wp_region_noPanic ?_
   refine wp_region_held_drew (S := fun W => W.cell? ⟨w.heap.size, 0, none⟩ = some (.i p) ∧ W.cell? ⟨w.heap.size, 1, none⟩ = some (.i q) ∧ W.cell? ⟨w.heap.size, 2, none⟩ = some (.bool d)) (by kernel_rfl) (HV5.out.dr.l3) (fun hHeld => ?_)
   apply tkh 0 _ rfl (by kernel_rfl) rfl (by assumption)
   ·(intro _ h; (try dsimp only at h); go_simp; try with_reducible rfl)
   try simp only [qz]
   apply tkh 2 _ rfl (by kernel_rfl) rfl (by assumption)
   ·(intro _ h; (try dsimp only at h); go_simp; try with_reducible rfl)
   try simp only [qz]
   apply tkh 4 _ rfl (by kernel_rfl) rfl (by assumption)
   ·(intro _ h; (try dsimp only at h); go_simp; try with_reducible rfl)
   try simp only [qz]
   refine doH 1 (by kernel_rfl) rfl fun K hK => ?_
   go_simp
   have b6 : Below w5.heap.size w5 (w5.drew.alloc (.cells #[] 5)) := Below.alloc (Below.drew (Below.refl w5.heap.size w5)) (Nat.le_refl _) _
   refine hK.out _ _ (HV5.out.step b6).l3 (fun hHeld => ?_)
   clear hK K
   try simp only [qz]
   refine doH 3 (by kernel_rfl) rfl fun K hK => ?_
   have hry := HRB.out _ (HB5.out.trans (b6.mono s5))
   refine step_appS rfl (.tmp 40) (.tmp 41) (by rfl) w5.heap.size _ [] nm (by rfl) (owns_empty w5.drew) ya nm.length yc (by rfl) rfl hry.1 (by simp) (by omega) (by simp) (fun h => hry.2.2.2 h) ?_
   intro v6 w6 ho6 hg6
   rw [List.nil_append] at ho6
   obtain ⟨ua, uc, rfl, _⟩ := ho6.shape
   have b7 : Below w5.heap.size w5 w6 := Below.grown b6 hg6 (by simp) (fun q hq => ((owns_empty w5.drew).lt q hq).1)
   have s7 := b7.size
   refine hK.out _ _ (HV5.out.step b7).l3 (fun hHeld => ?_)
   clear hK K
   try simp only [qz]
   apply tkh 5 _ rfl (by kernel_rfl) rfl (by assumption)
   ·(intro _ h; (try dsimp only at h); go_simp; try with_reducible rfl)
   try simp only [qz]
   refine doH 6 (by kernel_rfl) rfl fun K hK => ?_
   go_simp
   have b8 : Below w5.heap.size w5 (w6.alloc (.cells #[.slice ua nm.length uc, .i p, .i q, .bool d] 81)) := Below.alloc b7 s7 _
   refine hK.out _ _ (HV5.out.step b8).l3 (fun hHeld => ?_)
   clear hK K
   try simp only [qz]
   refine doH 7 (by kernel_rfl) rfl fun K hK => ?_
   refine step_appE (w6.alloc (.cells #[.slice ua nm.length uc, .i p, .i q, .bool d] 81)) rfl (.tmp 39) (.tmp 45) (by rfl) _ (by rfl) (es.take k) [⟨nm, (p, q, d)⟩] (w.heap.size + 1) 1 (some ⟨w6.heap.size, 0, none⟩) (fun b => S b ∨ w.heap.size ≤ b) (by rfl) (fun _ => .slice ua nm.length uc) (.inr ⟨_, rfl, fun t u ht => World.news_of_block (heap_alloc_new _ _) t u (by rw [enRow_one] at ht; exact ht)⟩) ?_ (SE.step HSE5.out b8) (by simp; omega) (by rw [htl]; simp; omega) ?_
   ·intro i hi
    obtain rfl : i = 0 := by simpa using hi
    refine RdV.mono (fun b hb => ⟨.inr (by omega), by simp; omega, fun e => by have := hb5 b e; omega⟩) (RdV.step (OwV.rd (OwV.ofOwns HZ.out ho6)) (Below.newH _))
   intro v9 w9 se9 hg9 hgg9
   have V9 : VarA w9 w.heap.size 27 _ := (hg9.block _ (by simp; omega) (fun e => by have := hb5 _ e.symm; omega)).trans (HV5.out.step b8)
   have B9 : Below w.heap.size w w9 := Below.grown (HB5.out.trans (b8.mono s5)) hg9 (by simp; omega) (fun q hq => by have := hb5 q hq; omega)
   refine hK.out _ _ V9.l3 (fun hHeld => ?_)
   clear hK K
   try simp only [qz]
   apply tkh 8 _ rfl (by kernel_rfl) rfl (by assumption)
   ·(intro _ h; (try dsimp only at h); go_simp; try with_reducible rfl)
   try simp only [qz]
   refine wpAnyH_done (by kernel_rfl) (NoPanic.normal ?_) _
   clear hHeld
   have hlen9 : (es.take k ++ [(⟨nm, (p, q, d)⟩ : En)]).length = k + 1 := by rw [List.length_append, htl]; rfl
   obtain ⟨a9, c9, rfl⟩ := se9.shapeN hlen9
   have hb9 := se9.lt
   have s9 := B9.size
   have hvl9 := V9.lt
   obtain ⟨VV, hV1, hV2⟩ := RdV.lies (HR.out _ B9)
   have hL := (hV2 k hk).2
   have hdl : (es.drop k).length = es.length - k := List.length_drop
   have hr1 : ∀ i, i < (es.drop k).length → RdV w9 (Nm w9 (fun b => S b ∨ w.heap.size ≤ b) (.slice a9 (k + 1) c9)) (VV (k + i)) (.bytes ((es.drop k)[i]?.getD en0).nm) := fun i hi => by
    rw [getD_drop]
    exact RdV.mono (fun b hb => ⟨.inl hb, Nat.lt_of_lt_of_le (HS.out b hb) s9, fun e => by have := hb9 b e; have := HS.out b hb; omega⟩) (hV1 (k + i) (by omega))
   have H1 : Hid _ := hr1
   have H2 : Hid _ := hL
   have HB9 : Hid (Below w.heap.size w w9) := B9
   have HSE9 : Hid _ := se9
   have c89 := HC8.out _ B9
   clear hr1 hL hV1 hV2 B9 V9 se9 hg9 hgg9 b6 b7 b8 ho6 hg6 hry
   go_wp2_with (first | ((with_reducible refine guardSlice ?_); refine wpList_sl _ (sliceLE _ _ _ k hk _) ?_) | (at_builtin; go_must (refine wpList_appE _ rfl (.tmp 48) (.tmp 54) rfl _ rfl _ (es.drop k) (w.heap.size + 1) _ _ (fun b => S b ∨ w.heap.size ≤ b) (by rw [hdl]; rfl) (fun i => VV (k + i)) H2.out H1.out HSE9.out (by omega) (by rw [hlen9, hdl]; omega) ?_; intro v10 w10 se10 hg10 hgg10; obtain ⟨n10, hn10⟩ : ∃ n, (es.take k ++ [(⟨nm, (p, q, d)⟩ : En)] ++ es.drop k).length = n := ⟨_, rfl⟩; obtain ⟨a10, c10, rfl⟩ := se10.shapeN hn10; clear hn10; have B10 : Below w.heap.size w w10 := Below.grown HB9.out hg10 s9 (fun q hq => by have := hb9 q hq; omega); have fz := HFZ.out _ B10; have c810 := HC8.out _ B10)))
   all_goals (have HSE10 : Hid (SE w10 (w.heap.size + 1) _ _ _) := se10; have HB10 : Hid (Below w.heap.size w w10) := B10; clear H1 H2 HB9 HSE9 hgg10 hg10 se10 B10; go_end0; refine ⟨rfl, w10, _, rfl, HB10.out, ?_⟩; unfold addE; rw [HP.out]; exact RdV.mono (fun b hb => ⟨hb.1.elim id (fun h => .inr (by omega)), hb.2⟩) (SE.rdO HSE10.out))
end
section
theorem wrapI (x : Int) (h1 : -9223372036854775808 ≤ x) (h2 : x ≤ 9223372036854775807) : IntKind.i64.wrap x = x := by
 simp only [IntKind.wrap, IntKind.bits, IntKind.signed]
 simp
 omega
theorem exec_sl {t t' : TypeId} {dst : Option Tmp} {x : Operand} {lo hi : Option Operand} {pos : String} {af : Array Edge} {gd : Option (Nat × Bool)} {ρ : Operand → Value} {w : World} {v : Value}
  (h : (Instr.sliceAt t (ρ x) (lo.map ρ) (hi.map ρ) none).run Tryz.prog w = .ok v w) : (execOp ρ ⟨dst, .slice t x lo hi none, t', pos, af, gd⟩).run Tryz.prog w = .ok (.value v) w := by
 unfold execOp
 simp only [Option.map_none, h, Sem.run_bind, Sem.run_pure, Result.andThen_ok]
theorem exec_slH {t t' : TypeId} {dst : Option Tmp} {x y : Operand} {pos : String} {af : Array Edge} {gd : Option (Nat × Bool)} {ρ : Operand → Value} {w : World} {v u z : Value}
  (hx : ρ x = u) (hy : ρ y = z) (h : (Instr.sliceAt t u none (some z) none).run Tryz.prog w = .ok v w) : (execOp ρ ⟨dst, .slice t x none (some y) none, t', pos, af, gd⟩).run Tryz.prog w = .ok (.value v) w :=
 exec_sl (by rw [hx, Option.map_some, hy]; exact h)
theorem exec_slL {t t' : TypeId} {dst : Option Tmp} {x y : Operand} {pos : String} {af : Array Edge} {gd : Option (Nat × Bool)} {ρ : Operand → Value} {w : World} {v u z : Value}
  (hx : ρ x = u) (hy : ρ y = z) (h : (Instr.sliceAt t u (some z) none none).run Tryz.prog w = .ok v w) : (execOp ρ ⟨dst, .slice t x (some y) none none, t', pos, af, gd⟩).run Tryz.prog w = .ok (.value v) w :=
 exec_sl (by rw [hx, Option.map_some, hy]; exact h)
def cutE (es : List En) (i : Nat) : List En := es.take i ++ es.drop (i + 1)
set_option maxHeartbeats 4000000 in
theorem specCut_any (g o : Nat) (xa : Option Addr) (xc : Nat) (es : List En) (i : Nat) (S : Nat → Prop) (w : World) (c8 : w.cell? ⟨g, o + 8, none⟩ = some (.slice xa es.length xc)) (hfz : w.frozen? ⟨g, o + 8, none⟩ = false) (r : RdV w S (.slice xa es.length xc) (ensDt es)) (hS : ∀ b, S b → b < w.heap.size) (hn : es.length ≤ 4000) (hi : i < es.length) :
  Calls Tryz.prog 126 #[.pointer (some ⟨g, o, none⟩), .i i] w fun e w' => e = .returned (.tuple #[]) ∧ ∃ W x, w' = W.setCell ⟨g, o + 8, none⟩ x ∧ Below w.heap.size w W ∧ RdV W (fun b => (S b ∨ w.heap.size ≤ b) ∧ b < W.heap.size) x (ensO (cutE es i)) := by
 have hgl : g < w.heap.size := block_lt_of_cell (a := ⟨g, o + 8, none⟩) c8
 have hcap : es.length ≤ xc := by obtain ⟨a', cap', V', hv', hh', _⟩ := RdV.inv r; simp only [Value.slice.injEq] at hv'; obtain ⟨-, -, rfl⟩ := hv'; exact hh'.1
 have HR : Hid (∀ W, Below w.heap.size w W → RdV W S (.slice xa es.length xc) (.rows 81 4 es.length (fun i j => enCell (es[i]?.getD en0) j))) := RdV.old r
 have HC8 : Hid (∀ W, Below w.heap.size w W → W.cell? ⟨g, o + 8, none⟩ = some (.slice xa es.length xc)) := fun W hW => (hW.cell (p := ⟨g, o + 8, none⟩) hgl).trans c8
 have HFZ : Hid (∀ W, Below w.heap.size w W → W.frozen? ⟨g, o + 8, none⟩ = false) := fun W hW => (hW.frozen (p := ⟨g, o + 8, none⟩) hgl).trans hfz
 have HS : Hid (∀ b, S b → b < w.heap.size) := hS
 have hic : i ≤ xc := by omega
 have hwi : IntKind.i64.wrap ((i : Int) + 1) = (i : Int) + 1 := wrapI _ (by omega) (by omega)
 have htl : (es.take i).length = i := by rw [List.length_take]; omega
 have hdl : (es.drop (i + 1)).length = es.length - (i + 1) := List.length_drop
 clear r c8 hfz hS
 go_enter Tryz.func126, Tryz.ntmps126
 refine wp_region_noPanic ?_
 refine wp_region_Z (fun W => W.cell? ⟨g, o + 8, none⟩ = some (.slice xa es.length xc)) 19 (by kernel_rfl) (HC8.out _ (Below.drew (Below.refl w.heap.size w))) (fun hHeld => ?_)
 apply tkz 0 _ rfl (by kernel_rfl) rfl (by assumption)
 ·(intro _ h; (try dsimp only at h); go_simp; try with_reducible rfl)
 try simp only [qz]
 apply tkz 2 _ rfl (by kernel_rfl) rfl (by assumption)
 ·(intro _ h; (try dsimp only at h); go_simp; try with_reducible rfl)
 try simp only [qz]
 apply tkz 3 _ rfl (by kernel_rfl) rfl (by assumption)
 ·(intro _ h; (try dsimp only at h); go_simp; try with_reducible rfl)
 try simp only [qz]
 apply tkz 4 _ rfl (by kernel_rfl) rfl (by assumption)
 ·(intro _ h; (try dsimp only at h); go_simp; try with_reducible rfl)
 try simp only [qz]
 apply tkz 5 _ rfl (by kernel_rfl) rfl (by assumption)
 ·(intro _ h; (try dsimp only at h); go_simp; try with_reducible rfl)
 try simp only [qz]
 apply tkz 6 _ rfl (by kernel_rfl) rfl (by assumption)
 ·(intro _ h; (try dsimp only at h); go_simp; try with_reducible rfl)
 try simp only [qz]
 refine wpAnyZ_take (i := 7) (v := (.slice xa i xc)) rfl (by kernel_rfl) (by kernel_rfl) (by kernel_rfl) (by kernel_rfl) (fun _ _ _ h => h) (Or.inl ⟨by rfl, ?_⟩) (by assumption) ?_
 ·(intro w_ hSw_; (try dsimp only at hSw_); exact exec_slH (u := .slice xa es.length xc) (z := .i (i : Int)) (by rfl) (by rfl) (sliceHE xa es.length xc i hic w_))
 try simp only [qz]
 apply tkz 9 _ rfl (by kernel_rfl) rfl (by assumption)
 ·(intro _ h; (try dsimp only at h); go_simp; try with_reducible rfl)
 try simp only [qz]
 apply tkz 10 _ rfl (by kernel_rfl) rfl (by assumption)
 ·(intro _ h; (try dsimp only at h); go_simp; try with_reducible rfl)
 try simp only [qz]
 apply tkz 11 _ rfl (by kernel_rfl) rfl (by assumption)
 ·(intro _ h; (try dsimp only at h); go_simp; try with_reducible rfl)
 try simp only [qz]
 apply tkz 12 _ rfl (by kernel_rfl) rfl (by assumption)
 ·(intro _ h; (try dsimp only at h); go_simp; try with_reducible rfl)
 try simp only [qz]
 apply tkz 13 _ rfl (by kernel_rfl) rfl (by assumption)
 ·(intro _ h; (try dsimp only at h); go_simp; try with_reducible rfl)
 try simp only [qz]
 apply tkz 14 _ rfl (by kernel_rfl) rfl (by assumption)
 ·(intro _ h; (try dsimp only at h); go_simp; try with_reducible rfl)
 try simp only [qz]
 refine wpAnyZ_take (i := 15) (v := (.slice (if xc = i + 1 then xa else xa.map (·.add ((i + 1) * 4))) (es.length - (i + 1)) (xc - (i + 1)))) rfl (by kernel_rfl) (by kernel_rfl) (by kernel_rfl) (by kernel_rfl) (fun _ _ _ h => h) (Or.inl ⟨by rfl, ?_⟩) (by assumption) ?_
 ·(intro w_ hSw_; (try dsimp only at hSw_); exact exec_slL (u := .slice xa es.length xc) (z := .i ((i + 1 : Nat) : Int)) (by rfl) (by rfl) (sliceLE xa es.length xc (i + 1) hi w_))
 try simp only [qz]
 refine wpAnyZ_one (i := 1) (by kernel_rfl) rfl (fun K hK => ?_)
 go_simp
 have b1 : Below w.heap.size w (w.drew.alloc (.cells #[] 81)) := Below.alloc (Below.drew (Below.refl w.heap.size w)) (Nat.le_refl _) _
 refine hK.out _ _ (HC8.out _ b1) (fun hHeld => ?_)
 clear hK K
 try simp only [qz]
 refine wpAnyZ_one (i := 8) (by kernel_rfl) rfl (fun K hK => ?_)
 obtain ⟨VV, hV1, hV2⟩ := RdV.lies (HR.out _ b1)
 refine step_appE (w.drew.alloc (.cells #[] 81)) rfl (.tmp 5) (.tmp 11) (by rfl) (.slice (some ⟨w.heap.size, 0, none⟩) 0 0) (by rfl) [] (es.take i) w.heap.size xc xa (fun b => S b ∨ w.heap.size ≤ b) (by rw [htl]; rfl) VV (hV2 i (by omega)).1 ?_ (SE.empty w.drew w.heap.size (fun b => S b ∨ w.heap.size ≤ b) (Nat.le_refl _)) (by simp) (by rw [htl]; simp; omega) ?_
 ·intro j hj
  rw [getD_take _ _ _ _ hj]
  rw [htl] at hj
  exact RdV.mono (fun b hb => ⟨.inl hb, by have := HS.out b hb; simp; omega, fun e => by have := HS.out b hb; have e2 : w.heap.size = b := (by simpa [Value.ownBlock] using e); omega⟩) (hV1 j (by omega))
 intro v2 w2 se2 hg2 hgg2
 rw [List.nil_append] at se2
 have b2 : Below w.heap.size w w2 := Below.grown b1 hg2 (by simp) (fun q hq => by have e2 : w.heap.size = q := (by simpa [Value.ownBlock] using hq); omega)
 obtain ⟨a2, c2, rfl⟩ := se2.shapeN htl
 refine hK.out _ _ (HC8.out _ b2) (fun hHeld => ?_)
 clear hK K
 try simp only [qz]
 refine wpAnyZ_one (i := 16) (by kernel_rfl) rfl (fun K hK => ?_)
 obtain ⟨VW, hW1, hW2⟩ := RdV.lies (HR.out _ b2)
 have hb2 := se2.lt
 have s2 := b2.size
 refine step_appE w2 rfl (.tmp 12) (.tmp 19) (by rfl) (.slice a2 i c2) (by rfl) (es.take i) (es.drop (i + 1)) w.heap.size (xc - (i + 1)) _ (fun b => S b ∨ w.heap.size ≤ b) (by rw [hdl]; rfl) (fun j => VW (i + 1 + j)) (hW2 (i + 1) (by omega)).2 ?_ se2 s2 (by rw [htl, hdl]; omega) ?_
 ·intro j hj
  rw [getD_drop]
  rw [hdl] at hj
  exact RdV.mono (fun b hb => ⟨.inl hb, by have := HS.out b hb; omega, fun e => by have := HS.out b hb; have := hb2 b e; omega⟩) (hW1 (i + 1 + j) (by omega))
 intro v3 w3 se3 hg3 hgg3
 have b3 : Below w.heap.size w w3 := Below.grown b2 hg3 s2 (fun q hq => (hb2 q hq).1)
 obtain ⟨n3, hn3⟩ : ∃ n, (es.take i ++ es.drop (i + 1)).length = n := ⟨_, rfl⟩
 obtain ⟨a3, c3, rfl⟩ := se3.shapeN hn3
 clear hn3
 refine hK.out _ _ (HC8.out _ b3) (fun hHeld => ?_)
 clear hK K
 try simp only [qz]
 refine wpAnyZ_one (i := 17) (by kernel_rfl) rfl (fun K hK => ?_)
 go_simp
 refine hK.out _ _ (by assumption) (fun hHeld => ?_)
 clear hK K
 try simp only [qz]
 apply tkz 18 _ rfl (by kernel_rfl) rfl (by assumption)
 ·(intro _ h; (try dsimp only at h); go_simp; try with_reducible rfl)
 try simp only [qz]
 refine wpAnyZ_last (by kernel_rfl) rfl (fun K hK => ?_)
 have fz := HFZ.out _ b3
 have c83 := HC8.out _ b3
 go_simp
 refine hK.out _ _ ?_
 clear hK K
 try simp only [qz]
 refine wpAnyZ_done (by kernel_rfl) (NoPanic.normal ?_) _
 have HSE3 : Hid (SE w3 w.heap.size _ _ _) := se3
 have HB3 : Hid (Below w.heap.size w w3) := b3
 clear se3 b3 b1 b2 hHeld
 go_end0
 refine ⟨rfl, w3, _, rfl, HB3.out, ?_⟩
 unfold cutE
 exact RdV.mono (fun b hb => ⟨hb.1.elim id (fun h => .inr h), hb.2⟩) (SE.rdO HSE3.out)
end
section
theorem step_stF2 {ty t' : TypeId} {dst : Option Tmp} {x y : Operand} {pos : String} {af : Array Edge} {ops : Array Oper} {a : Act} {K : Act → World → Prop} {Q : Exit → Act → World → Prop} {E : Prop} {w : World} {g off : Nat} {T : TypeId} {old vs new : Array Value}
  (hv : VarA w g T old) (hx : a.eval x = .pointer (some ⟨g, off, none⟩)) (hy : a.eval y = .agg vs) (hi : (Tryz.prog.info? ty).map (·.size) = some vs.size) (h1 : vs.toList.all (·.oneCell') = true) (hl : off + vs.size ≤ old.size)
  (hnew : (old.toList.take off ++ vs.toList ++ old.toList.drop (off + vs.size)).toArray = new)
  (hK : ∀ w', VarA w' g T new → Turned (fun b => b = g) w w' → K (a.put dst undef) w') :
  if Region.wanted ⟨dst, .store ty x y, t', pos, af, none⟩ (yielded ops a.tmps) = true then Oper.wp Tryz.prog ⟨dst, .store ty x y, t', pos, af, none⟩ a w K Q else E := by
 rw [if_pos (by simp [Region.wanted])]
 unfold Oper.wp execOp
 simp only [hx, hy, Instr.storeAt, Instr.sureAddr, Sem.run_bind, Sem.run_pure, Result.andThen_ok, storeF_run hv hl hi h1]
 rw [hnew]
 exact hK _ (VarA.row hv) (turned_row w g new)
def HdR (h : Hd) : Prop := 0 ≤ h.sh ∧ h.sh < 4 ∧ 0 ≤ h.ino ∧ h.ino ≤ 2147483648
theorem cur_keep {w w' : World} {pb q : Nat} (h : CurAt w pb) (t : Turned (fun b => b = q) w w') (hq : pb < q) : CurAt w' pb :=
 h.grown (r := some q) ⟨t.os, t.tape, t.output, t.size, fun k hk hne => t.block k hk (fun e => hne (by rw [e]))⟩ (fun k hk => by cases hk; exact hq)
theorem grown_keep {w w1 w' : World} {pb q : Nat} (h : w.grownBy w1 (some pb)) (t : Turned (fun b => b = q) w1 w') (hq : w.heap.size ≤ q) : w.grownBy w' (some pb) :=
 ⟨t.os.trans h.os, t.tape.trans h.tape, t.output.trans h.output, Nat.le_trans h.size t.size, fun k hk hne => (t.block k (Nat.lt_of_lt_of_le hk h.size) (fun e => by omega)).trans (h.block k hk hne)⟩
def HdSaid (w : World) (pb : Nat) (e : Ending) (w' : World) : Prop := ∃ hd : Hd, e = .returned hd.v ∧ HdR hd ∧ CurAt w' pb ∧ w.grownBy w' (some pb)
set_option maxHeartbeats 4000000 in
theorem handle4_any (pb : Nat) (x : Value) (l : List Nd) (S : Nat → Prop) (w : World) (h : CurAt w pb) (r : RdV w S x (ndsDt l)) (hS : ∀ b, S b → b ≠ pb) (hl : l.length ≤ 2097152) (hP : ∀ i : Nat, i < l.length → HdR (l[i]?.getD nd0).h) :
  Calls Tryz.prog 78 #[.pointer (some ⟨pb, 0, none⟩), .agg #[x]] w (HdSaid w pb) := by
 obtain ⟨xa, xc, rfl, _⟩ := RdV.sliced r
 have hpb := h.lt
 go_enter Tryz.func78, Tryz.ntmps78
 go_wp2_with fail
 obtain ⟨w0, hw0⟩ : ∃ W, W = (w.alloc (.cells #[.slice xa l.length xc] 25)).alloc (.cells #[.i 0, .i 0, .bool false] 27) := ⟨_, rfl⟩
 have B0 : Below w.heap.size w w0 := by rw [hw0]; exact Below.newH2 _ _
 have VT0 : VarA w0 w.heap.size 25 #[.slice xa l.length xc] := by rw [hw0]; exact (VarA.new w _ _).alloc _
 have VR0 : VarA w0 (w.heap.size + 1) 27 #[.i 0, .i 0, .bool false] := by rw [hw0]; have := VarA.new (w.alloc (.cells #[.slice xa l.length xc] 25)) 27 #[.i 0, .i 0, .bool false]; simpa using this
 rw [← hw0]
 clear hw0
 refine (once_any pb 10 _ (h.below B0) (by omega) (by omega)).mono ?_
 rintro e1 w1 ⟨b1, rfl, hc1, hg1⟩
 have T1 := Turned.ofGrown (S := fun b => b = pb) hg1 (fun k hk => by cases hk; rfl)
 have VT1 := VT0.turn T1 (by show w.heap.size ≠ pb; omega)
 have VR1 := VR0.turn T1 (by show w.heap.size + 1 ≠ pb; omega)
 have HG1 : w.grownBy w1 (some pb) := grown_trans (grown_below B0) hg1
 have z1 := HG1.size
 have HRW : Hid (∀ W, w.grownBy W (some pb) → RdV W S (.slice xa l.length xc) (ndsDt l)) := fun W hg => RdV.keep ((Turned.ofGrown (S := fun b => b = pb) hg (fun k hk => by cases hk; rfl)).keeps (fun b hb e => hS b hb e)) r
 have t1 := VT1.l1
 clear B0 VT0 VR0 T1 hg1 r h
 cases b1 with
 | true =>
  go_wp2_with fail
  refine (below_any pb 4 _ hc1 (by omega) (by omega)).mono ?_
  rintro e2 w2 ⟨x2, rfl, hx20, hx21, hc2, hg2⟩
  go_wp2_with fail
  refine (below_any pb 9 _ hc2 (by omega) (by omega)).mono ?_
  rintro e3 w3 ⟨x3, rfl, hx30, hx31, hc3, hg3⟩
  have hw3 : IntKind.i64.wrap (1 + x3) = 1 + x3 := wrapI _ (by omega) (by omega)
  go_wp2_with fail
  refine (once_any pb 2 _ hc3 (by omega) (by omega)).mono ?_
  rintro e4 w4 ⟨x4, rfl, hc4, hg4⟩
  have T4 := Turned.ofGrown (S := fun b => b = pb) (grown_trans (grown_trans hg2 hg3) hg4) (fun k hk => by cases hk; rfl)
  have HV4 : Hid _ := VR1.turn T4 (by show w.heap.size + 1 ≠ pb; omega)
  have HG4 : Hid (w.grownBy w4 (some pb)) := grown_trans HG1 (grown_trans (grown_trans hg2 hg3) hg4)
  have z4 := HG4.out.size
  clear hg2 hg3 hg4 T4
  go_wp2_with ((with_reducible refine gS 27 ?_); refine sF HV4.out rfl rfl (by kernel_rfl) rfl rfl ?_; intro wz vZ t_)
  refine bpR Tryz.results78 vZ Tryz.underlying27 rfl rfl (by kernel_rfl) rfl ?_
  exact ⟨(x2, 1 + x3, x4), rfl, ⟨by show 0 ≤ x2; omega, by show x2 < 4; omega, by show 0 ≤ 1 + x3; omega, by show 1 + x3 ≤ 2147483648; omega⟩, cur_keep hc4 t_ (by omega), grown_keep HG4.out t_ (by omega)⟩
 | false =>
  by_cases hl0 : l.length = 0
  ·rw [hl0] at t1
   go_wp2_with fail
   refine (below_any pb 4 _ hc1 (by omega) (by omega)).mono ?_
   rintro e2 w2 ⟨x2, rfl, hx20, hx21, hc2, hg2⟩
   go_wp2_with fail
   refine (below_any pb 9 _ hc2 (by omega) (by omega)).mono ?_
   rintro e3 w3 ⟨x3, rfl, hx30, hx31, hc3, hg3⟩
   have hw3 : IntKind.i64.wrap (1 + x3) = 1 + x3 := wrapI _ (by omega) (by omega)
   go_wp2_with fail
   refine (once_any pb 2 _ hc3 (by omega) (by omega)).mono ?_
   rintro e4 w4 ⟨x4, rfl, hc4, hg4⟩
   have T4 := Turned.ofGrown (S := fun b => b = pb) (grown_trans (grown_trans hg2 hg3) hg4) (fun k hk => by cases hk; rfl)
   have HV4 : Hid _ := VR1.turn T4 (by show w.heap.size + 1 ≠ pb; omega)
   have HG4 : Hid (w.grownBy w4 (some pb)) := grown_trans HG1 (grown_trans (grown_trans hg2 hg3) hg4)
   have z4 := HG4.out.size
   clear hg2 hg3 hg4 T4
   go_wp2_with ((with_reducible refine gS 27 ?_); refine sF HV4.out rfl rfl (by kernel_rfl) rfl rfl ?_; intro wz vZ t_)
   refine bpR Tryz.results78 vZ Tryz.underlying27 rfl rfl (by kernel_rfl) rfl ?_
   exact ⟨(x2, 1 + x3, x4), rfl, ⟨by show 0 ≤ x2; omega, by show x2 < 4; omega, by show 0 ≤ 1 + x3; omega, by show 1 + x3 ≤ 2147483648; omega⟩, cur_keep hc4 t_ (by omega), grown_keep HG4.out t_ (by omega)⟩
  ·have hpos : (0 : Int) < (l.length : Int) := by omega
   have hne : ¬ ((l.length : Int) = 0) := by omega
   go_wp2
   refine wp_region_noPanic ?_
   refine wp_region_held_drew (S := fun W => W.cell? ⟨w.heap.size, 0, none⟩ = some (.slice xa l.length xc)) (by kernel_rfl) (VT1.step (Below.drew (Below.refl w1.heap.size w1))).l1 (fun hHeld => ?_)
   apply tkh 0 _ rfl (by kernel_rfl) rfl (by assumption)
   ·(intro _ h; (try dsimp only at h); go_simp; try with_reducible rfl)
   try simp only [qz]
   apply tkh 1 _ rfl (by kernel_rfl) rfl (by assumption)
   ·(intro _ h; (try dsimp only at h); go_simp; try with_reducible rfl)
   try simp only [qz]
   apply tkh 2 _ rfl (by kernel_rfl) rfl (by assumption)
   ·(intro _ h; (try dsimp only at h); go_simp; try with_reducible rfl)
   try simp only [qz]
   apply tkh 3 _ rfl (by kernel_rfl) rfl (by assumption)
   ·(intro _ h; (try dsimp only at h); go_simp; try with_reducible rfl)
   try simp only [qz]
   apply tkh 4 _ rfl (by kernel_rfl) rfl (by assumption)
   ·(intro _ h; (try dsimp only at h); go_simp; try with_reducible rfl)
   try simp only [qz]
   apply tkh 5 _ rfl (by kernel_rfl) rfl (by assumption)
   ·(intro _ h; (try dsimp only at h); go_simp; try with_reducible rfl)
   try simp only [qz]
   refine doH 6 (by kernel_rfl) rfl fun K hK => ?_
   go_simp
   refine (below_any pb l.length _ (hc1.below (Below.drew (Below.refl w1.heap.size w1))) hpos (by omega)).mono ?_
   rintro e2 w2 ⟨x2, rfl, hx20, hx21, hc2, hg2⟩
   dsimp only
   have T2 := Turned.ofGrown (S := fun b => b = pb) hg2 (fun k hk => by cases hk; rfl)
   have VT2 := (VT1.step (Below.drew (Below.refl w1.heap.size w1))).turn T2 (by show w.heap.size ≠ pb; omega)
   have VR2 := (VR1.step (Below.drew (Below.refl w1.heap.size w1))).turn T2 (by show w.heap.size + 1 ≠ pb; omega)
   have HG2 : w.grownBy w2 (some pb) := grown_trans HG1 (grown_trans (grown_below (Below.drew (Below.refl w1.heap.size w1))) hg2)
   obtain ⟨i, rfl⟩ : ∃ i : Nat, x2 = (i : Int) := ⟨x2.toNat, by omega⟩
   have hi : i < l.length := by omega
   obtain ⟨b, off, rfl, hbl, _, hx⟩ := RdV.at (HRW.out w2 HG2) hi
   obtain ⟨y0, q0, s0⟩ := hx 0 (by omega)
   obtain ⟨y1, q1, s1⟩ := hx 1 (by omega)
   obtain ⟨y2, q2, s2⟩ := hx 2 (by omega)
   have HPi := hP i hi
   generalize l[i]?.getD nd0 = nd at *
   obtain ⟨⟨p, q, d⟩, pp, ll, vv, ee⟩ := nd
   obtain rfl : y0 = .i p := s0
   obtain rfl : y1 = .i q := s1
   obtain rfl : y2 = .bool d := s2
   simp only [Nat.add_zero] at q0
   refine hK.out _ _ VT2.l1 (fun hHeld => ?_)
   clear hK K
   try simp only [qz]
   apply tkh 7 _ rfl (by kernel_rfl) rfl (by assumption)
   ·(intro _ h; (try dsimp only at h); go_simp; try with_reducible rfl)
   try simp only [qz]
   apply tkh 8 _ rfl (by kernel_rfl) rfl (by assumption)
   ·(intro _ h; (try dsimp only at h); go_simp; try with_reducible rfl)
   try simp only [qz]
   refine doH 9 (by kernel_rfl) rfl fun K hK => ?_
   go_simp
   refine hK.out _ _ VT2.l1 (fun hHeld => ?_)
   clear hK K
   try simp only [qz]
   refine doH 10 (by kernel_rfl) rfl fun K hK => ?_
   refine step_stF2 VR2 (by rfl) (by rfl) (by kernel_rfl) rfl (of_decide_eq_true rfl) rfl ?_
   intro wz vZ t_
   refine hK.out _ _ (VT2.turn t_ (by show w.heap.size ≠ w.heap.size + 1; omega)).l1 (fun hHeld => ?_)
   clear hK K
   try simp only [qz]
   refine wpAnyH_done (by kernel_rfl) (NoPanic.normal ?_) _
   clear hHeld
   have z2 := HG2.size
   go_wp2
   refine bpR Tryz.results78 vZ Tryz.underlying27 rfl rfl (by kernel_rfl) rfl ?_
   exact ⟨(p, q, d), rfl, HPi, cur_keep hc2 t_ (by omega), grown_keep HG2 t_ (by omega)⟩
end
section
def DirRel (w : World) (pb : Nat) (x : Value) (i : Value) (wr : World) : Prop :=
  ∃ k : Nat, k ≤ 4 ∧ i = .i k ∧ CurAt wr pb ∧ w.grownBy wr (some pb) ∧ VarA wr w.heap.size 25 #[x] ∧ VarA wr (w.heap.size + 1) 27 #[.i 0, .i 0, .bool false]
set_option maxHeartbeats 4000000 in
theorem dir4_any (pb : Nat) (x : Value) (l : List Nd) (S : Nat → Prop) (w : World) (h : CurAt w pb) (r : RdV w S x (ndsDt l)) (hS : ∀ b, S b → b ≠ pb) (hl : l.length ≤ 2097152) (hP : ∀ i : Nat, i < l.length → HdR (l[i]?.getD nd0).h) :
    Calls Tryz.prog 76 #[.pointer (some ⟨pb, 0, none⟩), .agg #[x]] w (HdSaid w pb) := by
  obtain ⟨xa, xc, rfl, _⟩ := RdV.sliced r
  have hpb := h.lt
  have HH : Hid (∀ W, CurAt W pb → w.grownBy W (some pb) → Calls Tryz.prog 78 #[.pointer (some ⟨pb, 0, none⟩), .agg #[.slice xa l.length xc]] W (HdSaid W pb)) := fun W hc hg => handle4_any pb _ l S W hc (RdV.keep ((Turned.ofGrown (S := fun b => b = pb) hg (fun k hk => by cases hk; rfl)).keeps (fun b hb e => hS b hb e)) r) hS hl hP
  have HC0 : Hid (CurAt w pb) := h
  clear r h hP hS
  go_enter Tryz.func76, Tryz.ntmps76
  go_wp2
  go_loopw [5] (fun i wr => DirRel w pb (.slice xa l.length xc) i wr) (fun i _ => 4 - (intOf i).toNat)
  case atStart =>
    refine ⟨0, Nat.zero_le _, rfl, HC0.out.below (Below.newH2 _ _), grown_below (Below.newH2 _ _), (VarA.new w _ _).alloc _, ?_⟩
    have := VarA.new (w.alloc (.cells #[.slice xa l.length xc] 25)) 27 #[.i 0, .i 0, .bool false]
    simpa using this
  case round =>
    obtain ⟨k, hk, rfl, hc, hg, vT, vR⟩ := hrel
    have t0 := vT.l1
    have z0 := hg.size
    have HG : Hid (w.grownBy wr (some pb)) := hg
    have HC : Hid (CurAt wr pb) := hc
    have HVT : Hid (VarA wr w.heap.size 25 _) := vT
    have HVR : Hid (VarA wr (w.heap.size + 1) 27 _) := vR
    have HCALL : Hid _ := HH.out wr hc hg
    clear hc hg vT vR
    by_cases hk4 : k < 4
    · have hki : (k : Int) < 4 := by omega
      go_wp2_with fail
      refine Calls.mono HCALL.out ?_
      rintro e2 w2 ⟨⟨p, q, d⟩, rfl, hr, hc2, hg2⟩
      have T2 := Turned.ofGrown (S := fun b => b = pb) hg2 (fun k hk => by cases hk; rfl)
      have z2 := hg2.size
      obtain ⟨w3, hw3⟩ : ∃ W, W = w2.alloc (.cells #[.i p, .i q, .bool d] 27) := ⟨_, rfl⟩
      have b3 : Below w2.heap.size w2 (w2.alloc (.cells #[.i p, .i q, .bool d] 27)) := Below.newH _
      have HT3 : Hid (VarA (w2.alloc (.cells #[.i p, .i q, .bool d] 27)) w.heap.size 25 #[.slice xa l.length xc]) := (HVT.out.turn T2 (by show w.heap.size ≠ pb; omega)).step b3
      have HR3 : Hid (VarA (w2.alloc (.cells #[.i p, .i q, .bool d] 27)) (w.heap.size + 1) 27 #[.i 0, .i 0, .bool false]) := (HVR.out.turn T2 (by show w.heap.size + 1 ≠ pb; omega)).step b3
      have HG3 : Hid (w.grownBy (w2.alloc (.cells #[.i p, .i q, .bool d] 27)) (some pb)) := grown_trans (grown_trans HG.out hg2) (grown_below b3)
      have HC3 : Hid (CurAt (w2.alloc (.cells #[.i p, .i q, .bool d] 27)) pb) := hc2.below b3
      obtain ⟨a0, a1, a2⟩ := (VarA.new w2 27 #[.i p, .i q, .bool d]).l3
      clear hw3 w3 T2 hg2 hc2 b3 HCALL
      cases d with
      | true =>
        go_wp2_with ((with_reducible refine gS 27 ?_); refine sF HR3.out rfl rfl (by kernel_rfl) rfl rfl ?_; intro wz vZ t_)
        refine bpR Tryz.results76 vZ Tryz.underlying27 rfl rfl (by kernel_rfl) rfl ?_
        exact ⟨(p, q, true), rfl, hr, cur_keep HC3.out t_ (by omega), grown_keep HG3.out t_ (by omega)⟩
      | false =>
        go_wp2
        first
        | exact ⟨⟨k + 1, by omega, by go_num, HC3.out, HG3.out, HT3.out, HR3.out⟩, by simp [intOf]; omega⟩
        | (go_roundw
           case rel => exact ⟨k + 1, by omega, by go_num, HC3.out, HG3.out, HT3.out, HR3.out⟩
           case measure => simp [intOf]; omega)
    · have hki : ¬ (k : Int) < 4 := by omega
      go_wp2_with fail
      refine Calls.mono HCALL.out ?_
      rintro e2 w2 ⟨⟨p, q, d⟩, rfl, hr, hc2, hg2⟩
      have T2 := Turned.ofGrown (S := fun b => b = pb) hg2 (fun k hk => by cases hk; rfl)
      have HR3 : Hid (VarA w2 (w.heap.size + 1) 27 #[.i 0, .i 0, .bool false]) := HVR.out.turn T2 (by show w.heap.size + 1 ≠ pb; omega)
      have HG3 : Hid (w.grownBy w2 (some pb)) := grown_trans HG.out hg2
      clear T2 hg2 HCALL
      go_wp2_with ((with_reducible refine gS 27 ?_); refine sF HR3.out rfl rfl (by kernel_rfl) rfl rfl ?_; intro wz vZ t_)
      refine bpR Tryz.results76 vZ Tryz.underlying27 rfl rfl (by kernel_rfl) rfl ?_
      exact ⟨(p, q, d), rfl, hr, cur_keep hc2 t_ (by omega), grown_keep HG3.out t_ (by omega)⟩
end
section
def In64 (n : Int) : Prop := -9223372036854775808 ≤ n ∧ n ≤ 9223372036854775807
def TxSaid (w : World) (pb : Nat) (e : Ending) (w' : World) : Prop := ∃ a b c : Int, e = .returned (.agg #[.i a, .i b, .i c]) ∧ (In64 a ∧ In64 b ∧ In64 c) ∧ CurAt w' pb ∧ w.grownBy w' (some pb)
end
section
def cmpB (xs ys : List Int) : Int := Lib.compareBytes (Lib.bytesOf xs) (Lib.bytesOf ys)
theorem cmp_less : ∀ (a b : List UInt8), decide (0 ≤ Lib.compareBytes a b) = !Op.bytesLess a b
 | [], [] => by simp [Lib.compareBytes, Op.bytesLess]
 | [], _ :: _ => by simp [Lib.compareBytes, Op.bytesLess]
 | _ :: _, [] => by simp [Lib.compareBytes, Op.bytesLess]
 | x :: a, y :: b => by
  have ih := cmp_less a b
  simp only [Lib.compareBytes, Op.bytesLess]
  by_cases h1 : x < y
  ·simp [h1]
  ·by_cases h2 : y < x
   ·have h3 : ¬ x = y := fun e => by subst e; exact UInt8.lt_irrefl x h2
    simp [h1, h2, h3]
   ·have h3 : x = y := UInt8.le_antisymm (UInt8.not_lt.1 h2) (UInt8.not_lt.1 h1)
    subst h3
    simp [h1]
    simpa using ih
theorem cmpB_ge (xs ys : List Int) : decide (0 ≤ cmpB xs ys) = geS xs ys := by
 unfold cmpB geS
 rw [cmp_less, Lib.strOfNums_toList, Lib.strOfNums_toList]
theorem run_bytesOf (v : Value) (xs : List Int) (S : Nat → Prop) (w : World) (r : RdV w S v (.bytes xs)) : (Extern.Bytes.bytesOf v).run Tryz.prog w = .ok ⟨(Lib.bytesOf xs).toArray⟩ w := by
 obtain ⟨a, cap, rfl, hh, hr⟩ := r.b.reads
 cases a with
 | none =>
  have h0 := (hh.2.2 rfl).1
  have : xs = [] := List.eq_nil_of_length_eq_zero h0
  subst this
  simp [Extern.Bytes.bytesOf, Lib.bytesOf]
  rfl
 | some ad =>
  have hl := Lib.run_loadBytesX (P := Tryz.prog) w xs ad .empty (fun j x hj => by
   have hjl : j < xs.length := (List.getElem?_eq_some_iff.1 hj).1
   have := hr.srcAt j (.int .u8 x) (by simp [bcells, hj])
   exact this)
  have he : (⟨ByteArray.empty.data ++ (Lib.bytesOf xs).toArray⟩ : ByteArray) = ⟨(Lib.bytesOf xs).toArray⟩ := by
   apply ByteArray.ext
   show (#[] : Array UInt8) ++ (Lib.bytesOf xs).toArray = (Lib.bytesOf xs).toArray
   simp
  rw [he] at hl
  exact hl
theorem run_cmp (v u : Value) (xs ys : List Int) (S S2 : Nat → Prop) (w : World) (r : RdV w S v (.bytes xs)) (r2 : RdV w S2 u (.bytes ys)) :
  (Extern.BytealgCompare.compare #[v, u]).run Tryz.prog w = .ok (.i (cmpB xs ys)) w := by
 change Sem.run Tryz.prog (do pure (goInt (Extern.BytealgCompare.cmp (← Extern.Bytes.bytesOf v) (← Extern.Bytes.bytesOf u)))) w = _
 have h1 := run_bytesOf v xs S w r
 have h2 := run_bytesOf u ys S2 w r2
 simp only [Sem.run_bind, Sem.run_pure, h1, h2, Result.andThen]
 rw [Lib.cmp_eq]
 rfl
set_option maxRecDepth 100000 in
theorem bytesCompare_any (v u : Value) (xs ys : List Int) (S S2 : Nat → Prop) (w : World) (r : RdV w S v (.bytes xs)) (r2 : RdV w S2 u (.bytes ys)) :
  Calls Tryz.prog 124 #[v, u] w fun e w' => e = .returned (.i (cmpB xs ys)) ∧ w' = w := by
 have HC : Hid _ := run_cmp v u xs ys S S2 w r r2
 obtain ⟨a, cap, rfl⟩ := r.sliceB
 obtain ⟨a2, cap2, rfl⟩ := r2.sliceB
 generalize xs.length = n0 at *
 generalize ys.length = n1 at *
 generalize cmpB xs ys = c at *
 clear r r2
 go_enter Tryz.func124, Tryz.ntmps124
 go_wp2
 rw [run_callFunc_extern Tryz.func147 (by kernel_rfl) (by kernel_rfl) (by kernel_rfl) (e := Extern.BytealgCompare.compare) (by kernel_rfl), HC.out]
 simp only [Result.andThen]
 rw [Oper.upon_value]
 go_wp2
 go_ret
 exact ⟨rfl, rfl⟩
end
section
def enAt (es : List En) (i : Nat) : Bool := isNm (es[i]?.getD en0).nm && (HOk (es[i]?.getD en0).h && (decide (i = 0) || !geS (es[i - 1]?.getD en0).nm (es[i]?.getD en0).nm))
def entsI (es : List En) : Bool := decide (es.length ≤ 12) && (List.range es.length).all (enAt es)

set_option maxRecDepth 100000 in
set_option maxHeartbeats 2000000 in
theorem entriesOk_any (x : Value) (es : List En) (S : Nat → Prop) (w : World) (r : RdV w S x (ensDt es)) (hl : szEns es ≤ 2097152) :
  Calls Tryz.prog 97 #[x] w fun e w' => e = .returned (.bool (entsI es)) ∧ Below w.heap.size w w' := by
 obtain ⟨a, cap, rfl, _⟩ := RdV.sliced r
 have HR2 : Hid (∀ W, Below w.heap.size w W → RdV W S (.slice a es.length cap) (.rows 81 4 es.length (fun i j => enCell (es[i]?.getD en0) j))) := RdV.old r
 have hmm : es.length ≤ 2097152 := by unfold szEns at hl; omega
 have HL : Hid _ := hl
 obtain ⟨m, hm⟩ : ∃ m, es.length = m := ⟨_, rfl⟩
 have HN : Hid _ := hm
 have HRS : Hid (entsI es = (decide (m ≤ 12) && (List.range m).all (enAt es))) := by show _ = _; unfold entsI; rw [hm]
 rw [hm] at HR2 hmm ⊢
 clear r hl hm
 by_cases h12 : m ≤ 12
 case neg =>
  have HF : Hid (entsI es = false) := by rw [HRS.out]; show _ = _; simp [h12]
  rw [HF.out]
  clear HRS HF HR2 HL HN
  go_enter Tryz.func97, Tryz.ntmps97
  go_wp2
  go_ret
  exact ⟨rfl, Below.refl _ _⟩
 have HRS2 : Hid (entsI es = (List.range m).all (enAt es)) := by rw [HRS.out]; show _ = _; simp [h12]
 rw [HRS2.out]
 clear HRS HRS2
 go_enter Tryz.func97, Tryz.ntmps97
 go_wp2
 go_loopw [10] (fun i wr => ∃ k : Nat, k ≤ m ∧ i = .i k ∧ Below w.heap.size w wr ∧ Hid ((List.range k).all (enAt es) = true)) (fun i _ => m - (intOf i).toNat)
 case atStart => exact ⟨0, Nat.zero_le _, rfl, Below.refl _ _, by show _ = _; simp⟩
 case round =>
  obtain ⟨k, hk, rfl, hbel, HA⟩ := hrel
  by_cases hlt : k < m
  case neg =>
   have he : k = m := by omega
   subst he
   go_wp2
   go_ret
   exact ⟨by rw [HA.out]; rfl, hbel⟩
  obtain ⟨b, off, rfl, hbl, _, hx⟩ := RdV.at (HR2.out wr hbel) hlt
  obtain ⟨e, he⟩ : ∃ e, es[k]?.getD en0 = e := ⟨_, rfl⟩
  obtain ⟨x0, c0, r0⟩ := hx 0 (by omega)
  obtain ⟨x1, c1, r1⟩ := hx 1 (by omega)
  obtain ⟨x2, c2, r2⟩ := hx 2 (by omega)
  obtain ⟨x3, c3, r3⟩ := hx 3 (by omega)
  rw [he] at r0 r1 r2 r3
  have HZ : Hid (e.nm.length ≤ 2097152) := by have h1 := szEns_at es k; rw [he] at h1; have h2 := HL.out; show _ ≤ _; omega
  have HAT : Hid (enAt es k = (isNm e.nm && (HOk e.h && (decide (k = 0) || !geS (es[k - 1]?.getD en0).nm e.nm)))) := by show _ = _; unfold enAt; rw [he]
  clear hx he
  obtain ⟨nm, ⟨s, ino, d⟩⟩ := e
  obtain rfl : x1 = .i s := r1
  obtain rfl : x2 = .i ino := r2
  obtain rfl : x3 = .bool d := r3
  simp only [Nat.add_zero] at c0
  dsimp only at HAT
  have RB : Hid (RdV wr S x0 (.bytes nm)) := r0
  clear r0
  have HNM : Hid (∀ W, Below wr.heap.size wr W → _) := fun W hW => implName_any x0 nm S W (RdV.step RB.out hW) HZ.out
  have HHO : Hid (∀ W, _) := fun W => implHandleOk_w (s, ino, d) W
  have HRX : Hid (∀ W, Below wr.heap.size wr W → RdV W S x0 (.bytes nm)) := fun W hW => RdV.step RB.out hW
  obtain ⟨xa, xc, rfl⟩ := RdV.sliceB RB.out
  clear RB
  generalize nm.length = xn at *
  generalize isNm nm = bn at HNM HAT
  generalize HOk (s, ino, d) = bh at HHO HAT
  cases bn with
  | false =>
   have HF : Hid ((List.range m).all (enAt es) = false) := range_all_false _ _ k hlt (by rw [HAT.out]; rfl)
   go_wp2_with fail
   refine Calls.mono (HNM.out _ (Below.newH _)) ?_
   rintro e w2 ⟨rfl, rfl⟩
   go_wp2
   go_ret
   exact ⟨by rw [HF.out]; rfl, hbel.trans ((Below.newH (w := wr) _).mono hbel.size)⟩
  | true =>
  cases bh with
  | false =>
   have HF : Hid ((List.range m).all (enAt es) = false) := range_all_false _ _ k hlt (by rw [HAT.out]; rfl)
   go_wp2_with fail
   refine Calls.mono (HNM.out _ (Below.newH _)) ?_
   rintro e w2 ⟨rfl, rfl⟩
   go_wp2_with fail
   refine Calls.mono (HHO.out _) ?_
   rintro e w2 ⟨rfl, rfl⟩
   go_wp2
   go_ret
   exact ⟨by rw [HF.out]; rfl, hbel.trans ((Below.newH2 (w := wr) _ _).mono hbel.size)⟩
  | true =>
  by_cases hk0 : k = 0
  ·subst hk0
   have HF : Hid ((List.range (0 + 1)).all (enAt es) = true) := range_all_next _ _ HA.out (by rw [HAT.out]; rfl)
   simp only [Nat.zero_mul, Nat.add_zero] at c0 c1 c2 c3
   go_wp2_with fail
   refine Calls.mono (HNM.out _ (Below.newH _)) ?_
   rintro e w2 ⟨rfl, rfl⟩
   go_wp2_with fail
   refine Calls.mono (HHO.out _) ?_
   rintro e w2 ⟨rfl, rfl⟩
   go_wp2
   haveI : Nonempty (Cls ((wr.alloc (.cells #[.slice xa xn xc, .i s, .i ino, .bool d] 81)).alloc (.cells #[.i s, .i ino, .bool d] 27))) := Cls.ne _
   refine wp_region_cls (by kernel_rfl) (by kernel_rfl) ?_
   repeat (go_big_quiet_step (fail))
   refine wpQuiet_nil ?_
   rintro w' ⟨⟨w', hb'⟩, rfl⟩
   have hb3 : Below w.heap.size w w' := hbel.trans (((Below.newH2 (w := wr) _ _).trans (hb'.mono (by simp; omega))).mono hbel.size)
   go_wp2
   go_roundw
   case rel => exact ⟨0 + 1, by omega, by go_num, hb3, HF.out⟩
   case measure => simp [intOf]; omega
  obtain ⟨j, rfl⟩ : ∃ j, k = j + 1 := ⟨k - 1, by omega⟩
  obtain ⟨b9, off9, hbb, hbl9, _, hz⟩ := RdV.at (HR2.out wr hbel) (show j < m by omega)
  simp only [Option.some.injEq, Addr.mk.injEq, and_true] at hbb
  obtain ⟨rfl, rfl⟩ := hbb
  obtain ⟨y0, d0, s0⟩ := hz 0 (by omega)
  simp only [Nat.add_zero] at d0
  have HAT2 : Hid (enAt es (j + 1) = !geS (es[j]?.getD en0).nm nm) := by rw [HAT.out]; show _ = _; simp
  generalize es[j]?.getD en0 = e1 at s0 HAT2
  obtain ⟨nm1, hd1⟩ := e1
  dsimp only at HAT2
  have RY : Hid (RdV wr S y0 (.bytes nm1)) := s0
  clear hz s0 HAT
  have HCP : Hid (∀ W, Below wr.heap.size wr W → _) := fun W hW => bytesCompare_any y0 (.slice xa xn xc) nm1 nm S S W (RdV.step RY.out hW) (HRX.out W hW)
  rw [← cmpB_ge] at HAT2
  obtain ⟨ya, yc, rfl⟩ := RdV.sliceB RY.out
  clear RY HRX
  generalize nm1.length = yn at *
  generalize cmpB nm1 nm = cb at *
  have i1 : (0 : Int) ≤ (j : Int) := by omega
  have i2 : (j : Int) < (m : Int) := by omega
  by_cases hge : 0 ≤ cb
  ·have HF : Hid ((List.range m).all (enAt es) = false) := range_all_false _ _ (j + 1) hlt (by rw [HAT2.out]; simp [hge])
   have hge2 : decide ((0 : Int) ≤ cb) = true := by simpa using hge
   go_wp2_with fail
   refine Calls.mono (HNM.out _ (Below.newH _)) ?_
   rintro e w2 ⟨rfl, rfl⟩
   go_wp2_with fail
   refine Calls.mono (HHO.out _) ?_
   rintro e w2 ⟨rfl, rfl⟩
   go_wp2
   haveI : Nonempty (Cls ((wr.alloc (.cells #[.slice xa xn xc, .i s, .i ino, .bool d] 81)).alloc (.cells #[.i s, .i ino, .bool d] 27))) := Cls.ne _
   have hblw : b < ((wr.alloc (.cells #[.slice xa xn xc, .i s, .i ino, .bool d] 81)).alloc (.cells #[.i s, .i ino, .bool d] 27)).heap.size := by simp; omega
   have kd0 := Cls.cell hblw (((Below.newH2 (w := wr) (.cells #[.slice xa xn xc, .i s, .i ino, .bool d] 81) (.cells #[.i s, .i ino, .bool d] 27)).cell (p := ⟨b, off + j * 4, none⟩) hbl9).trans d0)
   have ke0 := Cls.cell ((VarA.new wr 81 #[.slice xa xn xc, .i s, .i ino, .bool d]).alloc (.cells #[.i s, .i ino, .bool d] 27)).lt ((VarA.new wr 81 #[.slice xa xn xc, .i s, .i ino, .bool d]).alloc (.cells #[.i s, .i ino, .bool d] 27)).l4.1
   refine wp_region_cls (by kernel_rfl) (by kernel_rfl) ?_
   repeat (go_big_quiet_step (first | (go_at_call 124; exact Calls.cls_same (HCP.out _ ((Below.newH2 (w := wr) _ _).trans ((Cls.h _).mono (by simp; omega)))))))
   refine wpQuiet_nil ?_
   rintro w' ⟨⟨w', hb'⟩, rfl⟩
   have hb3 : Below w.heap.size w w' := hbel.trans (((Below.newH2 (w := wr) _ _).trans (hb'.mono (by simp; omega))).mono hbel.size)
   go_wp2
   go_ret
   exact ⟨by rw [HF.out]; rfl, hb3⟩
  ·have HF : Hid ((List.range (j + 1 + 1)).all (enAt es) = true) := range_all_next _ _ HA.out (by rw [HAT2.out]; simp [hge])
   have hge2 : decide ((0 : Int) ≤ cb) = false := by simpa using hge
   go_wp2_with fail
   refine Calls.mono (HNM.out _ (Below.newH _)) ?_
   rintro e w2 ⟨rfl, rfl⟩
   go_wp2_with fail
   refine Calls.mono (HHO.out _) ?_
   rintro e w2 ⟨rfl, rfl⟩
   go_wp2
   haveI : Nonempty (Cls ((wr.alloc (.cells #[.slice xa xn xc, .i s, .i ino, .bool d] 81)).alloc (.cells #[.i s, .i ino, .bool d] 27))) := Cls.ne _
   have hblw : b < ((wr.alloc (.cells #[.slice xa xn xc, .i s, .i ino, .bool d] 81)).alloc (.cells #[.i s, .i ino, .bool d] 27)).heap.size := by simp; omega
   have kd0 := Cls.cell hblw (((Below.newH2 (w := wr) (.cells #[.slice xa xn xc, .i s, .i ino, .bool d] 81) (.cells #[.i s, .i ino, .bool d] 27)).cell (p := ⟨b, off + j * 4, none⟩) hbl9).trans d0)
   have ke0 := Cls.cell ((VarA.new wr 81 #[.slice xa xn xc, .i s, .i ino, .bool d]).alloc (.cells #[.i s, .i ino, .bool d] 27)).lt ((VarA.new wr 81 #[.slice xa xn xc, .i s, .i ino, .bool d]).alloc (.cells #[.i s, .i ino, .bool d] 27)).l4.1
   refine wp_region_cls (by kernel_rfl) (by kernel_rfl) ?_
   repeat (go_big_quiet_step (first | (go_at_call 124; exact Calls.cls_same (HCP.out _ ((Below.newH2 (w := wr) _ _).trans ((Cls.h _).mono (by simp; omega)))))))
   refine wpQuiet_nil ?_
   rintro w' ⟨⟨w', hb'⟩, rfl⟩
   have hb3 : Below w.heap.size w w' := hbel.trans (((Below.newH2 (w := wr) _ _).trans (hb'.mono (by simp; omega))).mono hbel.size)
   go_wp2
   go_roundw
   case rel => exact ⟨j + 1 + 1, by omega, by go_num, hb3, HF.out⟩
   case measure => simp [intOf]; omega
end
section
theorem Below.cellOf {w W : World} (hb : Below w.heap.size w W) {b o : Nat} {v : Value} (h : w.cell? ⟨b, o, none⟩ = some v) (hl : b < w.heap.size) : W.cell? ⟨b, o, none⟩ = some v := (World.cell?_of_block (hb.block b hl)).trans h
set_option maxHeartbeats 4000000 in
theorem sameTr_any (x y : Value) (l : List Nd) (S S2 : Nat → Prop) (w : World) (r : RdV w S x (ndsDt l)) (r2 : RdV w S2 y (ndsDt l)) (hl : l.length ≤ 1048576) (hE : ∀ i : Nat, i < l.length → (l[i]?.getD nd0).es.length ≤ 1048576) :
  Calls Tryz.prog 12 #[.agg #[x], .agg #[y]] w fun e w' => e = .returned (.bool true) ∧ Below w.heap.size w w' := by
 obtain ⟨a, cap, rfl, _⟩ := RdV.sliced r
 obtain ⟨a2, cap2, rfl, _⟩ := RdV.sliced r2
 have HR : Hid (∀ W, Below w.heap.size w W → RdV W S (.slice a l.length cap) (.rows 75 9 l.length (fun i j => ndCell (l[i]?.getD nd0) j))) := RdV.old r
 have HR2 : Hid (∀ W, Below w.heap.size w W → RdV W S2 (.slice a2 l.length cap2) (.rows 75 9 l.length (fun i j => ndCell (l[i]?.getD nd0) j))) := RdV.old r2
 have HE : Hid (∀ i : Nat, i < l.length → (l[i]?.getD nd0).es.length ≤ 1048576) := hE
 clear r r2 hE
 obtain ⟨m, hm⟩ : ∃ m, l.length = m := ⟨_, rfl⟩
 rw [hm] at hl HR HR2 HE ⊢
 clear hm
 go_enter Tryz.func12, Tryz.ntmps12
 go_wp2_with fail
 obtain ⟨w0, hw0⟩ : ∃ W, W = (w.alloc (.cells #[.slice a m cap] 25)).alloc (.cells #[.slice a2 m cap2] 25) := ⟨_, rfl⟩
 have B0 : Below w.heap.size w w0 := by rw [hw0]; exact Below.newH2 _ _
 have VA0 : VarA w0 w.heap.size 25 #[.slice a m cap] := by rw [hw0]; exact (VarA.new w _ _).alloc _
 have VB0 : VarA w0 (w.heap.size + 1) 25 #[.slice a2 m cap2] := by rw [hw0]; have := VarA.new (w.alloc (.cells #[.slice a m cap] 25)) 25 #[.slice a2 m cap2]; simpa using this
 rw [← hw0]
 clear hw0
 have HA0 : Hid _ := VA0
 have HB0 : Hid _ := VB0
 have ta := VA0.l1
 have tb := VB0.l1
 clear VA0 VB0
 go_wp2
 clear ta tb
 go_loopw [5] (fun i wr => ∃ k : Nat, k ≤ m ∧ i = .i k ∧ Below w0.heap.size w0 wr) (fun i _ => m - (intOf i).toNat)
 case atStart => exact ⟨0, Nat.zero_le _, rfl, Below.refl _ _⟩
 case round =>
  obtain ⟨k, hk, rfl, hb0⟩ := hrel
  have hbel : Below w.heap.size w wr := B0.trans (hb0.mono B0.size)
  have VA : Hid (VarA wr w.heap.size 25 #[.slice a m cap]) := VarA.step HA0.out hb0
  have VB : Hid (VarA wr (w.heap.size + 1) 25 #[.slice a2 m cap2]) := VarA.step HB0.out hb0
  have ta := VA.out.l1
  have tb := VB.out.l1
  by_cases hlt : k < m
  ·obtain ⟨b, off, rfl, hbl, _, hx⟩ := RdV.at (HR.out wr hbel) hlt
   obtain ⟨b2, off2, rfl, hbl2, _, hx2⟩ := RdV.at (HR2.out wr hbel) hlt
   have hEk := HE.out k hlt
   obtain ⟨x0, q0, r0⟩ := hx 0 (by omega)
   obtain ⟨x1, q1, r1⟩ := hx 1 (by omega)
   obtain ⟨x2, q2, r2⟩ := hx 2 (by omega)
   obtain ⟨x3, q3, r3⟩ := hx 3 (by omega)
   obtain ⟨x4, q4, r4⟩ := hx 4 (by omega)
   obtain ⟨x5, q5, r5⟩ := hx 5 (by omega)
   obtain ⟨x6, q6, r6⟩ := hx 6 (by omega)
   obtain ⟨x7, q7, r7⟩ := hx 7 (by omega)
   obtain ⟨x8, q8, r8⟩ := hx 8 (by omega)
   obtain ⟨y0, p0, s0⟩ := hx2 0 (by omega)
   obtain ⟨y1, p1, s1⟩ := hx2 1 (by omega)
   obtain ⟨y2, p2, s2⟩ := hx2 2 (by omega)
   obtain ⟨y3, p3, s3⟩ := hx2 3 (by omega)
   obtain ⟨y4, p4, s4⟩ := hx2 4 (by omega)
   obtain ⟨y5, p5, s5⟩ := hx2 5 (by omega)
   obtain ⟨y6, p6, s6⟩ := hx2 6 (by omega)
   obtain ⟨y7, p7, s7⟩ := hx2 7 (by omega)
   obtain ⟨y8, p8, s8⟩ := hx2 8 (by omega)
   obtain ⟨e, he⟩ : ∃ e, l[k]?.getD nd0 = e := ⟨_, rfl⟩
   rw [he] at hEk r0 r1 r2 r3 r4 r5 r6 r7 r8 s0 s1 s2 s3 s4 s5 s6 s7 s8
   clear hx hx2 he
   obtain ⟨⟨h0, h1, h2⟩, ⟨g0, g1, g2⟩, lk, vl, es⟩ := e
   simp only [Nat.add_zero] at q0 p0
   obtain rfl : x0 = .i h0 := r0
   obtain rfl : x1 = .i h1 := r1
   obtain rfl : x2 = .bool h2 := r2
   obtain rfl : x3 = .i g0 := r3
   obtain rfl : x4 = .i g1 := r4
   obtain rfl : x5 = .bool g2 := r5
   obtain rfl : x6 = .i lk := r6
   obtain rfl : x7 = .i vl := r7
   obtain rfl : y0 = .i h0 := s0
   obtain rfl : y1 = .i h1 := s1
   obtain rfl : y2 = .bool h2 := s2
   obtain rfl : y3 = .i g0 := s3
   obtain rfl : y4 = .i g1 := s4
   obtain rfl : y5 = .bool g2 := s5
   obtain rfl : y6 = .i lk := s6
   obtain rfl : y7 = .i vl := s7
   have RX0 : RdV wr S x8 (ensDt es) := r8
   have RY0 : RdV wr S2 y8 (ensDt es) := s8
   obtain ⟨xa, xc, hxe, _⟩ := RdV.sliced RX0
   obtain ⟨ya, yc, hye, _⟩ := RdV.sliced RY0
   subst hxe
   subst hye
   have RX := RX0
   have RY := RY0
   clear RX0 RY0 r8 s8
   dsimp only at hEk
   have hne : ∀ W (t0 t1 : Int) (t2 : Bool), (binOp .neq 27 (.agg #[.i t0, .i t1, .bool t2]) (.agg #[.i t0, .i t1, .bool t2])).run Tryz.prog W = .ok (.bool false) W := fun W t0 t1 t2 => by rw [neH_run]; simp
   have hki : (0 : Int) ≤ (k : Int) := by omega
   have hkm : (k : Int) < (m : Int) := by omega
   have zA := VA.out.lt
   have zB := VB.out.lt
   have HSE : Hid (∀ W, Below wr.heap.size wr W → Calls Tryz.prog 58 #[.slice xa es.length xc, .slice ya es.length yc] W fun e w' => e = .returned (.bool true) ∧ Below W.heap.size W w') := fun W hW => sameEns_any _ _ es S S2 W (RdV.step RX hW) (RdV.step RY hW) hEk
   have HQ : Hid (wr.cell? ⟨b, off + k * 9, none⟩ = some (.i h0) ∧ wr.cell? ⟨b, off + k * 9 + 1, none⟩ = some (.i h1) ∧ wr.cell? ⟨b, off + k * 9 + 2, none⟩ = some (.bool h2) ∧ wr.cell? ⟨b, off + k * 9 + 3, none⟩ = some (.i g0) ∧ wr.cell? ⟨b, off + k * 9 + 4, none⟩ = some (.i g1) ∧ wr.cell? ⟨b, off + k * 9 + 5, none⟩ = some (.bool g2) ∧ wr.cell? ⟨b, off + k * 9 + 6, none⟩ = some (.i lk) ∧ wr.cell? ⟨b, off + k * 9 + 7, none⟩ = some (.i vl) ∧ wr.cell? ⟨b, off + k * 9 + 8, none⟩ = some (.slice xa es.length xc) ∧ wr.cell? ⟨b2, off2 + k * 9, none⟩ = some (.i h0) ∧ wr.cell? ⟨b2, off2 + k * 9 + 1, none⟩ = some (.i h1) ∧ wr.cell? ⟨b2, off2 + k * 9 + 2, none⟩ = some (.bool h2) ∧ wr.cell? ⟨b2, off2 + k * 9 + 3, none⟩ = some (.i g0) ∧ wr.cell? ⟨b2, off2 + k * 9 + 4, none⟩ = some (.i g1) ∧ wr.cell? ⟨b2, off2 + k * 9 + 5, none⟩ = some (.bool g2) ∧ wr.cell? ⟨b2, off2 + k * 9 + 6, none⟩ = some (.i lk) ∧ wr.cell? ⟨b2, off2 + k * 9 + 7, none⟩ = some (.i vl) ∧ wr.cell? ⟨b2, off2 + k * 9 + 8, none⟩ = some (.slice ya es.length yc)) := ⟨q0, q1, q2, q3, q4, q5, q6, q7, q8, p0, p1, p2, p3, p4, p5, p6, p7, p8⟩
   clear RX RY q0 q1 q2 q3 q4 q5 q6 q7 q8 p0 p1 p2 p3 p4 p5 p6 p7 p8
   go_wp2
   refine wp_region_noPanic ?_
   refine wp_region_held_drew (S := fun W => Below wr.heap.size wr W) (by kernel_rfl) (Below.drew (Below.refl wr.heap.size wr)) (fun hHeld => ?_)
   apply tkh 0 _ rfl (by kernel_rfl) rfl (by assumption)
   ·(intro _ h; (try dsimp only at h); go_simp; try with_reducible rfl)
   try simp only [qz]
   apply tkh 1 _ rfl (by kernel_rfl) rfl (by assumption)
   ·(intro w_ hSw_; (try dsimp only at hSw_); have c_ := Below.cellOf hSw_ ta zA; go_simp; try with_reducible rfl)
   try simp only [qz]
   apply tkh 2 _ rfl (by kernel_rfl) rfl (by assumption)
   ·(intro _ h; (try dsimp only at h); go_simp; try with_reducible rfl)
   try simp only [qz]
   apply tkh 3 _ rfl (by kernel_rfl) rfl (by assumption)
   ·(intro _ h; (try dsimp only at h); go_simp; try with_reducible rfl)
   try simp only [qz]
   refine wpAnyH_take (i := 4) (v := .agg #[.i h0, .i h1, .bool h2, .i g0, .i g1, .bool g2, .i lk, .i vl, .slice xa es.length xc]) rfl (by kernel_rfl) (by kernel_rfl) (by kernel_rfl) (fun _ _ _ h => h) (Or.inl ⟨by rfl, ?_⟩) (by assumption) ?_
   ·(intro w_ hSw_; (try dsimp only at hSw_); obtain ⟨q0, q1, q2, q3, q4, q5, q6, q7, q8, p0, p1, p2, p3, p4, p5, p6, p7, p8⟩ := HQ.out; have c0_ := Below.cellOf hSw_ q0 hbl; have c1_ := Below.cellOf hSw_ q1 hbl; have c2_ := Below.cellOf hSw_ q2 hbl; have c3_ := Below.cellOf hSw_ q3 hbl; have c4_ := Below.cellOf hSw_ q4 hbl; have c5_ := Below.cellOf hSw_ q5 hbl; have c6_ := Below.cellOf hSw_ q6 hbl; have c7_ := Below.cellOf hSw_ q7 hbl; have c8_ := Below.cellOf hSw_ q8 hbl; clear HQ; go_simp; try with_reducible rfl)
   try simp only [qz]
   apply tkh 5 _ rfl (by kernel_rfl) rfl (by assumption)
   ·(intro _ h; (try dsimp only at h); go_simp; try with_reducible rfl)
   try simp only [qz]
   apply tkh 6 _ rfl (by kernel_rfl) rfl (by assumption)
   ·(intro w_ hSw_; (try dsimp only at hSw_); have c_ := Below.cellOf hSw_ tb zB; go_simp; try with_reducible rfl)
   try simp only [qz]
   apply tkh 7 _ rfl (by kernel_rfl) rfl (by assumption)
   ·(intro _ h; (try dsimp only at h); go_simp; try with_reducible rfl)
   try simp only [qz]
   apply tkh 8 _ rfl (by kernel_rfl) rfl (by assumption)
   ·(intro _ h; (try dsimp only at h); go_simp; try with_reducible rfl)
   try simp only [qz]
   refine wpAnyH_take (i := 9) (v := .agg #[.i h0, .i h1, .bool h2, .i g0, .i g1, .bool g2, .i lk, .i vl, .slice ya es.length yc]) rfl (by kernel_rfl) (by kernel_rfl) (by kernel_rfl) (fun _ _ _ h => h) (Or.inl ⟨by rfl, ?_⟩) (by assumption) ?_
   ·(intro w_ hSw_; (try dsimp only at hSw_); obtain ⟨q0, q1, q2, q3, q4, q5, q6, q7, q8, p0, p1, p2, p3, p4, p5, p6, p7, p8⟩ := HQ.out; have c0_ := Below.cellOf hSw_ p0 hbl2; have c1_ := Below.cellOf hSw_ p1 hbl2; have c2_ := Below.cellOf hSw_ p2 hbl2; have c3_ := Below.cellOf hSw_ p3 hbl2; have c4_ := Below.cellOf hSw_ p4 hbl2; have c5_ := Below.cellOf hSw_ p5 hbl2; have c6_ := Below.cellOf hSw_ p6 hbl2; have c7_ := Below.cellOf hSw_ p7 hbl2; have c8_ := Below.cellOf hSw_ p8 hbl2; clear HQ; go_simp; try with_reducible rfl)
   try simp only [qz]
   refine wpAnyH_ready (rs := [10, 11]) (by kernel_rfl) (by simp) ?_
   refine AllReadyH.cons rfl (fun K hK => ?_) ?_
   ·go_simp
    obtain ⟨w10, hw10⟩ : ∃ W, W = (wr.alloc (.cells #[.i 0, .i 0, .bool false, .i 0, .i 0, .bool false, .i 0, .i 0, .n0] 75)).drew := ⟨_, rfl⟩
    have B10 : Below wr.heap.size wr w10 := by rw [hw10]; exact Below.drew ((Below.refl _ _).alloc (Nat.le_refl _) _)
    have V10 : Hid (VarA w10 wr.heap.size 75 #[.i 0, .i 0, .bool false, .i 0, .i 0, .bool false, .i 0, .i 0, .n0]) := by show VarA _ _ _ _; rw [hw10]; exact VarA.new wr _ _
    rw [← hw10]
    clear hw10
    refine hK.out _ _ B10 (fun hHeld => ?_)
    clear hK K
    try simp only [qz]
    refine doH 11 (by kernel_rfl) rfl fun K hK => ?_
    go_simp
    obtain ⟨w11, hw11⟩ : ∃ W, W = w10.alloc (.cells #[.i 0, .i 0, .bool false, .i 0, .i 0, .bool false, .i 0, .i 0, .n0] 75) := ⟨_, rfl⟩
    have B11 : Below wr.heap.size wr w11 := by rw [hw11]; exact B10.alloc B10.size _
    have V11 : Hid (VarA w11 w10.heap.size 75 #[.i 0, .i 0, .bool false, .i 0, .i 0, .bool false, .i 0, .i 0, .n0]) := by show VarA _ _ _ _; rw [hw11]; exact VarA.new w10 _ _
    have U11 : Hid (VarA w11 wr.heap.size 75 #[.i 0, .i 0, .bool false, .i 0, .i 0, .bool false, .i 0, .i 0, .n0]) := by show VarA _ _ _ _; rw [hw11]; exact VarA.alloc V10.out _
    have Z11 : Hid (wr.heap.size < w10.heap.size) := V10.out.lt
    rw [← hw11]
    clear hw11
    refine hK.out _ _ B11 (fun hHeld => ?_)
    clear hK K
    try simp only [qz]
    refine doH 12 (by kernel_rfl) rfl fun K hK => ?_
    refine step_stF2 U11.out (by rfl) (by rfl) (by kernel_rfl) rfl (of_decide_eq_true rfl) rfl ?_
    intro w12 vX t12
    have vX : VarA w12 wr.heap.size 75 #[.i h0, .i h1, .bool h2, .i g0, .i g1, .bool g2, .i lk, .i vl, .slice xa es.length xc] := vX
    have B12 : Below wr.heap.size wr w12 := Turned.below B11 t12 B11.size (fun i hi => by have h_ : i = wr.heap.size := hi; have := Z11.out; omega)
    refine hK.out _ _ B12 (fun hHeld => ?_)
    clear hK K
    try simp only [qz]
    refine doH 13 (by kernel_rfl) rfl fun K hK => ?_
    refine step_stF2 (V11.out.turn t12 (by show w10.heap.size ≠ wr.heap.size; have := Z11.out; omega)) (by rfl) (by rfl) (by kernel_rfl) rfl (of_decide_eq_true rfl) rfl ?_
    intro w13 vY t13
    have vY : VarA w13 w10.heap.size 75 #[.i h0, .i h1, .bool h2, .i g0, .i g1, .bool g2, .i lk, .i vl, .slice ya es.length yc] := vY
    have B13 : Below wr.heap.size wr w13 := Turned.below B12 t13 B12.size (fun i hi => by have h_ : i = w10.heap.size := hi; have := Z11.out; omega)
    refine hK.out _ _ B13 (fun hHeld => ?_)
    clear hK K
    try simp only [qz]
    refine wpAnyH_done (by kernel_rfl) (NoPanic.normal ?_) _
    clear hHeld
    have vX2 := vX.turn t13 (by show wr.heap.size ≠ w10.heap.size; have := Z11.out; omega)
    clear ta tb
    obtain ⟨a0, a1, a2, a3, a4, a5, a6, a7, a8⟩ := vX2.l9
    obtain ⟨b0, b1, b2, b3, b4, b5, b6, b7, b8⟩ := vY.l9
    clear vX vX2 vY t12 t13
    go_wp2_with fail
    refine Calls.mono (HSE.out _ B13) ?_
    rintro e14 w14 ⟨rfl, b14⟩
    have hB : Below w0.heap.size w0 w14 := hb0.trans ((B13.trans (b14.mono B13.size)).mono hb0.size)
    clear a0 a1 a2 a3 a4 a5 a6 a7 a8 b0 b1 b2 b3 b4 b5 b6 b7 b8
    go_wp2
    go_roundw
    case rel => exact ⟨k + 1, by omega, by go_num, hB⟩
    case measure => simp [intOf]; omega
   refine AllReadyH.cons rfl (fun K hK => ?_) AllReadyH.nil
   go_simp
   obtain ⟨w11, hw11⟩ : ∃ W, W = (wr.alloc (.cells #[.i 0, .i 0, .bool false, .i 0, .i 0, .bool false, .i 0, .i 0, .n0] 75)).drew := ⟨_, rfl⟩
   have B11 : Below wr.heap.size wr w11 := by rw [hw11]; exact Below.drew ((Below.refl _ _).alloc (Nat.le_refl _) _)
   have V11 : Hid (VarA w11 wr.heap.size 75 #[.i 0, .i 0, .bool false, .i 0, .i 0, .bool false, .i 0, .i 0, .n0]) := by show VarA _ _ _ _; rw [hw11]; exact VarA.new wr _ _
   rw [← hw11]
   clear hw11
   refine hK.out _ _ B11 (fun hHeld => ?_)
   clear hK K
   try simp only [qz]
   refine doH 10 (by kernel_rfl) rfl fun K hK => ?_
   go_simp
   obtain ⟨w10, hw10⟩ : ∃ W, W = w11.alloc (.cells #[.i 0, .i 0, .bool false, .i 0, .i 0, .bool false, .i 0, .i 0, .n0] 75) := ⟨_, rfl⟩
   have B10 : Below wr.heap.size wr w10 := by rw [hw10]; exact B11.alloc B11.size _
   have V10 : Hid (VarA w10 w11.heap.size 75 #[.i 0, .i 0, .bool false, .i 0, .i 0, .bool false, .i 0, .i 0, .n0]) := by show VarA _ _ _ _; rw [hw10]; exact VarA.new w11 _ _
   have U10 : Hid (VarA w10 wr.heap.size 75 #[.i 0, .i 0, .bool false, .i 0, .i 0, .bool false, .i 0, .i 0, .n0]) := by show VarA _ _ _ _; rw [hw10]; exact VarA.alloc V11.out _
   have Z10 : Hid (wr.heap.size < w11.heap.size) := V11.out.lt
   rw [← hw10]
   clear hw10
   refine hK.out _ _ B10 (fun hHeld => ?_)
   clear hK K
   try simp only [qz]
   refine doH 12 (by kernel_rfl) rfl fun K hK => ?_
   refine step_stF2 V10.out (by rfl) (by rfl) (by kernel_rfl) rfl (of_decide_eq_true rfl) rfl ?_
   intro w12 vX t12
   have vX : VarA w12 w11.heap.size 75 #[.i h0, .i h1, .bool h2, .i g0, .i g1, .bool g2, .i lk, .i vl, .slice xa es.length xc] := vX
   have B12 : Below wr.heap.size wr w12 := Turned.below B10 t12 B10.size (fun i hi => by have h_ : i = w11.heap.size := hi; have := Z10.out; omega)
   refine hK.out _ _ B12 (fun hHeld => ?_)
   clear hK K
   try simp only [qz]
   refine doH 13 (by kernel_rfl) rfl fun K hK => ?_
   refine step_stF2 (U10.out.turn t12 (by show wr.heap.size ≠ w11.heap.size; have := Z10.out; omega)) (by rfl) (by rfl) (by kernel_rfl) rfl (of_decide_eq_true rfl) rfl ?_
   intro w13 vY t13
   have vY : VarA w13 wr.heap.size 75 #[.i h0, .i h1, .bool h2, .i g0, .i g1, .bool g2, .i lk, .i vl, .slice ya es.length yc] := vY
   have B13 : Below wr.heap.size wr w13 := Turned.below B12 t13 B12.size (fun i hi => by have h_ : i = wr.heap.size := hi; have := Z10.out; omega)
   refine hK.out _ _ B13 (fun hHeld => ?_)
   clear hK K
   try simp only [qz]
   refine wpAnyH_done (by kernel_rfl) (NoPanic.normal ?_) _
   clear hHeld
   have vX2 := vX.turn t13 (by show w11.heap.size ≠ wr.heap.size; have := Z10.out; omega)
   clear ta tb
   obtain ⟨a0, a1, a2, a3, a4, a5, a6, a7, a8⟩ := vX2.l9
   obtain ⟨b0, b1, b2, b3, b4, b5, b6, b7, b8⟩ := vY.l9
   clear vX vX2 vY t12 t13
   go_wp2_with fail
   refine Calls.mono (HSE.out _ B13) ?_
   rintro e14 w14 ⟨rfl, b14⟩
   have hB : Below w0.heap.size w0 w14 := hb0.trans ((B13.trans (b14.mono B13.size)).mono hb0.size)
   clear a0 a1 a2 a3 a4 a5 a6 a7 a8 b0 b1 b2 b3 b4 b5 b6 b7 b8
   go_wp2
   go_roundw
   case rel => exact ⟨k + 1, by omega, by go_num, hB⟩
   case measure => simp [intOf]; omega
  ·have he : k = m := by omega
   subst he
   go_wp2
   go_ret
   exact ⟨rfl, hbel⟩
end
end Go.Proofs.YtcicadfhfojdpaaGreat
