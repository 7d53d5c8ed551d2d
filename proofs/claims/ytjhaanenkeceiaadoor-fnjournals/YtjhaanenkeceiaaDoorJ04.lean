/- Joined: SpecCopy2. -/
import Derived.Test.YtjhaanenkeceiaaDoorJ03
import Derived.Deep.DrawnRows

section
/- The specification's copy of a disk. Condition: the disk is of at most 2^21 bytes and writes. -/
namespace Go.Proofs.YtjhaanenkeceiaaDoor
open Go.RowKit
set_option linter.unusedVariables false
set_option linter.unusedSimpArgs false
attribute [local go_sem ↓] Go.wp_at_zero Go.wp_at_succ

/-- What holds at the head of each round of the first loop. -/
def LC1 (w : World) (x0 y0 : Value) (d1 : List (List Int)) (n : Nat) (i : Value) (wr : World) : Prop :=
  ∃ (k : Nat) (x : Value), k ≤ n ∧ i = .int .i64 k ∧ VarD wr w.heap.size x0 y0 ∧ VarD wr (w.heap.size + 1) (.slice none 0 0) (.slice none 0 0) ∧ VarD wr (w.heap.size + 1 + 1) x (.slice none 0 0) ∧ GrBB wr (w.heap.size + 3) x (d1.take k) ∧ Below w.heap.size w wr

/-- One more sector was copied. -/
theorem copy_leaf {w wr w4 wa w5 : World} {x : Value} {x0 y0 : Value} {d1 : List (List Int)} {n k g5 c5 : Nat} {u : Value} {zs : List Int} {vs : List Value} (hk : k < n) (hn : n = d1.length) (v0 : VarD wr w.heap.size x0 y0) (vR : VarD wr (w.heap.size + 1) (.slice none 0 0) (.slice none 0 0)) (vO : VarD wr (w.heap.size + 1 + 1) x (.slice none 0 0))
    (hvl : vs.length = (d1.take k).length) (hrow : wr.ownsRow (w.heap.size + 3) 22 1 x (d1.take k).length vs) (he : ∀ i, i < (d1.take k).length → RdB wr (w.heap.size + 3) wr.heap.size (vs[i]?.getD undef) ((d1.take k)[i]?.getD []) ∧ ∀ g, (vs[i]?.getD undef).ownBlock = some g → g < wr.heap.size ∧ x.ownBlock ≠ some g)
    (hbel : Below w.heap.size w wr) (hzs : d1[k]?.getD [] = zs) (hb4 : Below wr.heap.size wr w4) (hu : OwB w4 wr.heap.size w4.heap.size u zs) (hba : Below w4.heap.size w4 wa)
    (ho5 : w5.ownsRow (w.heap.size + 3) 22 1 (.slice (some ⟨g5, 0, none⟩) (k + 1) c5) (k + 1) (vs ++ [u])) (hg5 : wa.grownBy w5 x.ownBlock) (ha5 : x.ownBlock = some g5 ∨ g5 = wa.heap.size) :
    LC1 w x0 y0 d1 n (.int .i64 ((k : Int) + 1)) (w5.setCell ⟨w.heap.size + 1 + 1, 0, none⟩ (.slice (some ⟨g5, 0, none⟩) (k + 1) c5)) := by
  have hl : (d1.take k).length = k := by rw [List.length_take]; omega
  have s4 := hb4.size
  have sa := hba.size
  have sO := vO.lt
  have hb : Below wr.heap.size wr wa := hb4.trans (hba.mono s4)
  have hG := GrBB.next (w := wr) (wa := wa) (w' := w5) (l := w.heap.size + 3) hvl hrow he hb (by rw [hl]; exact ho5) hg5 ha5 (((hu.same (SameIn.ofBelow hba (Nat.le_refl _))).rd).wide (by omega) sa) (fun q hq => by have := (hu.2.1.lt q hq).1; have := hu.2.2 q hq; omega)
  rw [hl, ← hzs, ← take_next d1 k (by omega)] at hG
  have far : ∀ b, b < w.heap.size + 3 → b < wr.heap.size → w5.heap[b]? = wr.heap[b]? := fun b hb3 hbw => (hg5.block b (by omega) (fun e => by have := (hrow.lt b e.symm).1; omega)).trans (hb.block b hbw)
  have s5 := hg5.size
  refine ⟨k + 1, .slice (some ⟨g5, 0, none⟩) (k + 1) c5, by omega, by go_num, ?_, ?_, ?_, hG.same (SameIn.set (.inl (by show w.heap.size + 1 + 1 < _; omega))), ?_⟩
  · exact (heap_setCell_other _ _ _ _ (by show w.heap.size ≠ w.heap.size + 1 + 1; omega)).trans ((far _ (by omega) v0.lt).trans v0)
  · exact (heap_setCell_other _ _ _ _ (by show w.heap.size + 1 ≠ w.heap.size + 1 + 1; omega)).trans ((far _ (by omega) vR.lt).trans vR)
  · show _ = _
    rw [heap_setCell_same _ _ _ _ _ _ ((far _ (by omega) vO.lt).trans vO)]; rfl
  · exact Below.setCell (hbel.trans ⟨hg5.os.trans hb.os, hg5.tape.trans hb.tape, hg5.output.trans hb.output, Nat.le_trans hb.size hg5.size, fun q hq => far q (by omega) (by have := hbel.size; omega)⟩) (by show w.heap.size ≤ w.heap.size + 1 + 1; omega) _

/-- A list of bytes of the call's own in blocks l .. h-1, no element in the list's own block. -/
def KpBB (w : World) (l h : Nat) (v : Value) (zss : List (List Int)) : Prop :=
  ∃ vs : List Value, vs.length = zss.length ∧ w.ownsRow l 22 1 v zss.length vs ∧ Before v h ∧ ∀ i, i < zss.length → RdB w l h (vs[i]?.getD undef) (zss[i]?.getD []) ∧ ∀ g, (vs[i]?.getD undef).ownBlock = some g → g < h ∧ v.ownBlock ≠ some g
theorem GrBB.kp {w : World} {l : Nat} {v : Value} {zss : List (List Int)} (o : GrBB w l v zss) : KpBB w l w.heap.size v zss := by
  obtain ⟨vs, hl, ho, he⟩ := o
  exact ⟨vs, hl, ho, fun k hk => (ho.lt k hk).2, he⟩
theorem KpBB.same {w w' : World} {l h : Nat} {v : Value} {zss : List (List Int)} (o : KpBB w l h v zss) (t : SameIn l h w w') : KpBB w' l h v zss := by
  obtain ⟨vs, hl, ho, hb, he⟩ := o
  exact ⟨vs, hl, ownsRow_same ho hb t, hb, fun i hi => ⟨(he i hi).1.same t, (he i hi).2⟩⟩
theorem KpBB.wide {w : World} {l h l' : Nat} {v : Value} {zss : List (List Int)} (o : KpBB w l h v zss) (h1 : l' ≤ l) : KpBB w l' h v zss := by
  obtain ⟨vs, hl, ho, hb, he⟩ := o
  refine ⟨vs, hl, ⟨ho.1, ?_⟩, hb, fun i hi => ⟨(he i hi).1.wide h1 (Nat.le_refl _), (he i hi).2⟩⟩
  rcases ho.2 with h0 | ⟨g, c, cur, hv, hg, r⟩
  · exact .inl h0
  · exact .inr ⟨g, c, cur, hv, by omega, r⟩
theorem KpBB.sliced {w : World} {l h : Nat} {v : Value} {zss : List (List Int)} (o : KpBB w l h v zss) : ∃ a c, v = .slice a zss.length c := by
  obtain ⟨vs, hl, ho, _⟩ := o
  rcases ho.2 with ⟨h0, hz⟩ | ⟨g, c, cur, h0, _⟩
  · exact ⟨none, 0, by rw [h0, hz]⟩
  · exact ⟨_, _, h0⟩
theorem KpBB.rd {w : World} {l h : Nat} {v : Value} {zss : List (List Int)} (o : KpBB w l h v zss) : RdBB w l h v zss := by
  obtain ⟨vs, hl, ho, hb, he⟩ := o
  rcases ho.2 with ⟨hv, h0⟩ | ⟨g, c, cur, hv, hg, hh, hnc, hm, _⟩
  · subst hv
    exact ⟨none, 0, 0, fun i => vs[i]?.getD undef, rfl, by omega, ⟨Nat.le_refl _, Nat.zero_le _, fun _ => ⟨rfl, rfl⟩⟩, .inl rfl, fun i hi => absurd hi (Nat.not_lt_zero _)⟩
  · subst hv
    refine ⟨_, zss.length, c, fun i => vs[i]?.getD undef, rfl, rfl, ⟨hnc, hm, fun e => by cases e⟩, .inr ⟨g, 0, rfl, hg, hb g rfl, fun i hi => ?_⟩, fun i hi => (he i hi).1⟩
    rw [Nat.zero_add, World.ownsRow.cellAt ho i (by omega), List.getElem?_eq_getElem (by omega)]
    simp [hl, hi]

/-- A list of writes of the call's own that may grow: no data in the list's own block. -/
def GrWs (w : World) (l : Nat) (v : Value) (ws : List Wt) : Prop :=
  ∃ (xs C : List Value), xs.length = ws.length ∧ w.ownsRow l 75 2 v ws.length C ∧ (∀ i, i < ws.length → C[i * 2]? = some (.int .i64 (ws[i]?.getD (0, [])).1) ∧ C[i * 2 + 1]? = some (xs[i]?.getD undef)) ∧
    ∀ i, i < ws.length → RdB w l w.heap.size (xs[i]?.getD undef) (ws[i]?.getD (0, [])).2 ∧ ∀ g, (xs[i]?.getD undef).ownBlock = some g → (l ≤ g ∧ g < w.heap.size) ∧ v.ownBlock ≠ some g
theorem GrWs_nil (w : World) (l : Nat) : GrWs w l (.slice none 0 0) [] := ⟨[], [], rfl, World.ownsRow_nil _ _ _ _, fun i hi => absurd hi (Nat.not_lt_zero _), fun i hi => absurd hi (Nat.not_lt_zero _)⟩
theorem GrWs.same {w w' : World} {l : Nat} {v : Value} {ws : List Wt} (o : GrWs w l v ws) (t : SameIn l w.heap.size w w') : GrWs w' l v ws := by
  obtain ⟨xs, C, hl, ho, hC, he⟩ := o
  exact ⟨xs, C, hl, ownsRow_same ho (fun k hk => (ho.lt k hk).2) t, hC, fun i hi => ⟨((he i hi).1.same t).wide (Nat.le_refl _) t.1, fun g hg => ⟨⟨((he i hi).2 g hg).1.1, Nat.lt_of_lt_of_le ((he i hi).2 g hg).1.2 t.1⟩, ((he i hi).2 g hg).2⟩⟩⟩
theorem GrWs.rd {w : World} {l : Nat} {v : Value} {ws : List Wt} (o : GrWs w l v ws) : RdWs w l w.heap.size v ws := by
  obtain ⟨xs, C, hl, ho, hC, he⟩ := o
  have hb := ho.lt
  have hCl : C.length = ws.length * 2 := ho.1
  rcases ho.2 with ⟨hv, h0⟩ | ⟨g, c, cur, hv, hg, hh, hnc, hm, _⟩
  · subst hv
    exact ⟨none, 0, 0, fun i => xs[i]?.getD undef, rfl, by omega, ⟨Nat.le_refl _, Nat.zero_le _, fun _ => ⟨rfl, rfl⟩⟩, .inl rfl, fun i hi => absurd hi (Nat.not_lt_zero _)⟩
  · subst hv
    refine ⟨_, ws.length, c, fun i => xs[i]?.getD undef, rfl, rfl, ⟨hnc, hm, fun e => by cases e⟩, .inr ⟨g, 0, rfl, hg, (hb g rfl).2, fun i hi => ?_⟩, fun i hi => (he i hi).1⟩
    rw [Nat.zero_add, World.ownsRow.cellAt ho (i * 2) (by omega), World.ownsRow.cellAt ho (i * 2 + 1) (by omega)]
    exact hC i hi
/-- One more was appended. -/
theorem GrWs.next {w wa w' : World} {l g cap : Nat} {v u : Value} {p : Int} {ws : List Wt} {zs : List Int} {xs C : List Value} (hxl : xs.length = ws.length) (hrow : w.ownsRow l 75 2 v ws.length C)
    (hC : ∀ i, i < ws.length → C[i * 2]? = some (.int .i64 (ws[i]?.getD (0, [])).1) ∧ C[i * 2 + 1]? = some (xs[i]?.getD undef))
    (he : ∀ i, i < ws.length → RdB w l w.heap.size (xs[i]?.getD undef) (ws[i]?.getD (0, [])).2 ∧ ∀ g, (xs[i]?.getD undef).ownBlock = some g → (l ≤ g ∧ g < w.heap.size) ∧ v.ownBlock ≠ some g) (hb : Below w.heap.size w wa)
    (hr' : w'.ownsRow l 75 2 (.slice (some ⟨g, 0, none⟩) (ws.length + 1) cap) (ws.length + 1) (C ++ [.int .i64 p, u])) (hgr : wa.grownBy w' v.ownBlock) (hat : v.ownBlock = some g ∨ g = wa.heap.size)
    (hu : RdB wa l wa.heap.size u zs) (hua : ∀ q, u.ownBlock = some q → w.heap.size ≤ q ∧ q < wa.heap.size) (hlw : l ≤ w.heap.size) : GrWs w' l (.slice (some ⟨g, 0, none⟩) (ws.length + 1) cap) (ws ++ [(p, zs)]) := by
  have hs := hb.size
  have hs' := hgr.size
  have hCl : C.length = ws.length * 2 := hrow.1
  refine ⟨xs ++ [u], C ++ [.int .i64 p, u], by simp [hxl], by simpa using hr', fun i hi => ?_, fun i hi => ?_⟩
  · rw [List.length_append, List.length_singleton] at hi
    rw [getD_snoc, getD_snoc, List.getElem?_append, List.getElem?_append]
    by_cases h1 : i < ws.length
    · rw [if_pos (by omega), if_pos h1, if_pos (by omega), if_pos (by omega)]
      exact hC i h1
    · have e : i = ws.length := by omega
      subst e
      rw [if_neg (by omega), if_neg (by omega), if_pos rfl, if_neg (by omega), if_neg (by omega), if_pos hxl.symm]
      rw [show ws.length * 2 - C.length = 0 by omega, show ws.length * 2 + 1 - C.length = 1 by omega]
      exact ⟨rfl, rfl⟩
  · rw [List.length_append, List.length_singleton] at hi
    rw [getD_snoc, getD_snoc]
    by_cases h1 : i < ws.length
    · rw [if_pos (by omega), if_pos h1]
      obtain ⟨h2, h3⟩ := he i h1
      have hx : RdB w' l w.heap.size (xs[i]?.getD undef) (ws[i]?.getD (0, [])).2 := (h2.same (SameIn.ofBelow hb (Nat.le_refl _))).keep hgr hs (fun q hq => (h3 q hq).2)
      refine ⟨hx.wide (Nat.le_refl _) (by omega), fun q hq => ⟨by have := (h3 q hq).1; omega, fun e => ?_⟩⟩
      have e' : g = q := by have := slice_block e; simpa using this
      subst e'
      rcases hat with hat | hat
      · exact (h3 g hq).2 hat
      · have := (h3 g hq).1
        omega
    · have h4 : i = ws.length := by omega
      subst h4
      rw [if_neg (by omega), if_pos hxl.symm, if_neg (by omega), if_pos rfl]
      refine ⟨(hu.keep hgr (Nat.le_refl _) (fun q hq e => ?_)).wide (Nat.le_refl _) hs', fun q hq => ⟨by have := hua q hq; omega, fun e => ?_⟩⟩
      · have := (hua q hq).1
        have := (hrow.lt q e).2
        omega
      · have h5 := hua q hq
        have e' : g = q := by have := slice_block e; simpa using this
        subst e'
        rcases hat with hat | hat
        · have := (hrow.lt g hat).2; omega
        · omega

/-- What holds at the head of each round of the second loop. -/
def LC2 (w : World) (x0 y0 x : Value) (d : Dk) (m H : Nat) (i : Value) (wr : World) : Prop :=
  ∃ (k : Nat) (y : Value), k ≤ m ∧ i = .int .i64 k ∧ VarD wr w.heap.size x0 y0 ∧ VarD wr (w.heap.size + 1) (.slice none 0 0) (.slice none 0 0) ∧ VarD wr (w.heap.size + 1 + 1) x y ∧ KpBB wr (w.heap.size + 3) H x d.1 ∧ GrWs wr H y (d.2.take k) ∧ H ≤ wr.heap.size ∧ Below w.heap.size w wr

theorem copy_leaf2 {w wr w4 wa w5 : World} {x y : Value} {x0 y0 : Value} {d : Dk} {m k H g5 c5 : Nat} {u : Value} {p : Int} {zs : List Int} {xs C : List Value} (hk : k < m) (hm : m = d.2.length) (v0 : VarD wr w.heap.size x0 y0) (vR : VarD wr (w.heap.size + 1) (.slice none 0 0) (.slice none 0 0)) (vO : VarD wr (w.heap.size + 1 + 1) x y)
    (hK : KpBB wr (w.heap.size + 3) H x d.1) (hH : H ≤ wr.heap.size) (hH3 : w.heap.size + 3 ≤ H)
    (hxl : xs.length = (d.2.take k).length) (hrow : wr.ownsRow H 75 2 y (d.2.take k).length C) (hC : ∀ i, i < (d.2.take k).length → C[i * 2]? = some (.int .i64 ((d.2.take k)[i]?.getD (0, [])).1) ∧ C[i * 2 + 1]? = some (xs[i]?.getD undef))
    (he : ∀ i, i < (d.2.take k).length → RdB wr H wr.heap.size (xs[i]?.getD undef) ((d.2.take k)[i]?.getD (0, [])).2 ∧ ∀ g, (xs[i]?.getD undef).ownBlock = some g → (H ≤ g ∧ g < wr.heap.size) ∧ y.ownBlock ≠ some g)
    (hbel : Below w.heap.size w wr) (hzs : d.2[k]?.getD (0, []) = (p, zs)) (hb4 : Below wr.heap.size wr w4) (hu : OwB w4 wr.heap.size w4.heap.size u zs) (hba : Below w4.heap.size w4 wa)
    (ho5 : w5.ownsRow H 75 2 (.slice (some ⟨g5, 0, none⟩) (k + 1) c5) (k + 1) (C ++ [.int .i64 p, u])) (hg5 : wa.grownBy w5 y.ownBlock) (ha5 : y.ownBlock = some g5 ∨ g5 = wa.heap.size) :
    LC2 w x0 y0 x d m H (.int .i64 ((k : Int) + 1)) (w5.setCell ⟨w.heap.size + 1 + 1, 1, none⟩ (.slice (some ⟨g5, 0, none⟩) (k + 1) c5)) := by
  have hl : (d.2.take k).length = k := by rw [List.length_take]; omega
  have s4 := hb4.size
  have sa := hba.size
  have sO := vO.lt
  have hb : Below wr.heap.size wr wa := hb4.trans (hba.mono s4)
  have hG := GrWs.next (w := wr) (wa := wa) (w' := w5) (l := H) hxl hrow hC he hb (by rw [hl]; exact ho5) hg5 ha5 (((hu.same (SameIn.ofBelow hba (Nat.le_refl _))).rd).wide (by omega) sa) (fun q hq => by have := (hu.2.1.lt q hq).1; have := hu.2.2 q hq; omega) hH
  rw [hl, ← hzs, ← takeW_next d.2 k (by omega)] at hG
  have far : ∀ b, b < H → w5.heap[b]? = wr.heap[b]? := fun b hb3 => (hg5.block b (by omega) (fun e => by have := (hrow.lt b e.symm).1; omega)).trans (hb.block b (by omega))
  have s5 := hg5.size
  refine ⟨k + 1, .slice (some ⟨g5, 0, none⟩) (k + 1) c5, by omega, by go_num, ?_, ?_, ?_, hK.same ⟨by simp; omega, fun q hq1 hq2 => (heap_setCell_other _ _ _ _ (by show q ≠ w.heap.size + 1 + 1; omega)).trans (far q hq2)⟩, hG.same (SameIn.set (.inl (by show w.heap.size + 1 + 1 < _; omega))), by simp; omega, ?_⟩
  · exact (heap_setCell_other _ _ _ _ (by show w.heap.size ≠ w.heap.size + 1 + 1; omega)).trans ((far _ (by omega)).trans v0)
  · exact (heap_setCell_other _ _ _ _ (by show w.heap.size + 1 ≠ w.heap.size + 1 + 1; omega)).trans ((far _ (by omega)).trans vR)
  · show _ = _
    rw [heap_setCell_same _ _ _ _ _ _ ((far _ (by omega)).trans vO)]; rfl
  · exact Below.setCell (hbel.trans ⟨hg5.os.trans hb.os, hg5.tape.trans hb.tape, hg5.output.trans hb.output, Nat.le_trans hb.size hg5.size, fun q hq => far q (by omega)⟩) (by show w.heap.size ≤ w.heap.size + 1 + 1; omega) _

set_option maxHeartbeats 4000000 in
theorem specCopy_any (v : Value) (d : Dk) (l h : Nat) (w : World) (r : RdD w l h v d) (hh : h ≤ w.heap.size) (hs : Small d) :
    Calls Tryd.prog 47 #[v] w fun e w' => ∃ x y H, e = .returned (.agg #[x, y]) ∧ KpBB w' w.heap.size H x d.1 ∧ GrWs w' H y d.2 ∧ (w.heap.size ≤ H ∧ H ≤ w'.heap.size) ∧ Below w.heap.size w w' := by
  obtain ⟨x, y, rfl, r1, r2⟩ := r
  obtain ⟨d1, d2⟩ := d
  obtain ⟨xa, n, xc, vs, rfl, hn, hhd, hc, he⟩ := r1
  obtain ⟨ya, m, yc, us, rfl, hm, hhd', hc', he'⟩ := r2
  replace hn : n = d1.length := hn
  replace hm : m = d2.length := hm
  have hn2 : n ≤ 2097152 := by have h9 : d1.length ≤ 2097152 := hs.1; omega
  have hm2 : m ≤ 2097152 := by have h9 : d2.length ≤ 2097152 := hs.c; omega
  have HN : Hid _ := hn
  have HM : Hid _ := hm
  have HC : Hid _ := hc
  have HC' : Hid _ := hc'
  have HE : Hid _ := he
  have HE' : Hid _ := he'
  have HSA : Hid _ := hs.a
  have HSB : Hid _ := hs.b
  have h3 := heap3 w (.cells #[.slice xa n xc, .slice ya m yc] 26) (.cells #[.slice none 0 0, .slice none 0 0] 26) (.cells #[.slice none 0 0, .slice none 0 0] 26)
  have b3 : Below w.heap.size w (((w.alloc (.cells #[.slice xa n xc, .slice ya m yc] 26)).alloc (.cells #[.slice none 0 0, .slice none 0 0] 26)).alloc (.cells #[.slice none 0 0, .slice none 0 0] 26)) := (((Below.refl _ _).alloc (Nat.le_refl _) _).alloc (by simp) _).alloc (by simp; omega) _
  have HST : Hid (LC1 w (.slice xa n xc) (.slice ya m yc) d1 n (.int .i64 0) (((w.alloc (.cells #[.slice xa n xc, .slice ya m yc] 26)).alloc (.cells #[.slice none 0 0, .slice none 0 0] 26)).alloc (.cells #[.slice none 0 0, .slice none 0 0] 26))) := ⟨0, .slice none 0 0, Nat.zero_le _, rfl, h3.1, h3.2.1, h3.2.2, GrBB_nil _ _, b3⟩
  clear hn hm hc hc' he he' hhd hhd' hs h3 b3
  go_enter Tryd.func47, Tryd.ntmps47
  go_wp2
  go_loopw [4] (fun i wr => LC1 w (.slice xa n xc) (.slice ya m yc) d1 n i wr) (fun i _ => n - (intOf i).toNat)
  case atStart => exact HST.out
  case round =>
    clear HST
    obtain ⟨k, x, hk, rfl, v0, vR, vO, hG, hbel⟩ := hrel
    have c00 := v0.c0
    have sO := vO.lt
    by_cases hlt : k < n
    · obtain ⟨b, off, rfl, hb0, hbh, hcc⟩ := HC.out.resolve_left (by omega)
      have hc1 : wr.cell? ⟨b, off + k, none⟩ = some (vs k) := (hbel.cell (p := ⟨b, off + k, none⟩) (by show b < w.heap.size; omega)).trans (hcc k hlt)
      have hrd := (HE.out k hlt).same (SameIn.mk (Below.size hbel) (fun q _ hq => hbel.block q (by omega)))
      have hbz : (d1[k]?.getD []).length ≤ 2097152 := HSA.out k
      obtain ⟨hzb, va, vn, vc, hv, hvn, hvh, hrr⟩ := hrd.reads
      rw [hv] at hc1
      obtain ⟨zs, hzs⟩ : ∃ zs, d1[k]?.getD [] = zs := ⟨_, rfl⟩
      rw [hzs] at hvn hrr hzb hbz
      obtain ⟨ys, hvl, hrow, hee⟩ := hG
      obtain ⟨xa2, xn2, xc2, rfl⟩ := row_sliced hrow
      have hkl : (d1.take k).length = k := by rw [List.length_take, ← HN.out]; omega
      have hxb : ∀ q, q < w.heap.size + 3 → (Value.slice xa2 xn2 xc2).ownBlock ≠ some q := fun q hq e => by have := (hrow.lt q e).1; omega
      have HROW : Hid _ := And.intro hvl (And.intro hrow hee)
      have HRK : Hid (wr.ownsRow (w.heap.size + 3) 22 1 (.slice xa2 xn2 xc2) k ys) := by rw [← hkl]; exact hrow
      have HXB : Hid _ := hxb
      have HZS : Hid _ := hzs
      have HVN : Hid _ := hvn
      have HVH : Hid _ := hvh.2.2
      have HZB : Hid _ := hzb
      have HRR : Hid (Reads (wr.alloc (.cells #[] 5)).drew va zs) := hrr.below (((Below.refl _ _).alloc (Nat.le_refl _) _).drew)
      have HOE : Hid (Owns (wr.alloc (.cells #[] 5)).drew wr.heap.size (.slice (some ⟨wr.heap.size, 0, none⟩) 0 0) []) := (owns_empty wr).step (Below.drew (Below.refl _ _))
      have HSZ : Hid (wr.heap.size ≤ (wr.alloc (.cells #[] 5)).drew.heap.size) := by show _ ≤ _; simp
      have HBE0 : Hid (Below wr.heap.size wr (wr.alloc (.cells #[] 5)).drew) := ((Below.refl _ _).alloc (Nat.le_refl _) _).drew
      have hzl : zs.length ≤ 4194304 := by omega
      have hbw : b < wr.heap.size := by have := hbel.size; omega
      have hw0 : w.heap.size < wr.heap.size := by omega
      have hi0 : (0 : Int) ≤ (k : Int) := by omega
      have hi1 : (k : Int) < (n : Int) := by omega
      have hkn : k ≤ 4194304 := by omega
      have o0 := vO.c0
      have of := vO.f 0
      have n1 : ¬ w.heap.size + 1 + 1 = wr.heap.size := by omega
      have n2 : ¬ w.heap.size = wr.heap.size := by omega
      have n3 : ¬ b = wr.heap.size := by omega
      have HV0 : Hid (VarD wr w.heap.size _ _) := v0
      have HVR : Hid (VarD wr (w.heap.size + 1) _ _) := vR
      have HVO : Hid (VarD wr (w.heap.size + 1 + 1) _ _) := vO
      have HBEL : Hid _ := hbel
      clear hcc hrd hv hvn hvh hzb hzs hrr v0 vR vO hbel hvl hrow hee hxb
      go_wp2
      refine wp_region_noPanic ?_
      refine wp_region_held_drew (S := fun w' => w'.cell? ⟨w.heap.size, 0, none⟩ = some (.slice (some ⟨b, off, none⟩) n xc) ∧ w'.cell? ⟨b, off + k, none⟩ = some (.slice va vn vc)) (by kernel_rfl) ⟨c00, hc1⟩ (fun hHeld => ?_)
      refine wpAnyH_take (i := 0) (v := ?_) rfl (by kernel_rfl) (by kernel_rfl) (by kernel_rfl) (fun _ _ _ h => h) (Or.inl ⟨by rfl, ?_⟩) (by assumption) ?_
      rotate_left
      · (intro w_ hSw_; (try dsimp only at hSw_); go_simp; try with_reducible rfl)
      try simp only [Act.put, List.setIfInBounds_toArray, List.set_cons_zero, List.set_cons_succ, List.getElem_toArray, List.getElem_cons_zero, List.getElem_cons_succ]
      refine wpAnyH_take (i := 3) (v := ?_) rfl (by kernel_rfl) (by kernel_rfl) (by kernel_rfl) (fun _ _ _ h => h) (Or.inl ⟨by rfl, ?_⟩) (by assumption) ?_
      rotate_left
      · (intro w_ hSw_; (try dsimp only at hSw_); go_simp; try with_reducible rfl)
      try simp only [Act.put, List.setIfInBounds_toArray, List.set_cons_zero, List.set_cons_succ, List.getElem_toArray, List.getElem_cons_zero, List.getElem_cons_succ]
      refine wpAnyH_take (i := 4) (v := ?_) rfl (by kernel_rfl) (by kernel_rfl) (by kernel_rfl) (fun _ _ _ h => h) (Or.inl ⟨by rfl, ?_⟩) (by assumption) ?_
      rotate_left
      · (intro w_ hSw_; (try dsimp only at hSw_); go_simp; try with_reducible rfl)
      try simp only [Act.put, List.setIfInBounds_toArray, List.set_cons_zero, List.set_cons_succ, List.getElem_toArray, List.getElem_cons_zero, List.getElem_cons_succ]
      refine wpAnyH_take (i := 5) (v := ?_) rfl (by kernel_rfl) (by kernel_rfl) (by kernel_rfl) (fun _ _ _ h => h) (Or.inl ⟨by rfl, ?_⟩) (by assumption) ?_
      rotate_left
      · (intro w_ hSw_; (try dsimp only at hSw_); go_simp; try with_reducible rfl)
      try simp only [Act.put, List.setIfInBounds_toArray, List.set_cons_zero, List.set_cons_succ, List.getElem_toArray, List.getElem_cons_zero, List.getElem_cons_succ]
      refine wpAnyH_take (i := 6) (v := ?_) rfl (by kernel_rfl) (by kernel_rfl) (by kernel_rfl) (fun _ _ _ h => h) (Or.inl ⟨by rfl, ?_⟩) (by assumption) ?_
      rotate_left
      · (intro w_ hSw_; (try dsimp only at hSw_); go_simp; try with_reducible rfl)
      try simp only [Act.put, List.setIfInBounds_toArray, List.set_cons_zero, List.set_cons_succ, List.getElem_toArray, List.getElem_cons_zero, List.getElem_cons_succ]
      refine wpAnyH_take (i := 7) (v := ?_) rfl (by kernel_rfl) (by kernel_rfl) (by kernel_rfl) (fun _ _ _ h => h) (Or.inl ⟨by rfl, ?_⟩) (by assumption) ?_
      rotate_left
      · (intro w_ hSw_; (try dsimp only at hSw_); go_simp; try with_reducible rfl)
      try simp only [Act.put, List.setIfInBounds_toArray, List.set_cons_zero, List.set_cons_succ, List.getElem_toArray, List.getElem_cons_zero, List.getElem_cons_succ]
      refine wpAnyH_ready (rs := [1, 2]) (by kernel_rfl) (by simp) ?_
      refine AllReadyH.cons rfl (fun K hK => ?_) ?_
      · go_simp
        refine hK.out _ _ (by assumption) (fun hHeld => ?_)
        clear hK K
        try simp only [Act.put, List.setIfInBounds_toArray, List.set_cons_zero, List.set_cons_succ, List.getElem_toArray, List.getElem_cons_zero, List.getElem_cons_succ]
        refine wpAnyH_ready (rs := [2]) (by kernel_rfl) (by simp) ?_
        refine AllReadyH.cons rfl (fun K hK => ?_) AllReadyH.nil
        go_simp
        have t1 : (wr.alloc (.cells #[] 5)).drew.cell? ⟨w.heap.size, 0, none⟩ = _ := (HBE0.out.cell (p := ⟨w.heap.size, 0, none⟩) hw0).trans c00
        have t2 : (wr.alloc (.cells #[] 5)).drew.cell? ⟨b, off + k, none⟩ = _ := (HBE0.out.cell (p := ⟨b, off + k, none⟩) hbw).trans hc1
        have to := (VarD.step HVO.out HBE0.out).c0
        refine hK.out _ _ ⟨t1, t2⟩ (fun hHeld => ?_)
        clear hK K
        try simp only [Act.put, List.setIfInBounds_toArray, List.set_cons_zero, List.set_cons_succ, List.getElem_toArray, List.getElem_cons_zero, List.getElem_cons_succ]
        refine wpAnyH_ready (rs := [8]) (by kernel_rfl) (by simp) ?_
        refine AllReadyH.cons rfl (fun K hK => ?_) AllReadyH.nil
        refine step_app rfl (.tmp 15) (.tmp 20) (by rfl) wr.heap.size _ [] zs (by rfl) HOE.out va vn vc (by rfl) HVN.out HRR.out (Nat.zero_le _) hzl HSZ.out HVH.out ?_
        intro v4 w4 ho4 hg4
        obtain ⟨a4, n4, c4, rfl⟩ := Owns.sliced ho4
        have hb4 : Below wr.heap.size wr w4 := below_mark HBE0.out hg4 HSZ.out (fun q hq => by have := slice_block hq; simp at this; omega)
        have hs4 := hb4.size
        have u1 := (hb4.cell (p := ⟨w.heap.size, 0, none⟩) hw0).trans c00
        have u2 := (hb4.cell (p := ⟨b, off + k, none⟩) hbw).trans hc1
        have uo := (VarD.step HVO.out hb4).c0
        have n4a : ¬ w.heap.size + 1 + 1 = w4.heap.size := by omega
        have n4b : ¬ w.heap.size = w4.heap.size := by omega
        have n4c : ¬ b = w4.heap.size := by omega
        refine hK.out _ _ ⟨u1, u2⟩ (fun hHeld => ?_)
        clear hK K
        try simp only [Act.put, List.setIfInBounds_toArray, List.set_cons_zero, List.set_cons_succ, List.getElem_toArray, List.getElem_cons_zero, List.getElem_cons_succ]
        refine wpAnyH_ready (rs := [9]) (by kernel_rfl) (by simp) ?_
        refine AllReadyH.cons rfl (fun K hK => ?_) AllReadyH.nil
        go_simp
        have hb5 := Below.new (w := w4) (.cells #[.slice a4 n4 c4] 22)
        have hb45 := hb4.trans (hb5.mono hs4)
        have x1 := (hb45.cell (p := ⟨w.heap.size, 0, none⟩) hw0).trans c00
        have x2 := (hb45.cell (p := ⟨b, off + k, none⟩) hbw).trans hc1
        have xo := (VarD.step HVO.out hb45).c0
        refine hK.out _ _ ⟨x1, x2⟩ (fun hHeld => ?_)
        clear hK K
        try simp only [Act.put, List.setIfInBounds_toArray, List.set_cons_zero, List.set_cons_succ, List.getElem_toArray, List.getElem_cons_zero, List.getElem_cons_succ]
        refine wpAnyH_ready (rs := [10]) (by kernel_rfl) (by simp) ?_
        refine AllReadyH.cons rfl (fun K hK => ?_) AllReadyH.nil
        refine step_appL rfl (.tmp 14) (.tmp 22) (by rfl) (w.heap.size + 3) _ k ys (by rfl) (ownsRow_kept2 HRK.out (fun q hq => hb45.block q (HRK.out.lt q hq).2)) w4.heap.size (.slice a4 n4 c4) (by rfl) (World.cell?_alloc_at _ _ _ _ rfl) rfl hkn (by simp; omega) ?_
        intro g5 c5 w5 ho5 hg5 ha5 hl5
        have far : ∀ q, q < w.heap.size + 3 → q < wr.heap.size → w5.heap[q]? = wr.heap[q]? := fun q hq hqw => (hg5.block q (by simp; omega) (fun e => HXB.out q hq e.symm)).trans (hb45.block q hqw)
        have farb : w5.heap[b]? = wr.heap[b]? := far b (by have := HBEL.out.size; omega) hbw
        have z1 := (World.cell?_of_block (w := wr) (a := ⟨w.heap.size, 0, none⟩) (far w.heap.size (by omega) hw0)).trans c00
        have z2 := (World.cell?_of_block (w := wr) (a := ⟨b, off + k, none⟩) farb).trans hc1
        have zo := (World.cell?_of_block (w := wr) (a := ⟨w.heap.size + 1 + 1, 0, none⟩) (far (w.heap.size + 1 + 1) (by omega) sO)).trans o0
        have zf := (World.frozen?_of_block (w := wr) (a := ⟨w.heap.size + 1 + 1, 0, none⟩) (far (w.heap.size + 1 + 1) (by omega) sO)).trans of
        refine hK.out _ _ ⟨z1, z2⟩ (fun hHeld => ?_)
        clear hK K
        try simp only [Act.put, List.setIfInBounds_toArray, List.set_cons_zero, List.set_cons_succ, List.getElem_toArray, List.getElem_cons_zero, List.getElem_cons_succ]
        refine wpAnyH_take (i := 11) (v := ?_) rfl (by kernel_rfl) (by kernel_rfl) (by kernel_rfl) (fun _ _ _ h => h) (Or.inl ⟨by rfl, ?_⟩) (by assumption) ?_
        rotate_left
        · (intro w_ hSw_; (try dsimp only at hSw_); go_simp; try with_reducible rfl)
        try simp only [Act.put, List.setIfInBounds_toArray, List.set_cons_zero, List.set_cons_succ, List.getElem_toArray, List.getElem_cons_zero, List.getElem_cons_succ]
        refine wpAnyH_ready (rs := [12]) (by kernel_rfl) (by simp) ?_
        refine AllReadyH.cons rfl (fun K hK => ?_) AllReadyH.nil
        go_simp
        have hst : ∀ q, q ≠ w.heap.size + 1 + 1 → (w5.setCell ⟨w.heap.size + 1 + 1, 0, none⟩ (.slice (some ⟨g5, 0, none⟩) (k + 1) c5)).heap[q]? = w5.heap[q]? := fun q hq => heap_setCell_other _ _ _ _ hq
        have y1 := (World.cell?_of_block (a := ⟨w.heap.size, 0, none⟩) (hst w.heap.size (by omega))).trans z1
        have y2 := (World.cell?_of_block (a := ⟨b, off + k, none⟩) (hst b (by omega))).trans z2
        refine hK.out _ _ ⟨y1, y2⟩ (fun hHeld => ?_)
        clear hK K
        try simp only [Act.put, List.setIfInBounds_toArray, List.set_cons_zero, List.set_cons_succ, List.getElem_toArray, List.getElem_cons_zero, List.getElem_cons_succ]
        refine wpAnyH_done (by kernel_rfl) (NoPanic.normal ?_) _
        rw [List.nil_append] at ho4
        have HR : Hid _ := copy_leaf hlt HN.out HV0.out HVR.out HVO.out HROW.out.1 HROW.out.2.1 HROW.out.2.2 HBEL.out HZS.out hb4 (OwB.of HZB.out ho4) (Below.new _) ho5 hg5 ha5
        clear ho4 hg4 hb4 ho5 hg5 ha5 far farb hst
        go_wp2
        refine ⟨?_, by simp [intOf]; omega⟩
        first | exact HR.out | exact ⟨_, _, _, _, _, _, _, _, _, _, _, _, _, _, _, _, _, _, _, _, HR.out, rfl⟩ | exact ⟨_, _, _, _, _, _, _, _, _, _, _, _, _, _, _, _, _, _, _, HR.out, rfl⟩ | exact ⟨_, _, _, _, _, _, _, _, _, _, _, _, _, _, _, _, _, _, _, _, _, HR.out, rfl⟩ | exact ⟨_, _, _, _, _, _, _, _, _, _, _, _, _, _, _, _, _, _, HR.out, rfl⟩ | exact ⟨_, _, _, _, _, _, _, _, _, _, _, _, _, _, _, _, _, _, _, _, _, _, HR.out, rfl⟩
      refine AllReadyH.cons rfl (fun K hK => ?_) AllReadyH.nil
      go_simp
      have t1 : (wr.alloc (.cells #[] 5)).drew.cell? ⟨w.heap.size, 0, none⟩ = _ := (HBE0.out.cell (p := ⟨w.heap.size, 0, none⟩) hw0).trans c00
      have t2 : (wr.alloc (.cells #[] 5)).drew.cell? ⟨b, off + k, none⟩ = _ := (HBE0.out.cell (p := ⟨b, off + k, none⟩) hbw).trans hc1
      have to := (VarD.step HVO.out HBE0.out).c0
      refine hK.out _ _ ⟨t1, t2⟩ (fun hHeld => ?_)
      clear hK K
      try simp only [Act.put, List.setIfInBounds_toArray, List.set_cons_zero, List.set_cons_succ, List.getElem_toArray, List.getElem_cons_zero, List.getElem_cons_succ]
      refine wpAnyH_ready (rs := [1, 8]) (by kernel_rfl) (by simp) ?_
      refine AllReadyH.cons rfl (fun K hK => ?_) ?_
      · go_simp
        refine hK.out _ _ (by assumption) (fun hHeld => ?_)
        clear hK K
        try simp only [Act.put, List.setIfInBounds_toArray, List.set_cons_zero, List.set_cons_succ, List.getElem_toArray, List.getElem_cons_zero, List.getElem_cons_succ]
        refine wpAnyH_ready (rs := [8]) (by kernel_rfl) (by simp) ?_
        refine AllReadyH.cons rfl (fun K hK => ?_) AllReadyH.nil
        refine step_app rfl (.tmp 15) (.tmp 20) (by rfl) wr.heap.size _ [] zs (by rfl) HOE.out va vn vc (by rfl) HVN.out HRR.out (Nat.zero_le _) hzl HSZ.out HVH.out ?_
        intro v4 w4 ho4 hg4
        obtain ⟨a4, n4, c4, rfl⟩ := Owns.sliced ho4
        have hb4 : Below wr.heap.size wr w4 := below_mark HBE0.out hg4 HSZ.out (fun q hq => by have := slice_block hq; simp at this; omega)
        have hs4 := hb4.size
        have u1 := (hb4.cell (p := ⟨w.heap.size, 0, none⟩) hw0).trans c00
        have u2 := (hb4.cell (p := ⟨b, off + k, none⟩) hbw).trans hc1
        have uo := (VarD.step HVO.out hb4).c0
        have n4a : ¬ w.heap.size + 1 + 1 = w4.heap.size := by omega
        have n4b : ¬ w.heap.size = w4.heap.size := by omega
        have n4c : ¬ b = w4.heap.size := by omega
        refine hK.out _ _ ⟨u1, u2⟩ (fun hHeld => ?_)
        clear hK K
        try simp only [Act.put, List.setIfInBounds_toArray, List.set_cons_zero, List.set_cons_succ, List.getElem_toArray, List.getElem_cons_zero, List.getElem_cons_succ]
        refine wpAnyH_ready (rs := [9]) (by kernel_rfl) (by simp) ?_
        refine AllReadyH.cons rfl (fun K hK => ?_) AllReadyH.nil
        go_simp
        have hb5 := Below.new (w := w4) (.cells #[.slice a4 n4 c4] 22)
        have hb45 := hb4.trans (hb5.mono hs4)
        have x1 := (hb45.cell (p := ⟨w.heap.size, 0, none⟩) hw0).trans c00
        have x2 := (hb45.cell (p := ⟨b, off + k, none⟩) hbw).trans hc1
        have xo := (VarD.step HVO.out hb45).c0
        refine hK.out _ _ ⟨x1, x2⟩ (fun hHeld => ?_)
        clear hK K
        try simp only [Act.put, List.setIfInBounds_toArray, List.set_cons_zero, List.set_cons_succ, List.getElem_toArray, List.getElem_cons_zero, List.getElem_cons_succ]
        refine wpAnyH_ready (rs := [10]) (by kernel_rfl) (by simp) ?_
        refine AllReadyH.cons rfl (fun K hK => ?_) AllReadyH.nil
        refine step_appL rfl (.tmp 14) (.tmp 22) (by rfl) (w.heap.size + 3) _ k ys (by rfl) (ownsRow_kept2 HRK.out (fun q hq => hb45.block q (HRK.out.lt q hq).2)) w4.heap.size (.slice a4 n4 c4) (by rfl) (World.cell?_alloc_at _ _ _ _ rfl) rfl hkn (by simp; omega) ?_
        intro g5 c5 w5 ho5 hg5 ha5 hl5
        have far : ∀ q, q < w.heap.size + 3 → q < wr.heap.size → w5.heap[q]? = wr.heap[q]? := fun q hq hqw => (hg5.block q (by simp; omega) (fun e => HXB.out q hq e.symm)).trans (hb45.block q hqw)
        have farb : w5.heap[b]? = wr.heap[b]? := far b (by have := HBEL.out.size; omega) hbw
        have z1 := (World.cell?_of_block (w := wr) (a := ⟨w.heap.size, 0, none⟩) (far w.heap.size (by omega) hw0)).trans c00
        have z2 := (World.cell?_of_block (w := wr) (a := ⟨b, off + k, none⟩) farb).trans hc1
        have zo := (World.cell?_of_block (w := wr) (a := ⟨w.heap.size + 1 + 1, 0, none⟩) (far (w.heap.size + 1 + 1) (by omega) sO)).trans o0
        have zf := (World.frozen?_of_block (w := wr) (a := ⟨w.heap.size + 1 + 1, 0, none⟩) (far (w.heap.size + 1 + 1) (by omega) sO)).trans of
        refine hK.out _ _ ⟨z1, z2⟩ (fun hHeld => ?_)
        clear hK K
        try simp only [Act.put, List.setIfInBounds_toArray, List.set_cons_zero, List.set_cons_succ, List.getElem_toArray, List.getElem_cons_zero, List.getElem_cons_succ]
        refine wpAnyH_take (i := 11) (v := ?_) rfl (by kernel_rfl) (by kernel_rfl) (by kernel_rfl) (fun _ _ _ h => h) (Or.inl ⟨by rfl, ?_⟩) (by assumption) ?_
        rotate_left
        · (intro w_ hSw_; (try dsimp only at hSw_); go_simp; try with_reducible rfl)
        try simp only [Act.put, List.setIfInBounds_toArray, List.set_cons_zero, List.set_cons_succ, List.getElem_toArray, List.getElem_cons_zero, List.getElem_cons_succ]
        refine wpAnyH_ready (rs := [12]) (by kernel_rfl) (by simp) ?_
        refine AllReadyH.cons rfl (fun K hK => ?_) AllReadyH.nil
        go_simp
        have hst : ∀ q, q ≠ w.heap.size + 1 + 1 → (w5.setCell ⟨w.heap.size + 1 + 1, 0, none⟩ (.slice (some ⟨g5, 0, none⟩) (k + 1) c5)).heap[q]? = w5.heap[q]? := fun q hq => heap_setCell_other _ _ _ _ hq
        have y1 := (World.cell?_of_block (a := ⟨w.heap.size, 0, none⟩) (hst w.heap.size (by omega))).trans z1
        have y2 := (World.cell?_of_block (a := ⟨b, off + k, none⟩) (hst b (by omega))).trans z2
        refine hK.out _ _ ⟨y1, y2⟩ (fun hHeld => ?_)
        clear hK K
        try simp only [Act.put, List.setIfInBounds_toArray, List.set_cons_zero, List.set_cons_succ, List.getElem_toArray, List.getElem_cons_zero, List.getElem_cons_succ]
        refine wpAnyH_done (by kernel_rfl) (NoPanic.normal ?_) _
        rw [List.nil_append] at ho4
        have HR : Hid _ := copy_leaf hlt HN.out HV0.out HVR.out HVO.out HROW.out.1 HROW.out.2.1 HROW.out.2.2 HBEL.out HZS.out hb4 (OwB.of HZB.out ho4) (Below.new _) ho5 hg5 ha5
        clear ho4 hg4 hb4 ho5 hg5 ha5 far farb hst
        go_wp2
        refine ⟨?_, by simp [intOf]; omega⟩
        first | exact HR.out | exact ⟨_, _, _, _, _, _, _, _, _, _, _, _, _, _, _, _, _, _, _, _, HR.out, rfl⟩ | exact ⟨_, _, _, _, _, _, _, _, _, _, _, _, _, _, _, _, _, _, _, HR.out, rfl⟩ | exact ⟨_, _, _, _, _, _, _, _, _, _, _, _, _, _, _, _, _, _, _, _, _, HR.out, rfl⟩ | exact ⟨_, _, _, _, _, _, _, _, _, _, _, _, _, _, _, _, _, _, HR.out, rfl⟩ | exact ⟨_, _, _, _, _, _, _, _, _, _, _, _, _, _, _, _, _, _, _, _, _, _, HR.out, rfl⟩
      refine AllReadyH.cons rfl (fun K hK => ?_) AllReadyH.nil
      refine step_app rfl (.tmp 15) (.tmp 20) (by rfl) wr.heap.size _ [] zs (by rfl) HOE.out va vn vc (by rfl) HVN.out HRR.out (Nat.zero_le _) hzl HSZ.out HVH.out ?_
      intro v4 w4 ho4 hg4
      obtain ⟨a4, n4, c4, rfl⟩ := Owns.sliced ho4
      have hb4 : Below wr.heap.size wr w4 := below_mark HBE0.out hg4 HSZ.out (fun q hq => by have := slice_block hq; simp at this; omega)
      have hs4 := hb4.size
      have u1 := (hb4.cell (p := ⟨w.heap.size, 0, none⟩) hw0).trans c00
      have u2 := (hb4.cell (p := ⟨b, off + k, none⟩) hbw).trans hc1
      have uo := (VarD.step HVO.out hb4).c0
      have n4a : ¬ w.heap.size + 1 + 1 = w4.heap.size := by omega
      have n4b : ¬ w.heap.size = w4.heap.size := by omega
      have n4c : ¬ b = w4.heap.size := by omega
      refine hK.out _ _ ⟨u1, u2⟩ (fun hHeld => ?_)
      clear hK K
      try simp only [Act.put, List.setIfInBounds_toArray, List.set_cons_zero, List.set_cons_succ, List.getElem_toArray, List.getElem_cons_zero, List.getElem_cons_succ]
      refine wpAnyH_ready (rs := [1, 9]) (by kernel_rfl) (by simp) ?_
      refine AllReadyH.cons rfl (fun K hK => ?_) ?_
      · go_simp
        refine hK.out _ _ (by assumption) (fun hHeld => ?_)
        clear hK K
        try simp only [Act.put, List.setIfInBounds_toArray, List.set_cons_zero, List.set_cons_succ, List.getElem_toArray, List.getElem_cons_zero, List.getElem_cons_succ]
        refine wpAnyH_ready (rs := [9]) (by kernel_rfl) (by simp) ?_
        refine AllReadyH.cons rfl (fun K hK => ?_) AllReadyH.nil
        go_simp
        have hb5 := Below.new (w := w4) (.cells #[.slice a4 n4 c4] 22)
        have hb45 := hb4.trans (hb5.mono hs4)
        have x1 := (hb45.cell (p := ⟨w.heap.size, 0, none⟩) hw0).trans c00
        have x2 := (hb45.cell (p := ⟨b, off + k, none⟩) hbw).trans hc1
        have xo := (VarD.step HVO.out hb45).c0
        refine hK.out _ _ ⟨x1, x2⟩ (fun hHeld => ?_)
        clear hK K
        try simp only [Act.put, List.setIfInBounds_toArray, List.set_cons_zero, List.set_cons_succ, List.getElem_toArray, List.getElem_cons_zero, List.getElem_cons_succ]
        refine wpAnyH_ready (rs := [10]) (by kernel_rfl) (by simp) ?_
        refine AllReadyH.cons rfl (fun K hK => ?_) AllReadyH.nil
        refine step_appL rfl (.tmp 14) (.tmp 22) (by rfl) (w.heap.size + 3) _ k ys (by rfl) (ownsRow_kept2 HRK.out (fun q hq => hb45.block q (HRK.out.lt q hq).2)) w4.heap.size (.slice a4 n4 c4) (by rfl) (World.cell?_alloc_at _ _ _ _ rfl) rfl hkn (by simp; omega) ?_
        intro g5 c5 w5 ho5 hg5 ha5 hl5
        have far : ∀ q, q < w.heap.size + 3 → q < wr.heap.size → w5.heap[q]? = wr.heap[q]? := fun q hq hqw => (hg5.block q (by simp; omega) (fun e => HXB.out q hq e.symm)).trans (hb45.block q hqw)
        have farb : w5.heap[b]? = wr.heap[b]? := far b (by have := HBEL.out.size; omega) hbw
        have z1 := (World.cell?_of_block (w := wr) (a := ⟨w.heap.size, 0, none⟩) (far w.heap.size (by omega) hw0)).trans c00
        have z2 := (World.cell?_of_block (w := wr) (a := ⟨b, off + k, none⟩) farb).trans hc1
        have zo := (World.cell?_of_block (w := wr) (a := ⟨w.heap.size + 1 + 1, 0, none⟩) (far (w.heap.size + 1 + 1) (by omega) sO)).trans o0
        have zf := (World.frozen?_of_block (w := wr) (a := ⟨w.heap.size + 1 + 1, 0, none⟩) (far (w.heap.size + 1 + 1) (by omega) sO)).trans of
        refine hK.out _ _ ⟨z1, z2⟩ (fun hHeld => ?_)
        clear hK K
        try simp only [Act.put, List.setIfInBounds_toArray, List.set_cons_zero, List.set_cons_succ, List.getElem_toArray, List.getElem_cons_zero, List.getElem_cons_succ]
        refine wpAnyH_take (i := 11) (v := ?_) rfl (by kernel_rfl) (by kernel_rfl) (by kernel_rfl) (fun _ _ _ h => h) (Or.inl ⟨by rfl, ?_⟩) (by assumption) ?_
        rotate_left
        · (intro w_ hSw_; (try dsimp only at hSw_); go_simp; try with_reducible rfl)
        try simp only [Act.put, List.setIfInBounds_toArray, List.set_cons_zero, List.set_cons_succ, List.getElem_toArray, List.getElem_cons_zero, List.getElem_cons_succ]
        refine wpAnyH_ready (rs := [12]) (by kernel_rfl) (by simp) ?_
        refine AllReadyH.cons rfl (fun K hK => ?_) AllReadyH.nil
        go_simp
        have hst : ∀ q, q ≠ w.heap.size + 1 + 1 → (w5.setCell ⟨w.heap.size + 1 + 1, 0, none⟩ (.slice (some ⟨g5, 0, none⟩) (k + 1) c5)).heap[q]? = w5.heap[q]? := fun q hq => heap_setCell_other _ _ _ _ hq
        have y1 := (World.cell?_of_block (a := ⟨w.heap.size, 0, none⟩) (hst w.heap.size (by omega))).trans z1
        have y2 := (World.cell?_of_block (a := ⟨b, off + k, none⟩) (hst b (by omega))).trans z2
        refine hK.out _ _ ⟨y1, y2⟩ (fun hHeld => ?_)
        clear hK K
        try simp only [Act.put, List.setIfInBounds_toArray, List.set_cons_zero, List.set_cons_succ, List.getElem_toArray, List.getElem_cons_zero, List.getElem_cons_succ]
        refine wpAnyH_done (by kernel_rfl) (NoPanic.normal ?_) _
        rw [List.nil_append] at ho4
        have HR : Hid _ := copy_leaf hlt HN.out HV0.out HVR.out HVO.out HROW.out.1 HROW.out.2.1 HROW.out.2.2 HBEL.out HZS.out hb4 (OwB.of HZB.out ho4) (Below.new _) ho5 hg5 ha5
        clear ho4 hg4 hb4 ho5 hg5 ha5 far farb hst
        go_wp2
        refine ⟨?_, by simp [intOf]; omega⟩
        first | exact HR.out | exact ⟨_, _, _, _, _, _, _, _, _, _, _, _, _, _, _, _, _, _, _, _, HR.out, rfl⟩ | exact ⟨_, _, _, _, _, _, _, _, _, _, _, _, _, _, _, _, _, _, _, HR.out, rfl⟩ | exact ⟨_, _, _, _, _, _, _, _, _, _, _, _, _, _, _, _, _, _, _, _, _, HR.out, rfl⟩ | exact ⟨_, _, _, _, _, _, _, _, _, _, _, _, _, _, _, _, _, _, HR.out, rfl⟩ | exact ⟨_, _, _, _, _, _, _, _, _, _, _, _, _, _, _, _, _, _, _, _, _, _, HR.out, rfl⟩
      refine AllReadyH.cons rfl (fun K hK => ?_) AllReadyH.nil
      go_simp
      have hb5 := Below.new (w := w4) (.cells #[.slice a4 n4 c4] 22)
      have hb45 := hb4.trans (hb5.mono hs4)
      have x1 := (hb45.cell (p := ⟨w.heap.size, 0, none⟩) hw0).trans c00
      have x2 := (hb45.cell (p := ⟨b, off + k, none⟩) hbw).trans hc1
      have xo := (VarD.step HVO.out hb45).c0
      refine hK.out _ _ ⟨x1, x2⟩ (fun hHeld => ?_)
      clear hK K
      try simp only [Act.put, List.setIfInBounds_toArray, List.set_cons_zero, List.set_cons_succ, List.getElem_toArray, List.getElem_cons_zero, List.getElem_cons_succ]
      refine wpAnyH_ready (rs := [1]) (by kernel_rfl) (by simp) ?_
      refine AllReadyH.cons rfl (fun K hK => ?_) AllReadyH.nil
      go_simp
      refine hK.out _ _ (by assumption) (fun hHeld => ?_)
      clear hK K
      try simp only [Act.put, List.setIfInBounds_toArray, List.set_cons_zero, List.set_cons_succ, List.getElem_toArray, List.getElem_cons_zero, List.getElem_cons_succ]
      refine wpAnyH_ready (rs := [10]) (by kernel_rfl) (by simp) ?_
      refine AllReadyH.cons rfl (fun K hK => ?_) AllReadyH.nil
      refine step_appL rfl (.tmp 14) (.tmp 22) (by rfl) (w.heap.size + 3) _ k ys (by rfl) (ownsRow_kept2 HRK.out (fun q hq => hb45.block q (HRK.out.lt q hq).2)) w4.heap.size (.slice a4 n4 c4) (by rfl) (World.cell?_alloc_at _ _ _ _ rfl) rfl hkn (by simp; omega) ?_
      intro g5 c5 w5 ho5 hg5 ha5 hl5
      have far : ∀ q, q < w.heap.size + 3 → q < wr.heap.size → w5.heap[q]? = wr.heap[q]? := fun q hq hqw => (hg5.block q (by simp; omega) (fun e => HXB.out q hq e.symm)).trans (hb45.block q hqw)
      have farb : w5.heap[b]? = wr.heap[b]? := far b (by have := HBEL.out.size; omega) hbw
      have z1 := (World.cell?_of_block (w := wr) (a := ⟨w.heap.size, 0, none⟩) (far w.heap.size (by omega) hw0)).trans c00
      have z2 := (World.cell?_of_block (w := wr) (a := ⟨b, off + k, none⟩) farb).trans hc1
      have zo := (World.cell?_of_block (w := wr) (a := ⟨w.heap.size + 1 + 1, 0, none⟩) (far (w.heap.size + 1 + 1) (by omega) sO)).trans o0
      have zf := (World.frozen?_of_block (w := wr) (a := ⟨w.heap.size + 1 + 1, 0, none⟩) (far (w.heap.size + 1 + 1) (by omega) sO)).trans of
      refine hK.out _ _ ⟨z1, z2⟩ (fun hHeld => ?_)
      clear hK K
      try simp only [Act.put, List.setIfInBounds_toArray, List.set_cons_zero, List.set_cons_succ, List.getElem_toArray, List.getElem_cons_zero, List.getElem_cons_succ]
      refine wpAnyH_take (i := 11) (v := ?_) rfl (by kernel_rfl) (by kernel_rfl) (by kernel_rfl) (fun _ _ _ h => h) (Or.inl ⟨by rfl, ?_⟩) (by assumption) ?_
      rotate_left
      · (intro w_ hSw_; (try dsimp only at hSw_); go_simp; try with_reducible rfl)
      try simp only [Act.put, List.setIfInBounds_toArray, List.set_cons_zero, List.set_cons_succ, List.getElem_toArray, List.getElem_cons_zero, List.getElem_cons_succ]
      refine wpAnyH_ready (rs := [12]) (by kernel_rfl) (by simp) ?_
      refine AllReadyH.cons rfl (fun K hK => ?_) AllReadyH.nil
      go_simp
      have hst : ∀ q, q ≠ w.heap.size + 1 + 1 → (w5.setCell ⟨w.heap.size + 1 + 1, 0, none⟩ (.slice (some ⟨g5, 0, none⟩) (k + 1) c5)).heap[q]? = w5.heap[q]? := fun q hq => heap_setCell_other _ _ _ _ hq
      have y1 := (World.cell?_of_block (a := ⟨w.heap.size, 0, none⟩) (hst w.heap.size (by omega))).trans z1
      have y2 := (World.cell?_of_block (a := ⟨b, off + k, none⟩) (hst b (by omega))).trans z2
      refine hK.out _ _ ⟨y1, y2⟩ (fun hHeld => ?_)
      clear hK K
      try simp only [Act.put, List.setIfInBounds_toArray, List.set_cons_zero, List.set_cons_succ, List.getElem_toArray, List.getElem_cons_zero, List.getElem_cons_succ]
      refine wpAnyH_done (by kernel_rfl) (NoPanic.normal ?_) _
      rw [List.nil_append] at ho4
      have HR : Hid _ := copy_leaf hlt HN.out HV0.out HVR.out HVO.out HROW.out.1 HROW.out.2.1 HROW.out.2.2 HBEL.out HZS.out hb4 (OwB.of HZB.out ho4) (Below.new _) ho5 hg5 ha5
      clear ho4 hg4 hb4 ho5 hg5 ha5 far farb hst
      go_wp2
      refine ⟨?_, by simp [intOf]; omega⟩
      first | exact HR.out | exact ⟨_, _, _, _, _, _, _, _, _, _, _, _, _, _, _, _, _, _, _, _, HR.out, rfl⟩ | exact ⟨_, _, _, _, _, _, _, _, _, _, _, _, _, _, _, _, _, _, _, HR.out, rfl⟩ | exact ⟨_, _, _, _, _, _, _, _, _, _, _, _, _, _, _, _, _, _, _, _, _, HR.out, rfl⟩ | exact ⟨_, _, _, _, _, _, _, _, _, _, _, _, _, _, _, _, _, _, HR.out, rfl⟩ | exact ⟨_, _, _, _, _, _, _, _, _, _, _, _, _, _, _, _, _, _, _, _, _, _, HR.out, rfl⟩
    · have hkn : k = n := by omega
      subst hkn
      have hdt : d1.take k = d1 := List.take_of_length_le (by rw [← HN.out]; exact Nat.le_refl _)
      rw [hdt] at hG
      obtain ⟨H, hH⟩ : ∃ H, wr.heap.size = H := ⟨_, rfl⟩
      have c01 := v0.c1
      have hH3 : w.heap.size + 3 ≤ H := by omega
      have hKp := hG.kp
      rw [hH] at hKp
      have HST : Hid (LC2 w (.slice xa k xc) (.slice ya m yc) x (d1, d2) m H (.int .i64 0) wr) := ⟨0, .slice none 0 0, Nat.zero_le _, rfl, v0, vR, vO, hKp, by simpa using GrWs_nil wr H, by omega, hbel⟩
      clear hdt hG hKp v0 vR vO hbel hH sO hk
      go_wp2
      go_loopw [5] (fun i wr => LC2 w (.slice xa k xc) (.slice ya m yc) x (d1, d2) m H i wr) (fun i _ => m - (intOf i).toNat)
      case atStart => exact HST.out
      case round =>
        clear HST c01 c00 hlt
        obtain ⟨j, y, hj, rfl, v0, vR, vO, hK, hG, hHw, hbel⟩ := hrel
        have c01 := v0.c1
        have sO := vO.lt
        by_cases hlt : j < m
        · obtain ⟨b, off, rfl, hb0, hbh, hcc⟩ := HC'.out.resolve_left (by omega)
          have hc1 : wr.cell? ⟨b, off + j * 2, none⟩ = _ := (hbel.cell (p := ⟨b, off + j * 2, none⟩) (by show b < w.heap.size; omega)).trans (hcc j hlt).1
          have hc2 : wr.cell? ⟨b, off + j * 2 + 1, none⟩ = _ := (hbel.cell (p := ⟨b, off + j * 2 + 1, none⟩) (by show b < w.heap.size; omega)).trans (hcc j hlt).2
          have hrd := (HE'.out j hlt).same (SameIn.mk (Below.size hbel) (fun q _ hq => hbel.block q (by omega)))
          have hbz : (d2[j]?.getD (0, [])).2.length ≤ 2097152 := HSB.out j
          obtain ⟨hzb, va, vn, vc, hv, hvn, hvh, hrr⟩ := hrd.reads
          rw [hv] at hc2
          obtain ⟨p, zs, hzs⟩ : ∃ p zs, d2[j]?.getD (0, []) = (p, zs) := ⟨_, _, rfl⟩
          rw [hzs] at hvn hrr hzb hbz hc1
          simp only at hvn hrr hzb hbz hc1
          obtain ⟨ys, C, hxl, hrow, hCC, hee⟩ := hG
          obtain ⟨ya2, yn2, yc2, rfl⟩ := row_sliced hrow
          obtain ⟨sx, cx, rfl⟩ := hK.sliced
          have hkl : (d2.take j).length = j := by rw [List.length_take, ← HM.out]; omega
          have hxb : ∀ q, q < H → (Value.slice ya2 yn2 yc2).ownBlock ≠ some q := fun q hq e => by have := (hrow.lt q e).1; omega
          have HROW : Hid _ := And.intro hxl (And.intro hrow (And.intro hCC hee))
          have HRK : Hid (wr.ownsRow H 75 2 (.slice ya2 yn2 yc2) j C) := by rw [← hkl]; exact hrow
          have HXB : Hid _ := hxb
          have HZS : Hid _ := hzs
          have HVN : Hid _ := hvn
          have HVH : Hid _ := hvh.2.2
          have HZB : Hid _ := hzb
          have HKP : Hid (KpBB wr (w.heap.size + 3) H _ d1) := hK
          have HRR : Hid (Reads (wr.alloc (.cells #[] 5)).drew va zs) := hrr.below (((Below.refl _ _).alloc (Nat.le_refl _) _).drew)
          have HOE : Hid (Owns (wr.alloc (.cells #[] 5)).drew wr.heap.size (.slice (some ⟨wr.heap.size, 0, none⟩) 0 0) []) := (owns_empty wr).step (Below.drew (Below.refl _ _))
          have HSZ : Hid (wr.heap.size ≤ (wr.alloc (.cells #[] 5)).drew.heap.size) := by show _ ≤ _; simp
          have HBE0 : Hid (Below wr.heap.size wr (wr.alloc (.cells #[] 5)).drew) := ((Below.refl _ _).alloc (Nat.le_refl _) _).drew
          have hzl : zs.length ≤ 4194304 := by omega
          have hbw : b < wr.heap.size := by have := hbel.size; omega
          have hbH : b < H := by omega
          have hw0 : w.heap.size < wr.heap.size := by omega
          have hi0 : (0 : Int) ≤ (j : Int) := by omega
          have hi1 : (j : Int) < (m : Int) := by omega
          have hkn : j ≤ 4194304 := by omega
          have o0 := vO.c1
          have of := vO.f 1
          have n1 : ¬ w.heap.size + 1 + 1 = wr.heap.size := by omega
          have n2 : ¬ w.heap.size = wr.heap.size := by omega
          have n3 : ¬ b = wr.heap.size := by omega
          have HV0 : Hid (VarD wr w.heap.size _ _) := v0
          have HVR : Hid (VarD wr (w.heap.size + 1) _ _) := vR
          have HVO : Hid (VarD wr (w.heap.size + 1 + 1) _ _) := vO
          have HBEL : Hid _ := hbel
          clear hcc hrd hv hvn hvh hzb hzs hrr v0 vR vO hbel hxl hrow hCC hee hxb hK
          go_wp2
          refine wp_region_noPanic ?_
          refine wp_region_held_drew (S := fun w' => w'.cell? ⟨w.heap.size, 1, none⟩ = some (.slice (some ⟨b, off, none⟩) m yc) ∧ w'.cell? ⟨b, off + j * 2, none⟩ = some (.int .i64 p) ∧ w'.cell? ⟨b, off + j * 2 + 1, none⟩ = some (.slice va vn vc)) (by kernel_rfl) ⟨c01, hc1, hc2⟩ (fun hHeld => ?_)
          refine wpAnyH_take (i := 0) (v := ?_) rfl (by kernel_rfl) (by kernel_rfl) (by kernel_rfl) (fun _ _ _ h => h) (Or.inl ⟨by rfl, ?_⟩) (by assumption) ?_
          rotate_left
          · (intro w_ hSw_; (try dsimp only at hSw_); go_simp; try with_reducible rfl)
          try simp only [Act.put, List.setIfInBounds_toArray, List.set_cons_zero, List.set_cons_succ, List.getElem_toArray, List.getElem_cons_zero, List.getElem_cons_succ]
          refine wpAnyH_take (i := 2) (v := ?_) rfl (by kernel_rfl) (by kernel_rfl) (by kernel_rfl) (fun _ _ _ h => h) (Or.inl ⟨by rfl, ?_⟩) (by assumption) ?_
          rotate_left
          · (intro w_ hSw_; (try dsimp only at hSw_); go_simp; try with_reducible rfl)
          try simp only [Act.put, List.setIfInBounds_toArray, List.set_cons_zero, List.set_cons_succ, List.getElem_toArray, List.getElem_cons_zero, List.getElem_cons_succ]
          refine wpAnyH_take (i := 3) (v := ?_) rfl (by kernel_rfl) (by kernel_rfl) (by kernel_rfl) (fun _ _ _ h => h) (Or.inl ⟨by rfl, ?_⟩) (by assumption) ?_
          rotate_left
          · (intro w_ hSw_; (try dsimp only at hSw_); go_simp; try with_reducible rfl)
          try simp only [Act.put, List.setIfInBounds_toArray, List.set_cons_zero, List.set_cons_succ, List.getElem_toArray, List.getElem_cons_zero, List.getElem_cons_succ]
          refine wpAnyH_take (i := 4) (v := ?_) rfl (by kernel_rfl) (by kernel_rfl) (by kernel_rfl) (fun _ _ _ h => h) (Or.inl ⟨by rfl, ?_⟩) (by assumption) ?_
          rotate_left
          · (intro w_ hSw_; (try dsimp only at hSw_); go_simp; try with_reducible rfl)
          try simp only [Act.put, List.setIfInBounds_toArray, List.set_cons_zero, List.set_cons_succ, List.getElem_toArray, List.getElem_cons_zero, List.getElem_cons_succ]
          refine wpAnyH_take (i := 5) (v := ?_) rfl (by kernel_rfl) (by kernel_rfl) (by kernel_rfl) (fun _ _ _ h => h) (Or.inl ⟨by rfl, ?_⟩) (by assumption) ?_
          rotate_left
          · (intro w_ hSw_; (try dsimp only at hSw_); go_simp; try with_reducible rfl)
          try simp only [Act.put, List.setIfInBounds_toArray, List.set_cons_zero, List.set_cons_succ, List.getElem_toArray, List.getElem_cons_zero, List.getElem_cons_succ]
          refine wpAnyH_take (i := 6) (v := ?_) rfl (by kernel_rfl) (by kernel_rfl) (by kernel_rfl) (fun _ _ _ h => h) (Or.inl ⟨by rfl, ?_⟩) (by assumption) ?_
          rotate_left
          · (intro w_ hSw_; (try dsimp only at hSw_); go_simp; try with_reducible rfl)
          try simp only [Act.put, List.setIfInBounds_toArray, List.set_cons_zero, List.set_cons_succ, List.getElem_toArray, List.getElem_cons_zero, List.getElem_cons_succ]
          refine wpAnyH_take (i := 7) (v := ?_) rfl (by kernel_rfl) (by kernel_rfl) (by kernel_rfl) (fun _ _ _ h => h) (Or.inl ⟨by rfl, ?_⟩) (by assumption) ?_
          rotate_left
          · (intro w_ hSw_; (try dsimp only at hSw_); go_simp; try with_reducible rfl)
          try simp only [Act.put, List.setIfInBounds_toArray, List.set_cons_zero, List.set_cons_succ, List.getElem_toArray, List.getElem_cons_zero, List.getElem_cons_succ]
          refine wpAnyH_take (i := 9) (v := ?_) rfl (by kernel_rfl) (by kernel_rfl) (by kernel_rfl) (fun _ _ _ h => h) (Or.inl ⟨by rfl, ?_⟩) (by assumption) ?_
          rotate_left
          · (intro w_ hSw_; (try dsimp only at hSw_); go_simp; try with_reducible rfl)
          try simp only [Act.put, List.setIfInBounds_toArray, List.set_cons_zero, List.set_cons_succ, List.getElem_toArray, List.getElem_cons_zero, List.getElem_cons_succ]
          refine wpAnyH_take (i := 10) (v := ?_) rfl (by kernel_rfl) (by kernel_rfl) (by kernel_rfl) (fun _ _ _ h => h) (Or.inl ⟨by rfl, ?_⟩) (by assumption) ?_
          rotate_left
          · (intro w_ hSw_; (try dsimp only at hSw_); go_simp; try with_reducible rfl)
          try simp only [Act.put, List.setIfInBounds_toArray, List.set_cons_zero, List.set_cons_succ, List.getElem_toArray, List.getElem_cons_zero, List.getElem_cons_succ]
          refine wpAnyH_take (i := 11) (v := ?_) rfl (by kernel_rfl) (by kernel_rfl) (by kernel_rfl) (fun _ _ _ h => h) (Or.inl ⟨by rfl, ?_⟩) (by assumption) ?_
          rotate_left
          · (intro w_ hSw_; (try dsimp only at hSw_); go_simp; try with_reducible rfl)
          try simp only [Act.put, List.setIfInBounds_toArray, List.set_cons_zero, List.set_cons_succ, List.getElem_toArray, List.getElem_cons_zero, List.getElem_cons_succ]
          refine wpAnyH_take (i := 12) (v := ?_) rfl (by kernel_rfl) (by kernel_rfl) (by kernel_rfl) (fun _ _ _ h => h) (Or.inl ⟨by rfl, ?_⟩) (by assumption) ?_
          rotate_left
          · (intro w_ hSw_; (try dsimp only at hSw_); go_simp; try with_reducible rfl)
          try simp only [Act.put, List.setIfInBounds_toArray, List.set_cons_zero, List.set_cons_succ, List.getElem_toArray, List.getElem_cons_zero, List.getElem_cons_succ]
          refine wpAnyH_take (i := 13) (v := ?_) rfl (by kernel_rfl) (by kernel_rfl) (by kernel_rfl) (fun _ _ _ h => h) (Or.inl ⟨by rfl, ?_⟩) (by assumption) ?_
          rotate_left
          · (intro w_ hSw_; (try dsimp only at hSw_); go_simp; try with_reducible rfl)
          try simp only [Act.put, List.setIfInBounds_toArray, List.set_cons_zero, List.set_cons_succ, List.getElem_toArray, List.getElem_cons_zero, List.getElem_cons_succ]
          refine wpAnyH_take (i := 14) (v := ?_) rfl (by kernel_rfl) (by kernel_rfl) (by kernel_rfl) (fun _ _ _ h => h) (Or.inl ⟨by rfl, ?_⟩) (by assumption) ?_
          rotate_left
          · (intro w_ hSw_; (try dsimp only at hSw_); go_simp; try with_reducible rfl)
          try simp only [Act.put, List.setIfInBounds_toArray, List.set_cons_zero, List.set_cons_succ, List.getElem_toArray, List.getElem_cons_zero, List.getElem_cons_succ]
          refine wpAnyH_ready (rs := [1, 8]) (by kernel_rfl) (by simp) ?_
          refine AllReadyH.cons rfl (fun K hK => ?_) ?_
          · go_simp
            refine hK.out _ _ (by assumption) (fun hHeld => ?_)
            clear hK K
            try simp only [Act.put, List.setIfInBounds_toArray, List.set_cons_zero, List.set_cons_succ, List.getElem_toArray, List.getElem_cons_zero, List.getElem_cons_succ]
            refine wpAnyH_ready (rs := [8]) (by kernel_rfl) (by simp) ?_
            refine AllReadyH.cons rfl (fun K hK => ?_) AllReadyH.nil
            go_simp
            have t1 := (HBE0.out.cell (p := ⟨w.heap.size, 1, none⟩) hw0).trans c01
            have t2 := (HBE0.out.cell (p := ⟨b, off + j * 2, none⟩) hbw).trans hc1
            have t3 := (HBE0.out.cell (p := ⟨b, off + j * 2 + 1, none⟩) hbw).trans hc2
            have to := (VarD.step HVO.out HBE0.out).c1
            refine hK.out _ _ ⟨t1, t2, t3⟩ (fun hHeld => ?_)
            clear hK K
            try simp only [Act.put, List.setIfInBounds_toArray, List.set_cons_zero, List.set_cons_succ, List.getElem_toArray, List.getElem_cons_zero, List.getElem_cons_succ]
            refine wpAnyH_ready (rs := [15]) (by kernel_rfl) (by simp) ?_
            refine AllReadyH.cons rfl (fun K hK => ?_) AllReadyH.nil
            refine step_app rfl (.tmp 40) (.tmp 46) (by rfl) wr.heap.size _ [] zs (by rfl) HOE.out va vn vc (by rfl) HVN.out HRR.out (Nat.zero_le _) hzl HSZ.out HVH.out ?_
            intro v4 w4 ho4 hg4
            obtain ⟨a4, n4, c4, rfl⟩ := Owns.sliced ho4
            have hb4 : Below wr.heap.size wr w4 := below_mark HBE0.out hg4 HSZ.out (fun q hq => by have := slice_block hq; simp at this; omega)
            have hs4 := hb4.size
            have u1 := (hb4.cell (p := ⟨w.heap.size, 1, none⟩) hw0).trans c01
            have u2 := (hb4.cell (p := ⟨b, off + j * 2, none⟩) hbw).trans hc1
            have u3 := (hb4.cell (p := ⟨b, off + j * 2 + 1, none⟩) hbw).trans hc2
            have uo := (VarD.step HVO.out hb4).c1
            have n4a : ¬ w.heap.size + 1 + 1 = w4.heap.size := by omega
            have n4b : ¬ w.heap.size = w4.heap.size := by omega
            have n4c : ¬ b = w4.heap.size := by omega
            refine hK.out _ _ ⟨u1, u2, u3⟩ (fun hHeld => ?_)
            clear hK K
            try simp only [Act.put, List.setIfInBounds_toArray, List.set_cons_zero, List.set_cons_succ, List.getElem_toArray, List.getElem_cons_zero, List.getElem_cons_succ]
            refine wpAnyH_take (i := 16) (v := ?_) rfl (by kernel_rfl) (by kernel_rfl) (by kernel_rfl) (fun _ _ _ h => h) (Or.inl ⟨by rfl, ?_⟩) (by assumption) ?_
            rotate_left
            · (intro w_ hSw_; (try dsimp only at hSw_); go_simp; try with_reducible rfl)
            try simp only [Act.put, List.setIfInBounds_toArray, List.set_cons_zero, List.set_cons_succ, List.getElem_toArray, List.getElem_cons_zero, List.getElem_cons_succ]
            refine wpAnyH_ready (rs := [17]) (by kernel_rfl) (by simp) ?_
            refine AllReadyH.cons rfl (fun K hK => ?_) AllReadyH.nil
            go_simp
            have hb5 := Below.new (w := w4) (.cells #[.int .i64 p, .slice a4 n4 c4] 75)
            have hb45 := hb4.trans (hb5.mono hs4)
            have x1 := (hb45.cell (p := ⟨w.heap.size, 1, none⟩) hw0).trans c01
            have x2 := (hb45.cell (p := ⟨b, off + j * 2, none⟩) hbw).trans hc1
            have x3 := (hb45.cell (p := ⟨b, off + j * 2 + 1, none⟩) hbw).trans hc2
            have xo := (VarD.step HVO.out hb45).c1
            refine hK.out _ _ ⟨x1, x2, x3⟩ (fun hHeld => ?_)
            clear hK K
            try simp only [Act.put, List.setIfInBounds_toArray, List.set_cons_zero, List.set_cons_succ, List.getElem_toArray, List.getElem_cons_zero, List.getElem_cons_succ]
            refine wpAnyH_ready (rs := [18]) (by kernel_rfl) (by simp) ?_
            refine AllReadyH.cons rfl (fun K hK => ?_) AllReadyH.nil
            refine step_appW rfl (.tmp 33) (.tmp 49) (by rfl) H _ j C (by rfl) (ownsRow_kept2 HRK.out (fun q hq => hb45.block q (HRK.out.lt q hq).2)) w4.heap.size p (.slice a4 n4 c4) (by rfl) (heap_alloc_new _ _) rfl hkn (by simp; omega) ?_
            intro g5 c5 w5 ho5 hg5 ha5 hl5
            have far : ∀ q, q < H → w5.heap[q]? = wr.heap[q]? := fun q hq => (hg5.block q (by simp; omega) (fun e => HXB.out q hq e.symm)).trans (hb45.block q (by omega))
            have z1 := (World.cell?_of_block (w := wr) (a := ⟨w.heap.size, 1, none⟩) (far w.heap.size (by omega))).trans c01
            have z2 := (World.cell?_of_block (w := wr) (a := ⟨b, off + j * 2, none⟩) (far b (by omega))).trans hc1
            have z3 := (World.cell?_of_block (w := wr) (a := ⟨b, off + j * 2 + 1, none⟩) (far b (by omega))).trans hc2
            have zo := (World.cell?_of_block (w := wr) (a := ⟨w.heap.size + 1 + 1, 1, none⟩) (far (w.heap.size + 1 + 1) (by omega))).trans o0
            have zf := (World.frozen?_of_block (w := wr) (a := ⟨w.heap.size + 1 + 1, 1, none⟩) (far (w.heap.size + 1 + 1) (by omega))).trans of
            refine hK.out _ _ ⟨z1, z2, z3⟩ (fun hHeld => ?_)
            clear hK K
            try simp only [Act.put, List.setIfInBounds_toArray, List.set_cons_zero, List.set_cons_succ, List.getElem_toArray, List.getElem_cons_zero, List.getElem_cons_succ]
            refine wpAnyH_take (i := 19) (v := ?_) rfl (by kernel_rfl) (by kernel_rfl) (by kernel_rfl) (fun _ _ _ h => h) (Or.inl ⟨by rfl, ?_⟩) (by assumption) ?_
            rotate_left
            · (intro w_ hSw_; (try dsimp only at hSw_); go_simp; try with_reducible rfl)
            try simp only [Act.put, List.setIfInBounds_toArray, List.set_cons_zero, List.set_cons_succ, List.getElem_toArray, List.getElem_cons_zero, List.getElem_cons_succ]
            refine wpAnyH_ready (rs := [20]) (by kernel_rfl) (by simp) ?_
            refine AllReadyH.cons rfl (fun K hK => ?_) AllReadyH.nil
            go_simp
            have hst : ∀ q, q ≠ w.heap.size + 1 + 1 → (w5.setCell ⟨w.heap.size + 1 + 1, 1, none⟩ (.slice (some ⟨g5, 0, none⟩) (j + 1) c5)).heap[q]? = w5.heap[q]? := fun q hq => heap_setCell_other _ _ _ _ hq
            have y1 := (World.cell?_of_block (a := ⟨w.heap.size, 1, none⟩) (hst w.heap.size (by omega))).trans z1
            have y2 := (World.cell?_of_block (a := ⟨b, off + j * 2, none⟩) (hst b (by omega))).trans z2
            have y3 := (World.cell?_of_block (a := ⟨b, off + j * 2 + 1, none⟩) (hst b (by omega))).trans z3
            refine hK.out _ _ ⟨y1, y2, y3⟩ (fun hHeld => ?_)
            clear hK K
            try simp only [Act.put, List.setIfInBounds_toArray, List.set_cons_zero, List.set_cons_succ, List.getElem_toArray, List.getElem_cons_zero, List.getElem_cons_succ]
            refine wpAnyH_done (by kernel_rfl) (NoPanic.normal ?_) _
            rw [List.nil_append] at ho4
            have HR : Hid _ := copy_leaf2 (d := (d1, d2)) hlt HM.out HV0.out HVR.out HVO.out HKP.out hHw hH3 HROW.out.1 HROW.out.2.1 HROW.out.2.2.1 HROW.out.2.2.2 HBEL.out HZS.out hb4 (OwB.of HZB.out ho4) (Below.new _) ho5 hg5 ha5
            clear ho4 hg4 hb4 ho5 hg5 ha5 far hst
            go_wp2
            refine ⟨?_, by simp [intOf]; omega⟩
            first | exact HR.out | exact ⟨_, _, _, _, _, _, _, _, _, _, _, _, _, _, _, _, _, _, _, _, _, _, _, _, _, _, _, _, HR.out, rfl⟩ | exact ⟨_, _, _, _, _, _, _, _, _, _, _, _, _, _, _, _, _, _, _, _, _, _, _, _, _, _, _, HR.out, rfl⟩ | exact ⟨_, _, _, _, _, _, _, _, _, _, _, _, _, _, _, _, _, _, _, _, _, _, _, _, _, _, _, _, _, HR.out, rfl⟩ | exact ⟨_, _, _, _, _, _, _, _, _, _, _, _, _, _, _, _, _, _, _, _, _, _, _, _, _, _, HR.out, rfl⟩ | exact ⟨_, _, _, _, _, _, _, _, _, _, _, _, _, _, _, _, _, _, _, _, _, _, _, _, _, _, _, _, _, _, HR.out, rfl⟩
          refine AllReadyH.cons rfl (fun K hK => ?_) AllReadyH.nil
          go_simp
          have t1 := (HBE0.out.cell (p := ⟨w.heap.size, 1, none⟩) hw0).trans c01
          have t2 := (HBE0.out.cell (p := ⟨b, off + j * 2, none⟩) hbw).trans hc1
          have t3 := (HBE0.out.cell (p := ⟨b, off + j * 2 + 1, none⟩) hbw).trans hc2
          have to := (VarD.step HVO.out HBE0.out).c1
          refine hK.out _ _ ⟨t1, t2, t3⟩ (fun hHeld => ?_)
          clear hK K
          try simp only [Act.put, List.setIfInBounds_toArray, List.set_cons_zero, List.set_cons_succ, List.getElem_toArray, List.getElem_cons_zero, List.getElem_cons_succ]
          refine wpAnyH_ready (rs := [1, 15]) (by kernel_rfl) (by simp) ?_
          refine AllReadyH.cons rfl (fun K hK => ?_) ?_
          · go_simp
            refine hK.out _ _ (by assumption) (fun hHeld => ?_)
            clear hK K
            try simp only [Act.put, List.setIfInBounds_toArray, List.set_cons_zero, List.set_cons_succ, List.getElem_toArray, List.getElem_cons_zero, List.getElem_cons_succ]
            refine wpAnyH_ready (rs := [15]) (by kernel_rfl) (by simp) ?_
            refine AllReadyH.cons rfl (fun K hK => ?_) AllReadyH.nil
            refine step_app rfl (.tmp 40) (.tmp 46) (by rfl) wr.heap.size _ [] zs (by rfl) HOE.out va vn vc (by rfl) HVN.out HRR.out (Nat.zero_le _) hzl HSZ.out HVH.out ?_
            intro v4 w4 ho4 hg4
            obtain ⟨a4, n4, c4, rfl⟩ := Owns.sliced ho4
            have hb4 : Below wr.heap.size wr w4 := below_mark HBE0.out hg4 HSZ.out (fun q hq => by have := slice_block hq; simp at this; omega)
            have hs4 := hb4.size
            have u1 := (hb4.cell (p := ⟨w.heap.size, 1, none⟩) hw0).trans c01
            have u2 := (hb4.cell (p := ⟨b, off + j * 2, none⟩) hbw).trans hc1
            have u3 := (hb4.cell (p := ⟨b, off + j * 2 + 1, none⟩) hbw).trans hc2
            have uo := (VarD.step HVO.out hb4).c1
            have n4a : ¬ w.heap.size + 1 + 1 = w4.heap.size := by omega
            have n4b : ¬ w.heap.size = w4.heap.size := by omega
            have n4c : ¬ b = w4.heap.size := by omega
            refine hK.out _ _ ⟨u1, u2, u3⟩ (fun hHeld => ?_)
            clear hK K
            try simp only [Act.put, List.setIfInBounds_toArray, List.set_cons_zero, List.set_cons_succ, List.getElem_toArray, List.getElem_cons_zero, List.getElem_cons_succ]
            refine wpAnyH_take (i := 16) (v := ?_) rfl (by kernel_rfl) (by kernel_rfl) (by kernel_rfl) (fun _ _ _ h => h) (Or.inl ⟨by rfl, ?_⟩) (by assumption) ?_
            rotate_left
            · (intro w_ hSw_; (try dsimp only at hSw_); go_simp; try with_reducible rfl)
            try simp only [Act.put, List.setIfInBounds_toArray, List.set_cons_zero, List.set_cons_succ, List.getElem_toArray, List.getElem_cons_zero, List.getElem_cons_succ]
            refine wpAnyH_ready (rs := [17]) (by kernel_rfl) (by simp) ?_
            refine AllReadyH.cons rfl (fun K hK => ?_) AllReadyH.nil
            go_simp
            have hb5 := Below.new (w := w4) (.cells #[.int .i64 p, .slice a4 n4 c4] 75)
            have hb45 := hb4.trans (hb5.mono hs4)
            have x1 := (hb45.cell (p := ⟨w.heap.size, 1, none⟩) hw0).trans c01
            have x2 := (hb45.cell (p := ⟨b, off + j * 2, none⟩) hbw).trans hc1
            have x3 := (hb45.cell (p := ⟨b, off + j * 2 + 1, none⟩) hbw).trans hc2
            have xo := (VarD.step HVO.out hb45).c1
            refine hK.out _ _ ⟨x1, x2, x3⟩ (fun hHeld => ?_)
            clear hK K
            try simp only [Act.put, List.setIfInBounds_toArray, List.set_cons_zero, List.set_cons_succ, List.getElem_toArray, List.getElem_cons_zero, List.getElem_cons_succ]
            refine wpAnyH_ready (rs := [18]) (by kernel_rfl) (by simp) ?_
            refine AllReadyH.cons rfl (fun K hK => ?_) AllReadyH.nil
            refine step_appW rfl (.tmp 33) (.tmp 49) (by rfl) H _ j C (by rfl) (ownsRow_kept2 HRK.out (fun q hq => hb45.block q (HRK.out.lt q hq).2)) w4.heap.size p (.slice a4 n4 c4) (by rfl) (heap_alloc_new _ _) rfl hkn (by simp; omega) ?_
            intro g5 c5 w5 ho5 hg5 ha5 hl5
            have far : ∀ q, q < H → w5.heap[q]? = wr.heap[q]? := fun q hq => (hg5.block q (by simp; omega) (fun e => HXB.out q hq e.symm)).trans (hb45.block q (by omega))
            have z1 := (World.cell?_of_block (w := wr) (a := ⟨w.heap.size, 1, none⟩) (far w.heap.size (by omega))).trans c01
            have z2 := (World.cell?_of_block (w := wr) (a := ⟨b, off + j * 2, none⟩) (far b (by omega))).trans hc1
            have z3 := (World.cell?_of_block (w := wr) (a := ⟨b, off + j * 2 + 1, none⟩) (far b (by omega))).trans hc2
            have zo := (World.cell?_of_block (w := wr) (a := ⟨w.heap.size + 1 + 1, 1, none⟩) (far (w.heap.size + 1 + 1) (by omega))).trans o0
            have zf := (World.frozen?_of_block (w := wr) (a := ⟨w.heap.size + 1 + 1, 1, none⟩) (far (w.heap.size + 1 + 1) (by omega))).trans of
            refine hK.out _ _ ⟨z1, z2, z3⟩ (fun hHeld => ?_)
            clear hK K
            try simp only [Act.put, List.setIfInBounds_toArray, List.set_cons_zero, List.set_cons_succ, List.getElem_toArray, List.getElem_cons_zero, List.getElem_cons_succ]
            refine wpAnyH_take (i := 19) (v := ?_) rfl (by kernel_rfl) (by kernel_rfl) (by kernel_rfl) (fun _ _ _ h => h) (Or.inl ⟨by rfl, ?_⟩) (by assumption) ?_
            rotate_left
            · (intro w_ hSw_; (try dsimp only at hSw_); go_simp; try with_reducible rfl)
            try simp only [Act.put, List.setIfInBounds_toArray, List.set_cons_zero, List.set_cons_succ, List.getElem_toArray, List.getElem_cons_zero, List.getElem_cons_succ]
            refine wpAnyH_ready (rs := [20]) (by kernel_rfl) (by simp) ?_
            refine AllReadyH.cons rfl (fun K hK => ?_) AllReadyH.nil
            go_simp
            have hst : ∀ q, q ≠ w.heap.size + 1 + 1 → (w5.setCell ⟨w.heap.size + 1 + 1, 1, none⟩ (.slice (some ⟨g5, 0, none⟩) (j + 1) c5)).heap[q]? = w5.heap[q]? := fun q hq => heap_setCell_other _ _ _ _ hq
            have y1 := (World.cell?_of_block (a := ⟨w.heap.size, 1, none⟩) (hst w.heap.size (by omega))).trans z1
            have y2 := (World.cell?_of_block (a := ⟨b, off + j * 2, none⟩) (hst b (by omega))).trans z2
            have y3 := (World.cell?_of_block (a := ⟨b, off + j * 2 + 1, none⟩) (hst b (by omega))).trans z3
            refine hK.out _ _ ⟨y1, y2, y3⟩ (fun hHeld => ?_)
            clear hK K
            try simp only [Act.put, List.setIfInBounds_toArray, List.set_cons_zero, List.set_cons_succ, List.getElem_toArray, List.getElem_cons_zero, List.getElem_cons_succ]
            refine wpAnyH_done (by kernel_rfl) (NoPanic.normal ?_) _
            rw [List.nil_append] at ho4
            have HR : Hid _ := copy_leaf2 (d := (d1, d2)) hlt HM.out HV0.out HVR.out HVO.out HKP.out hHw hH3 HROW.out.1 HROW.out.2.1 HROW.out.2.2.1 HROW.out.2.2.2 HBEL.out HZS.out hb4 (OwB.of HZB.out ho4) (Below.new _) ho5 hg5 ha5
            clear ho4 hg4 hb4 ho5 hg5 ha5 far hst
            go_wp2
            refine ⟨?_, by simp [intOf]; omega⟩
            first | exact HR.out | exact ⟨_, _, _, _, _, _, _, _, _, _, _, _, _, _, _, _, _, _, _, _, _, _, _, _, _, _, _, _, HR.out, rfl⟩ | exact ⟨_, _, _, _, _, _, _, _, _, _, _, _, _, _, _, _, _, _, _, _, _, _, _, _, _, _, _, HR.out, rfl⟩ | exact ⟨_, _, _, _, _, _, _, _, _, _, _, _, _, _, _, _, _, _, _, _, _, _, _, _, _, _, _, _, _, HR.out, rfl⟩ | exact ⟨_, _, _, _, _, _, _, _, _, _, _, _, _, _, _, _, _, _, _, _, _, _, _, _, _, _, HR.out, rfl⟩ | exact ⟨_, _, _, _, _, _, _, _, _, _, _, _, _, _, _, _, _, _, _, _, _, _, _, _, _, _, _, _, _, _, HR.out, rfl⟩
          refine AllReadyH.cons rfl (fun K hK => ?_) AllReadyH.nil
          refine step_app rfl (.tmp 40) (.tmp 46) (by rfl) wr.heap.size _ [] zs (by rfl) HOE.out va vn vc (by rfl) HVN.out HRR.out (Nat.zero_le _) hzl HSZ.out HVH.out ?_
          intro v4 w4 ho4 hg4
          obtain ⟨a4, n4, c4, rfl⟩ := Owns.sliced ho4
          have hb4 : Below wr.heap.size wr w4 := below_mark HBE0.out hg4 HSZ.out (fun q hq => by have := slice_block hq; simp at this; omega)
          have hs4 := hb4.size
          have u1 := (hb4.cell (p := ⟨w.heap.size, 1, none⟩) hw0).trans c01
          have u2 := (hb4.cell (p := ⟨b, off + j * 2, none⟩) hbw).trans hc1
          have u3 := (hb4.cell (p := ⟨b, off + j * 2 + 1, none⟩) hbw).trans hc2
          have uo := (VarD.step HVO.out hb4).c1
          have n4a : ¬ w.heap.size + 1 + 1 = w4.heap.size := by omega
          have n4b : ¬ w.heap.size = w4.heap.size := by omega
          have n4c : ¬ b = w4.heap.size := by omega
          refine hK.out _ _ ⟨u1, u2, u3⟩ (fun hHeld => ?_)
          clear hK K
          try simp only [Act.put, List.setIfInBounds_toArray, List.set_cons_zero, List.set_cons_succ, List.getElem_toArray, List.getElem_cons_zero, List.getElem_cons_succ]
          refine wpAnyH_take (i := 16) (v := ?_) rfl (by kernel_rfl) (by kernel_rfl) (by kernel_rfl) (fun _ _ _ h => h) (Or.inl ⟨by rfl, ?_⟩) (by assumption) ?_
          rotate_left
          · (intro w_ hSw_; (try dsimp only at hSw_); go_simp; try with_reducible rfl)
          try simp only [Act.put, List.setIfInBounds_toArray, List.set_cons_zero, List.set_cons_succ, List.getElem_toArray, List.getElem_cons_zero, List.getElem_cons_succ]
          refine wpAnyH_ready (rs := [1, 17]) (by kernel_rfl) (by simp) ?_
          refine AllReadyH.cons rfl (fun K hK => ?_) ?_
          · go_simp
            refine hK.out _ _ (by assumption) (fun hHeld => ?_)
            clear hK K
            try simp only [Act.put, List.setIfInBounds_toArray, List.set_cons_zero, List.set_cons_succ, List.getElem_toArray, List.getElem_cons_zero, List.getElem_cons_succ]
            refine wpAnyH_ready (rs := [17]) (by kernel_rfl) (by simp) ?_
            refine AllReadyH.cons rfl (fun K hK => ?_) AllReadyH.nil
            go_simp
            have hb5 := Below.new (w := w4) (.cells #[.int .i64 p, .slice a4 n4 c4] 75)
            have hb45 := hb4.trans (hb5.mono hs4)
            have x1 := (hb45.cell (p := ⟨w.heap.size, 1, none⟩) hw0).trans c01
            have x2 := (hb45.cell (p := ⟨b, off + j * 2, none⟩) hbw).trans hc1
            have x3 := (hb45.cell (p := ⟨b, off + j * 2 + 1, none⟩) hbw).trans hc2
            have xo := (VarD.step HVO.out hb45).c1
            refine hK.out _ _ ⟨x1, x2, x3⟩ (fun hHeld => ?_)
            clear hK K
            try simp only [Act.put, List.setIfInBounds_toArray, List.set_cons_zero, List.set_cons_succ, List.getElem_toArray, List.getElem_cons_zero, List.getElem_cons_succ]
            refine wpAnyH_ready (rs := [18]) (by kernel_rfl) (by simp) ?_
            refine AllReadyH.cons rfl (fun K hK => ?_) AllReadyH.nil
            refine step_appW rfl (.tmp 33) (.tmp 49) (by rfl) H _ j C (by rfl) (ownsRow_kept2 HRK.out (fun q hq => hb45.block q (HRK.out.lt q hq).2)) w4.heap.size p (.slice a4 n4 c4) (by rfl) (heap_alloc_new _ _) rfl hkn (by simp; omega) ?_
            intro g5 c5 w5 ho5 hg5 ha5 hl5
            have far : ∀ q, q < H → w5.heap[q]? = wr.heap[q]? := fun q hq => (hg5.block q (by simp; omega) (fun e => HXB.out q hq e.symm)).trans (hb45.block q (by omega))
            have z1 := (World.cell?_of_block (w := wr) (a := ⟨w.heap.size, 1, none⟩) (far w.heap.size (by omega))).trans c01
            have z2 := (World.cell?_of_block (w := wr) (a := ⟨b, off + j * 2, none⟩) (far b (by omega))).trans hc1
            have z3 := (World.cell?_of_block (w := wr) (a := ⟨b, off + j * 2 + 1, none⟩) (far b (by omega))).trans hc2
            have zo := (World.cell?_of_block (w := wr) (a := ⟨w.heap.size + 1 + 1, 1, none⟩) (far (w.heap.size + 1 + 1) (by omega))).trans o0
            have zf := (World.frozen?_of_block (w := wr) (a := ⟨w.heap.size + 1 + 1, 1, none⟩) (far (w.heap.size + 1 + 1) (by omega))).trans of
            refine hK.out _ _ ⟨z1, z2, z3⟩ (fun hHeld => ?_)
            clear hK K
            try simp only [Act.put, List.setIfInBounds_toArray, List.set_cons_zero, List.set_cons_succ, List.getElem_toArray, List.getElem_cons_zero, List.getElem_cons_succ]
            refine wpAnyH_take (i := 19) (v := ?_) rfl (by kernel_rfl) (by kernel_rfl) (by kernel_rfl) (fun _ _ _ h => h) (Or.inl ⟨by rfl, ?_⟩) (by assumption) ?_
            rotate_left
            · (intro w_ hSw_; (try dsimp only at hSw_); go_simp; try with_reducible rfl)
            try simp only [Act.put, List.setIfInBounds_toArray, List.set_cons_zero, List.set_cons_succ, List.getElem_toArray, List.getElem_cons_zero, List.getElem_cons_succ]
            refine wpAnyH_ready (rs := [20]) (by kernel_rfl) (by simp) ?_
            refine AllReadyH.cons rfl (fun K hK => ?_) AllReadyH.nil
            go_simp
            have hst : ∀ q, q ≠ w.heap.size + 1 + 1 → (w5.setCell ⟨w.heap.size + 1 + 1, 1, none⟩ (.slice (some ⟨g5, 0, none⟩) (j + 1) c5)).heap[q]? = w5.heap[q]? := fun q hq => heap_setCell_other _ _ _ _ hq
            have y1 := (World.cell?_of_block (a := ⟨w.heap.size, 1, none⟩) (hst w.heap.size (by omega))).trans z1
            have y2 := (World.cell?_of_block (a := ⟨b, off + j * 2, none⟩) (hst b (by omega))).trans z2
            have y3 := (World.cell?_of_block (a := ⟨b, off + j * 2 + 1, none⟩) (hst b (by omega))).trans z3
            refine hK.out _ _ ⟨y1, y2, y3⟩ (fun hHeld => ?_)
            clear hK K
            try simp only [Act.put, List.setIfInBounds_toArray, List.set_cons_zero, List.set_cons_succ, List.getElem_toArray, List.getElem_cons_zero, List.getElem_cons_succ]
            refine wpAnyH_done (by kernel_rfl) (NoPanic.normal ?_) _
            rw [List.nil_append] at ho4
            have HR : Hid _ := copy_leaf2 (d := (d1, d2)) hlt HM.out HV0.out HVR.out HVO.out HKP.out hHw hH3 HROW.out.1 HROW.out.2.1 HROW.out.2.2.1 HROW.out.2.2.2 HBEL.out HZS.out hb4 (OwB.of HZB.out ho4) (Below.new _) ho5 hg5 ha5
            clear ho4 hg4 hb4 ho5 hg5 ha5 far hst
            go_wp2
            refine ⟨?_, by simp [intOf]; omega⟩
            first | exact HR.out | exact ⟨_, _, _, _, _, _, _, _, _, _, _, _, _, _, _, _, _, _, _, _, _, _, _, _, _, _, _, _, HR.out, rfl⟩ | exact ⟨_, _, _, _, _, _, _, _, _, _, _, _, _, _, _, _, _, _, _, _, _, _, _, _, _, _, _, HR.out, rfl⟩ | exact ⟨_, _, _, _, _, _, _, _, _, _, _, _, _, _, _, _, _, _, _, _, _, _, _, _, _, _, _, _, _, HR.out, rfl⟩ | exact ⟨_, _, _, _, _, _, _, _, _, _, _, _, _, _, _, _, _, _, _, _, _, _, _, _, _, _, HR.out, rfl⟩ | exact ⟨_, _, _, _, _, _, _, _, _, _, _, _, _, _, _, _, _, _, _, _, _, _, _, _, _, _, _, _, _, _, HR.out, rfl⟩
          refine AllReadyH.cons rfl (fun K hK => ?_) AllReadyH.nil
          go_simp
          have hb5 := Below.new (w := w4) (.cells #[.int .i64 p, .slice a4 n4 c4] 75)
          have hb45 := hb4.trans (hb5.mono hs4)
          have x1 := (hb45.cell (p := ⟨w.heap.size, 1, none⟩) hw0).trans c01
          have x2 := (hb45.cell (p := ⟨b, off + j * 2, none⟩) hbw).trans hc1
          have x3 := (hb45.cell (p := ⟨b, off + j * 2 + 1, none⟩) hbw).trans hc2
          have xo := (VarD.step HVO.out hb45).c1
          refine hK.out _ _ ⟨x1, x2, x3⟩ (fun hHeld => ?_)
          clear hK K
          try simp only [Act.put, List.setIfInBounds_toArray, List.set_cons_zero, List.set_cons_succ, List.getElem_toArray, List.getElem_cons_zero, List.getElem_cons_succ]
          refine wpAnyH_ready (rs := [1]) (by kernel_rfl) (by simp) ?_
          refine AllReadyH.cons rfl (fun K hK => ?_) AllReadyH.nil
          go_simp
          refine hK.out _ _ (by assumption) (fun hHeld => ?_)
          clear hK K
          try simp only [Act.put, List.setIfInBounds_toArray, List.set_cons_zero, List.set_cons_succ, List.getElem_toArray, List.getElem_cons_zero, List.getElem_cons_succ]
          refine wpAnyH_ready (rs := [18]) (by kernel_rfl) (by simp) ?_
          refine AllReadyH.cons rfl (fun K hK => ?_) AllReadyH.nil
          refine step_appW rfl (.tmp 33) (.tmp 49) (by rfl) H _ j C (by rfl) (ownsRow_kept2 HRK.out (fun q hq => hb45.block q (HRK.out.lt q hq).2)) w4.heap.size p (.slice a4 n4 c4) (by rfl) (heap_alloc_new _ _) rfl hkn (by simp; omega) ?_
          intro g5 c5 w5 ho5 hg5 ha5 hl5
          have far : ∀ q, q < H → w5.heap[q]? = wr.heap[q]? := fun q hq => (hg5.block q (by simp; omega) (fun e => HXB.out q hq e.symm)).trans (hb45.block q (by omega))
          have z1 := (World.cell?_of_block (w := wr) (a := ⟨w.heap.size, 1, none⟩) (far w.heap.size (by omega))).trans c01
          have z2 := (World.cell?_of_block (w := wr) (a := ⟨b, off + j * 2, none⟩) (far b (by omega))).trans hc1
          have z3 := (World.cell?_of_block (w := wr) (a := ⟨b, off + j * 2 + 1, none⟩) (far b (by omega))).trans hc2
          have zo := (World.cell?_of_block (w := wr) (a := ⟨w.heap.size + 1 + 1, 1, none⟩) (far (w.heap.size + 1 + 1) (by omega))).trans o0
          have zf := (World.frozen?_of_block (w := wr) (a := ⟨w.heap.size + 1 + 1, 1, none⟩) (far (w.heap.size + 1 + 1) (by omega))).trans of
          refine hK.out _ _ ⟨z1, z2, z3⟩ (fun hHeld => ?_)
          clear hK K
          try simp only [Act.put, List.setIfInBounds_toArray, List.set_cons_zero, List.set_cons_succ, List.getElem_toArray, List.getElem_cons_zero, List.getElem_cons_succ]
          refine wpAnyH_take (i := 19) (v := ?_) rfl (by kernel_rfl) (by kernel_rfl) (by kernel_rfl) (fun _ _ _ h => h) (Or.inl ⟨by rfl, ?_⟩) (by assumption) ?_
          rotate_left
          · (intro w_ hSw_; (try dsimp only at hSw_); go_simp; try with_reducible rfl)
          try simp only [Act.put, List.setIfInBounds_toArray, List.set_cons_zero, List.set_cons_succ, List.getElem_toArray, List.getElem_cons_zero, List.getElem_cons_succ]
          refine wpAnyH_ready (rs := [20]) (by kernel_rfl) (by simp) ?_
          refine AllReadyH.cons rfl (fun K hK => ?_) AllReadyH.nil
          go_simp
          have hst : ∀ q, q ≠ w.heap.size + 1 + 1 → (w5.setCell ⟨w.heap.size + 1 + 1, 1, none⟩ (.slice (some ⟨g5, 0, none⟩) (j + 1) c5)).heap[q]? = w5.heap[q]? := fun q hq => heap_setCell_other _ _ _ _ hq
          have y1 := (World.cell?_of_block (a := ⟨w.heap.size, 1, none⟩) (hst w.heap.size (by omega))).trans z1
          have y2 := (World.cell?_of_block (a := ⟨b, off + j * 2, none⟩) (hst b (by omega))).trans z2
          have y3 := (World.cell?_of_block (a := ⟨b, off + j * 2 + 1, none⟩) (hst b (by omega))).trans z3
          refine hK.out _ _ ⟨y1, y2, y3⟩ (fun hHeld => ?_)
          clear hK K
          try simp only [Act.put, List.setIfInBounds_toArray, List.set_cons_zero, List.set_cons_succ, List.getElem_toArray, List.getElem_cons_zero, List.getElem_cons_succ]
          refine wpAnyH_done (by kernel_rfl) (NoPanic.normal ?_) _
          rw [List.nil_append] at ho4
          have HR : Hid _ := copy_leaf2 (d := (d1, d2)) hlt HM.out HV0.out HVR.out HVO.out HKP.out hHw hH3 HROW.out.1 HROW.out.2.1 HROW.out.2.2.1 HROW.out.2.2.2 HBEL.out HZS.out hb4 (OwB.of HZB.out ho4) (Below.new _) ho5 hg5 ha5
          clear ho4 hg4 hb4 ho5 hg5 ha5 far hst
          go_wp2
          refine ⟨?_, by simp [intOf]; omega⟩
          first | exact HR.out | exact ⟨_, _, _, _, _, _, _, _, _, _, _, _, _, _, _, _, _, _, _, _, _, _, _, _, _, _, _, _, HR.out, rfl⟩ | exact ⟨_, _, _, _, _, _, _, _, _, _, _, _, _, _, _, _, _, _, _, _, _, _, _, _, _, _, _, HR.out, rfl⟩ | exact ⟨_, _, _, _, _, _, _, _, _, _, _, _, _, _, _, _, _, _, _, _, _, _, _, _, _, _, _, _, _, HR.out, rfl⟩ | exact ⟨_, _, _, _, _, _, _, _, _, _, _, _, _, _, _, _, _, _, _, _, _, _, _, _, _, _, HR.out, rfl⟩ | exact ⟨_, _, _, _, _, _, _, _, _, _, _, _, _, _, _, _, _, _, _, _, _, _, _, _, _, _, _, _, _, _, HR.out, rfl⟩
        · have hjm : j = m := by omega
          subst hjm
          have hdt : d2.take j = d2 := List.take_of_length_le (by rw [← HM.out]; exact Nat.le_refl _)
          replace hG : GrWs wr H y d2 := by rw [← hdt]; exact hG
          obtain ⟨sx, cx, rfl⟩ := hK.sliced
          obtain ⟨ya2, yn2, yc2, rfl⟩ : ∃ a n c, y = .slice a n c := by obtain ⟨xs', C', _, h', _⟩ := hG; exact row_sliced h'
          have e0 := vR.c0
          have e1 := vR.c1
          have f0 := vR.f 0
          have f1 := vR.f 1
          have o0 := vO.c0
          have o1 := vO.c1
          have HK : Hid (KpBB wr (w.heap.size + 3) H _ d1) := hK
          have HGW : Hid (GrWs wr H _ d2) := hG
          have HBE : Hid _ := hbel
          clear hK hG v0 vR vO hbel hdt
          go_wp2
          refine bodyPost_ret (v := .agg #[.slice sx d1.length cx, .slice ya2 yn2 yc2]) (by simp [results, Tryd.results47, go_sem, e0, e1]) rfl ?_
          refine ⟨.slice sx d1.length cx, .slice ya2 yn2 yc2, rfl, H, ?_, ?_, ⟨by omega, by simp; omega⟩, ?_⟩
          · exact (KpBB.same HK.out (SameIn.trans (SameIn.set (l := w.heap.size + 3) (h := H) (p := ⟨w.heap.size + 1, 0, none⟩) (.inl (by show w.heap.size + 1 < w.heap.size + 3; omega))) (SameIn.set (l := w.heap.size + 3) (h := H) (p := ⟨w.heap.size + 1, 1, none⟩) (.inl (by show w.heap.size + 1 < w.heap.size + 3; omega))))).wide (by omega)
          · exact (GrWs.same HGW.out (SameIn.set (p := ⟨w.heap.size + 1, 0, none⟩) (.inl (by show w.heap.size + 1 < H; omega)))).same (SameIn.set (p := ⟨w.heap.size + 1, 1, none⟩) (.inl (by show w.heap.size + 1 < H; omega)))
          · exact (HBE.out.setCell (by show w.heap.size ≤ w.heap.size + 1; omega) _).setCell (by show w.heap.size ≤ w.heap.size + 1; omega) _
end Go.Proofs.YtjhaanenkeceiaaDoor
end
