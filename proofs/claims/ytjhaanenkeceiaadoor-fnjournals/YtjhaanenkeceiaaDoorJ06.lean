/- Joined: Draw2. -/
import Derived.Test.YtjhaanenkeceiaaDoorJ02
import Derived.Test.YtjhaanenkeceiaaDoorJ03
import Derived.Test.YtjhaanenkeceiaaDoorJ05

section
/- What is drawn in chapter 2: sectors; lists of sectors in memory of their own, laid out so that the walk of a drawn disk may write into them. No condition. -/
namespace Go.Proofs.YtjhaanenkeceiaaDoor
open Go.RowKit
set_option linter.unusedVariables false
set_option linter.unusedSimpArgs false
attribute [local go_sem ↓] Go.wp_at_zero Go.wp_at_succ

set_option maxHeartbeats 2000000 in
theorem specNewK_any (m : Nat) (hm : m ≤ 2000) (w : World) :
    Calls Tryd.prog 69 #[.int .i64 m] w fun e w' => ∃ x, e = .returned (.tuple #[.agg #[x, .slice none 0 0], .bool true]) ∧ KpBB w' w.heap.size w'.heap.size x (List.replicate m zsec) ∧ Below w.heap.size w w' := by
  go_enter Tryd.func69, Tryd.ntmps69
  go_wp2
  have HS : Hid (SRel w m (.int .i64 0) ((w.alloc (.cells #[.slice none 0 0, .slice none 0 0] 26)).alloc (.cells #[.slice none 0 0, .slice none 0 0] 26))) :=
    ⟨0, .slice none 0 0, Nat.zero_le _, rfl, (Below.heap_alloc _ _ _ (by simp)).trans (heap_alloc_new w _), by have := heap_alloc_new (w.alloc (.cells #[.slice none 0 0, .slice none 0 0] 26)) (.cells #[.slice none 0 0, .slice none 0 0] 26); simpa using this, GrBB_nil _ _, ((Below.refl _ _).alloc (Nat.le_refl _) _).alloc (by simp) _⟩
  go_loopw [5] (fun i wr => SRel w m i wr) (fun i _ => m - (intOf i).toNat)
  case atStart => exact HS.out
  case round =>
    clear HS
    obtain ⟨k, x, hk, rfl, g0, g1, HGR, hbel⟩ := hrel
    have c10 : wr.cell? ⟨w.heap.size + 1, 0, none⟩ = some x := by rw [cell_of_row _ _ _ _ _ _ g1]; rfl
    have c11 : wr.cell? ⟨w.heap.size + 1, 1, none⟩ = some (.slice none 0 0) := by rw [cell_of_row _ _ _ _ _ _ g1]; rfl
    have f10 : wr.frozen? ⟨w.heap.size + 1, 0, none⟩ = false := frozen_of_row _ _ _ _ _ g1
    have hq := lt_of_block g1
    by_cases hlt : k < m
    · have HG : Hid _ := And.intro g0 g1
      have hne : ¬ w.heap.size + 1 = wr.heap.size := by omega
      obtain ⟨i0, hi, hz0, hz1, hz2⟩ := info_parts Tryd.infoB
      obtain ⟨w2, hrun, ho2, hg2⟩ := run_make_full (P := Tryd.prog) wr.drew wr.heap.size 22 5 i0 (.int .u8 0) 1 Tryd.underlying22 hi hz0 hz1 .i64 .i64 32 (by rw [hz2]; omega) (by unfold maxLen; omega) (Nat.le_refl _)
      have hb2 : Below wr.heap.size wr w2 := (Below.drew (Below.refl _ _)).grown hg2 (Nat.le_refl _) (fun k h => by cases h)
      rw [madeCells_bytes] at ho2
      have hrun' : (Instr.makeSlice 22 (.int .i64 32) (.int .i64 32)).run Tryd.prog wr.drew = .ok (.slice (some ⟨wr.heap.size, 0, none⟩) 32 32) w2 := hrun
      have k10 : w2.cell? ⟨w.heap.size + 1, 0, none⟩ = some x := (hb2.cell (p := ⟨w.heap.size + 1, 0, none⟩) hq).trans c10
      have kf10 : w2.frozen? ⟨w.heap.size + 1, 0, none⟩ = false := (hb2.frozen (p := ⟨w.heap.size + 1, 0, none⟩) hq).trans f10
      have hs2 : wr.heap.size < w2.heap.size := (ho2.lt _ rfl).2
      obtain ⟨vs, hvl, hrow, he⟩ := HGR.out
      obtain ⟨xa, xc, hxs⟩ := HGR.out.sliced
      have hrz : (List.replicate k zsec).length = k := by simp
      rw [hrz] at hxs
      have hxb : x.ownBlock ≠ some (w.heap.size + 1) := fun e => by have := (hrow.lt _ e).1; omega
      have hxb0 : x.ownBlock ≠ some w.heap.size := fun e => by have := (hrow.lt _ e).1; omega
      have HO2 : Hid (w2.ownsRow (w.heap.size + 2) 22 1 x k vs) := by
        rw [← hrz]; exact ownsRow_same (h := wr.heap.size) hrow (fun q hq => (hrow.lt q hq).2) (SameIn.ofBelow hb2 (Nat.le_refl _))
      have HZ2 : Hid (Owns w2 wr.heap.size (.slice (some ⟨wr.heap.size, 0, none⟩) 32 32) zsec) := by show Owns _ _ _ _; unfold Owns; simpa [zsec] using ho2
      have HROW : Hid _ := And.intro hvl (And.intro hrow he)
      have HXB : Hid _ := And.intro hxb hxb0
      have HSZ : Hid (w.heap.size + 2 ≤ (w2.alloc (.cells #[.slice (some ⟨wr.heap.size, 0, none⟩) 32 32] 22)).heap.size) := by show _ ≤ _; simp; omega
      have hne3 : ¬ w.heap.size + 1 = w2.heap.size := by omega
      have hq2 : w.heap.size + 1 < w2.heap.size := by omega
      have hkn : k ≤ 4194304 := by omega
      have HB2 : Hid _ := hb2
      subst hxs
      clear g0 g1 ho2 hvl hrow he hrun hg2 hxb hxb0 hb2 hi hz0 hz1 hz2 HGR
      go_wp2
      go_region_law (first | (refine step_appL rfl (.tmp 19) (.tmp 21) (by rfl) (w.heap.size + 2) _ k vs (by rfl) (World.ownsRow.alloc HO2.out _) w2.heap.size (.slice (some ⟨wr.heap.size, 0, none⟩) 32 32) (by rfl) (World.cell?_alloc_at _ _ _ _ rfl) rfl hkn HSZ.out ?_; intro g5 c5 w5 ho5 hg5 ha5 hl5; have hk5 := far_kept (HB2.out.alloc (Nat.le_of_lt hs2) _) hg5 HXB.out.1 hq; have e50 := (World.cell?_of_block (w := wr) (w' := w5) (a := ⟨w.heap.size + 1, 0, none⟩) hk5).trans c10; have h50 := (World.frozen?_of_block (w := wr) (w' := w5) (a := ⟨w.heap.size + 1, 0, none⟩) hk5).trans f10))
      all_goals
        have hws : w.heap.size < wr.heap.size := by omega
        have hbw : Below wr.heap.size wr (w2.alloc (.cells #[.slice (some ⟨wr.heap.size, 0, none⟩) 32 32] 22)) := HB2.out.alloc (Nat.le_of_lt hs2) _
        have hbz : Below w2.heap.size w2 (w2.alloc (.cells #[.slice (some ⟨wr.heap.size, 0, none⟩) 32 32] 22)) := (Below.refl _ _).alloc (Nat.le_refl _) _
        have HGN : Hid (GrBB w5 (w.heap.size + 2) (.slice (some ⟨g5, 0, none⟩) (k + 1) c5) (List.replicate (k + 1) zsec)) := by
          have hz2 : OwB (w2.alloc (.cells #[.slice (some ⟨wr.heap.size, 0, none⟩) 32 32] 22)) wr.heap.size w2.heap.size (.slice (some ⟨wr.heap.size, 0, none⟩) 32 32) zsec := (OwB.of (isBytes_zeros 32) HZ2.out).same (SameIn.ofBelow hbz (Nat.le_refl _))
          have := GrBB.next (zss := List.replicate k zsec) HROW.out.1 HROW.out.2.1 HROW.out.2.2 hbw (by rw [hrz]; exact ho5) hg5 ha5 (hz2.rd.wide (by omega) (by simp)) (fun q hq => by have := slice_block hq; simp at this; simp; omega)
          rw [hrz, ← List.replicate_succ'] at this
          exact this
        have HR : Hid (SRel w m (.int .i64 ((k : Int) + 1)) (w5.setCell ⟨w.heap.size + 1, 0, none⟩ (.slice (some ⟨g5, 0, none⟩) (k + 1) c5))) := by
          refine ⟨k + 1, .slice (some ⟨g5, 0, none⟩) (k + 1) c5, by omega, by go_num, ?_, ?_, HGN.out.same (SameIn.set (.inl (by simp))), ?_⟩
          · rw [heap_setCell_other _ _ _ _ (by simp), far_kept hbw hg5 HXB.out.2 hws]; exact HG.out.1
          · rw [heap_setCell_same _ _ _ _ _ _ (hk5.trans HG.out.2)]; rfl
          · exact Below.setCell (hbel.trans ⟨hg5.os.trans hbw.os, hg5.tape.trans hbw.tape, hg5.output.trans hbw.output, Nat.le_trans hbw.size hg5.size, fun q hq => far_kept hbw hg5 (fun e => by have := (HROW.out.2.1.lt q e).1; omega) (by have := hbel.size; omega)⟩) (by simp) _
        clear HGN HG HROW HXB HB2 HZ2 HO2 HSZ ho5 hg5 ha5 hk5 hbw hbz
        go_wp2
        refine ⟨?_, by simp [intOf]; omega⟩
        first | exact HR.out | exact ⟨_, _, _, _, _, _, _, _, _, _, _, _, HR.out, rfl⟩
    · have hkm : k = m := by omega
      subst hkm
      have c00 : wr.cell? ⟨w.heap.size, 0, none⟩ = some (.slice none 0 0) := by rw [cell_of_row _ _ _ _ _ _ g0]; rfl
      have c01 : wr.cell? ⟨w.heap.size, 1, none⟩ = some (.slice none 0 0) := by rw [cell_of_row _ _ _ _ _ _ g0]; rfl
      have f00 : wr.frozen? ⟨w.heap.size, 0, none⟩ = false := frozen_of_row _ _ _ _ _ g0
      have f01 : wr.frozen? ⟨w.heap.size, 1, none⟩ = false := frozen_of_row _ _ _ _ _ g0
      have hws : w.heap.size < wr.heap.size := by omega
      obtain ⟨xa, xc, hxs⟩ := HGR.out.sliced
      rw [show (List.replicate k zsec).length = k by simp] at hxs
      subst hxs
      have HBE : Hid _ := hbel
      clear g0 g1 hbel
      go_wp2
      refine bodyPost_ret (v := .tuple #[.agg #[.slice xa k xc, .slice none 0 0], .bool true]) (by simp [results, Tryd.results69, go_sem, c00, c01]) rfl ⟨_, rfl, ?_, ?_⟩
      · have h1 := (GrBB.kp HGR.out).same (SameIn.trans (SameIn.set (p := ⟨w.heap.size, 0, none⟩) (u := .slice xa k xc) (.inl (by simp))) (SameIn.set (p := ⟨w.heap.size, 1, none⟩) (u := .slice none 0 0) (.inl (by simp))))
        simpa using h1.wide (l' := w.heap.size) (by omega)
      · exact (HBE.out.setCell (by simp) _).setCell (by simp) _

theorem RdB.blk {w w' : World} {l h : Nat} {v : Value} {zs : List Int} (r : RdB w l h v zs) (hk : ∀ g, v.ownBlock = some g → w'.heap[g]? = w.heap[g]?) : RdB w' l h v zs := by
  obtain ⟨hb, a, len, cap, hv, hl, hh, hc⟩ := r
  refine ⟨hb, a, len, cap, hv, hl, hh, ?_⟩
  rcases hc with h0 | ⟨b, off, ha, h1, h2, hc⟩
  · exact .inl h0
  · exact .inr ⟨b, off, ha, h1, h2, fun i hi => (World.cell?_of_block (w := w) (a := ⟨b, off + i, none⟩) (hk b (by rw [hv, ha]; rfl))).trans (hc i hi)⟩
theorem RdB.own {w : World} {l h : Nat} {v : Value} {zs : List Int} (r : RdB w l h v zs) (hz : 0 < zs.length) : ∀ g, v.ownBlock = some g → l ≤ g ∧ g < h := by
  obtain ⟨hb, a, len, cap, hv, hl, hh, hc⟩ := r
  intro g hg
  rcases hc with h0 | ⟨b, off, ha, h1, h2, hc⟩
  · rw [h0] at hz; simp at hz
  · rw [hv, ha] at hg
    have e : b = g := by have := slice_block hg; simpa using this
    subst e
    exact ⟨h1, h2⟩

/-- A list of sectors of the call's own in blocks l .. h-1, nothing of it in block b. -/
def KpE (w : World) (l h b : Nat) (v : Value) (zss : List (List Int)) : Prop :=
  ∃ vs : List Value, vs.length = zss.length ∧ w.ownsRow l 22 1 v zss.length vs ∧ (∀ k, v.ownBlock = some k → k < h ∧ k ≠ b) ∧ ∀ i, i < zss.length → RdB w l h (vs[i]?.getD undef) (zss[i]?.getD []) ∧ ∀ g, (vs[i]?.getD undef).ownBlock = some g → l ≤ g ∧ g < h ∧ g ≠ b ∧ v.ownBlock ≠ some g
theorem KpBB.kpe {w : World} {l h b : Nat} {v : Value} {zss : List (List Int)} (o : KpBB w l h v zss) (hb : h ≤ b) (hw : Whole zss) : KpE w l h b v zss := by
  obtain ⟨vs, hl, ho, hbf, he⟩ := o
  refine ⟨vs, hl, ho, fun k hk => ⟨hbf k hk, by have := hbf k hk; omega⟩, fun i hi => ⟨(he i hi).1, fun g hg => ?_⟩⟩
  have h1 := (he i hi).1.own (by rw [hw i hi]; omega) g hg
  exact ⟨h1.1, h1.2, by omega, ((he i hi).2 g hg).2⟩
theorem KpE.keep {w w' : World} {l h b : Nat} {v : Value} {zss : List (List Int)} (o : KpE w l h b v zss) (hk : ∀ q, l ≤ q → q < h → q ≠ b → w'.heap[q]? = w.heap[q]?) : KpE w' l h b v zss := by
  obtain ⟨vs, hl, ho, hbf, he⟩ := o
  exact ⟨vs, hl, ownsRow_kept2 ho (fun q hq => hk q (ho.lt q hq).1 (hbf q hq).1 (hbf q hq).2), hbf, fun i hi => ⟨(he i hi).1.blk (fun g hg => hk g ((he i hi).2 g hg).1 ((he i hi).2 g hg).2.1 ((he i hi).2 g hg).2.2.1), (he i hi).2⟩⟩
theorem KpE.up {w : World} {l h h' b : Nat} {v : Value} {zss : List (List Int)} (o : KpE w l h b v zss) (h1 : h ≤ h') : KpE w l h' b v zss := by
  obtain ⟨vs, hl, ho, hbf, he⟩ := o
  exact ⟨vs, hl, ho, fun k hk => ⟨by have := (hbf k hk).1; omega, (hbf k hk).2⟩, fun i hi => ⟨(he i hi).1.wide (Nat.le_refl _) h1, fun g hg => by have := (he i hi).2 g hg; exact ⟨this.1, by omega, this.2.2⟩⟩⟩
theorem KpE.put {w : World} {l h b q gx c : Nat} {S : List (List Int)} {u : Value} {zs : List Int} (o : KpE w l h b (.slice (some ⟨gx, 0, none⟩) S.length c) S) (hq : q < S.length) (hu : RdB w l h u zs) (hg : ∀ g, u.ownBlock = some g → l ≤ g ∧ g < h ∧ g ≠ b ∧ g ≠ gx) :
    KpE (w.setCell ⟨gx, q, none⟩ u) l h b (.slice (some ⟨gx, 0, none⟩) S.length c) (S.set q zs) := by
  obtain ⟨vs, hl, ho, hb, he⟩ := o
  have hst := ho.stored q u
  have hset : ∀ p, p ≠ gx → (w.setCell ⟨gx, q, none⟩ u).heap[p]? = w.heap[p]? := fun p hp => heap_setCell_other _ _ _ _ hp
  have hgx : ∀ {g : Nat}, g ≠ gx → (Value.slice (some ⟨gx, 0, none⟩) S.length c).ownBlock ≠ some g := fun hne e => by have := slice_block e; simp at this; omega
  refine ⟨vs.set q u, by simp [hl], by simpa using hst.1, hb, fun i hi => ?_⟩
  rw [List.length_set] at hi
  rw [List.getElem?_set, List.getElem?_set]
  by_cases e : q = i
  · subst e
    rw [if_pos rfl, if_pos (by omega), if_pos rfl, if_pos hq, Option.getD_some, Option.getD_some]
    exact ⟨hu.blk (fun g hg' => hset g (hg g hg').2.2.2), fun g hg' => ⟨(hg g hg').1, (hg g hg').2.1, (hg g hg').2.2.1, hgx (hg g hg').2.2.2⟩⟩
  · rw [if_neg e, if_neg e]
    obtain ⟨h2, h3⟩ := he i hi
    refine ⟨h2.blk (fun g hg' => hset g (fun e' => (h3 g hg').2.2.2 ?_)), h3⟩
    subst e'; rfl
theorem KpE.rd {w : World} {l h b : Nat} {v : Value} {zss : List (List Int)} (o : KpE w l h b v zss) : RdBB w l h v zss := by
  obtain ⟨vs, hl, ho, hb, he⟩ := o
  exact KpBB.rd (h := h) ⟨vs, hl, ho, fun k hk => (hb k hk).1, fun i hi => ⟨(he i hi).1, fun g hg => ⟨((he i hi).2 g hg).2.1, ((he i hi).2 g hg).2.2.2⟩⟩⟩
theorem KpE.sliced {w : World} {l h b : Nat} {v : Value} {zss : List (List Int)} (o : KpE w l h b v zss) : ∃ a c, v = .slice a zss.length c := by
  obtain ⟨vs, hl, ho, _⟩ := o
  rcases ho.2 with ⟨h0, hz⟩ | ⟨g, c, cur, h0, _⟩
  · exact ⟨none, 0, by rw [h0, hz]⟩
  · exact ⟨_, _, h0⟩
theorem Whole.put {S : List (List Int)} {zs : List Int} (h : Whole S) (q : Nat) (hz : zs.length = 32) : Whole (S.set q zs) := by
  intro i hi
  rw [List.length_set] at hi
  rw [List.getElem?_set]
  by_cases e : q = i
  · subst e; rw [if_pos rfl, if_pos hi]; exact hz
  · rw [if_neg e]; exact h i hi

/-- One more write was appended, in a world in which blocks below those of the list may have turned. -/
theorem GrWs.next2 {w wa w' : World} {l g cap : Nat} {v u : Value} {p : Int} {ws : List Wt} {zs : List Int} {xs C : List Value} (hxl : xs.length = ws.length) (hrow : w.ownsRow l 75 2 v ws.length C)
    (hC : ∀ i, i < ws.length → C[i * 2]? = some (.int .i64 (ws[i]?.getD (0, [])).1) ∧ C[i * 2 + 1]? = some (xs[i]?.getD undef))
    (he : ∀ i, i < ws.length → RdB w l w.heap.size (xs[i]?.getD undef) (ws[i]?.getD (0, [])).2 ∧ ∀ g, (xs[i]?.getD undef).ownBlock = some g → (l ≤ g ∧ g < w.heap.size) ∧ v.ownBlock ≠ some g) (hb : SameIn l w.heap.size w wa)
    (hr' : w'.ownsRow l 75 2 (.slice (some ⟨g, 0, none⟩) (ws.length + 1) cap) (ws.length + 1) (C ++ [.int .i64 p, u])) (hgr : wa.grownBy w' v.ownBlock) (hat : v.ownBlock = some g ∨ g = wa.heap.size)
    (hu : RdB wa l wa.heap.size u zs) (hua : ∀ q, u.ownBlock = some q → w.heap.size ≤ q ∧ q < wa.heap.size) (hlw : l ≤ w.heap.size) : GrWs w' l (.slice (some ⟨g, 0, none⟩) (ws.length + 1) cap) (ws ++ [(p, zs)]) := by
  have hs := hb.1
  have hs' := hgr.size
  have hCl : C.length = ws.length * 2 := hrow.1
  refine ⟨xs ++ [u], C ++ [.int .i64 p, u], by simp [hxl], by simpa using hr', fun i hi => ?_, fun i hi => ?_⟩
  · rw [List.length_append, List.length_singleton] at hi
    rw [getD_snoc, getD_snoc, List.getElem?_append, List.getElem?_append]
    by_cases h1 : i < ws.length
    · rw [if_pos (by omega), if_pos h1, if_pos (by omega), if_pos (by omega)]
      exact hC i h1
    · have e : i = ws.length := by omega
      subst e
      rw [if_neg (by omega), if_neg (by omega), if_pos rfl, if_neg (by omega), if_neg (by omega), if_pos hxl.symm]
      rw [show ws.length * 2 - C.length = 0 by omega, show ws.length * 2 + 1 - C.length = 1 by omega]
      exact ⟨rfl, rfl⟩
  · rw [List.length_append, List.length_singleton] at hi
    rw [getD_snoc, getD_snoc]
    by_cases h1 : i < ws.length
    · rw [if_pos (by omega), if_pos h1]
      obtain ⟨h2, h3⟩ := he i h1
      have hx : RdB w' l w.heap.size (xs[i]?.getD undef) (ws[i]?.getD (0, [])).2 := (h2.same hb).keep hgr hs (fun q hq => (h3 q hq).2)
      refine ⟨hx.wide (Nat.le_refl _) (by omega), fun q hq => ⟨by have := (h3 q hq).1; omega, fun e => ?_⟩⟩
      have e' : g = q := by have := slice_block e; simpa using this
      subst e'
      rcases hat with hat | hat
      · exact (h3 g hq).2 hat
      · have := (h3 g hq).1
        omega
    · have h4 : i = ws.length := by omega
      subst h4
      rw [if_neg (by omega), if_pos hxl.symm, if_neg (by omega), if_pos rfl]
      refine ⟨(hu.keep hgr (Nat.le_refl _) (fun q hq e => ?_)).wide (Nat.le_refl _) hs', fun q hq => ⟨by have := hua q hq; omega, fun e => ?_⟩⟩
      · have := (hua q hq).1
        have := (hrow.lt q e).2
        omega
      · have h5 := hua q hq
        have e' : g = q := by have := slice_block e; simpa using this
        subst e'
        rcases hat with hat | hat
        · have := (hrow.lt g hat).2; omega
        · omega
theorem Whole_rep (m : Nat) : Whole (List.replicate m zsec) := fun i hi => by
  have h : i < m := by simpa using hi
  rw [getD_rep m i zsec [] h]; simp [zsec]

/-- What holds at the head of each round. -/
def SecRel (w : World) (pb : Nat) (o i : Value) (wr : World) : Prop :=
  ∃ (k : Nat) (ys : List Int), k ≤ 32 ∧ i = .int .i64 k ∧ ys.length = k ∧ isBytes ys ∧ Owns wr w.heap.size o ys ∧ CurAt wr pb ∧ w.grownBy wr (some pb)

set_option maxHeartbeats 1000000 in
theorem sector_any (pb : Nat) (w : World) (h : CurAt w pb) :
    Calls Tryd.prog 72 #[.pointer (some ⟨pb, 0, none⟩)] w fun e w' => ∃ v ys, e = .returned v ∧ Owns w' w.heap.size v ys ∧ isBytes ys ∧ ys.length = 32 ∧ CurAt w' pb ∧ w.grownBy w' (some pb) := by
  have hpb := h.lt
  go_enter Tryd.func72, Tryd.ntmps72
  go_wp2
  go_loopw [3, 4] (fun o i wr => SecRel w pb o i wr) (fun _ i _ => 32 - (intOf i).toNat)
  case atStart => exact ⟨0, [], Nat.zero_le _, rfl, rfl, isBytes_nil, World.ownsRow_nil _ _ _ _, h, grown_refl _ _⟩
  case round =>
    clear h
    obtain ⟨k, ys, hk, rfl, hyl, hyb, hown, hcur, hgr⟩ := hrel
    have HO : Hid _ := hown
    have HGR : Hid _ := hgr
    have HB : Hid _ := hyb
    have HY : Hid _ := hyl
    clear hown hgr hyb hyl
    by_cases hlt : k < 32
    · go_wp2_with fail
      refine (byte_any pb _ hcur).mono ?_
      rintro e w2 ⟨x, rfl, hx0, hx1, hc2, hg2⟩
      have HO2 : Hid (Owns w2 w.heap.size u3 ys) := Owns.cur HO.out hg2 hpb
      have HG2 : Hid _ := grown_trans HGR.out hg2
      have hs2 := HG2.out.size
      go_wp2_with (at_builtin; go_must (refine wpList_app _ rfl (.tmp 9) (.tmp 13) rfl w.heap.size _ ys [x] rfl (HO2.out.alloc _) _ 1 1 rfl rfl (one_new _ x (by omega) (by omega)) (by have := HY.out; omega) (by simp) (by simp; omega) (fun h => by cases h) ?_; intro v3 w3 ho3 hg3))
      have HR : SecRel w pb v3 (.int .i64 ((k : Int) + 1)) w3 := by
        refine ⟨k + 1, ys ++ [x], by omega, by go_num, by simp [HY.out], isBytes_snoc HB.out hx0 hx1, ho3, ?_, ?_⟩
        · exact (hc2.alloc _).grown hg3 (fun q hq => by have := (HO2.out.lt q hq).1; omega)
        · exact grown_new (grown_alloc HG2.out _) hg3 (fun q hq => (HO2.out.lt q hq).1)
      refine ⟨?_, by simp [intOf]; omega⟩
      first | exact HR | exact ⟨_, _, HR, rfl, rfl⟩
    · go_wp2
      go_ret
      exact ⟨_, ys, rfl, HO.out, HB.out, by have := HY.out; omega, hcur, HGR.out⟩
end Go.Proofs.YtjhaanenkeceiaaDoor
end
