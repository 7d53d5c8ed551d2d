/- All that waits is made safe: the program's flush, over the disk of a journal of the call's own that is DiskOk. -/
import Derived.Test.YtjhaanenkeceiaaDoorImplFlush
import Derived.Test.YtjhaanenkeceiaaDoorJClone
import Derived.Deep.CutRange
import Derived.Deep.DrawnRows
import Derived.Stop.LaidErr
namespace Go.Proofs.YtjhaanenkeceiaaDoor
open Go.RowKit
set_option linter.unusedVariables false
set_option linter.unusedSimpArgs false
attribute [local go_sem ↓] Go.wp_at_zero Go.wp_at_succ

set_option maxHeartbeats 2000000 in
theorem makeSafeJ_any (P Q : Int) (b q c : Nat) (x y : Value) (zss : List (List Int)) (vs : List Value) (l h : Nat) (sl : Value) (zs : List Int) (l' h' : Nat) (w : World) (hv : VarJ 30 w b x y P Q) (o : OwX w l h x zss vs) (hq : q < zss.length)
    (hz : (zss[q]?.getD []).length = 32) (r : RdB w l' h' sl zs) (hl : zs.length = 32) (hc : c ≤ 32) (hh : h ≤ w.heap.size) (hh' : h' ≤ w.heap.size) (hn : zss.length ≤ 2000) :
    Calls Tryd.prog 78 #[.pointer (some ⟨b, 0, none⟩), .agg #[.int .i64 q, sl], .int .i64 c] w fun e w' => (∃ u, e = .returned u) ∧ OwX w' l h x (zss.set q (mixed (zss[q]?.getD []) zs c)) vs ∧ w.grownBy w' (vs[q]?.getD undef).ownBlock := by
  have b1 := Below.new (w := w) (.cells #[.int .i64 (q : Int), sl] 75)
  have o1 := o.same (SameIn.ofBelow b1 hh)
  have r1 := r.same (SameIn.ofBelow b1 hh')
  have v1 := hv.step b1
  have hgrow : w.grownBy (w.alloc (.cells #[.int .i64 (q : Int), sl] 75)) (vs[q]?.getD undef).ownBlock := World.grownBy_alloc w _ _
  obtain ⟨sa, sn, sc, rfl⟩ := r.sliced
  have q0 : (w.alloc (.cells #[.int .i64 (q : Int), .slice sa sn sc] 75)).cell? ⟨w.heap.size, 0, none⟩ = some (.int .i64 (q : Int)) := by rw [World.cell?_alloc_at _ _ _ _ rfl]; rfl
  have q1 : (w.alloc (.cells #[.int .i64 (q : Int), .slice sa sn sc] 75)).cell? ⟨w.heap.size, 1, none⟩ = some (.slice sa sn sc) := by rw [World.cell?_alloc_at _ _ _ _ rfl]; rfl
  generalize hw1 : w.alloc (.cells #[.int .i64 (q : Int), .slice sa sn sc] 75) = w1 at b1 o1 r1 v1 hgrow q0 q1
  have HW1 : Hid _ := hw1
  have s1 := b1.size
  obtain ⟨gr, cr, u, hxv, hcell, hue, hub, hput⟩ := OwX.put (w' := w1) (new := []) o1 hq
  subst hxv
  obtain ⟨hubb, huo, hubf⟩ := hub
  rcases huo.2 with ⟨_, h0⟩ | ⟨g, cap, cur, huv, hgl, hgh, hnc, hm, hs, ht⟩
  · omega
  rw [hz] at huv hnc
  obtain ⟨hzb, sa', sn', sc', hse, hsn, hsh, hsr⟩ := r1.reads
  simp only [Value.slice.injEq] at hse
  obtain ⟨rfl, rfl, rfl⟩ := hse
  have hlen : sn = 32 := by omega
  subst hlen
  have hcap : 32 ≤ sc := hsh.1
  have hcapm : sc ≤ 9223372036854775807 := by have := hsh.2.1; unfold maxLen at this; omega
  have c0 := v1.c0
  have hi0 : (0 : Int) ≤ (q : Int) := by omega
  have hi1 : (q : Int) < (zss.length : Int) := by omega
  have hk0 : (0 : Int) ≤ (c : Int) := by omega
  have hk1 : (c : Int) ≤ (sc : Int) := by omega
  have hbr : b < w1.heap.size := v1.lt
  have hrlt : gr < w1.heap.size := block_lt_of_cell (a := ⟨gr, q, none⟩) hcell
  have hwlt : w.heap.size < w1.heap.size := block_lt_of_cell (a := ⟨w.heap.size, 0, none⟩) q0
  have HU : Hid (u = .slice (some ⟨g, 0, none⟩) 32 cap) := huv
  have HPUT : Hid _ := hput
  have HOWN : Hid (Owns w1 l (.slice (some ⟨g, 0, none⟩) 32 cap) (zss[q]?.getD [])) := by rw [← huv]; exact huo
  have HUE : Hid _ := hue
  rw [huv] at hcell
  have HGH : Hid (w1.drew.heap[g]? = some (.cells cur 5 (0, 0))) := hgh
  have HLN : Hid ((bcells (zs.take c)).length = Nat.min c 32) := by show _ = _; rw [bcells_length, List.length_take, hl]
  have HFIT : Hid ((bcells (zs.take c)).length ≤ cur.size) := by show _ ≤ _; rw [bcells_length, List.length_take, hs]; omega
  have HPOS : Hid (0 < (bcells (zs.take c)).length → ∃ ad, sa = some ad ∧ ∀ j v, (bcells (zs.take c))[j]? = some v → w1.drew.cell? (ad.add j) = some v) := fun h0 => by
    obtain ⟨a', l2, c2, e, _, qq⟩ := r1.cells c
    simp only [Value.slice.injEq] at e
    obtain ⟨rfl, rfl, rfl⟩ := e
    exact qq h0
  have HGR : Hid _ := hgrow
  have HZB : Hid _ := And.intro hubb hzb
  have nb : ¬ b = g := fun e => by
    subst e
    have := v1; unfold VarJ at this
    rw [hgh] at this; simp at this
  have nw : ¬ w.heap.size = g := fun e => by have := (o.2.2.1); have h3 := hubf g (by rw [huv]; rfl); omega
  have nr : ¬ gr = g := fun e => by
    subst e
    rcases o1.2.1.2 with ⟨hv0, _⟩ | ⟨g', c', cur', hv0, _, hh1, _⟩
    · cases hv0
    · simp only [Value.slice.injEq, Option.some.injEq, Addr.mk.injEq, and_true] at hv0
      obtain ⟨rfl, _⟩ := hv0
      rw [hgh] at hh1; simp at hh1
  have HNE : Hid _ := And.intro nb (And.intro nw nr)
  clear hw1 b1 o1 o r1 r v1 hv hgrow huo ht hs hm hnc hgh hput huv hsr hsh hsn hubb hzb hgl hubf hue
  go_enter Tryd.func78, Tryd.ntmps78
  go_wp2_with fail
  rw [HW1.out]
  go_region_held3 (fun w' => w'.cell? ⟨b, 0, none⟩ = some (.slice (some ⟨gr, 0, none⟩) zss.length cr) ∧ w'.cell? ⟨w.heap.size, 0, none⟩ = some (.int .i64 (q : Int)) ∧ w'.cell? ⟨w.heap.size, 1, none⟩ = some (.slice sa 32 sc) ∧ w'.cell? ⟨gr, q, none⟩ = some (.slice (some ⟨g, 0, none⟩) 32 cap)) (first | go_keep | (refine ⟨?_, ?_, ?_, ?_⟩ <;> assumption)) (first | (refine step_copy_one rfl (.tmp 13) (.tmp 17) (by rfl) g 32 cap sa c sc (by rfl) (by rfl) cur HGH.out (bcells (zs.take c)) HLN.out HPOS.out HFIT.out (bcells_one _) ?_; intro w5 HG5 hg5; have k1 := (hg5.cell_far ⟨b, 0, none⟩ hbr (fun e => HNE.out.1 (by simpa using e))).trans c0; have k2 := (hg5.cell_far ⟨w.heap.size, 0, none⟩ hwlt (fun e => HNE.out.2.1 (by simpa using e))).trans q0; have k3 := (hg5.cell_far ⟨w.heap.size, 1, none⟩ hwlt (fun e => HNE.out.2.1 (by simpa using e))).trans q1; have k4 := (hg5.cell_far ⟨gr, q, none⟩ hrlt (fun e => HNE.out.2.2 (by simpa using e))).trans hcell))
  have HF : Hid (OwX w5 l h (.slice (some ⟨gr, 0, none⟩) zss.length cr) (zss.set q (mixed (zss[q]?.getD []) zs c)) vs) := by
    refine HPUT.out w5 _ (mixed_bytes HZB.out.1 HZB.out.2) ?_ ?_
    · rw [HU.out]
      have h5 := HOWN.out.spliced (w' := w5) (ys := zs.take c) HGH.out (by rw [List.length_take, hl, hz]; omega) HG5.out
      have e : (zs.take c).length = c := by rw [List.length_take, hl]; omega
      rw [e] at h5
      exact h5
    · rw [HU.out]; exact ⟨hg5.os, hg5.tape, hg5.output, hg5.size, hg5.block⟩
  have HGF : Hid (w.grownBy w5 (vs[q]?.getD undef).ownBlock) := by
    refine grown_trans HGR.out ?_
    rw [← HUE.out, HU.out]
    exact ⟨hg5.os, hg5.tape, hg5.output, hg5.size, hg5.block⟩
  clear k1 k2 k3 k4 c0 q0 q1 hcell
  go_wp2
  refine bodyPost_end (v := .tuple #[]) (by simp [results, Tryd.results78, go_sem]) rfl ⟨⟨_, rfl⟩, HF.out, HGF.out⟩
def FRelJ (P Q : Int) (w : World) (b : Nat) (x y : Value) (d : Dk) (vs xs : List Value) (l h m : Nat) (i : Value) (wr : World) : Prop :=
  ∃ k : Nat, k ≤ m ∧ i = .int .i64 k ∧ OwX wr l h x (flushS d.1 (d.2.take k)) vs ∧ OwY wr l h y d.2 xs ∧ VarJ 30 wr b x y P Q ∧ TurnsV vs w wr

set_option maxHeartbeats 2000000 in
theorem flushJ_any (P Q : Int) (b : Nat) (x y : Value) (d : Dk) (vs xs : List Value) (l h : Nat) (w : World) (hv : VarJ 30 w b x y P Q) (o1 : OwX w l h x d.1 vs) (o2 : OwY w l h y d.2 xs) (ha : ∀ q, Blk vs q → ¬ Blk xs q) (hb : ¬ Blk vs b) (hh : h ≤ w.heap.size) (hok : okD d = true) :
    Calls Tryd.prog 68 #[.pointer (some ⟨b, 0, none⟩)] w fun e w' => (∃ u, e = .returned u) ∧ OwX w' l h x (flushS d.1 d.2) vs ∧ VarJ 30 w' b x (.slice none 0 0) P Q ∧ TurnsV (.slice (some ⟨b, 0, none⟩) 0 0 :: vs) w w' := by
  obtain ⟨d1, d2⟩ := d
  have hok' := hok
  unfold okD at hok'
  simp only [Bool.and_eq_true, decide_eq_true_eq, List.all_eq_true] at hok'
  obtain ⟨⟨⟨hn2, hm2⟩, hs⟩, hw⟩ := hok'
  have HWH : Hid (Whole d1) := fun i hi => by
    have := hs _ (List.getElem_mem hi)
    simp [secOk] at this
    simp [hi, this]
  have HWW : Hid (∀ i, i < d2.length → 0 ≤ (d2[i]?.getD (0, [])).1 ∧ (d2[i]?.getD (0, [])).1 < (d1.length : Int) ∧ (d2[i]?.getD (0, [])).2.length = 32) := fun i hi => by
    have := hw _ (List.getElem_mem hi)
    simp [waitOk, secOk] at this
    simp [hi]
    omega
  obtain ⟨ya, m, yc, us, rfl, hm, hhd, hc, he⟩ := o2.ww.rd
  replace hm : m = d2.length := hm
  have hbw := hv.lt
  have HM : Hid _ := hm
  have hm3 : m ≤ 2000 := by omega
  have c1 := hv.c1
  have HA : Hid _ := ha
  have HBN : Hid _ := hb
  have HST : Hid (FRelJ P Q w b x (.slice ya m yc) (d1, d2) vs xs l h m (.int .i64 0) w) := ⟨0, Nat.zero_le _, rfl, by simpa [flushS] using o1, o2, hv, TurnsV.refl _ _⟩
  clear hok hs hw hm hc he hhd o1 o2 hv ha hb us
  go_enter Tryd.func68, Tryd.ntmps68
  go_wp2
  go_loopw [9] (fun i wr => FRelJ P Q w b x (.slice ya m yc) (d1, d2) vs xs l h m i wr) (fun i _ => m - (intOf i).toNat)
  case atStart => exact HST.out
  case round =>
    clear HST c1
    obtain ⟨k, hk, rfl, hX, hY, vO, ht⟩ := hrel
    have hsz := ht.size
    by_cases hlt : k < m
    · obtain ⟨hp0, hp1, hp2⟩ := HWW.out k (by rw [← HM.out]; exact hlt)
      have hfl : (flushS d1 (d2.take k)).length = d1.length := flushS_length _ _
      have hwh := Whole.flush HWH.out (fun i hi => (HWW.out i hi).2.2) k (by rw [← HM.out]; omega)
      have hnx := flushS_next d1 d2 k (by rw [← HM.out]; exact hlt)
      obtain ⟨a2, m2, c2, us, hye, hm2', _, hcc, hee⟩ := hY.ww.rd
      simp only [Value.slice.injEq] at hye
      obtain ⟨rfl, rfl, rfl⟩ := hye
      obtain ⟨g, off, rfl, hg0, hgh, hcell⟩ := hcc.resolve_left (by omega)
      have h1 := (hcell k hlt).1
      have h2 := (hcell k hlt).2
      have hrd := hee k hlt
      have hws : g < wr.heap.size := by omega
      obtain ⟨q, hq⟩ : ∃ q : Nat, (d2[k]?.getD (0, [])).1 = (q : Int) := ⟨(d2[k]?.getD (0, [])).1.toNat, by omega⟩
      have hst : stepS (flushS d1 (d2.take k)) (d2[k]?.getD (0, [])) 32 = (flushS d1 (d2.take k)).set q (mixed ((flushS d1 (d2.take k))[q]?.getD []) (d2[k]?.getD (0, [])).2 32) := by unfold stepS; rw [hq, Int.toNat_natCast]
      rw [hq] at h1 hp0 hp1
      rw [hst] at hnx
      generalize (d2[k]?.getD (0, [])).2 = zs at hrd hp2 hnx
      generalize us k = sl at h2 hrd
      generalize flushS d1 (d2.take k) = S0 at hX hfl hwh hnx
      have hqs : q < S0.length := by omega
      obtain ⟨sa, sn, sc, rfl⟩ := hrd.sliced
      have hi0 : (0 : Int) ≤ (k : Int) := by omega
      have hi1 : (k : Int) < (m : Int) := by omega
      have b4 := Below.new (w := wr) (.cells #[.int .i64 (q : Int), .slice sa sn sc] 75)
      have HMS : Hid _ := makeSafeJ_any P Q b q 32 x (.slice (some ⟨g, off, none⟩) m yc) S0 vs l h (.slice sa sn sc) zs l h _ (vO.step b4) (hX.same (SameIn.ofBelow b4 (by omega))) hqs (hwh q hqs) (hrd.same (SameIn.ofBelow b4 (by omega))) hp2 (by omega) (by simp; omega) (by simp; omega) (by omega)
      have HX : Hid (OwX wr l h x S0 vs) := hX
      have HY : Hid (OwY wr l h _ d2 xs) := hY
      have HVO : Hid (VarJ 30 wr b _ _ P Q) := vO
      have HNX : Hid _ := hnx
      have HT : Hid (TurnsV vs w wr) := ht
      have HB4 : Hid _ := b4
      have HQV : Hid (q < vs.length) := by show q < _; have := hX.1; omega
      clear hm2' hX hY vO ht hnx hst hq hcc hcell hee hrd hwh hfl b4
      go_wp2_with fail
      refine Calls.mono HMS.out ?_
      rintro e w5 ⟨⟨u, rfl⟩, hX5, hg5⟩
      have hgv : TurnsV vs wr w5 := (TurnsV.ofBelow HB4.out).trans (TurnsV.ofGrown hg5 (fun q' hq' => ⟨q, HQV.out, hq'⟩))
      have hlX := OwX.lt HX.out
      have HR : Hid (FRelJ P Q w b x (.slice (some ⟨g, off, none⟩) m yc) (d1, d2) vs xs l h m (.int .i64 ((k : Int) + 1)) w5) := by
        refine ⟨k + 1, by omega, by go_num, by rw [HNX.out]; exact hX5, ?_, ?_, HT.out.trans hgv⟩
        · refine OwY.keep HY.out (fun q' hq' => hgv.block q' (by have := OwY.lt HY.out q' hq'; omega) (fun hbv => ?_))
          obtain ⟨i, hi, hk'⟩ := hq'
          cases i with
          | zero =>
            obtain ⟨C, _, h2, _⟩ := HY.out
            obtain ⟨j, hj, hjk⟩ := hbv
            exact tag_ne h2 ((OwX.same HX.out (SameIn.refl _ _ _)).2.2.2.1 j hj).2.1 (by decide) q' (by simpa using hk') hjk
          | succ i => exact HA.out q' hbv ⟨i, by simpa using hi, by simpa using hk'⟩
        · exact (hgv.block b (VarJ.lt HVO.out) HBN.out).trans HVO.out
      clear HX HY HVO HMS hX5 hg5 hgv hlX HNX HT HB4 h1 h2
      go_wp2
      refine ⟨?_, by simp [intOf]; omega⟩
      first | exact HR.out | exact ⟨_, _, _, _, _, _, _, _, _, HR.out, rfl⟩
    · have hkm : k = m := by omega
      subst hkm
      have c1 := vO.c1
      have f1 := vO.f 1
      have e1 : d2.take k = d2 := List.take_of_length_le (by rw [← HM.out]; exact Nat.le_refl _)
      rw [e1] at hX
      have HX : Hid (OwX wr l h x (flushS d1 d2) vs) := hX
      have HVO : Hid (VarJ 30 wr b _ _ P Q) := vO
      have HT : Hid (TurnsV vs w wr) := ht
      have hxb : ∀ q, x.ownBlock = some q → q ≠ b := fun q hq e => by
        subst e
        rcases hX.2.1.2 with ⟨h0, _⟩ | ⟨g, c, cur, h0, _, hh1, _⟩
        · rw [h0] at hq; cases hq
        · rw [h0] at hq; cases hq
          have := vO; unfold VarJ at this
          rw [hh1] at this; simp at this
      have HXB : Hid _ := hxb
      clear hX vO ht hY e1 hxb
      go_wp2
      refine bodyPost_end (v := .tuple #[]) (by simp [results, Tryd.results68, go_sem]) rfl ⟨⟨_, rfl⟩, ?_, ?_, ?_⟩
      · refine OwX.keep HX.out (fun q hq => heap_setCell_other _ _ _ _ (HXB.out q hq)) (fun q hq => heap_setCell_other _ _ _ _ (fun e => HBN.out (by rw [← show q = b from e]; exact hq)))
      · show _ = _
        rw [heap_setCell_same _ _ _ _ _ _ HVO.out]; rfl
      · refine HT.out.more.trans ⟨rfl, rfl, rfl, by simp, fun q _ hq => heap_setCell_other _ _ _ _ (fun e => hq ⟨0, by simp, ?_⟩)⟩
        have e' : q = b := e
        rw [e']; rfl
end Go.Proofs.YtjhaanenkeceiaaDoor
