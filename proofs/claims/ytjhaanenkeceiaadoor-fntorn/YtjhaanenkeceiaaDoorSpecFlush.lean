/- The specification's flush and Flush. Condition: the disk is of at most 2^21 bytes and writes. -/
import Derived.Test.YtjhaanenkeceiaaDoorSpecCopy2
import Derived.Test.YtjhaanenkeceiaaDoorImplFlush2
namespace Go.Proofs.YtjhaanenkeceiaaDoor
open Go.RowKit
set_option linter.unusedVariables false
attribute [local go_sem ↓] Go.wp_at_zero Go.wp_at_succ

/-- As GrWs, in blocks l .. h-1. -/
def KpWs (w : World) (l h : Nat) (v : Value) (ws : List Wt) : Prop :=
  ∃ (xs C : List Value), xs.length = ws.length ∧ w.ownsRow l 75 2 v ws.length C ∧ Before v h ∧ (∀ i, i < ws.length → C[i * 2]? = some (.int .i64 (ws[i]?.getD (0, [])).1) ∧ C[i * 2 + 1]? = some (xs[i]?.getD undef)) ∧
    ∀ i, i < ws.length → RdB w l h (xs[i]?.getD undef) (ws[i]?.getD (0, [])).2 ∧ ∀ g, (xs[i]?.getD undef).ownBlock = some g → l ≤ g ∧ g < h
theorem GrWs.kp {w : World} {l : Nat} {v : Value} {ws : List Wt} (o : GrWs w l v ws) : KpWs w l w.heap.size v ws := by
  obtain ⟨xs, C, hl, ho, hC, he⟩ := o
  exact ⟨xs, C, hl, ho, fun k hk => (ho.lt k hk).2, hC, fun i hi => ⟨(he i hi).1, fun g hg => ((he i hi).2 g hg).1⟩⟩
theorem KpWs.same {w w' : World} {l h : Nat} {v : Value} {ws : List Wt} (o : KpWs w l h v ws) (t : SameIn l h w w') : KpWs w' l h v ws := by
  obtain ⟨xs, C, hl, ho, hb, hC, he⟩ := o
  exact ⟨xs, C, hl, ownsRow_same ho hb t, hb, hC, fun i hi => ⟨(he i hi).1.same t, (he i hi).2⟩⟩
theorem KpBB.up {w : World} {l h h' : Nat} {v : Value} {zss : List (List Int)} (o : KpBB w l h v zss) (h1 : h ≤ h') : KpBB w l h' v zss := by
  obtain ⟨vs, hl, ho, hb, he⟩ := o
  exact ⟨vs, hl, ho, hb.le h1, fun i hi => ⟨(he i hi).1.wide (Nat.le_refl _) h1, fun g hg => ⟨by have := ((he i hi).2 g hg).1; omega, ((he i hi).2 g hg).2⟩⟩⟩
/-- Another slice is laid into the list. -/
theorem KpBB.put {w : World} {l h q gx c : Nat} {S : List (List Int)} {u : Value} {zs : List Int} (o : KpBB w l h (.slice (some ⟨gx, 0, none⟩) S.length c) S) (hq : q < S.length) (hu : RdB w l h u zs) (hg : ∀ g, u.ownBlock = some g → g < h ∧ g ≠ gx) (hh : h ≤ w.heap.size) :
    KpBB (w.setCell ⟨gx, q, none⟩ u) l h (.slice (some ⟨gx, 0, none⟩) S.length c) (S.set q zs) := by
  obtain ⟨vs, hl, ho, hb, he⟩ := o
  have hst := ho.stored q u
  have hgr : w.grownBy (w.setCell ⟨gx, q, none⟩ u) (some gx) := hst.2
  have hgx : ∀ {g : Nat}, g ≠ gx → (Value.slice (some ⟨gx, 0, none⟩) S.length c).ownBlock ≠ some g := fun hne e => by have := slice_block e; simp at this; omega
  refine ⟨vs.set q u, by simp [hl], by simpa using hst.1, hb, fun i hi => ?_⟩
  rw [List.length_set] at hi
  rw [List.getElem?_set, List.getElem?_set]
  by_cases e : q = i
  · subst e
    rw [if_pos rfl, if_pos (by omega), if_pos rfl, if_pos hq, Option.getD_some, Option.getD_some]
    exact ⟨hu.keep hgr hh (fun g hg' e' => (hg g hg').2 (by simpa using e'.symm)), fun g hg' => ⟨(hg g hg').1, hgx (hg g hg').2⟩⟩
  · rw [if_neg e, if_neg e]
    obtain ⟨h2, h3⟩ := he i hi
    refine ⟨h2.keep hgr hh (fun g hg' e' => (h3 g hg').2 ?_), h3⟩
    have : gx = g := by simpa using e'
    subst this; rfl

/-- What holds at the head of each round. -/
def SFRel (w : World) (b : Nat) (x y : Value) (d : Dk) (l H h m : Nat) (i : Value) (wr : World) : Prop :=
  ∃ k : Nat, k ≤ m ∧ i = .int .i64 k ∧ KpBB wr l h x (flushS d.1 (d.2.take k)) ∧ KpWs wr H h y d.2 ∧ VarD wr b x y ∧ TurnsV [x] w wr

set_option maxHeartbeats 2000000 in
theorem specFlush_in (b : Nat) (x y : Value) (d : Dk) (l H h : Nat) (w : World) (hv : VarD w b x y) (o1 : KpBB w l H x d.1) (o2 : KpWs w H h y d.2) (hH : H ≤ h) (hlH : l ≤ H) (hh : h ≤ w.heap.size) (hhb : h ≤ b) (hok : okD d = true) :
    Calls Tryd.prog 58 #[.pointer (some ⟨b, 0, none⟩)] w fun e w' => (∃ u, e = .returned u) ∧ KpBB w' l h x (flushS d.1 d.2) ∧ VarD w' b x (.slice none 0 0) ∧ TurnsV [.slice (some ⟨b, 0, none⟩) 0 0, x] w w' := by
  obtain ⟨d1, d2⟩ := d
  have hok' := hok
  unfold okD at hok'
  simp only [Bool.and_eq_true, decide_eq_true_eq, List.all_eq_true] at hok'
  obtain ⟨⟨⟨hn2, hm2⟩, hs⟩, hw⟩ := hok'
  have HWH : Hid (Whole d1) := fun i hi => by
    have := hs _ (List.getElem_mem hi)
    simp [secOk] at this
    simp [hi, this]
  have HWW : Hid (∀ i, i < d2.length → 0 ≤ (d2[i]?.getD (0, [])).1 ∧ (d2[i]?.getD (0, [])).1 < (d1.length : Int) ∧ (d2[i]?.getD (0, [])).2.length = 32) := fun i hi => by
    have := hw _ (List.getElem_mem hi)
    simp [waitOk, secOk] at this
    simp [hi]
    omega
  obtain ⟨m, hm⟩ : ∃ m, m = d2.length := ⟨_, rfl⟩
  have hbw := hv.lt
  have HM : Hid _ := hm
  have hm3 : m ≤ 2000 := by omega
  have HST : Hid (SFRel w b x y (d1, d2) l H h m (.int .i64 0) w) := ⟨0, Nat.zero_le _, rfl, by simpa [flushS] using o1.up hH, o2, hv, TurnsV.refl _ _⟩
  have HXH : Hid (∀ k, x.ownBlock = some k → k < H) := fun k hk => by obtain ⟨_, _, _, hb', _⟩ := o1; exact hb' k hk
  clear hok hs hw hm o1 o2 hv
  go_enter Tryd.func58, Tryd.ntmps58
  go_wp2
  go_loopw [2] (fun i wr => SFRel w b x y (d1, d2) l H h m i wr) (fun i _ => m - (intOf i).toNat)
  case atStart => exact HST.out
  case round =>
    clear HST
    obtain ⟨k, hk, rfl, hX, hY, vO, ht⟩ := hrel
    have hsz := ht.size
    have hYr := hY
    obtain ⟨xs, C, hxl, hrow, hyb, hCC, hee⟩ := hYr
    obtain ⟨ya, yc, rfl⟩ : ∃ a c, y = .slice a m c := by
      rw [HM.out]
      rcases hrow.2 with ⟨h0, hz0⟩ | ⟨g, c, cur, h0, _⟩
      · refine ⟨none, 0, ?_⟩
        rw [h0]
        have hz1 : d2.length = 0 := hz0
        rw [hz1]
      · exact ⟨_, _, h0⟩
    by_cases hlt : k < m
    · obtain ⟨hp0, hp1, hp2⟩ := HWW.out k (by rw [← HM.out]; exact hlt)
      have hfl : (flushS d1 (d2.take k)).length = d1.length := flushS_length _ _
      have hwh := Whole.flush HWH.out (fun i hi => (HWW.out i hi).2.2) k (by rw [← HM.out]; omega)
      have hnx := flushS_next d1 d2 k (by rw [← HM.out]; exact hlt)
      have hk2 : k < d2.length := by rw [← HM.out]; exact hlt
      have hCl : C.length = d2.length * 2 := hrow.1
      rcases hrow.2 with ⟨_, hz0⟩ | ⟨gy, cy, cur, hye, hgy, _⟩
      · have hz1 : d2.length = 0 := hz0
        omega
      simp only [Value.slice.injEq] at hye
      obtain ⟨rfl, _, hyc⟩ := hye
      clear hyc
      replace hrow : wr.ownsRow H 75 2 (.slice (some ⟨gy, 0, none⟩) m yc) m C := by
        have h9 : wr.ownsRow H 75 2 (.slice (some ⟨gy, 0, none⟩) m yc) d2.length C := hrow
        rw [← HM.out] at h9
        exact h9
      have h1 := (World.ownsRow.cellAt hrow (k * 2) (by omega)).trans (hCC k hk2).1
      have h2 := (World.ownsRow.cellAt hrow (k * 2 + 1) (by omega)).trans (hCC k hk2).2
      obtain ⟨hrd, hrg⟩ := hee k hk2
      obtain ⟨q, hq⟩ : ∃ q : Nat, (d2[k]?.getD (0, [])).1 = (q : Int) := ⟨(d2[k]?.getD (0, [])).1.toNat, by omega⟩
      rw [hq] at h1 hp0 hp1
      have hst : stepS (flushS d1 (d2.take k)) (d2[k]?.getD (0, [])) 32 = (flushS d1 (d2.take k)).set q (d2[k]?.getD (0, [])).2 := by unfold stepS; rw [hq, Int.toNat_natCast, mixed_all (hwh q (by omega)) hp2]
      rw [hst] at hnx
      generalize (d2[k]?.getD (0, [])).2 = zs at hrd hp2 hnx
      generalize xs[k]?.getD undef = u at h2 hrd hrg
      obtain ⟨sa, sn, sc, rfl⟩ := hrd.sliced
      generalize flushS d1 (d2.take k) = S0 at hX hfl hnx hst hwh
      have hqs : q < S0.length := by omega
      have hXr := hX
      obtain ⟨vs, hvl, hxrow, hxb, _⟩ := hXr
      rcases hxrow.2 with ⟨_, hz0⟩ | ⟨gx, cx, curx, hxe, hgx, _⟩
      · omega
      subst hxe
      have hgxH := HXH.out gx rfl
      obtain ⟨o0, hov⟩ : ∃ v, wr.cell? ⟨gx, q, none⟩ = some v := by rw [hxrow.cellAt q (by omega)]; exact ⟨_, List.getElem?_eq_getElem (by omega)⟩
      have hof := hxrow.frozenAt q
      have c0 := vO.c0
      have c1 := vO.c1
      have hi0 : (0 : Int) ≤ (k : Int) := by omega
      have hi1 : (k : Int) < (m : Int) := by omega
      have hj0 : (0 : Int) ≤ (q : Int) := by omega
      have hj1 : (q : Int) < (S0.length : Int) := by omega
      have n1 : ¬ gx = b := by omega
      have n2 : ¬ gx = gy := by omega
      have n1' : ¬ b = gx := by omega
      have n2' : ¬ gy = gx := by omega
      have HR : Hid (SFRel w b (.slice (some ⟨gx, 0, none⟩) S0.length cx) (.slice (some ⟨gy, 0, none⟩) m yc) (d1, d2) l H h m (.int .i64 ((k : Int) + 1)) ((wr.drewN 1).setCell ⟨gx, q, none⟩ (.slice sa sn sc))) := by
        refine ⟨k + 1, by omega, by go_num, ?_, ?_, ?_, ?_⟩
        · rw [hnx]
          have hX1 : KpBB (wr.drewN 1) l h (.slice (some ⟨gx, 0, none⟩) S0.length cx) S0 := hX.same ⟨Nat.le_refl _, fun _ _ _ => rfl⟩
          exact hX1.put hqs ((hrd.same (w' := wr.drewN 1) ⟨Nat.le_refl _, fun _ _ _ => rfl⟩).wide hlH (Nat.le_refl _)) (fun g hg => ⟨(hrg g hg).2, by have := (hrg g hg).1; omega⟩) (by show h ≤ wr.heap.size; omega)
        · exact (hY.same (w' := wr.drewN 1) ⟨Nat.le_refl _, fun _ _ _ => rfl⟩).same (SameIn.set (p := ⟨gx, q, none⟩) (.inl (by show gx < H; omega)))
        · exact (heap_setCell_other _ _ _ _ (by show b ≠ gx; omega)).trans vO
        · refine ht.trans ⟨rfl, rfl, rfl, by simp, fun q' _ hq' => ?_⟩
          refine heap_setCell_other _ _ _ _ (fun e => hq' ⟨0, by simp, ?_⟩)
          have e' : q' = gx := e
          subst e'; rfl
      clear hX hY vO ht hnx hst hq hee hCC hrow hxrow hrd hrg hwh hfl hxl hvl hxb hyb hCl
      go_wp2
      go_region_held3 (fun w' => w'.cell? ⟨b, 0, none⟩ = some (.slice (some ⟨gx, 0, none⟩) S0.length cx) ∧ w'.cell? ⟨b, 1, none⟩ = some (.slice (some ⟨gy, 0, none⟩) m yc) ∧ w'.cell? ⟨gy, k * 2, none⟩ = some (.int .i64 (q : Int)) ∧ w'.cell? ⟨gy, k * 2 + 1, none⟩ = some (.slice sa sn sc)) (first | go_keep | (refine ⟨?_, ?_, ?_, ?_⟩ <;> assumption)) (fail)
      go_wp2
      refine ⟨?_, by simp [intOf]; omega⟩
      first | exact HR.out | exact ⟨_, _, _, _, _, _, _, _, _, _, _, _, _, _, _, _, _, _, _, _, _, _, _, _, _, _, _, _, _, _, _, HR.out, rfl⟩
    · have hkm : k = m := by omega
      subst hkm
      have c1 := vO.c1
      have f1 := vO.f 1
      have e1 : d2.take k = d2 := List.take_of_length_le (by rw [← HM.out]; exact Nat.le_refl _)
      rw [e1] at hX
      have HX : Hid (KpBB wr l h x (flushS d1 d2)) := hX
      have HVO : Hid (VarD wr b _ _) := vO
      have HT : Hid (TurnsV [x] w wr) := ht
      clear hX vO ht hY e1 hrow hCC hee hxl hyb
      go_wp2
      refine bodyPost_end (v := .tuple #[]) (by simp [results, Tryd.results58, go_sem]) rfl ⟨⟨_, rfl⟩, ?_, ?_, ?_⟩
      · exact KpBB.same HX.out (SameIn.set (.inr (by show h ≤ b; omega)))
      · show _ = _
        rw [heap_setCell_same _ _ _ _ _ _ HVO.out]; rfl
      · refine HT.out.more.trans ⟨rfl, rfl, rfl, by simp, fun q _ hq => heap_setCell_other _ _ _ _ (fun e => hq ⟨0, by simp, ?_⟩)⟩
        have e' : q = b := e
        rw [e']; rfl
end Go.Proofs.YtjhaanenkeceiaaDoor
