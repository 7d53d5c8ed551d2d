/- Lists of writes that wait: what is read and owned of them, and what the verifier's helpers do with them. Conditions: at most 2^21 of them, of at most 2^21 bytes each. -/
import Derived.Test.YtjhaanenkeceiaaDoorMarks
namespace Go.Proofs.YtjhaanenkeceiaaDoor
open Go.RowKit
set_option linter.unusedVariables false

theorem Tryd.infoW : (Tryd.prog.info? 75).map (fun i => (i.zero, i.size, i.bytes)) = some (some (.agg #[.int .i64 0, .slice none 0 0]), 2, 32) := by kernel_rfl

abbrev Wt := Int × List Int

/-- v reads as the list ws of writes; all of it lies in blocks l .. h-1. -/
def RdWs (w : World) (l h : Nat) (v : Value) (ws : List Wt) : Prop :=
  ∃ a len cap, ∃ xs : Nat → Value, v = .slice a len cap ∧ len = ws.length ∧ Headed a len cap ∧
    (len = 0 ∨ ∃ b off, a = some ⟨b, off, none⟩ ∧ l ≤ b ∧ b < h ∧ ∀ i, i < len → w.cell? ⟨b, off + i * 2, none⟩ = some (.int .i64 (ws[i]?.getD (0, [])).1) ∧ w.cell? ⟨b, off + i * 2 + 1, none⟩ = some (xs i)) ∧
    ∀ i, i < len → RdB w l h (xs i) (ws[i]?.getD (0, [])).2
theorem RdWs.same {w w' : World} {l h : Nat} {v : Value} {ws : List Wt} (r : RdWs w l h v ws) (t : SameIn l h w w') : RdWs w' l h v ws := by
  obtain ⟨a, len, cap, vs, hv, hl, hh, hc, he⟩ := r
  refine ⟨a, len, cap, vs, hv, hl, hh, ?_, fun i hi => (he i hi).same t⟩
  rcases hc with h0 | ⟨b, off, ha, h1, h2, hc⟩
  · exact .inl h0
  · exact .inr ⟨b, off, ha, h1, h2, fun i hi => by rw [t.cell h1 h2, t.cell h1 h2]; exact hc i hi⟩
theorem RdWs.wide {w : World} {l h l' h' : Nat} {v : Value} {ws : List Wt} (r : RdWs w l h v ws) (h1 : l' ≤ l) (h2 : h ≤ h') : RdWs w l' h' v ws := by
  obtain ⟨a, len, cap, vs, hv, hl, hh, hc, he⟩ := r
  refine ⟨a, len, cap, vs, hv, hl, hh, ?_, fun i hi => (he i hi).wide h1 h2⟩
  rcases hc with h0 | ⟨b, off, ha, h3, h4, hc⟩
  · exact .inl h0
  · exact .inr ⟨b, off, ha, by omega, by omega, hc⟩

/-- v is the call's own, with the list ws of writes, each one's data in a block of its own, all in blocks l .. h-1. -/
def OwWs (w : World) (l h : Nat) (v : Value) (ws : List Wt) : Prop :=
  ∃ (xs C : List Value), xs.length = ws.length ∧ w.ownsRow l 75 2 v xs.length C ∧ Before v h ∧
    (∀ i, i < xs.length → C[i * 2]? = some (.int .i64 (ws[i]?.getD (0, [])).1) ∧ C[i * 2 + 1]? = some (xs[i]?.getD undef)) ∧
    (∀ i, i < xs.length → OwB w l h (xs[i]?.getD undef) (ws[i]?.getD (0, [])).2) ∧
    ∀ i j k, i < j → j < xs.length → (xs[i]?.getD undef).ownBlock = some k → (xs[j]?.getD undef).ownBlock ≠ some k
theorem OwWs.rd {w : World} {l h : Nat} {v : Value} {ws : List Wt} (o : OwWs w l h v ws) : RdWs w l h v ws := by
  obtain ⟨xs, C, hl, ho, hb, hC, he, hd⟩ := o
  rcases ho.2 with ⟨hv, h0⟩ | ⟨g, c, cur, hv, hg, hh, hnc, hm, _⟩
  · subst hv
    exact ⟨none, 0, 0, fun i => xs[i]?.getD undef, rfl, by omega, ⟨Nat.le_refl _, Nat.zero_le _, fun _ => ⟨rfl, rfl⟩⟩, .inl rfl, fun i hi => absurd hi (Nat.not_lt_zero _)⟩
  · subst hv
    refine ⟨_, xs.length, c, fun i => xs[i]?.getD undef, rfl, hl, ⟨hnc, hm, fun e => by cases e⟩, .inr ⟨g, 0, rfl, hg, hb g rfl, fun i hi => ?_⟩, fun i hi => (he i hi).rd⟩
    rw [Nat.zero_add, World.ownsRow.cellAt ho (i * 2) (by omega), World.ownsRow.cellAt ho (i * 2 + 1) (by omega)]
    exact hC i hi
theorem OwWs.same {w w' : World} {l h : Nat} {v : Value} {ws : List Wt} (o : OwWs w l h v ws) (t : SameIn l h w w') : OwWs w' l h v ws := by
  obtain ⟨xs, C, hl, ho, hb, hC, he, hd⟩ := o
  exact ⟨xs, C, hl, ownsRow_same ho hb t, hb, hC, fun i hi => (he i hi).same t, hd⟩

theorem Owns.aside {w : World} {base : Nat} {v : Value} {zs : List Int} (h : Owns w base v zs) {p : Addr} {u : Value} (hne : ∀ k, v.ownBlock = some k → k ≠ p.block) : Owns (w.setCell p u) base v zs := by
  obtain ⟨h1, h2⟩ := h
  refine ⟨h1, ?_⟩
  rcases h2 with h2 | ⟨g, c, cur, hv, hg, hh, r⟩
  · exact .inl h2
  · exact .inr ⟨g, c, cur, hv, hg, by rw [heap_setCell_other _ _ _ _ (hne g (by rw [hv]; rfl))]; exact hh, r⟩

set_option maxHeartbeats 1000000 in
theorem toWait_any (p : Int) (x : Value) (zs : List Int) (l h : Nat) (w : World) (r : RdB w l h x zs) (hh : h ≤ w.heap.size) (hl : zs.length ≤ 2097152) :
    Calls Tryd.prog 83 #[.agg #[.int .i64 p, x]] w fun e w' => ∃ u, e = .returned (.agg #[.int .i64 p, u]) ∧ Owns w' w.heap.size u zs ∧ Below w.heap.size w w' := by
  obtain ⟨_, a, n, c, rfl, hn, _, _⟩ := r.reads
  have HR : Hid (∀ W, Below w.heap.size w W → RdB W l h (.slice a n c) zs) := fun W hW => r.same (SameIn.ofBelow hW hh)
  clear r hn
  go_enter Tryd.func83, Tryd.ntmps83
  go_wp2_with fail
  refine (toByteS_r _ zs l h _ (HR.out _ ?_) hl).mono ?_
  · exact (((Below.refl _ _).alloc (Nat.le_refl _) _).alloc (by simp) _).alloc (by simp; omega) _
  rintro e w2 ⟨u, rfl, ho, hb⟩
  obtain ⟨ua, un, uc, rfl⟩ := ho.sliced
  obtain ⟨hcc, hff⟩ := bcell hb
  have hz : w.heap.size + 1 + 1 < w2.heap.size := by have := hb.size; simp at this; omega
  have HF : Hid (Owns w2 w.heap.size (.slice ua un uc) zs ∧ Below w.heap.size w w2) := ⟨ho.base (by simp; omega), ((((Below.refl _ _).alloc (Nat.le_refl _) _).alloc (by simp) _).alloc (by simp; omega) _).trans (hb.mono (by simp; omega))⟩
  have HL : Hid (From (.slice ua un uc) (w.heap.size + 3)) := ho.from.le (by simp)
  clear ho hb
  go_wp2
  refine bodyPost_ret (v := .agg #[.int .i64 p, .slice ua un uc]) (by simp [results, Tryd.results83, go_sem, hcc]) rfl ⟨_, rfl, ?_, ?_⟩
  · exact ((HF.out.1.aside (fun k hk => by have := HL.out k hk; simp; omega)).aside (fun k hk => by have := HL.out k hk; simp; omega)).aside (fun k hk => by have := HL.out k hk; simp; omega)
  · exact ((HF.out.2.setCell (by simp; omega) _).setCell (by simp) _).setCell (by simp) _

/-- A list of writes that is being copied: k of its n are there. -/
def PartWs (w : World) (B n : Nat) (ws : List Wt) (k : Nat) : Prop :=
  ∃ (xs C : List Value), xs.length = k ∧ w.ownsRow B 75 2 (.slice (some ⟨B, 0, none⟩) n n) n C ∧ B < w.heap.size ∧
    (∀ i, i < k → C[i * 2]? = some (.int .i64 (ws[i]?.getD (0, [])).1) ∧ C[i * 2 + 1]? = some (xs[i]?.getD undef)) ∧
    (∀ i, i < k → OwB w B w.heap.size (xs[i]?.getD undef) (ws[i]?.getD (0, [])).2) ∧ ∀ i j q, i < j → j < k → (xs[i]?.getD undef).ownBlock = some q → (xs[j]?.getD undef).ownBlock ≠ some q
theorem PartWs.done {w : World} {B n : Nat} {ws : List Wt} (h : PartWs w B n ws n) (hn : n = ws.length) : OwWs w B w.heap.size (.slice (some ⟨B, 0, none⟩) n n) ws := by
  obtain ⟨xs, C, hl, ho, hB, hC, he, hd⟩ := h
  subst hl
  exact ⟨xs, C, hn, ho, fun k hk => by cases hk; exact hB, hC, he, hd⟩
theorem PartWs.row {w w' : World} {B n k : Nat} {ws : List Wt} (h : PartWs w B n ws k) (hk : k < n) (hb : Below w.heap.size w w') :
    (∃ v, w'.cell? ⟨B, k * 2, none⟩ = some v) ∧ (∃ v, w'.cell? ⟨B, k * 2 + 1, none⟩ = some v) ∧ w'.frozen? ⟨B, k * 2, none⟩ = false ∧ w'.frozen? ⟨B, k * 2 + 1, none⟩ = false := by
  obtain ⟨xs, C, hl, hrow, hB, hC, he, hd⟩ := h
  have hrow' : w'.ownsRow B 75 2 (.slice (some ⟨B, 0, none⟩) n n) n C := ownsRow_same (h := w.heap.size) hrow (fun q hq => by cases hq; exact hB) (SameIn.ofBelow hb (Nat.le_refl _))
  have hCl : C.length = n * 2 := hrow.1
  refine ⟨?_, ?_, hrow'.frozenAt _, hrow'.frozenAt _⟩
  · rw [hrow'.cellAt (k * 2) (by omega)]; exact ⟨_, List.getElem?_eq_getElem (by omega)⟩
  · rw [hrow'.cellAt (k * 2 + 1) (by omega)]; exact ⟨_, List.getElem?_eq_getElem (by omega)⟩
theorem PartWs.next {w w' : World} {B n k : Nat} {ws : List Wt} {u : Value} {p : Int} {zs : List Int} (h : PartWs w B n ws k) (hk : k < n) (hb : Below w.heap.size w w') (hz : isBytes zs) (ho : Owns w' w.heap.size u zs) (hws : ws[k]?.getD (0, []) = (p, zs)) :
    PartWs ((w'.setCell ⟨B, k * 2, none⟩ (.int .i64 p)).setCell ⟨B, k * 2 + 1, none⟩ u) B n ws (k + 1) := by
  obtain ⟨xs, C, hl, hrow, hB, hC, he, hd⟩ := h
  have hs := hb.size
  have hCl : C.length = n * 2 := hrow.1
  have hrow' : w'.ownsRow B 75 2 (.slice (some ⟨B, 0, none⟩) n n) n C := ownsRow_same (h := w.heap.size) hrow (fun q hq => by cases hq; exact hB) (SameIn.ofBelow hb (Nat.le_refl _))
  have h1 := hrow'.stored (k * 2) (.int .i64 p)
  have h2 := h1.1.stored (k * 2 + 1) u
  have hg := grown_trans h1.2 h2.2
  have hsize : ((w'.setCell ⟨B, k * 2, none⟩ (.int .i64 p)).setCell ⟨B, k * 2 + 1, none⟩ u).heap.size = w'.heap.size := by simp
  have keep : ∀ {v : Value} {l : Nat} {ys : List Int}, OwB w' l w'.heap.size v ys → v.ownBlock ≠ some B → OwB ((w'.setCell ⟨B, k * 2, none⟩ (.int .i64 p)).setCell ⟨B, k * 2 + 1, none⟩ u) l w'.heap.size v ys := fun {v l ys} o hne => by
    refine ⟨o.1, ?_, o.2.2⟩
    refine World.ownsRow.kept o.2.1 hg ?_
    cases hv : v.ownBlock with
    | none => exact .inl rfl
    | some q => exact .inr (by rw [← hv]; exact hne)
  have tag : ∀ {v : Value} {l h : Nat} {ys : List Int}, OwB w' l h v ys → v.ownBlock ≠ some B := fun {v l h ys} o e => by
    rcases hrow'.2 with ⟨hv, _⟩ | ⟨g', c', cur', hv, _, hh', _⟩
    · cases hv
    · simp only [Value.slice.injEq, Option.some.injEq, Addr.mk.injEq, and_true, true_and] at hv
      obtain ⟨rfl, rfl⟩ := hv
      rcases o.2.1.2 with ⟨rfl, _⟩ | ⟨g, c, cur, rfl, _, hh, _⟩
      · cases e
      · cases e
        rw [hh] at hh'
        simp at hh'
  have hu : OwB w' w.heap.size w'.heap.size u zs := OwB.of hz ho
  refine ⟨xs ++ [u], (C.set (k * 2) (.int .i64 p)).set (k * 2 + 1) u, by simp [hl], h2.1, by rw [hsize]; omega, fun i hi => ?_, fun i hi => ?_, fun i j q hij hj hq => ?_⟩
  · rw [getD_snoc]
    by_cases hik : i < xs.length
    · rw [if_pos hik, List.getElem?_set, if_neg (by omega), List.getElem?_set, if_neg (by omega), List.getElem?_set, if_neg (by omega), List.getElem?_set, if_neg (by omega)]
      exact hC i (by omega)
    · obtain rfl : i = k := by omega
      rw [if_neg hik, if_pos hl.symm, List.getElem?_set, if_neg (by omega), List.getElem?_set, if_pos rfl, List.getElem?_set, if_pos rfl, if_pos (by omega), if_pos (by rw [List.length_set]; omega), hws]
      exact ⟨rfl, rfl⟩
  · rw [hsize, getD_snoc]
    by_cases h1 : i < xs.length
    · rw [if_pos h1]
      have o1 := ((he i (by omega)).same (SameIn.ofBelow hb (Nat.le_refl _))).wide (Nat.le_refl B) hs
      exact keep o1 (tag o1)
    · have e : i = xs.length := by omega
      rw [if_neg h1, if_pos e, e, hl, hws]
      exact (keep hu (tag hu)).wide (by omega) (Nat.le_refl _)
  · rw [getD_snoc] at hq ⊢
    rw [if_pos (by omega)] at hq
    by_cases h1 : j < xs.length
    · rw [if_pos h1]; exact hd i j q hij (by omega) hq
    · rw [if_neg h1, if_pos (by omega)]
      intro e
      have a1 := (he i (by omega)).2.2 q hq
      have a2 := (ho.lt q e).1
      omega

set_option maxHeartbeats 1000000 in
theorem toWaitS_any (v : Value) (ws : List Wt) (l h : Nat) (w : World) (r : RdWs w l h v ws) (hh : h ≤ w.heap.size) (hl : ws.length ≤ 2097152) (hle : ∀ i : Nat, (ws[i]?.getD (0, [])).2.length ≤ 2097152) :
    Calls Tryd.prog 63 #[v] w fun e w' => ∃ u, e = .returned u ∧ OwWs w' w.heap.size w'.heap.size u ws ∧ Below w.heap.size w w' := by
  obtain ⟨a, n, cap, vs, rfl, hn, hhd, hc, he⟩ := r
  obtain ⟨i0, hi, hz0, hz1, hz2⟩ := info_parts Tryd.infoW
  have HN : Hid _ := hn
  have hnn : n ≤ 2097152 := by omega
  have HE : Hid _ := he
  have HC : Hid _ := hc
  have HLE : Hid _ := hle
  clear hn he hc hhd hl hle
  go_enter Tryd.func63, Tryd.ntmps63
  go_wp2_with (at_make; refine wpList_make_full _ rfl _ _ 24 rfl w.heap.size 75 i0 (.agg #[.int .i64 0, .slice none 0 0]) 2 Tryd.underlying24 hi hz0 hz1 .i64 .i64 _ _ n rfl rfl rfl rfl (by rw [hz2]; omega) (by unfold maxLen; omega) (Nat.le_refl _) ?_; intro w1 hown hgrow)
  have hb1 : Below w.heap.size w w1 := (Below.refl _ _).grown hgrow (Nat.le_refl _) (fun k h => by cases h)
  have hs1 : w.heap.size < w1.heap.size := (hown.lt _ rfl).2
  have HP : Hid (PartWs w1 w.heap.size n ws 0) := ⟨[], _, rfl, hown, hs1, fun i hi => absurd hi (Nat.not_lt_zero _), fun i hi => absurd hi (Nat.not_lt_zero _), fun i j q _ hj => absurd hj (Nat.not_lt_zero _)⟩
  clear hgrow hown
  go_loopw [4] (fun i wr => ∃ k : Nat, k ≤ n ∧ i = .int .i64 k ∧ Hid (PartWs wr w.heap.size n ws k) ∧ Below w.heap.size w wr) (fun i _ => n - (intOf i).toNat)
  case atStart => exact ⟨0, Nat.zero_le _, rfl, HP, hb1⟩
  case round =>
    clear HP hb1 hs1
    obtain ⟨k, hk, rfl, HP, hbel⟩ := hrel
    by_cases hlt : k < n
    · obtain ⟨b, off, rfl, hb0, hbh, hcc⟩ := HC.out.resolve_left (by omega)
      have hc1 : wr.cell? ⟨b, off + k * 2, none⟩ = some _ := (hbel.cell (p := ⟨b, off + k * 2, none⟩) (by show b < w.heap.size; omega)).trans (hcc k hlt).1
      have hc2 : wr.cell? ⟨b, off + k * 2 + 1, none⟩ = some (vs k) := (hbel.cell (p := ⟨b, off + k * 2 + 1, none⟩) (by show b < w.heap.size; omega)).trans (hcc k hlt).2
      have hrd := (HE.out k hlt).same (SameIn.mk (Below.size hbel) (fun q _ hq => hbel.block q (by omega)))
      generalize vs k = x at hc2 hrd
      obtain ⟨⟨p, zs⟩, hws⟩ : ∃ y, ws[k]?.getD (0, []) = y := ⟨_, rfl⟩
      have hbl := HLE.out k
      rw [hws] at hc1 hrd hbl
      have HR : Hid _ := hrd
      have hzb := hrd.1
      have HWS : Hid _ := hws
      clear hrd hcc hws
      have hws2 := hbel.size
      go_wp2_with fail
      refine (toWait_any p x zs l h wr HR.out (by omega) hbl).mono ?_
      rintro e w2 ⟨u, rfl, ho2, hb2⟩
      obtain ⟨ua, un, uc, rfl⟩ := ho2.sliced
      have HN2 : Hid _ := PartWs.next HP.out hlt hb2 hzb ho2 HWS.out
      obtain ⟨⟨v0, hv0⟩, ⟨v1, hv1⟩, hf0, hf1⟩ := PartWs.row HP.out hlt hb2
      have hbe2 := hbel.trans (hb2.mono hbel.size)
      clear HP ho2 HR
      go_wp2
      go_roundw
      case rel => exact ⟨k + 1, by omega, by go_num, HN2.out, (hbe2.setCell (Nat.le_refl _) _).setCell (Nat.le_refl _) _⟩
      case measure => simp [intOf]; omega
    · have hkn : k = n := by omega
      subst hkn
      go_wp2
      go_ret
      exact ⟨_, rfl, HP.out.done HN.out, hbel⟩
end Go.Proofs.YtjhaanenkeceiaaDoor
