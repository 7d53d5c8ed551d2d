/- Disks of a call's own whose sectors and waiting writes lie mixed among one another, each in a block of its own: how they are marked. Conditions: at most 2^21 of each and of their bytes. -/
import Derived.Test.YtjhaanenkeceiaaDoorSteps2
namespace Go.Proofs.YtjhaanenkeceiaaDoor
open Go.RowKit
set_option linter.unusedVariables false

/-- q is the block of one of these. -/
def Blk (vs : List Value) (q : Nat) : Prop := ∃ i, i < vs.length ∧ (vs[i]?.getD undef).ownBlock = some q
/-- Only blocks of these, and new ones, have turned. -/
structure TurnsV (vs : List Value) (w w' : World) : Prop where
  os : w'.os = w.os
  tape : w'.tape = w.tape
  output : w'.output = w.output
  size : w.heap.size ≤ w'.heap.size
  block : ∀ k, k < w.heap.size → ¬ Blk vs k → w'.heap[k]? = w.heap[k]?
theorem TurnsV.refl (vs : List Value) (w : World) : TurnsV vs w w := ⟨rfl, rfl, rfl, Nat.le_refl _, fun _ _ _ => rfl⟩
theorem TurnsV.trans {vs : List Value} {a b c : World} (h : TurnsV vs a b) (k : TurnsV vs b c) : TurnsV vs a c :=
  ⟨k.os.trans h.os, k.tape.trans h.tape, k.output.trans h.output, Nat.le_trans h.size k.size, fun i hi hr => (k.block i (Nat.lt_of_lt_of_le hi h.size) hr).trans (h.block i hi hr)⟩
theorem TurnsV.ofGrown {vs : List Value} {a b : World} {r : Option Nat} (h : a.grownBy b r) (hr : ∀ k, r = some k → Blk vs k) : TurnsV vs a b :=
  ⟨h.os, h.tape, h.output, h.size, fun i hi ho => h.block i hi (fun e => ho (hr i e.symm))⟩
theorem TurnsV.turns {vs : List Value} {l h : Nat} {a b : World} (t : TurnsV vs a b) (hr : ∀ k, Blk vs k → l ≤ k ∧ k < h) : Turns l h a b :=
  ⟨t.os, t.tape, t.output, t.size, fun i hi ho => t.block i hi (fun hb => by have := hr i hb; omega)⟩
theorem Blk.at {vs : List Value} {i q : Nat} (hi : i < vs.length) (h : (vs[i]?.getD undef).ownBlock = some q) : Blk vs q := ⟨i, hi, h⟩

/-- As OwBB, its elements named. -/
def OwX (w : World) (l h : Nat) (v : Value) (zss : List (List Int)) (vs : List Value) : Prop :=
  vs.length = zss.length ∧ w.ownsRow l 22 1 v vs.length vs ∧ Before v h ∧ (∀ i, i < vs.length → OwB w l h (vs[i]?.getD undef) (zss[i]?.getD [])) ∧
    ∀ i j k, i < j → j < vs.length → (vs[i]?.getD undef).ownBlock = some k → (vs[j]?.getD undef).ownBlock ≠ some k
theorem OwX.bb {w : World} {l h : Nat} {v : Value} {zss : List (List Int)} {vs : List Value} (o : OwX w l h v zss vs) : OwBB w l h v zss := ⟨vs, o⟩
theorem OwX.lt {w : World} {l h : Nat} {v : Value} {zss : List (List Int)} {vs : List Value} (o : OwX w l h v zss vs) : ∀ k, Blk vs k → l ≤ k ∧ k < h := fun k ⟨i, hi, hk⟩ => ⟨((o.2.2.2.1 i hi).2.1.lt k hk).1, (o.2.2.2.1 i hi).2.2 k hk⟩
theorem Owns.kept2 {w w' : World} {base : Nat} {v : Value} {zs : List Int} (h : Owns w base v zs) (hk : ∀ q, v.ownBlock = some q → w'.heap[q]? = w.heap[q]?) : Owns w' base v zs := by
  obtain ⟨h1, h2⟩ := h
  refine ⟨h1, ?_⟩
  rcases h2 with h2 | ⟨g, c, cur, hv, hg, hh, r⟩
  · exact .inl h2
  · exact .inr ⟨g, c, cur, hv, hg, by rw [hk g (by rw [hv]; rfl)]; exact hh, r⟩
theorem ownsRow_kept2 {w w' : World} {l : Nat} {e : TypeId} {size : Nat} {v : Value} {n : Nat} {xs : List Value} (o : w.ownsRow l e size v n xs) (hk : ∀ q, v.ownBlock = some q → w'.heap[q]? = w.heap[q]?) : w'.ownsRow l e size v n xs := by
  obtain ⟨h1, h2⟩ := o
  refine ⟨h1, ?_⟩
  rcases h2 with h2 | ⟨g, c, cur, hv, hg, hh, r⟩
  · exact .inl h2
  · exact .inr ⟨g, c, cur, hv, hg, by rw [hk g (by rw [hv]; rfl)]; exact hh, r⟩
theorem OwX.keep {w w' : World} {l h : Nat} {v : Value} {zss : List (List Int)} {vs : List Value} (o : OwX w l h v zss vs) (h1 : ∀ q, v.ownBlock = some q → w'.heap[q]? = w.heap[q]?) (h2 : ∀ q, Blk vs q → w'.heap[q]? = w.heap[q]?) : OwX w' l h v zss vs :=
  ⟨o.1, ownsRow_kept2 o.2.1 h1, o.2.2.1, fun i hi => ⟨(o.2.2.2.1 i hi).1, (o.2.2.2.1 i hi).2.1.kept2 (fun q hq => h2 q ⟨i, hi, hq⟩), (o.2.2.2.1 i hi).2.2⟩, o.2.2.2.2⟩
/-- The block of a row of one type is not that of bytes. -/
theorem tag_ne {w : World} {l l' : Nat} {e : TypeId} {size : Nat} {v u : Value} {n : Nat} {xs : List Value} {zs : List Int} (o : w.ownsRow l e size v n xs) (h : Owns w l' u zs) (he : e ≠ 5) (q : Nat) (hv : v.ownBlock = some q) : u.ownBlock ≠ some q := by
  intro hu
  rcases o.2 with ⟨h0, _⟩ | ⟨g, c, cur, h0, _, hh, _⟩
  · rw [h0] at hv; cases hv
  · rw [h0] at hv; cases hv
    rcases h.2 with ⟨e1, _⟩ | ⟨g', c', cur', e1, _, hh', _⟩
    · rw [e1] at hu; cases hu
    · rw [e1] at hu; cases hu
      rw [hh] at hh'
      simp only [Option.some.injEq, Obj.cells.injEq] at hh'
      exact he hh'.2.1

/-- One of the lists was turned in its own block. -/
theorem OwX.put {w w' : World} {l h : Nat} {v : Value} {zss : List (List Int)} {j : Nat} {new : List Int} {vs : List Value} (o : OwX w l h v zss vs) (hj : j < zss.length) :
    ∃ g cap x, v = .slice (some ⟨g, 0, none⟩) zss.length cap ∧ w.cell? ⟨g, j, none⟩ = some x ∧ x = vs[j]?.getD undef ∧ OwB w l h x (zss[j]?.getD []) ∧
      (∀ w' new, isBytes new → Owns w' l x new → w.grownBy w' x.ownBlock → OwX w' l h v (zss.set j new) vs) := by
  obtain ⟨hl, ho, hb, he, hd⟩ := o
  rcases ho.2 with ⟨hv, h0⟩ | ⟨g, c, cur, hv, hg, hh, hnc, hm, hr⟩
  · omega
  subst hv
  refine ⟨g, c, vs[j]?.getD undef, by rw [hl], ?_, rfl, he j (by omega), fun w' new hnb hon hgr => ?_⟩
  · rw [World.ownsRow.cellAt ho j (by omega)]
    simp [show j < vs.length by omega]
  · have tag : (vs[j]?.getD undef).ownBlock ≠ some g := fun e => by
      rcases (he j (by omega)).2.1.2 with ⟨e1, _⟩ | ⟨g', c', cur', e1, _, hh', _⟩
      · rw [e1] at e; cases e
      · rw [e1] at e; cases e
        rw [hh] at hh'
        simp at hh'
    refine ⟨by simp [hl], World.ownsRow.kept ho hgr (.inr (fun e => tag e.symm)), hb, fun i hi => ?_, hd⟩
    rw [List.getElem?_set]
    by_cases hij : j = i
    · subst hij
      rw [if_pos rfl]
      simp only [show j < zss.length by omega, if_true, Option.getD_some]
      exact ⟨hnb, hon, (he j (by omega)).2.2⟩
    · rw [if_neg hij]
      have oi := he i hi
      refine ⟨oi.1, ?_, oi.2.2⟩
      refine oi.2.1.other hgr (fun k hk e => ?_)
      rcases Nat.lt_or_gt_of_ne hij with h1 | h1
      · exact hd j i k h1 hi e hk
      · exact hd i j k h1 (by omega) hk e

def MRelX (zss : List (List Int)) (vs : List Value) (k l h n : Nat) (v : Value) (w : World) (q i : Value) (wr : World) : Prop :=
  ∃ j s : Nat, j ≤ n ∧ i = .int .i64 j ∧ q = .int .i64 s ∧ Hid (s = k + lenBB (zss.take j)) ∧ Hid (OwX wr l h v (markedBB zss k j) vs) ∧ TurnsV vs w wr

set_option maxHeartbeats 1000000 in
theorem markByteSS_x (v : Value) (zss : List (List Int)) (vs : List Value) (k l h : Nat) (w : World) (o : OwX w l h v zss vs) (hl : zss.length ≤ 2097152) (hs : lenBB zss ≤ 2097152) (hk : k ≤ 2097152) :
    Calls Tryd.prog 33 #[v, .int .i64 k] w fun e w' => e = .returned (.int .i64 ((k : Int) + (lenBB zss : Int))) ∧ OwX w' l h v (markBB zss k) vs ∧ TurnsV vs w w' := by
  obtain ⟨a, n, cap, hv, HN⟩ : ∃ a n cap, v = .slice a n cap ∧ Hid (n = zss.length) := by
    obtain ⟨a, n, cap, us, hv, hn, _⟩ := o.bb.rd
    exact ⟨a, n, cap, hv, hn⟩
  subst hv
  have hnn : n ≤ 2097152 := by rw [HN.out]; exact hl
  have HO : Hid _ := o
  clear o hl
  go_enter Tryd.func33, Tryd.ntmps33
  go_wp2
  go_loopw [1, 5] (fun q i wr => MRelX zss vs k l h n (.slice a n cap) w q i wr) (fun _ i _ => n - (intOf i).toNat)
  case atStart => exact ⟨0, k, Nat.zero_le _, rfl, rfl, by show _ = _; simp [lenBB], by show OwX _ _ _ _ _ _; rw [markedBB_none]; exact HO.out, TurnsV.refl _ _⟩
  case round =>
    clear HO
    obtain ⟨j, s, hj, rfl, rfl, HS, HO, ht⟩ := hrel
    by_cases hlt : j < n
    · have hjz : j < zss.length := by rw [← HN.out]; exact hlt
      obtain ⟨g, c', x, hv, hcell, hxe, hox, hput⟩ := OwX.put HO.out (j := j) (w' := wr) (new := []) (by rw [markedBB_length _ _ _ (by omega)]; exact hjz)
      have HJV : Hid (j < vs.length ∧ x = vs[j]?.getD undef) := ⟨by have := HO.out.1; rw [markedBB_length _ _ _ (by omega)] at this; omega, hxe⟩
      clear hxe
      simp only [Value.slice.injEq] at hv
      obtain ⟨rfl, hv2, hv3⟩ := hv
      clear hv2 hv3
      rw [markedBB_at _ _ _ hjz] at hox
      have hln := lenBB_next zss j hjz
      have hlt2 := lenBB_take zss (j + 1)
      have hbz := lenBB_at zss j
      have hsk : s ≤ 4194304 := by rw [HS.out]; omega
      have hns : s + (zss[j]?.getD []).length = k + lenBB (zss.take (j + 1)) := by rw [HS.out]; omega
      have hms := markedBB_set zss k j hjz
      rw [← HS.out] at hms
      generalize zss[j]?.getD [] = zs at hox hbz hns hms
      have HPUT : Hid _ := hput
      have HNS : Hid _ := hns
      have HMS : Hid _ := hms
      have HOX : Hid _ := hox
      clear hput hns hms hox hln hlt2 HO HS
      go_wp2_with fail
      refine (mark_any x zs s l wr HOX.out.2.1 (by omega) (by omega)).mono ?_
      rintro e w2 ⟨rfl, ho2, hg2⟩
      have HO2 : Hid (OwX w2 l h (.slice (some ⟨g, 0, none⟩) n cap) (markedBB zss k (j + 1)) vs) := by
        have := HPUT.out w2 _ (marks_isBytes _ _) ho2 hg2
        rw [HMS.out] at this; exact this
      have ht2 : TurnsV vs w w2 := ht.trans (TurnsV.ofGrown hg2 (fun q hq => Blk.at HJV.out.1 (by rw [← HJV.out.2]; exact hq)))
      have HR : MRelX zss vs k l h n (.slice (some ⟨g, 0, none⟩) n cap) w (.int .i64 ((s + zs.length : Nat) : Int)) (.int .i64 ((j : Int) + 1)) w2 := ⟨j + 1, s + zs.length, by omega, by go_num, rfl, HNS.out, HO2, ht2⟩
      rw [show ((s + zs.length : Nat) : Int) = (s : Int) + (zs.length : Int) by omega] at HR ⊢
      have HRR : Hid _ := HR
      clear HPUT HMS HOX ho2 hg2 HR
      go_wp2
      refine ⟨?_, by simp [intOf]; omega⟩
      first | exact HRR.out | exact ⟨_, _, HRR.out, rfl, rfl⟩
    · have hjn : j = n := by omega
      subst hjn
      have hss : s ≤ 4194304 := by have := lenBB_take zss j; rw [HS.out]; omega
      go_wp2
      go_ret
      have e1 : zss.take j = zss := List.take_of_length_le (by rw [← HN.out]; exact Nat.le_refl _)
      refine ⟨by have := HS.out; rw [e1] at this; simp [this], ?_, ht⟩
      have := HO.out
      rw [HN.out, markedBB_all] at this
      rw [HN.out]
      exact this


/-- As OwWs, its data named. -/
def OwY (w : World) (l h : Nat) (v : Value) (ws : List Wt) (xs : List Value) : Prop :=
  ∃ C : List Value, xs.length = ws.length ∧ w.ownsRow l 75 2 v xs.length C ∧ Before v h ∧
    (∀ i, i < xs.length → C[i * 2]? = some (.int .i64 (ws[i]?.getD (0, [])).1) ∧ C[i * 2 + 1]? = some (xs[i]?.getD undef)) ∧
    (∀ i, i < xs.length → OwB w l h (xs[i]?.getD undef) (ws[i]?.getD (0, [])).2) ∧
    ∀ i j k, i < j → j < xs.length → (xs[i]?.getD undef).ownBlock = some k → (xs[j]?.getD undef).ownBlock ≠ some k
theorem OwY.ww {w : World} {l h : Nat} {v : Value} {ws : List Wt} {xs : List Value} (o : OwY w l h v ws xs) : OwWs w l h v ws := by
  obtain ⟨C, o⟩ := o
  exact ⟨xs, C, o⟩
theorem OwY.len {w : World} {l h : Nat} {v : Value} {ws : List Wt} {xs : List Value} (o : OwY w l h v ws xs) : xs.length = ws.length := by obtain ⟨C, h1, _⟩ := o; exact h1
theorem OwY.lt {w : World} {l h : Nat} {v : Value} {ws : List Wt} {xs : List Value} (o : OwY w l h v ws xs) : ∀ k, Blk (v :: xs) k → l ≤ k ∧ k < h := by
  obtain ⟨C, h1, h2, h3, h4, h5, h6⟩ := o
  rintro k ⟨i, hi, hk⟩
  cases i with
  | zero => exact ⟨(h2.lt k (by simpa using hk)).1, h3 k (by simpa using hk)⟩
  | succ i =>
    have hi' : i < xs.length := by simpa using hi
    have hk' : (xs[i]?.getD undef).ownBlock = some k := by simpa using hk
    exact ⟨((h5 i hi').2.1.lt k hk').1, (h5 i hi').2.2 k hk'⟩
theorem OwY.keep {w w' : World} {l h : Nat} {v : Value} {ws : List Wt} {xs : List Value} (o : OwY w l h v ws xs) (hk : ∀ q, Blk (v :: xs) q → w'.heap[q]? = w.heap[q]?) : OwY w' l h v ws xs := by
  obtain ⟨C, h1, h2, h3, h4, h5, h6⟩ := o
  refine ⟨C, h1, ownsRow_kept2 h2 (fun q hq => hk q ⟨0, by simp, by simpa using hq⟩), h3, h4, fun i hi => ⟨(h5 i hi).1, (h5 i hi).2.1.kept2 (fun q hq => hk q ⟨i + 1, by simpa using hi, by simpa using hq⟩), (h5 i hi).2.2⟩, h6⟩

/-- One of the writes was turned: its place in the list's block, its data in their own. -/
theorem OwY.put {w : World} {l h : Nat} {v : Value} {ws : List Wt} {j : Nat} {xs : List Value} (o : OwY w l h v ws xs) (hj : j < ws.length) :
    ∃ g cap x, v = .slice (some ⟨g, 0, none⟩) ws.length cap ∧ l ≤ g ∧ g < h ∧ w.cell? ⟨g, j * 2, none⟩ = some (.int .i64 (ws[j]?.getD (0, [])).1) ∧ w.cell? ⟨g, j * 2 + 1, none⟩ = some x ∧ w.frozen? ⟨g, j * 2, none⟩ = false ∧ x = xs[j]?.getD undef ∧
      OwB w l h x (ws[j]?.getD (0, [])).2 ∧ (∀ p : Int, OwB (w.setCell ⟨g, j * 2, none⟩ (.int .i64 p)) l h x (ws[j]?.getD (0, [])).2) ∧
      (∀ (p : Int) w' new, isBytes new → Owns w' l x new → (w.setCell ⟨g, j * 2, none⟩ (.int .i64 p)).grownBy w' x.ownBlock → OwY w' l h v (ws.set j (p, new)) xs) := by
  obtain ⟨C, hl, ho, hb, hC, he, hd⟩ := o
  rcases ho.2 with ⟨hv, h0⟩ | ⟨g, c, cur, hv, hg, hh, hnc, hm, hr⟩
  · omega
  subst hv
  have hCl : C.length = xs.length * 2 := ho.1
  have tag : ∀ i, i < xs.length → ∀ q, (xs[i]?.getD undef).ownBlock = some q → q ≠ g := fun i hi q e e2 => by
    subst e2
    rcases (he i hi).2.1.2 with ⟨e1, _⟩ | ⟨g', c', cur', e1, _, hh', _⟩
    · rw [e1] at e; cases e
    · rw [e1] at e; cases e
      rw [hh] at hh'
      simp at hh'
  refine ⟨g, c, xs[j]?.getD undef, by rw [hl], hg, hb g rfl, ?_, ?_, ho.frozenAt _, rfl, he j (by omega), fun p => ⟨(he j (by omega)).1, (he j (by omega)).2.1.aside (fun q hq => tag j (by omega) q hq), (he j (by omega)).2.2⟩, fun p w' new hnb hon hgr => ?_⟩
  · rw [World.ownsRow.cellAt ho (j * 2) (by omega)]; exact (hC j (by omega)).1
  · rw [World.ownsRow.cellAt ho (j * 2 + 1) (by omega)]; exact (hC j (by omega)).2
  · have h1 := ho.stored (j * 2) (.int .i64 p)
    refine ⟨C.set (j * 2) (.int .i64 p), by simp [hl], World.ownsRow.kept h1.1 hgr (.inr (fun e => tag j (by omega) g e.symm rfl)), hb, fun i hi => ?_, fun i hi => ?_, hd⟩
    · by_cases hij : j = i
      · subst hij
        refine ⟨?_, ?_⟩
        · rw [List.getElem?_set, if_pos rfl, if_pos (by omega), List.getElem?_set, if_pos rfl, if_pos hj]; rfl
        · rw [List.getElem?_set, if_neg (by omega)]; exact (hC j hi).2
      · refine ⟨?_, ?_⟩
        · rw [List.getElem?_set, if_neg (by omega), List.getElem?_set, if_neg hij]; exact (hC i hi).1
        · rw [List.getElem?_set, if_neg (by omega)]; exact (hC i hi).2
    · rw [List.getElem?_set]
      by_cases hij : j = i
      · subst hij
        rw [if_pos rfl, if_pos (by omega)]
        exact ⟨hnb, hon, (he j (by omega)).2.2⟩
      · rw [if_neg hij]
        have oi := he i hi
        refine ⟨oi.1, ?_, oi.2.2⟩
        refine (oi.2.1.aside (p := ⟨g, j * 2, none⟩) (u := .int .i64 p) (fun q hq => tag i hi q hq)).other hgr (fun k hk e => ?_)
        rcases Nat.lt_or_gt_of_ne hij with h1 | h1
        · exact hd j i k h1 hi e hk
        · exact hd i j k h1 (by omega) hk e

def MRelY (ws : List Wt) (xs : List Value) (k l h n : Nat) (v : Value) (w : World) (q i : Value) (wr : World) : Prop :=
  ∃ j s : Nat, j ≤ n ∧ i = .int .i64 j ∧ q = .int .i64 s ∧ Hid (s = k + lenWs (ws.take j)) ∧ Hid (OwY wr l h v (markedWs ws k j) xs) ∧ TurnsV (v :: xs) w wr

set_option maxHeartbeats 1000000 in
theorem markWaitS_y (v : Value) (ws : List Wt) (xs : List Value) (k l h : Nat) (w : World) (o : OwY w l h v ws xs) (hs : lenWs ws ≤ 2097152) (hk : k ≤ 4194304) :
    Calls Tryd.prog 65 #[v, .int .i64 k] w fun e w' => e = .returned (.int .i64 ((k : Int) + (lenWs ws : Int))) ∧ OwY w' l h v (markWs ws k) xs ∧ TurnsV (v :: xs) w w' := by
  obtain ⟨a, n, cap, hv, HN⟩ : ∃ a n cap, v = .slice a n cap ∧ Hid (n = ws.length) := by
    obtain ⟨a, n, cap, vs, hv, hn, _⟩ := o.ww.rd
    exact ⟨a, n, cap, hv, hn⟩
  subst hv
  have hnn : n ≤ 2097152 := by have := lenWs_len ws; rw [HN.out]; omega
  have HO : Hid _ := o
  clear o
  go_enter Tryd.func65, Tryd.ntmps65
  go_wp2
  go_loopw [1, 5] (fun q i wr => MRelY ws xs k l h n (.slice a n cap) w q i wr) (fun _ i _ => n - (intOf i).toNat)
  case atStart => exact ⟨0, k, Nat.zero_le _, rfl, rfl, by show _ = _; simp [lenWs], by show OwY _ _ _ _ _ _; rw [markedWs_none]; exact HO.out, TurnsV.refl _ _⟩
  case round =>
    clear HO
    obtain ⟨j, s, hj, rfl, rfl, HS, HO, ht⟩ := hrel
    by_cases hlt : j < n
    · have hjz : j < ws.length := by rw [← HN.out]; exact hlt
      obtain ⟨g, c', x, hv, hlg, hgh, hc1, hc2, hf1, hxe, hox, hox2, hput⟩ := OwY.put HO.out (j := j) (by rw [markedWs_length _ _ _ (by omega)]; exact hjz)
      have HJV : Hid (j < xs.length ∧ x = xs[j]?.getD undef) := ⟨by have := OwY.len HO.out; rw [markedWs_length _ _ _ (by omega)] at this; omega, hxe⟩
      clear hxe
      simp only [Value.slice.injEq] at hv
      obtain ⟨rfl, hv2, hv3⟩ := hv
      clear hv2 hv3
      rw [markedWs_at _ _ _ hjz] at hox hc1
      have hox3 := hox2 (s : Int)
      rw [markedWs_at _ _ _ hjz] at hox3
      have hln := lenWs_next ws j hjz
      have hlt2 := lenWs_take ws (j + 1)
      have hbz := lenWs_at ws j
      have hsk : s ≤ 8388607 := by rw [HS.out]; omega
      have hns : s + 1 + (ws[j]?.getD (0, [])).2.length = k + lenWs (ws.take (j + 1)) := by rw [HS.out]; omega
      have hms := markedWs_set ws k j hjz
      rw [← HS.out] at hms
      generalize (ws[j]?.getD (0, [])).2 = zs at hox3 hbz hns hms
      generalize (ws[j]?.getD (0, [])).1 = p0 at hc1
      have HPUT : Hid _ := hput
      have HNS : Hid _ := hns
      have HMS : Hid _ := hms
      have HOX : Hid _ := hox3
      have HT : Hid (TurnsV (.slice (some ⟨g, 0, none⟩) n cap :: xs) w (wr.setCell ⟨g, j * 2, none⟩ (.int .i64 (s : Int)))) := ht.trans ⟨rfl, rfl, rfl, by simp, fun q _ hq => heap_setCell_other _ _ _ _ (by show q ≠ g; rintro rfl; exact hq ⟨0, by simp, rfl⟩)⟩
      clear hput hns hms hox hox2 hox3 hln hlt2 HO HS ht
      go_wp2_with fail
      refine (mark_v x zs ((s : Int) + 1) l _ HOX.out.2.1 (by omega) (by omega) (by omega)).mono ?_
      rintro e w2 ⟨rfl, ho2, hg2⟩
      rw [show ((s : Int) + 1).toNat = s + 1 by omega] at ho2
      have HO2 : Hid (OwY w2 l h (.slice (some ⟨g, 0, none⟩) n cap) (markedWs ws k (j + 1)) xs) := by
        have := HPUT.out _ w2 _ (marks_isBytes _ _) ho2 hg2
        rw [HMS.out] at this; exact this
      have ht2 : TurnsV (.slice (some ⟨g, 0, none⟩) n cap :: xs) w w2 := TurnsV.trans HT.out (TurnsV.ofGrown hg2 (fun q hq => ⟨j + 1, by simpa using HJV.out.1, by rw [HJV.out.2] at hq; simpa using hq⟩))
      have HR : MRelY ws xs k l h n (.slice (some ⟨g, 0, none⟩) n cap) w (.int .i64 ((s : Int) + 1 + (zs.length : Int))) (.int .i64 ((j : Int) + 1)) w2 := ⟨j + 1, s + 1 + zs.length, by omega, by go_num, by go_num, HNS.out, HO2, ht2⟩
      have HRR : Hid _ := HR
      clear HPUT HMS HOX ho2 hg2 HR HT
      go_wp2
      refine ⟨?_, by simp [intOf]; omega⟩
      first | exact HRR.out | exact ⟨_, _, HRR.out, rfl, rfl⟩
    · have hjn : j = n := by omega
      subst hjn
      have hss : s ≤ 8388608 := by have := lenWs_take ws j; rw [HS.out]; omega
      go_wp2
      go_ret
      have e1 : ws.take j = ws := List.take_of_length_le (by rw [← HN.out]; exact Nat.le_refl _)
      refine ⟨by have := HS.out; rw [e1] at this; simp [this], ?_, ht⟩
      have := HO.out
      rw [HN.out, markedWs_all] at this
      rw [HN.out]
      exact this


/-- v is the call's own, with the disk d, no two of its lists in one block, all in blocks l .. h-1. -/
def OwD2 (w : World) (l h : Nat) (v : Value) (d : Dk) : Prop := ∃ x y vs xs, v = .agg #[x, y] ∧ OwX w l h x d.1 vs ∧ OwY w l h y d.2 xs ∧ ∀ q, Blk vs q → ¬ Blk xs q
theorem OwD2.rd {w : World} {l h : Nat} {v : Value} {d : Dk} (o : OwD2 w l h v d) : RdD w l h v d := by
  obtain ⟨x, y, vs, xs, hv, h1, h2, _⟩ := o
  exact ⟨x, y, hv, h1.bb.rd, h2.ww.rd⟩
theorem OwX.same {w w' : World} {l h : Nat} {v : Value} {zss : List (List Int)} {vs : List Value} (o : OwX w l h v zss vs) (t : SameIn l h w w') : OwX w' l h v zss vs :=
  o.keep (fun q hq => t.2 q (o.2.1.lt q hq).1 (o.2.2.1 q hq)) (fun q hq => t.2 q (o.lt q hq).1 (o.lt q hq).2)
theorem OwY.same {w w' : World} {l h : Nat} {v : Value} {ws : List Wt} {xs : List Value} (o : OwY w l h v ws xs) (t : SameIn l h w w') : OwY w' l h v ws xs :=
  o.keep (fun q hq => t.2 q (o.lt q hq).1 (o.lt q hq).2)
theorem OwD2.same {w w' : World} {l h : Nat} {v : Value} {d : Dk} (o : OwD2 w l h v d) (t : SameIn l h w w') : OwD2 w' l h v d := by
  obtain ⟨x, y, vs, xs, hv, h1, h2, h3⟩ := o
  exact ⟨x, y, vs, xs, hv, h1.same t, h2.same t, h3⟩
theorem OwD2.step {w w' : World} {l h : Nat} {v : Value} {d : Dk} (r : OwD2 w l h v d) (hh : h ≤ w.heap.size) (hb : Below w.heap.size w w') : OwD2 w' l h v d := r.same (SameIn.ofBelow hb hh)
theorem OwX.noRow {w : World} {l h : Nat} {v : Value} {zss : List (List Int)} {vs : List Value} (o : OwX w l h v zss vs) (q : Nat) (hq : v.ownBlock = some q) : ¬ Blk vs q := fun ⟨i, hi, hk⟩ =>
  tag_ne o.2.1 (o.2.2.2.1 i hi).2.1 (by decide) q hq hk

set_option maxHeartbeats 1000000 in
theorem markDiskP_any (v : Value) (d : Dk) (l h : Nat) (k : Nat) (w : World) (o : OwD2 w l h v d) (hh : h ≤ w.heap.size) (hd : Small d) (hk : k ≤ 2097152) :
    Calls Tryd.prog 32 #[v, .int .i64 k] w fun x w' => x = .returned (.int .i64 ((k : Int) + (lenD d : Int))) ∧ OwD2 w' l h v (markD d k) ∧ Turns l h w w' := by
  obtain ⟨xa, xn, xc, ya, yn, yc, rfl⟩ := o.rd.open
  have b1 := Below.new (w := w) (.cells #[.slice xa xn xc, .slice ya yn yc] 26)
  have v1 := VarD.new w (.slice xa xn xc) (.slice ya yn yc)
  obtain ⟨x, y, vs, xs, hv, o1, o2, ha⟩ := o.step hh b1
  simp only [Value.agg.injEq, Array.mk.injEq, List.cons.injEq, and_true] at hv
  obtain ⟨rfl, rfl⟩ := hv
  generalize hw1 : w.alloc (.cells #[.slice xa xn xc, .slice ya yn yc] 26) = w1 at b1 v1 o1 o2
  have HW1 : Hid _ := hw1
  have s1 := v1.lt
  have HO1 : Hid (OwX w1 l h _ d.1 vs) := o1
  have HO2 : Hid (OwY w1 l h _ d.2 xs) := o2
  have HA : Hid _ := ha
  have HSM : Hid _ := hd
  have hlb := hd.2.1
  have HB1 : Hid _ := b1
  have HV1 : Hid (VarD w1 w.heap.size _ _) := v1
  clear hw1 o o1 o2 ha b1 v1 hd
  go_enter Tryd.func32, Tryd.ntmps32
  go_wp2_with fail
  rw [HW1.out]
  refine (markByteSS_x _ d.1 vs k l h w1 HO1.out HSM.out.1 HSM.out.2.1 hk).mono ?_
  rintro e w2 ⟨rfl, p1, t1⟩
  have hlt1 := OwX.lt HO1.out
  have T1 := t1.turns hlt1
  have HP2 : Hid (OwY w2 l h _ d.2 xs) := OwY.keep HO2.out (fun q hq => t1.block q (by have := OwY.lt HO2.out q hq; omega) (fun hb => by
    obtain ⟨i, hi, hk⟩ := hq
    cases i with
    | zero =>
      obtain ⟨C, _, h2, _⟩ := HO2.out
      obtain ⟨j, hj, hjk⟩ := hb
      exact tag_ne h2 ((OwX.same HO1.out (SameIn.refl _ _ _)).2.2.2.1 j hj).2.1 (by decide) q (by simpa using hk) hjk
    | succ i => exact HA.out q hb ⟨i, by simpa using hi, by simpa using hk⟩))
  have c01 : w2.cell? ⟨w.heap.size, 1, none⟩ = some (.slice ya yn yc) := (VarD.turn HV1.out T1 (.inr hh)).c1
  have HP1 : Hid (OwX w2 l h _ (markBB d.1 k) vs) := p1
  have HT1 : Hid (Turns l h w w2) := (Turns.ofBelow HB1.out).trans T1
  clear p1 t1 T1 HO1 HO2 hlt1
  have hkk : (k : Int) + (lenBB d.1 : Int) = ((k + lenBB d.1 : Nat) : Int) := by omega
  have HS2 : Hid _ := markWaitS_y _ d.2 xs (k + lenBB d.1) l h w2 HP2.out HSM.out.2.2 (by omega)
  rw [← hkk] at HS2
  have HKK : Hid _ := hkk
  clear hkk
  go_wp2_with fail
  refine Calls.mono HS2.out ?_
  rintro e w3 ⟨rfl, p2, t2⟩
  have HT2 : Hid (Turns l h w w3) := HT1.out.trans (t2.turns (OwY.lt HP2.out))
  have hs2 := HT1.out.size
  have nb : ∀ q, Blk vs q → ¬ Blk (.slice ya yn yc :: xs) q := fun q hb hq => by
    obtain ⟨i, hi, hk⟩ := hq
    cases i with
    | zero =>
      obtain ⟨C, _, h2, _⟩ := HP2.out
      obtain ⟨j, hj, hjk⟩ := hb
      exact tag_ne h2 ((OwX.same HP1.out (SameIn.refl _ _ _)).2.2.2.1 j hj).2.1 (by decide) q (by simpa using hk) hjk
    | succ i => exact HA.out q hb ⟨i, by simpa using hi, by simpa using hk⟩
  have nr : ∀ q, (Value.slice xa xn xc).ownBlock = some q → ¬ Blk (.slice ya yn yc :: xs) q := fun q hx hq => by
    obtain ⟨i, hi, hk⟩ := hq
    have hr := (OwX.same HP1.out (SameIn.refl _ _ _)).2.1
    obtain ⟨C, _, h2, _, _, h5, _⟩ := HP2.out
    cases i with
    | zero =>
      have hk' : (Value.slice ya yn yc).ownBlock = some q := by simpa using hk
      rcases hr.2 with ⟨h0, _⟩ | ⟨g, c, cur, h0, _, hh1, _⟩
      · rw [h0] at hx; cases hx
      · rw [h0] at hx; cases hx
        rcases h2.2 with ⟨e1, _⟩ | ⟨g', c', cur', e1, _, hh', _⟩
        · rw [e1] at hk'; cases hk'
        · rw [e1] at hk'; cases hk'
          rw [hh1] at hh'
          simp at hh'
    | succ i => exact tag_ne hr (h5 i (by simpa using hi)).2.1 (by decide) q hx (by simpa using hk)
  have HF : Hid (OwD2 w3 l h (.agg #[.slice xa xn xc, .slice ya yn yc]) (markD d k)) :=
    ⟨_, _, vs, xs, rfl, OwX.keep HP1.out (fun q hq => t2.block q (by have h1 := (OwX.same HP1.out (SameIn.refl _ _ _)).2.2.1 q hq; omega) (nr q hq)) (fun q hq => t2.block q (by have := OwX.lt HP1.out q hq; omega) (nb q hq)), p2, HA.out⟩
  clear p2 t2 HT1 HS2 HP1 HP2 nb nr
  go_wp2
  go_ret
  exact ⟨ret_int (by simp only [lenD]; omega), HF.out, HT2.out⟩

/-- append(v, x), v a list of writes of the call's own, x one of them in a block of its own: where the new list lies. -/
theorem step_appW {ops : Array Oper} {o : Oper} {a : Act} {w : World} {K : Act → World → Prop} {Q : Exit → Act → World → Prop} {E : Prop} (hgd : o.guard = none) (s x : Operand)
    (ho : o.op = .call { callee := .builtin .append, args := #[s, x], argTypes := #[24, 24] })
    (base : Nat) (v : Value) (n : Nat) (C : List Value) (hs : a.eval s = v) (hown : w.ownsRow base 75 2 v n C) (b : Nat) (p : Int) (u : Value) (hx : a.eval x = .slice (some ⟨b, 0, none⟩) 1 1) (hu : w.heap[b]? = some (.cells #[.int .i64 p, u] 75 (0, 0))) (h1 : u.oneCell' = true)
    (hl : n ≤ 4194304) (hbase : base ≤ w.heap.size)
    (h : ∀ g cap w', w'.ownsRow base 75 2 (.slice (some ⟨g, 0, none⟩) (n + 1) cap) (n + 1) (C ++ [.int .i64 p, u]) → w.grownBy w' v.ownBlock → (v.ownBlock = some g ∨ g = w.heap.size) → g < w'.heap.size → K (a.put o.dst (.slice (some ⟨g, 0, none⟩) (n + 1) cap)) w') : if Region.wanted o (yielded ops a.tmps) = true then Oper.wp Tryd.prog o a w K Q else E := by
  obtain ⟨i0, hi, hz0, hz1, hz2⟩ := info_parts Tryd.infoW
  refine step_append_lies w hgd s x 24 ho base 75 i0 (.agg #[.int .i64 0, .slice none 0 0]) 2 32 Tryd.underlying24 hi hz0 hz1 hz2 rfl (by decide) v n C hs hown ⟨b, 0, none⟩ 1 1 [.int .i64 p, u] hx rfl (World.news_of_block hu) (fun q hq => ?_) (by decide) (by unfold maxLen; omega) (by omega) hbase _ rfl h
  simp only [List.mem_cons, List.not_mem_nil, or_false] at hq
  rcases hq with rfl | rfl
  · rfl
  · exact h1

end Go.Proofs.YtjhaanenkeceiaaDoor
