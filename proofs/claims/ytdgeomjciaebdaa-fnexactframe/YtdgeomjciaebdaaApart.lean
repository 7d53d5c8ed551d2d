/- Disks of a call's own whose sectors and waiting writes lie mixed among one another, each in a block of its own: how they are marked. Conditions: at most 2^21 of each and of their bytes. -/
import Derived.Test.YtdgeomjciaebdaaSteps2
namespace Go.Proofs.Ytdgeomjciaebdaa
open Go.RowKit
set_option linter.unusedVariables false

/-- q is the block of one of these. -/
def Blk (vs : List Value) (q : Nat) : Prop := ∃ i, i < vs.length ∧ (vs[i]?.getD undef).ownBlock = some q
/-- Only blocks of these, and new ones, have turned. -/
structure TurnsV (vs : List Value) (w w' : World) : Prop where
  os : w'.os = w.os
  tape : w'.tape = w.tape
  output : w'.output = w.output
  size : w.heap.size ≤ w'.heap.size
  block : ∀ k, k < w.heap.size → ¬ Blk vs k → w'.heap[k]? = w.heap[k]?
theorem TurnsV.refl (vs : List Value) (w : World) : TurnsV vs w w := ⟨rfl, rfl, rfl, Nat.le_refl _, fun _ _ _ => rfl⟩
theorem TurnsV.trans {vs : List Value} {a b c : World} (h : TurnsV vs a b) (k : TurnsV vs b c) : TurnsV vs a c :=
  ⟨k.os.trans h.os, k.tape.trans h.tape, k.output.trans h.output, Nat.le_trans h.size k.size, fun i hi hr => (k.block i (Nat.lt_of_lt_of_le hi h.size) hr).trans (h.block i hi hr)⟩
theorem TurnsV.ofGrown {vs : List Value} {a b : World} {r : Option Nat} (h : a.grownBy b r) (hr : ∀ k, r = some k → Blk vs k) : TurnsV vs a b :=
  ⟨h.os, h.tape, h.output, h.size, fun i hi ho => h.block i hi (fun e => ho (hr i e.symm))⟩
theorem TurnsV.turns {vs : List Value} {l h : Nat} {a b : World} (t : TurnsV vs a b) (hr : ∀ k, Blk vs k → l ≤ k ∧ k < h) : Turns l h a b :=
  ⟨t.os, t.tape, t.output, t.size, fun i hi ho => t.block i hi (fun hb => by have := hr i hb; omega)⟩
theorem Blk.at {vs : List Value} {i q : Nat} (hi : i < vs.length) (h : (vs[i]?.getD undef).ownBlock = some q) : Blk vs q := ⟨i, hi, h⟩

/-- As OwBB, its elements named. -/
def OwX (w : World) (l h : Nat) (v : Value) (zss : List (List Int)) (vs : List Value) : Prop :=
  vs.length = zss.length ∧ w.ownsRow l 22 1 v vs.length vs ∧ Before v h ∧ (∀ i, i < vs.length → OwB w l h (vs[i]?.getD undef) (zss[i]?.getD [])) ∧
    ∀ i j k, i < j → j < vs.length → (vs[i]?.getD undef).ownBlock = some k → (vs[j]?.getD undef).ownBlock ≠ some k
theorem OwX.bb {w : World} {l h : Nat} {v : Value} {zss : List (List Int)} {vs : List Value} (o : OwX w l h v zss vs) : OwBB w l h v zss := ⟨vs, o⟩
theorem OwX.lt {w : World} {l h : Nat} {v : Value} {zss : List (List Int)} {vs : List Value} (o : OwX w l h v zss vs) : ∀ k, Blk vs k → l ≤ k ∧ k < h := fun k ⟨i, hi, hk⟩ => ⟨((o.2.2.2.1 i hi).2.1.lt k hk).1, (o.2.2.2.1 i hi).2.2 k hk⟩
theorem Owns.kept2 {w w' : World} {base : Nat} {v : Value} {zs : List Int} (h : Owns w base v zs) (hk : ∀ q, v.ownBlock = some q → w'.heap[q]? = w.heap[q]?) : Owns w' base v zs := by
  obtain ⟨h1, h2⟩ := h
  refine ⟨h1, ?_⟩
  rcases h2 with h2 | ⟨g, c, cur, hv, hg, hh, r⟩
  · exact .inl h2
  · exact .inr ⟨g, c, cur, hv, hg, by rw [hk g (by rw [hv]; rfl)]; exact hh, r⟩
theorem ownsRow_kept2 {w w' : World} {l : Nat} {e : TypeId} {size : Nat} {v : Value} {n : Nat} {xs : List Value} (o : w.ownsRow l e size v n xs) (hk : ∀ q, v.ownBlock = some q → w'.heap[q]? = w.heap[q]?) : w'.ownsRow l e size v n xs := by
  obtain ⟨h1, h2⟩ := o
  refine ⟨h1, ?_⟩
  rcases h2 with h2 | ⟨g, c, cur, hv, hg, hh, r⟩
  · exact .inl h2
  · exact .inr ⟨g, c, cur, hv, hg, by rw [hk g (by rw [hv]; rfl)]; exact hh, r⟩
theorem OwX.keep {w w' : World} {l h : Nat} {v : Value} {zss : List (List Int)} {vs : List Value} (o : OwX w l h v zss vs) (h1 : ∀ q, v.ownBlock = some q → w'.heap[q]? = w.heap[q]?) (h2 : ∀ q, Blk vs q → w'.heap[q]? = w.heap[q]?) : OwX w' l h v zss vs :=
  ⟨o.1, ownsRow_kept2 o.2.1 h1, o.2.2.1, fun i hi => ⟨(o.2.2.2.1 i hi).1, (o.2.2.2.1 i hi).2.1.kept2 (fun q hq => h2 q ⟨i, hi, hq⟩), (o.2.2.2.1 i hi).2.2⟩, o.2.2.2.2⟩
/-- The block of a row of one type is not that of bytes. -/
theorem tag_ne {w : World} {l l' : Nat} {e : TypeId} {size : Nat} {v u : Value} {n : Nat} {xs : List Value} {zs : List Int} (o : w.ownsRow l e size v n xs) (h : Owns w l' u zs) (he : e ≠ 5) (q : Nat) (hv : v.ownBlock = some q) : u.ownBlock ≠ some q := by
  intro hu
  rcases o.2 with ⟨h0, _⟩ | ⟨g, c, cur, h0, _, hh, _⟩
  · rw [h0] at hv; cases hv
  · rw [h0] at hv; cases hv
    rcases h.2 with ⟨e1, _⟩ | ⟨g', c', cur', e1, _, hh', _⟩
    · rw [e1] at hu; cases hu
    · rw [e1] at hu; cases hu
      rw [hh] at hh'
      simp only [Option.some.injEq, Obj.cells.injEq] at hh'
      exact he hh'.2.1

/-- One of the lists was turned in its own block. -/
theorem OwX.put {w w' : World} {l h : Nat} {v : Value} {zss : List (List Int)} {j : Nat} {new : List Int} {vs : List Value} (o : OwX w l h v zss vs) (hj : j < zss.length) :
    ∃ g cap x, v = .slice (some ⟨g, 0, none⟩) zss.length cap ∧ w.cell? ⟨g, j, none⟩ = some x ∧ x = vs[j]?.getD undef ∧ OwB w l h x (zss[j]?.getD []) ∧
      (∀ w' new, isBytes new → Owns w' l x new → w.grownBy w' x.ownBlock → OwX w' l h v (zss.set j new) vs) := by
  obtain ⟨hl, ho, hb, he, hd⟩ := o
  rcases ho.2 with ⟨hv, h0⟩ | ⟨g, c, cur, hv, hg, hh, hnc, hm, hr⟩
  · omega
  subst hv
  refine ⟨g, c, vs[j]?.getD undef, by rw [hl], ?_, rfl, he j (by omega), fun w' new hnb hon hgr => ?_⟩
  · rw [World.ownsRow.cellAt ho j (by omega)]
    simp [show j < vs.length by omega]
  · have tag : (vs[j]?.getD undef).ownBlock ≠ some g := fun e => by
      rcases (he j (by omega)).2.1.2 with ⟨e1, _⟩ | ⟨g', c', cur', e1, _, hh', _⟩
      · rw [e1] at e; cases e
      · rw [e1] at e; cases e
        rw [hh] at hh'
        simp at hh'
    refine ⟨by simp [hl], World.ownsRow.kept ho hgr (.inr (fun e => tag e.symm)), hb, fun i hi => ?_, hd⟩
    rw [List.getElem?_set]
    by_cases hij : j = i
    · subst hij
      rw [if_pos rfl]
      simp only [show j < zss.length by omega, if_true, Option.getD_some]
      exact ⟨hnb, hon, (he j (by omega)).2.2⟩
    · rw [if_neg hij]
      have oi := he i hi
      refine ⟨oi.1, ?_, oi.2.2⟩
      refine oi.2.1.other hgr (fun k hk e => ?_)
      rcases Nat.lt_or_gt_of_ne hij with h1 | h1
      · exact hd j i k h1 hi e hk
      · exact hd i j k h1 (by omega) hk e

def MRelX (zss : List (List Int)) (vs : List Value) (k l h n : Nat) (v : Value) (w : World) (q i : Value) (wr : World) : Prop :=
  ∃ j s : Nat, j ≤ n ∧ i = .int .i64 j ∧ q = .int .i64 s ∧ Hid (s = k + lenBB (zss.take j)) ∧ Hid (OwX wr l h v (markedBB zss k j) vs) ∧ TurnsV vs w wr

set_option maxHeartbeats 1000000 in
theorem markByteSS_x (v : Value) (zss : List (List Int)) (vs : List Value) (k l h : Nat) (w : World) (o : OwX w l h v zss vs) (hl : zss.length ≤ 2097152) (hs : lenBB zss ≤ 2097152) (hk : k ≤ 2097152) :
    Calls Try.prog 10 #[v, .int .i64 k] w fun e w' => e = .returned (.int .i64 ((k : Int) + (lenBB zss : Int))) ∧ OwX w' l h v (markBB zss k) vs ∧ TurnsV vs w w' := by
  obtain ⟨a, n, cap, hv, HN⟩ : ∃ a n cap, v = .slice a n cap ∧ Hid (n = zss.length) := by
    obtain ⟨a, n, cap, us, hv, hn, _⟩ := o.bb.rd
    exact ⟨a, n, cap, hv, hn⟩
  subst hv
  have hnn : n ≤ 2097152 := by rw [HN.out]; exact hl
  have HO : Hid _ := o
  clear o hl
  go_enter Try.func10, Try.ntmps10
  go_wp2
  go_loopw [1, 5] (fun q i wr => MRelX zss vs k l h n (.slice a n cap) w q i wr) (fun _ i _ => n - (intOf i).toNat)
  case atStart => exact ⟨0, k, Nat.zero_le _, rfl, rfl, by show _ = _; simp [lenBB], by show OwX _ _ _ _ _ _; rw [markedBB_none]; exact HO.out, TurnsV.refl _ _⟩
  case round =>
    clear HO
    obtain ⟨j, s, hj, rfl, rfl, HS, HO, ht⟩ := hrel
    by_cases hlt : j < n
    · have hjz : j < zss.length := by rw [← HN.out]; exact hlt
      obtain ⟨g, c', x, hv, hcell, hxe, hox, hput⟩ := OwX.put HO.out (j := j) (w' := wr) (new := []) (by rw [markedBB_length _ _ _ (by omega)]; exact hjz)
      have HJV : Hid (j < vs.length ∧ x = vs[j]?.getD undef) := ⟨by have := HO.out.1; rw [markedBB_length _ _ _ (by omega)] at this; omega, hxe⟩
      clear hxe
      simp only [Value.slice.injEq] at hv
      obtain ⟨rfl, hv2, hv3⟩ := hv
      clear hv2 hv3
      rw [markedBB_at _ _ _ hjz] at hox
      have hln := lenBB_next zss j hjz
      have hlt2 := lenBB_take zss (j + 1)
      have hbz := lenBB_at zss j
      have hsk : s ≤ 4194304 := by rw [HS.out]; omega
      have hns : s + (zss[j]?.getD []).length = k + lenBB (zss.take (j + 1)) := by rw [HS.out]; omega
      have hms := markedBB_set zss k j hjz
      rw [← HS.out] at hms
      generalize zss[j]?.getD [] = zs at hox hbz hns hms
      have HPUT : Hid _ := hput
      have HNS : Hid _ := hns
      have HMS : Hid _ := hms
      have HOX : Hid _ := hox
      clear hput hns hms hox hln hlt2 HO HS
      go_wp2_with fail
      refine (mark_any x zs s l wr HOX.out.2.1 (by omega) (by omega)).mono ?_
      rintro e w2 ⟨rfl, ho2, hg2⟩
      have HO2 : Hid (OwX w2 l h (.slice (some ⟨g, 0, none⟩) n cap) (markedBB zss k (j + 1)) vs) := by
        have := HPUT.out w2 _ (marks_isBytes _ _) ho2 hg2
        rw [HMS.out] at this; exact this
      have ht2 : TurnsV vs w w2 := ht.trans (TurnsV.ofGrown hg2 (fun q hq => Blk.at HJV.out.1 (by rw [← HJV.out.2]; exact hq)))
      have HR : MRelX zss vs k l h n (.slice (some ⟨g, 0, none⟩) n cap) w (.int .i64 ((s + zs.length : Nat) : Int)) (.int .i64 ((j : Int) + 1)) w2 := ⟨j + 1, s + zs.length, by omega, by go_num, rfl, HNS.out, HO2, ht2⟩
      rw [show ((s + zs.length : Nat) : Int) = (s : Int) + (zs.length : Int) by omega] at HR ⊢
      have HRR : Hid _ := HR
      clear HPUT HMS HOX ho2 hg2 HR
      go_wp2
      refine ⟨?_, by simp [intOf]; omega⟩
      first | exact HRR.out | exact ⟨_, _, HRR.out, rfl, rfl⟩
    · have hjn : j = n := by omega
      subst hjn
      have hss : s ≤ 4194304 := by have := lenBB_take zss j; rw [HS.out]; omega
      go_wp2
      go_ret
      have e1 : zss.take j = zss := List.take_of_length_le (by rw [← HN.out]; exact Nat.le_refl _)
      refine ⟨by have := HS.out; rw [e1] at this; simp [this], ?_, ht⟩
      have := HO.out
      rw [HN.out, markedBB_all] at this
      rw [HN.out]
      exact this


theorem OwX.same {w w' : World} {l h : Nat} {v : Value} {zss : List (List Int)} {vs : List Value} (o : OwX w l h v zss vs) (t : SameIn l h w w') : OwX w' l h v zss vs :=
  o.keep (fun q hq => t.2 q (o.2.1.lt q hq).1 (o.2.2.1 q hq)) (fun q hq => t.2 q (o.lt q hq).1 (o.lt q hq).2)
theorem OwX.noRow {w : World} {l h : Nat} {v : Value} {zss : List (List Int)} {vs : List Value} (o : OwX w l h v zss vs) (q : Nat) (hq : v.ownBlock = some q) : ¬ Blk vs q := fun ⟨i, hi, hk⟩ =>
  tag_ne o.2.1 (o.2.2.2.1 i hi).2.1 (by decide) q hq hk

end Go.Proofs.Ytdgeomjciaebdaa
