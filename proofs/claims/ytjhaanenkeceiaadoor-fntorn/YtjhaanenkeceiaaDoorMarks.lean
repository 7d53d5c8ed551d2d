/- What the verifier's marking of lists of bytes lays, and that it is found again. Conditions: at most 2^21 bytes in all. -/
import Derived.Test.YtjhaanenkeceiaaDoorLists
namespace Go.Proofs.YtjhaanenkeceiaaDoor
open Go.RowKit
set_option linter.unusedVariables false

def lenBB : List (List Int) → Nat
  | [] => 0
  | z :: r => z.length + lenBB r
def markBB : List (List Int) → Nat → List (List Int)
  | [], _ => []
  | z :: r, k => marks z.length k :: markBB r (k + z.length)
theorem lenBB_append (a b : List (List Int)) : lenBB (a ++ b) = lenBB a + lenBB b := by
  induction a with
  | nil => simp [lenBB]
  | cons z r ih => simp only [List.cons_append, lenBB, ih]; omega
theorem markBB_append (a b : List (List Int)) (k : Nat) : markBB (a ++ b) k = markBB a k ++ markBB b (k + lenBB a) := by
  induction a generalizing k with
  | nil => simp [lenBB, markBB]
  | cons z r ih => simp only [List.cons_append, lenBB, markBB, ih]; rw [Nat.add_assoc]
@[simp] theorem markBB_length (a : List (List Int)) (k : Nat) : (markBB a k).length = a.length := by
  induction a generalizing k with
  | nil => rfl
  | cons z r ih => simp [markBB, ih]
theorem take_next (zss : List (List Int)) (j : Nat) (h : j < zss.length) : zss.take (j + 1) = zss.take j ++ [zss[j]?.getD []] := by
  rw [List.take_succ_eq_append_getElem h]; simp [h]
theorem lenBB_next (zss : List (List Int)) (j : Nat) (h : j < zss.length) : lenBB (zss.take (j + 1)) = lenBB (zss.take j) + (zss[j]?.getD []).length := by
  rw [take_next _ _ h, lenBB_append]; simp [lenBB]
theorem lenBB_take (zss : List (List Int)) (j : Nat) : lenBB (zss.take j) ≤ lenBB zss := by
  have := lenBB_append (zss.take j) (zss.drop j)
  rw [List.take_append_drop] at this; omega
theorem lenBB_at (zss : List (List Int)) (j : Nat) : (zss[j]?.getD []).length ≤ lenBB zss := by
  by_cases h : j < zss.length
  · have := lenBB_next zss j h
    have := lenBB_take zss (j + 1)
    omega
  · simp [h]
/-- The first j marked, the others as they were. -/
def markedBB (zss : List (List Int)) (k j : Nat) : List (List Int) := markBB (zss.take j) k ++ zss.drop j
theorem markedBB_none (zss : List (List Int)) (k : Nat) : markedBB zss k 0 = zss := by simp [markedBB, markBB]
theorem markedBB_all (zss : List (List Int)) (k : Nat) : markedBB zss k zss.length = markBB zss k := by simp [markedBB]
theorem markedBB_length (zss : List (List Int)) (k j : Nat) (h : j ≤ zss.length) : (markedBB zss k j).length = zss.length := by simp [markedBB]; omega
theorem markedBB_at (zss : List (List Int)) (k j : Nat) (h : j < zss.length) : (markedBB zss k j)[j]?.getD [] = zss[j]?.getD [] := by
  unfold markedBB
  rw [List.getElem?_append, if_neg (by simp; omega)]
  simp only [markBB_length, List.length_take, Nat.min_eq_left (Nat.le_of_lt h), Nat.sub_self, List.getElem?_drop, Nat.add_zero]
theorem markedBB_set (zss : List (List Int)) (k j : Nat) (h : j < zss.length) : (markedBB zss k j).set j (marks (zss[j]?.getD []).length (k + lenBB (zss.take j))) = markedBB zss k (j + 1) := by
  unfold markedBB
  rw [take_next _ _ h, markBB_append, List.set_append, if_neg (by simp; omega), List.drop_eq_getElem_cons h]
  simp only [markBB_length, List.length_take, Nat.min_eq_left (Nat.le_of_lt h), Nat.sub_self, List.set_cons_zero, markBB, List.append_assoc]
  rfl
theorem markBB_at (zss : List (List Int)) (k j : Nat) (h : j < zss.length) : (markBB zss k)[j]?.getD [] = marks (zss[j]?.getD []).length (k + lenBB (zss.take j)) := by
  have e : zss = zss.take j ++ (zss[j]?.getD [] :: zss.drop (j + 1)) := by
    have h1 : zss.drop j = zss[j]?.getD [] :: zss.drop (j + 1) := by rw [List.drop_eq_getElem_cons h]; simp [h]
    rw [← h1, List.take_append_drop]
  have e2 : markBB zss k = markBB (zss.take j) k ++ (marks (zss[j]?.getD []).length (k + lenBB (zss.take j)) :: markBB (zss.drop (j + 1)) (k + lenBB (zss.take j) + (zss[j]?.getD []).length)) := by
    conv => lhs; rw [e]
    rw [markBB_append]; rfl
  rw [e2, List.getElem?_append, if_neg (by simp; omega)]
  simp [Nat.min_eq_left (Nat.le_of_lt h)]

/-- One of the lists was turned in its own block. -/
theorem OwBB.put {w w' : World} {l h : Nat} {v : Value} {zss : List (List Int)} {j : Nat} {new : List Int} (o : OwBB w l h v zss) (hj : j < zss.length) :
    ∃ g cap x, v = .slice (some ⟨g, 0, none⟩) zss.length cap ∧ w.cell? ⟨g, j, none⟩ = some x ∧ OwB w l h x (zss[j]?.getD []) ∧
      (∀ w' new, isBytes new → Owns w' l x new → w.grownBy w' x.ownBlock → OwBB w' l h v (zss.set j new)) := by
  obtain ⟨vs, hl, ho, hb, he, hd⟩ := o
  rcases ho.2 with ⟨hv, h0⟩ | ⟨g, c, cur, hv, hg, hh, hnc, hm, hr⟩
  · omega
  subst hv
  refine ⟨g, c, vs[j]?.getD undef, by rw [hl], ?_, he j (by omega), fun w' new hnb hon hgr => ?_⟩
  · rw [World.ownsRow.cellAt ho j (by omega)]
    simp [show j < vs.length by omega]
  · have tag : (vs[j]?.getD undef).ownBlock ≠ some g := fun e => by
      rcases (he j (by omega)).2.1.2 with ⟨e1, _⟩ | ⟨g', c', cur', e1, _, hh', _⟩
      · rw [e1] at e; cases e
      · rw [e1] at e; cases e
        rw [hh] at hh'
        simp at hh'
    refine ⟨vs, by simp [hl], World.ownsRow.kept ho hgr (.inr (fun e => tag e.symm)), hb, fun i hi => ?_, hd⟩
    rw [List.getElem?_set]
    by_cases hij : j = i
    · subst hij
      rw [if_pos rfl]
      simp only [show j < zss.length by omega, if_true, Option.getD_some]
      exact ⟨hnb, hon, (he j (by omega)).2.2⟩
    · rw [if_neg hij]
      have oi := he i hi
      refine ⟨oi.1, ?_, oi.2.2⟩
      refine oi.2.1.other hgr (fun k hk e => ?_)
      rcases Nat.lt_or_gt_of_ne hij with h1 | h1
      · exact hd j i k h1 hi e hk
      · exact hd i j k h1 (by omega) hk e

def MRel (zss : List (List Int)) (k l h n : Nat) (v : Value) (w : World) (q i : Value) (wr : World) : Prop :=
  ∃ j s : Nat, j ≤ n ∧ i = .int .i64 j ∧ q = .int .i64 s ∧ Hid (s = k + lenBB (zss.take j)) ∧ Hid (OwBB wr l h v (markedBB zss k j)) ∧ Turns l h w wr

set_option maxHeartbeats 1000000 in
theorem markByteSS_any (v : Value) (zss : List (List Int)) (k l h : Nat) (w : World) (o : OwBB w l h v zss) (hl : zss.length ≤ 2097152) (hs : lenBB zss ≤ 2097152) (hk : k ≤ 2097152) :
    Calls Tryd.prog 33 #[v, .int .i64 k] w fun e w' => e = .returned (.int .i64 ((k : Int) + (lenBB zss : Int))) ∧ OwBB w' l h v (markBB zss k) ∧ Turns l h w w' := by
  obtain ⟨a, n, cap, hv, HN⟩ : ∃ a n cap, v = .slice a n cap ∧ Hid (n = zss.length) := by
    obtain ⟨a, n, cap, vs, hv, hn, _⟩ := o.rd
    exact ⟨a, n, cap, hv, hn⟩
  subst hv
  have hnn : n ≤ 2097152 := by rw [HN.out]; exact hl
  have HO : Hid _ := o
  clear o hl
  go_enter Tryd.func33, Tryd.ntmps33
  go_wp2
  go_loopw [1, 5] (fun q i wr => MRel zss k l h n (.slice a n cap) w q i wr) (fun _ i _ => n - (intOf i).toNat)
  case atStart => exact ⟨0, k, Nat.zero_le _, rfl, rfl, by show _ = _; simp [lenBB], by show OwBB _ _ _ _ _; rw [markedBB_none]; exact HO.out, Turns.refl _ _ _⟩
  case round =>
    clear HO
    obtain ⟨j, s, hj, rfl, rfl, HS, HO, ht⟩ := hrel
    by_cases hlt : j < n
    · have hjz : j < zss.length := by rw [← HN.out]; exact hlt
      obtain ⟨g, c', x, hv, hcell, hox, hput⟩ := HO.out.put (j := j) (w' := wr) (new := []) (by rw [markedBB_length _ _ _ (by omega)]; exact hjz)
      simp only [Value.slice.injEq] at hv
      obtain ⟨rfl, hv2, hv3⟩ := hv
      clear hv2 hv3
      rw [markedBB_at _ _ _ hjz] at hox
      have hln := lenBB_next zss j hjz
      have hlt2 := lenBB_take zss (j + 1)
      have hbz := lenBB_at zss j
      have hsk : s ≤ 4194304 := by rw [HS.out]; omega
      have hns : s + (zss[j]?.getD []).length = k + lenBB (zss.take (j + 1)) := by rw [HS.out]; omega
      have hms := markedBB_set zss k j hjz
      rw [← HS.out] at hms
      generalize zss[j]?.getD [] = zs at hox hbz hns hms
      have HPUT : Hid _ := hput
      have HNS : Hid _ := hns
      have HMS : Hid _ := hms
      have HOX : Hid _ := hox
      clear hput hns hms hox hln hlt2 HO HS
      go_wp2_with fail
      refine (mark_any x zs s l wr HOX.out.2.1 (by omega) (by omega)).mono ?_
      rintro e w2 ⟨rfl, ho2, hg2⟩
      have HO2 : Hid (OwBB w2 l h (.slice (some ⟨g, 0, none⟩) n cap) (markedBB zss k (j + 1))) := by
        have := HPUT.out w2 _ (marks_isBytes _ _) ho2 hg2
        rw [HMS.out] at this; exact this
      have ht2 : Turns l h w w2 := ht.trans (Turns.ofGrown hg2 (fun q hq => ⟨(HOX.out.2.1.lt q hq).1, HOX.out.2.2 q hq⟩))
      have HR : MRel zss k l h n (.slice (some ⟨g, 0, none⟩) n cap) w (.int .i64 ((s + zs.length : Nat) : Int)) (.int .i64 ((j : Int) + 1)) w2 := ⟨j + 1, s + zs.length, by omega, by go_num, rfl, HNS.out, HO2, ht2⟩
      rw [show ((s + zs.length : Nat) : Int) = (s : Int) + (zs.length : Int) by omega] at HR ⊢
      have HRR : Hid _ := HR
      clear HPUT HMS HOX ho2 hg2 HR
      go_wp2
      refine ⟨?_, by simp [intOf]; omega⟩
      first | exact HRR.out | exact ⟨_, _, HRR.out, rfl, rfl⟩
    · have hjn : j = n := by omega
      subst hjn
      have hss : s ≤ 4194304 := by have := lenBB_take zss j; rw [HS.out]; omega
      go_wp2
      go_ret
      have e1 : zss.take j = zss := List.take_of_length_le (by rw [← HN.out]; exact Nat.le_refl _)
      refine ⟨by have := HS.out; rw [e1] at this; simp [this], ?_, ht⟩
      have := HO.out
      rw [HN.out, markedBB_all] at this
      rw [HN.out]
      exact this

set_option maxHeartbeats 1000000 in
theorem heldByteSS_any (v : Value) (zss : List (List Int)) (k l h : Nat) (w : World) (r : RdBB w l h v (markBB zss k)) (hl : zss.length ≤ 2097152) (hs : lenBB zss ≤ 2097152) (hk : k ≤ 2097152) :
    Calls Tryd.prog 34 #[v, .int .i64 k] w fun e w' => e = .returned (.int .i64 ((k : Int) + (lenBB zss : Int))) ∧ w' = w := by
  obtain ⟨a, n, cap, vs, rfl, hn, _, hc, he⟩ := r
  rw [markBB_length] at hn
  have HN : Hid _ := hn
  have HC : Hid _ := hc
  have HE : Hid _ := he
  have hnn : n ≤ 2097152 := by omega
  clear hn hc he hl
  go_enter Tryd.func34, Tryd.ntmps34
  go_wp2
  go_loop [1, 5] (fun q i => ∃ j s : Nat, j ≤ n ∧ i = .int .i64 j ∧ q = .int .i64 s ∧ Hid (s = k + lenBB (zss.take j))) (fun _ i => n - (intOf i).toNat)
  case atStart => exact ⟨0, k, Nat.zero_le _, rfl, rfl, by show _ = _; simp [lenBB]⟩
  case round =>
    obtain ⟨j, s, hj, rfl, rfl, HS⟩ := hrel
    by_cases hlt : j < n
    · have hjz : j < zss.length := by rw [← HN.out]; exact hlt
      obtain ⟨b, off, rfl, _, _, hcc⟩ := HC.out.resolve_left (by omega)
      have h1 := hcc j hlt
      have r1 := HE.out j hlt
      rw [markBB_at _ _ _ hjz, ← HS.out] at r1
      have hln := lenBB_next zss j hjz
      have hlt2 := lenBB_take zss (j + 1)
      have hbz := lenBB_at zss j
      have hsk : s ≤ 4194304 := by rw [HS.out]; omega
      have HNS : Hid (s + (zss[j]?.getD []).length = k + lenBB (zss.take (j + 1))) := by show _ = _; rw [HS.out]; omega
      generalize zss[j]?.getD [] = zs at r1 hbz HNS
      generalize vs j = x at h1 r1
      have R1 : Hid _ := r1
      clear r1 hcc hln hlt2 HS
      go_wp2_with fail
      refine (held_r x zs.length s l h w R1.out (by omega) (by omega)).mono ?_
      rintro e w2 ⟨rfl, hw2⟩
      subst hw2
      go_wp2
      go_round
      case rel => exact ⟨j + 1, s + zs.length, by omega, by go_num, rfl, HNS.out⟩
      case measure => simp [intOf]; omega
    · have hjn : j = n := by omega
      subst hjn
      have hss : s ≤ 4194304 := by have := lenBB_take zss j; rw [HS.out]; omega
      go_wp2
      go_ret
      have e1 : zss.take j = zss := List.take_of_length_le (by rw [← HN.out]; exact Nat.le_refl _)
      exact ⟨by have := HS.out; rw [e1] at this; simp [this], rfl⟩
end Go.Proofs.YtjhaanenkeceiaaDoor
