/- Lists of writes that wait, marked and found again. Conditions: at most 2^21 of them and of their bytes in all. -/
import Derived.Test.YtjhaanenkeceiaaDoorWaits2
namespace Go.Proofs.YtjhaanenkeceiaaDoor
open Go.RowKit
set_option linter.unusedVariables false

def lenWs : List Wt → Nat
  | [] => 0
  | z :: r => 1 + z.2.length + lenWs r
def markWs : List Wt → Nat → List Wt
  | [], _ => []
  | z :: r, k => ((k : Int), marks z.2.length (k + 1)) :: markWs r (k + (1 + z.2.length))
theorem lenWs_append (a b : List Wt) : lenWs (a ++ b) = lenWs a + lenWs b := by
  induction a with
  | nil => simp [lenWs]
  | cons z r ih => simp only [List.cons_append, lenWs, ih]; omega
theorem markWs_append (a b : List Wt) (k : Nat) : markWs (a ++ b) k = markWs a k ++ markWs b (k + lenWs a) := by
  induction a generalizing k with
  | nil => simp [lenWs, markWs]
  | cons z r ih => simp only [List.cons_append, lenWs, markWs, ih]; rw [Nat.add_assoc]
@[simp] theorem markWs_length (a : List Wt) (k : Nat) : (markWs a k).length = a.length := by
  induction a generalizing k with
  | nil => rfl
  | cons z r ih => simp [markWs, ih]
theorem takeW_next (ws : List Wt) (j : Nat) (h : j < ws.length) : ws.take (j + 1) = ws.take j ++ [ws[j]?.getD (0, [])] := by
  rw [List.take_succ_eq_append_getElem h]; simp [h]
theorem lenWs_next (ws : List Wt) (j : Nat) (h : j < ws.length) : lenWs (ws.take (j + 1)) = lenWs (ws.take j) + (1 + (ws[j]?.getD (0, [])).2.length) := by
  rw [takeW_next _ _ h, lenWs_append]; simp [lenWs]
theorem lenWs_take (ws : List Wt) (j : Nat) : lenWs (ws.take j) ≤ lenWs ws := by
  have := lenWs_append (ws.take j) (ws.drop j)
  rw [List.take_append_drop] at this; omega
theorem lenWs_at (ws : List Wt) (j : Nat) : (ws[j]?.getD (0, [])).2.length ≤ lenWs ws := by
  by_cases h : j < ws.length
  · have := lenWs_next ws j h
    have := lenWs_take ws (j + 1)
    omega
  · simp [h]
theorem lenWs_len (ws : List Wt) : ws.length ≤ lenWs ws := by
  induction ws with
  | nil => simp
  | cons z r ih => simp only [List.length_cons, lenWs]; omega
def markedWs (ws : List Wt) (k j : Nat) : List Wt := markWs (ws.take j) k ++ ws.drop j
theorem markedWs_none (ws : List Wt) (k : Nat) : markedWs ws k 0 = ws := by simp [markedWs, markWs]
theorem markedWs_all (ws : List Wt) (k : Nat) : markedWs ws k ws.length = markWs ws k := by simp [markedWs]
theorem markedWs_length (ws : List Wt) (k j : Nat) (h : j ≤ ws.length) : (markedWs ws k j).length = ws.length := by simp [markedWs]; omega
theorem markedWs_at (ws : List Wt) (k j : Nat) (h : j < ws.length) : (markedWs ws k j)[j]?.getD (0, []) = ws[j]?.getD (0, []) := by
  unfold markedWs
  rw [List.getElem?_append, if_neg (by simp; omega)]
  simp only [markWs_length, List.length_take, Nat.min_eq_left (Nat.le_of_lt h), Nat.sub_self, List.getElem?_drop, Nat.add_zero]
theorem markedWs_set (ws : List Wt) (k j : Nat) (h : j < ws.length) : (markedWs ws k j).set j (((k + lenWs (ws.take j) : Nat) : Int), marks (ws[j]?.getD (0, [])).2.length (k + lenWs (ws.take j) + 1)) = markedWs ws k (j + 1) := by
  unfold markedWs
  rw [takeW_next _ _ h, markWs_append, List.set_append, if_neg (by simp; omega), List.drop_eq_getElem_cons h]
  simp only [markWs_length, List.length_take, Nat.min_eq_left (Nat.le_of_lt h), Nat.sub_self, List.set_cons_zero, markWs, List.append_assoc]
  rfl
theorem markWs_at (ws : List Wt) (k j : Nat) (h : j < ws.length) : (markWs ws k)[j]?.getD (0, []) = (((k + lenWs (ws.take j) : Nat) : Int), marks (ws[j]?.getD (0, [])).2.length (k + lenWs (ws.take j) + 1)) := by
  have e : ws = ws.take j ++ (ws[j]?.getD (0, []) :: ws.drop (j + 1)) := by
    have h1 : ws.drop j = ws[j]?.getD (0, []) :: ws.drop (j + 1) := by rw [List.drop_eq_getElem_cons h]; simp [h]
    rw [← h1, List.take_append_drop]
  have e2 : markWs ws k = markWs (ws.take j) k ++ ((((k + lenWs (ws.take j) : Nat) : Int), marks (ws[j]?.getD (0, [])).2.length (k + lenWs (ws.take j) + 1)) :: markWs (ws.drop (j + 1)) (k + lenWs (ws.take j) + (1 + (ws[j]?.getD (0, [])).2.length))) := by
    conv => lhs; rw [e]
    rw [markWs_append]; rfl
  rw [e2, List.getElem?_append, if_neg (by simp; omega)]
  simp [Nat.min_eq_left (Nat.le_of_lt h)]

/-- One of the writes was turned: its place in the list's block, its data in their own. -/
theorem OwWs.put {w : World} {l h : Nat} {v : Value} {ws : List Wt} {j : Nat} (o : OwWs w l h v ws) (hj : j < ws.length) :
    ∃ g cap x, v = .slice (some ⟨g, 0, none⟩) ws.length cap ∧ l ≤ g ∧ g < h ∧ w.cell? ⟨g, j * 2, none⟩ = some (.int .i64 (ws[j]?.getD (0, [])).1) ∧ w.cell? ⟨g, j * 2 + 1, none⟩ = some x ∧ w.frozen? ⟨g, j * 2, none⟩ = false ∧
      OwB w l h x (ws[j]?.getD (0, [])).2 ∧ (∀ p : Int, OwB (w.setCell ⟨g, j * 2, none⟩ (.int .i64 p)) l h x (ws[j]?.getD (0, [])).2) ∧
      (∀ (p : Int) w' new, isBytes new → Owns w' l x new → (w.setCell ⟨g, j * 2, none⟩ (.int .i64 p)).grownBy w' x.ownBlock → OwWs w' l h v (ws.set j (p, new))) := by
  obtain ⟨xs, C, hl, ho, hb, hC, he, hd⟩ := o
  rcases ho.2 with ⟨hv, h0⟩ | ⟨g, c, cur, hv, hg, hh, hnc, hm, hr⟩
  · omega
  subst hv
  have hCl : C.length = xs.length * 2 := ho.1
  have tag : ∀ i, i < xs.length → ∀ q, (xs[i]?.getD undef).ownBlock = some q → q ≠ g := fun i hi q e e2 => by
    subst e2
    rcases (he i hi).2.1.2 with ⟨e1, _⟩ | ⟨g', c', cur', e1, _, hh', _⟩
    · rw [e1] at e; cases e
    · rw [e1] at e; cases e
      rw [hh] at hh'
      simp at hh'
  refine ⟨g, c, xs[j]?.getD undef, by rw [hl], hg, hb g rfl, ?_, ?_, ho.frozenAt _, he j (by omega), fun p => ⟨(he j (by omega)).1, (he j (by omega)).2.1.aside (fun q hq => tag j (by omega) q hq), (he j (by omega)).2.2⟩, fun p w' new hnb hon hgr => ?_⟩
  · rw [World.ownsRow.cellAt ho (j * 2) (by omega)]; exact (hC j (by omega)).1
  · rw [World.ownsRow.cellAt ho (j * 2 + 1) (by omega)]; exact (hC j (by omega)).2
  · have h1 := ho.stored (j * 2) (.int .i64 p)
    refine ⟨xs, C.set (j * 2) (.int .i64 p), by simp [hl], World.ownsRow.kept h1.1 hgr (.inr (fun e => tag j (by omega) g e.symm rfl)), hb, fun i hi => ?_, fun i hi => ?_, hd⟩
    · by_cases hij : j = i
      · subst hij
        refine ⟨?_, ?_⟩
        · rw [List.getElem?_set, if_pos rfl, if_pos (by omega), List.getElem?_set, if_pos rfl, if_pos hj]; rfl
        · rw [List.getElem?_set, if_neg (by omega)]; exact (hC j hi).2
      · refine ⟨?_, ?_⟩
        · rw [List.getElem?_set, if_neg (by omega), List.getElem?_set, if_neg hij]; exact (hC i hi).1
        · rw [List.getElem?_set, if_neg (by omega)]; exact (hC i hi).2
    · rw [List.getElem?_set]
      by_cases hij : j = i
      · subst hij
        rw [if_pos rfl, if_pos (by omega)]
        exact ⟨hnb, hon, (he j (by omega)).2.2⟩
      · rw [if_neg hij]
        have oi := he i hi
        refine ⟨oi.1, ?_, oi.2.2⟩
        refine (oi.2.1.aside (p := ⟨g, j * 2, none⟩) (u := .int .i64 p) (fun q hq => tag i hi q hq)).other hgr (fun k hk e => ?_)
        rcases Nat.lt_or_gt_of_ne hij with h1 | h1
        · exact hd j i k h1 hi e hk
        · exact hd i j k h1 (by omega) hk e

theorem held_i (v : Value) (n : Nat) (k : Int) (l h : Nat) (w : World) (r : RdB w l h v (marks n k.toNat)) (hl : n ≤ 2097152) (h0 : 0 ≤ k) (hk : k ≤ 8388608) :
    Calls Tryd.prog 66 #[v, .int .i64 k] w fun e w' => e = .returned (.int .i64 (k + (n : Int))) ∧ w' = w := by
  obtain ⟨q, rfl⟩ : ∃ q : Nat, k = (q : Int) := ⟨k.toNat, by omega⟩
  exact (held_r v n q l h w r hl (by omega)).mono fun e w' ⟨he, hw⟩ => ⟨by rw [he]; simp, hw⟩

def MRelW (ws : List Wt) (k l h n : Nat) (v : Value) (w : World) (q i : Value) (wr : World) : Prop :=
  ∃ j s : Nat, j ≤ n ∧ i = .int .i64 j ∧ q = .int .i64 s ∧ Hid (s = k + lenWs (ws.take j)) ∧ Hid (OwWs wr l h v (markedWs ws k j)) ∧ Turns l h w wr

set_option maxHeartbeats 1000000 in
theorem markWaitS_any (v : Value) (ws : List Wt) (k l h : Nat) (w : World) (o : OwWs w l h v ws) (hs : lenWs ws ≤ 2097152) (hk : k ≤ 4194304) :
    Calls Tryd.prog 65 #[v, .int .i64 k] w fun e w' => e = .returned (.int .i64 ((k : Int) + (lenWs ws : Int))) ∧ OwWs w' l h v (markWs ws k) ∧ Turns l h w w' := by
  obtain ⟨a, n, cap, hv, HN⟩ : ∃ a n cap, v = .slice a n cap ∧ Hid (n = ws.length) := by
    obtain ⟨a, n, cap, vs, hv, hn, _⟩ := o.rd
    exact ⟨a, n, cap, hv, hn⟩
  subst hv
  have hnn : n ≤ 2097152 := by have := lenWs_len ws; rw [HN.out]; omega
  have HO : Hid _ := o
  clear o
  go_enter Tryd.func65, Tryd.ntmps65
  go_wp2
  go_loopw [1, 5] (fun q i wr => MRelW ws k l h n (.slice a n cap) w q i wr) (fun _ i _ => n - (intOf i).toNat)
  case atStart => exact ⟨0, k, Nat.zero_le _, rfl, rfl, by show _ = _; simp [lenWs], by show OwWs _ _ _ _ _; rw [markedWs_none]; exact HO.out, Turns.refl _ _ _⟩
  case round =>
    clear HO
    obtain ⟨j, s, hj, rfl, rfl, HS, HO, ht⟩ := hrel
    by_cases hlt : j < n
    · have hjz : j < ws.length := by rw [← HN.out]; exact hlt
      obtain ⟨g, c', x, hv, hlg, hgh, hc1, hc2, hf1, hox, hox2, hput⟩ := HO.out.put (j := j) (by rw [markedWs_length _ _ _ (by omega)]; exact hjz)
      simp only [Value.slice.injEq] at hv
      obtain ⟨rfl, hv2, hv3⟩ := hv
      clear hv2 hv3
      rw [markedWs_at _ _ _ hjz] at hox hc1
      have hox3 := hox2 (s : Int)
      rw [markedWs_at _ _ _ hjz] at hox3
      have hln := lenWs_next ws j hjz
      have hlt2 := lenWs_take ws (j + 1)
      have hbz := lenWs_at ws j
      have hsk : s ≤ 8388607 := by rw [HS.out]; omega
      have hns : s + 1 + (ws[j]?.getD (0, [])).2.length = k + lenWs (ws.take (j + 1)) := by rw [HS.out]; omega
      have hms := markedWs_set ws k j hjz
      rw [← HS.out] at hms
      generalize (ws[j]?.getD (0, [])).2 = zs at hox3 hbz hns hms
      generalize (ws[j]?.getD (0, [])).1 = p0 at hc1
      have HPUT : Hid _ := hput
      have HNS : Hid _ := hns
      have HMS : Hid _ := hms
      have HOX : Hid _ := hox3
      have HT : Hid (Turns l h w (wr.setCell ⟨g, j * 2, none⟩ (.int .i64 (s : Int)))) := ht.trans ⟨rfl, rfl, rfl, by simp, fun q _ hq => heap_setCell_other _ _ _ _ (by show q ≠ g; omega)⟩
      clear hput hns hms hox hox2 hox3 hln hlt2 HO HS ht
      go_wp2_with fail
      refine (mark_v x zs ((s : Int) + 1) l _ HOX.out.2.1 (by omega) (by omega) (by omega)).mono ?_
      rintro e w2 ⟨rfl, ho2, hg2⟩
      rw [show ((s : Int) + 1).toNat = s + 1 by omega] at ho2
      have HO2 : Hid (OwWs w2 l h (.slice (some ⟨g, 0, none⟩) n cap) (markedWs ws k (j + 1))) := by
        have := HPUT.out _ w2 _ (marks_isBytes _ _) ho2 hg2
        rw [HMS.out] at this; exact this
      have ht2 : Turns l h w w2 := HT.out.trans (Turns.ofGrown hg2 (fun q hq => ⟨(HOX.out.2.1.lt q hq).1, HOX.out.2.2 q hq⟩))
      have HR : MRelW ws k l h n (.slice (some ⟨g, 0, none⟩) n cap) w (.int .i64 ((s : Int) + 1 + (zs.length : Int))) (.int .i64 ((j : Int) + 1)) w2 := ⟨j + 1, s + 1 + zs.length, by omega, by go_num, by go_num, HNS.out, HO2, ht2⟩
      have HRR : Hid _ := HR
      clear HPUT HMS HOX ho2 hg2 HR HT
      go_wp2
      refine ⟨?_, by simp [intOf]; omega⟩
      first | exact HRR.out | exact ⟨_, _, HRR.out, rfl, rfl⟩
    · have hjn : j = n := by omega
      subst hjn
      have hss : s ≤ 8388608 := by have := lenWs_take ws j; rw [HS.out]; omega
      go_wp2
      go_ret
      have e1 : ws.take j = ws := List.take_of_length_le (by rw [← HN.out]; exact Nat.le_refl _)
      refine ⟨by have := HS.out; rw [e1] at this; simp [this], ?_, ht⟩
      have := HO.out
      rw [HN.out, markedWs_all] at this
      rw [HN.out]
      exact this

set_option maxHeartbeats 1000000 in
theorem heldWaitS_any (v : Value) (ws : List Wt) (k l h : Nat) (w : World) (r : RdWs w l h v (markWs ws k)) (hs : lenWs ws ≤ 2097152) (hk : k ≤ 4194304) :
    Calls Tryd.prog 80 #[v, .int .i64 k] w fun e w' => e = .returned (.int .i64 ((k : Int) + (lenWs ws : Int))) ∧ w' = w := by
  obtain ⟨a, n, cap, vs, rfl, hn, _, hc, he⟩ := r
  rw [markWs_length] at hn
  have HN : Hid _ := hn
  have HC : Hid _ := hc
  have HE : Hid _ := he
  have hnn : n ≤ 2097152 := by have := lenWs_len ws; omega
  clear hn hc he
  go_enter Tryd.func80, Tryd.ntmps80
  go_wp2
  go_loop [1, 5] (fun q i => ∃ j s : Nat, j ≤ n ∧ i = .int .i64 j ∧ q = .int .i64 s ∧ Hid (s = k + lenWs (ws.take j))) (fun _ i => n - (intOf i).toNat)
  case atStart => exact ⟨0, k, Nat.zero_le _, rfl, rfl, by show _ = _; simp [lenWs]⟩
  case round =>
    obtain ⟨j, s, hj, rfl, rfl, HS⟩ := hrel
    by_cases hlt : j < n
    · have hjz : j < ws.length := by rw [← HN.out]; exact hlt
      obtain ⟨b, off, rfl, _, _, hcc⟩ := HC.out.resolve_left (by omega)
      have h1 := (hcc j hlt).1
      have h2 := (hcc j hlt).2
      have r1 := HE.out j hlt
      rw [markWs_at _ _ _ hjz, ← HS.out] at r1 h1
      have hln := lenWs_next ws j hjz
      have hlt2 := lenWs_take ws (j + 1)
      have hbz := lenWs_at ws j
      have hsk : s ≤ 8388607 := by rw [HS.out]; omega
      have HNS : Hid (s + 1 + (ws[j]?.getD (0, [])).2.length = k + lenWs (ws.take (j + 1))) := by show _ = _; rw [HS.out]; omega
      generalize (ws[j]?.getD (0, [])).2 = zs at r1 hbz HNS
      generalize vs j = x at h2 r1
      have R1 : Hid (RdB w l h x (marks zs.length (s + 1))) := r1
      have h1' : w.cell? ⟨b, off + j * 2, none⟩ = some (.int .i64 (s : Int)) := h1
      have hd : ((s : Int) != (s : Int)) = false := by simp
      clear r1 h1 hcc hln hlt2 HS
      go_wp2_with fail
      refine (held_i x zs.length ((s : Int) + 1) l h w ?_ (by omega) (by omega) (by omega)).mono ?_
      · rw [show ((s : Int) + 1).toNat = s + 1 by omega]; exact R1.out
      rintro e w2 ⟨rfl, hw2⟩
      subst hw2
      go_wp2
      go_round
      case rel => exact ⟨j + 1, s + 1 + zs.length, by omega, by go_num, by go_num, HNS.out⟩
      case measure => simp [intOf]; omega
    · have hjn : j = n := by omega
      subst hjn
      have hss : s ≤ 8388608 := by have := lenWs_take ws j; rw [HS.out]; omega
      go_wp2
      go_ret
      have e1 : ws.take j = ws := List.take_of_length_le (by rw [← HN.out]; exact Nat.le_refl _)
      exact ⟨by have := HS.out; rw [e1] at this; simp [this], rfl⟩
end Go.Proofs.YtjhaanenkeceiaaDoor
