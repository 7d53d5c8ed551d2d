/- A record in sectors, the program's way. No condition: where the number or the record is not as it should be, there is none. -/
import Derived.Test.YtjhaanenkeceiaaDoorFrames
import Derived.Test.YtjhaanenkeceiaaDoorClone
import Derived.Test.YtjhaanenkeceiaaDoorImplSec
import Derived.Laws.CopyOwn
namespace Go.Proofs.YtjhaanenkeceiaaDoor
open Go.RowKit
set_option linter.unusedVariables false
set_option linter.unusedSimpArgs false
attribute [local go_sem ↓] Go.wp_at_zero Go.wp_at_succ

theorem sectorsFor_any (n : Nat) (hn : n ≤ 1000000) (w : World) : Calls Tryd.prog 51 #[.int .i64 n] w fun e w' => e = .returned (.int .i64 (manyN n)) ∧ w' = w := by
  have hm : manyN n = if n = 0 then 1 else (n + 23) / 24 := rfl
  have HM : Hid _ := hm
  clear hm
  go_enter Tryd.func51, Tryd.ntmps51
  go_wp2
  · go_ret
    refine ⟨?_, rfl⟩
    have hm := HM.out
    rw [show (((n : Int) + 24 - 1) / 24) = ((manyN n : Nat) : Int) by rw [hm]; split <;> omega]
    rfl
  · go_ret
    refine ⟨?_, rfl⟩
    have hm := HM.out
    rw [show (1 : Int) = ((manyN n : Nat) : Int) by rw [hm]; split <;> omega]
    rfl

theorem putPair_any (g o m c : Nat) (n : Int) (C : List Value) (w : World) (hg : w.heap[g]? = some (.cells C.toArray 5 (0, 0))) (ho : o + 1 < C.length) (hm : 2 ≤ m) (hm2 : m ≤ 32) (hn0 : 0 ≤ n) (hn : n ≤ 60000) :
    Calls Tryd.prog 52 #[.slice (some ⟨g, o, none⟩) m c, .int .i64 n] w fun e w' => (∃ u, e = .returned u) ∧ w' = (w.setCell ⟨g, o, none⟩ (.int .u8 (n % 256))).setCell ⟨g, o + 1, none⟩ (.int .u8 (n / 256)) := by
  have z0 := row_cell (j := o) hg (by omega)
  have f0 : w.frozen? ⟨g, o, none⟩ = false := frozen_of_row _ _ _ _ _ hg
  have HG2 := row_set (j := o) (v := .int .u8 (n % 256)) hg
  have z1 := row_cell (j := o + 1) HG2 (by simp; omega)
  have f1 : (w.setCell ⟨g, o, none⟩ (.int .u8 (n % 256))).frozen? ⟨g, o + 1, none⟩ = false := frozen_of_row _ _ _ _ _ HG2
  generalize C[o]'(by omega) = y0 at z0
  generalize (C.set o (.int .u8 (n % 256)))[o + 1]'(by simp; omega) = y1 at z1
  clear HG2 hg
  go_enter Tryd.func52, Tryd.ntmps52
  go_wp2
  refine bodyPost_end (v := .tuple #[]) (by simp [results, Tryd.results52, go_sem]) rfl ⟨⟨_, rfl⟩, rfl⟩

/-- What pieceOf hands back: so many bytes from there on. -/
def PieceOut (a : Option Addr) (n k : Nat) (w : World) (e : Ending) (w' : World) : Prop :=
  ∃ a' c', e = .returned (.slice a' (Nat.min (n - 24 * k) 24) c') ∧ w' = w ∧ Nat.min (n - 24 * k) 24 ≤ c' ∧ c' ≤ 9223372036854775807 ∧ ∀ rb ro, 0 < n → a = some ⟨rb, ro, none⟩ → a' = some ⟨rb, ro + 24 * k, none⟩
theorem pieceOf_any (a : Option Addr) (n c k : Nat) (w : World) (hh : Headed a n c) (hn : n ≤ 255) (h1 : 24 * k ≤ n) (h2 : 0 < n → 24 * k < n ∧ ∃ rb ro, a = some ⟨rb, ro, none⟩) (h3 : n = 0 → k = 0) :
    Calls Tryd.prog 53 #[.slice a n c, .int .i64 k] w (PieceOut a n k w) := by
  have hnc := hh.1
  have hcm : c ≤ 9223372036854775807 := by have := hh.2.1; unfold maxLen at this; omega
  by_cases hn0 : n = 0
  · have hk0 : k = 0 := h3 hn0
    subst hk0
    subst hn0
    have hwr : IntKind.i64.wrap 0 = 0 := by decide
    cases a with
    | none =>
      obtain ⟨_, hc9⟩ := hh.2.2 rfl
      subst hc9
      clear hh h1 h2 h3
      go_enter Tryd.func53, Tryd.ntmps53
      go_wp2
      go_ret
      exact ⟨_, _, rfl, rfl, Nat.le_refl _, Nat.zero_le _, fun _ _ h => absurd h (Nat.lt_irrefl _)⟩
    | some ad =>
      obtain ⟨rb, ro, rs⟩ := ad
      by_cases hc0 : c = 0
      · subst hc0
        clear hh h1 h2 h3
        go_enter Tryd.func53, Tryd.ntmps53
        go_wp2
        go_ret
        exact ⟨_, _, rfl, rfl, Nat.le_refl _, Nat.zero_le _, fun _ _ h => absurd h (Nat.lt_irrefl _)⟩
      · clear hh h1 h2 h3
        go_enter Tryd.func53, Tryd.ntmps53
        go_wp2
        go_ret
        exact ⟨_, _, rfl, rfl, Nat.zero_le _, by omega, fun _ _ h => absurd h (Nat.lt_irrefl _)⟩
  · obtain ⟨h4, rb, ro, rfl⟩ := h2 (by omega)
    have hkc : ¬ c = k * 24 := by omega
    clear hh h2 h3
    go_enter Tryd.func53, Tryd.ntmps53
    go_wp2
    · go_ret
      have e1 : n - k * 24 = Nat.min (n - 24 * k) 24 := by
        show _ = min _ _
        omega
      refine ⟨some ⟨rb, ro + k * 24, none⟩, c - k * 24, by rw [← e1]; rfl, rfl, by omega, by omega, fun b2 o2 _ h => ?_⟩
      simp only [Option.some.injEq, Addr.mk.injEq, and_true] at h
      obtain ⟨rfl, rfl⟩ := h
      rw [Nat.mul_comm]
    · go_ret
      have e1 : ((k : Int) * 24 + 24).toNat - k * 24 = Nat.min (n - 24 * k) 24 := by
        show _ = min _ _
        omega
      refine ⟨some ⟨rb, ro + k * 24, none⟩, c - k * 24, by rw [← e1]; rfl, rfl, by omega, by omega, fun b2 o2 _ h => ?_⟩
      simp only [Option.some.injEq, Addr.mk.injEq, and_true] at h
      obtain ⟨rfl, rfl⟩ := h
      rw [Nat.mul_comm]

set_option maxHeartbeats 400000 in
theorem newSector_nil (w : World) :
    Calls Tryd.prog 35 #[.slice none 0 0] w fun e w' => e = .returned (.slice (some ⟨w.heap.size, 0, none⟩) 32 32) ∧ w'.heap[w.heap.size]? = some (.cells (bcells (List.replicate 32 0)).toArray 5 (0, 0)) ∧ Below w.heap.size w w' := by
  obtain ⟨i0, hi, hz0, hz1, hz2⟩ := info_parts Tryd.infoB
  go_enter Tryd.func35, Tryd.ntmps35
  go_wp2_with (first
    | (at_make; refine wpList_make_full _ rfl _ _ 22 rfl w.heap.size 5 i0 (.int .u8 0) 1 Tryd.underlying22 hi hz0 hz1 .i64 .i64 _ _ 32 rfl rfl rfl rfl (by rw [hz2]; omega) (by unfold maxLen; omega) (Nat.le_refl _) ?_; intro w1 hown hgrow; have hb1 : Below w.heap.size w w1 := (Below.refl _ _).grown hgrow (Nat.le_refl _) (fun k h => by cases h); rw [madeCells_bytes] at hown; have HG1 : Hid _ := full_heap hown; clear hown hgrow)
    | (refine wpList_copy_splice rfl (.tmp 5) (.tmp 6) 22 22 rfl 5 Tryd.underlying22 Tryd.sizeB _ _ _ _ _ _ rfl rfl w.heap.size 0 _ 5 HG1.out [] rfl (fun h0 => absurd h0 (Nat.lt_irrefl _)) (Nat.zero_le _) (fun _ h => by cases h) w.heap.size w hb1 (Nat.le_refl _) ?_; intro w2 HG2 hb2))
  all_goals
    go_ret
    exact ⟨rfl, by have := HG2.out; simpa [splice] using this, hb2⟩

def FIRel (w w1 : World) (p : Nat) (zs : List Int) (m : Nat) (i : Value) (wr : World) : Prop :=
  ∃ (k : Nat) (vs : List Value), k ≤ m ∧ i = .int .i64 k ∧ Hid (PartX wr w.heap.size w.heap.size w1.heap.size m (frameN p zs) k vs) ∧ Below w.heap.size w wr

set_option maxRecDepth 100000 in
set_option maxHeartbeats 4000000 in
theorem implFrame_in (p : Nat) (hp : p < 60000) (sv : Value) (zs : List Int) (lz hz : Nat) (w : World) (rz : RdB w lz hz sv zs) (hhz : hz ≤ w.heap.size) (hn200 : zs.length ≤ 200) :
    Calls Tryd.prog 16 #[.int .i64 p, sv] w fun e w' => ∃ x vs, e = .returned x ∧ OwX w' w.heap.size w'.heap.size x (frameN p zs) vs ∧ Below w.heap.size w w' := by
  obtain ⟨hzb, a, n, c, rfl, hn, hhd, hrr⟩ := rz.reads
  obtain ⟨j0, hj, hy0, hy1, hy2⟩ := info_parts Tryd.infoBB
  have HN : Hid _ := hn
  have HRR : Hid _ := hrr
  have HZB : Hid _ := hzb
  have HHD : Hid _ := hhd
  have hnc := hhd.1
  have hcm : c ≤ 9223372036854775807 := by have := hhd.2.1; unfold maxLen at this; omega
  have hn9 : n ≤ 200 := by omega
  have hm9 := manyN_le n hn9
  have hma : ∀ k, k < manyN n → 24 * k ≤ n ∧ (0 < n → 24 * k < n) ∧ (n = 0 → k = 0) := manyN_at n
  have HMA : Hid _ := hma
  have HSF : Hid _ := sectorsFor_any n (by omega) w
  obtain ⟨m, hm⟩ : ∃ m, manyN n = m := ⟨_, rfl⟩
  rw [hm] at HMA hm9 HSF
  have hmz : manyN zs.length = m := by rw [← hn]; exact hm
  have HM : Hid (manyN n = m) := hm
  have HMZ : Hid (manyN zs.length = m) := hmz
  have HFL : Hid ((frameN p zs).length = m) := by show _ = _; unfold frameN; rw [List.length_map, List.length_range, hmz]
  have hd0 : decide ((p : Int) < 0) = false := by simp
  have hd1 : decide ((60000 : Int) ≤ (p : Int)) = false := by simp; omega
  have hd2 : decide ((200 : Int) < (n : Int)) = false := by simp; omega
  clear hn hrr hzb hhd hma hm hmz rz hn200
  go_enter Tryd.func16, Tryd.ntmps16
  go_wp2_with fail
  refine Calls.mono HSF.out ?_
  rintro e w9 ⟨rfl, hw9⟩
  subst hw9
  clear HSF
  go_wp2_with (at_make; refine wpList_make_full _ rfl _ _ 23 rfl w9.heap.size 22 j0 (.slice none 0 0) 1 Tryd.underlying23 hj hy0 hy1 .i64 .i64 _ _ m rfl rfl rfl rfl (by rw [hy2]; omega) (by unfold maxLen; omega) (Nat.le_refl _) ?_; intro w1 hown hgrow)
  have hb1 : Below w9.heap.size w9 w1 := (Below.refl _ _).grown hgrow (Nat.le_refl _) (fun k h => by cases h)
  have hs1 : w9.heap.size < w1.heap.size := (hown.lt _ rfl).2
  have HST : Hid (FIRel w9 w1 p zs m (.int .i64 0) w1) := by
    refine ⟨0, [], Nat.zero_le _, rfl, ⟨rfl, ?_, ⟨Nat.le_refl _, hs1⟩, fun i hi => absurd hi (Nat.not_lt_zero _), fun i j q _ hj => absurd hj (Nat.not_lt_zero _)⟩, hb1⟩
    rw [List.nil_append, Nat.sub_zero, ← madeCells_nil]; exact hown
  clear hgrow hown hb1
  go_loopw [25] (fun i wr => FIRel w9 w1 p zs m i wr) (fun i _ => m - (intOf i).toNat)
  case atStart => exact HST.out
  case round =>
    clear HST
    obtain ⟨k, vs, hk, rfl, HP, hbel⟩ := hrel
    have hs0 := hbel.size
    by_cases hlt : k < m
    · obtain ⟨hk1, hk2, hk3⟩ := HMA.out k hlt
      have hlt9 : (k : Int) < (m : Int) := by omega
      have hpl := pieceN_length zs k
      rw [← HN.out] at hpl
      have hpl2 : (pieceN zs k).length ≤ 24 := by rw [hpl]; exact Nat.min_le_right _ _
      have hsl := sec_laid ((p : Int) % 256) ((p : Int) / 256) (k : Int) (m : Int) (n : Int) (((p : Int) + 1) % 256) (((p : Int) + 1) / 256) (pieceN zs k) hpl2
      have hse : [((p : Int) % 256), ((p : Int) / 256), (k : Int), (m : Int), (n : Int), 0] ++ (pieceN zs k ++ (List.replicate (24 - (pieceN zs k).length) 0 ++ [(((p : Int) + 1) % 256), (((p : Int) + 1) / 256)])) = secN p zs k := by unfold secN; rw [HMZ.out, ← HN.out]
      rw [hse] at hsl
      obtain ⟨X, hX⟩ : ∃ X, X = bcells (pieceN zs k) := ⟨_, rfl⟩
      rw [← hX] at hsl
      have hXl : X.length = Nat.min (n - 24 * k) 24 := by rw [hX, bcells_length]; exact hpl
      have hX24 : X.length ≤ 24 := by rw [hX, bcells_length]; exact hpl2
      have HX1 : Hid (∀ v ∈ X, v.oneCell' = true) := by show ∀ v ∈ X, v.oneCell' = true; rw [hX]; exact bcells_one _
      have HXM : Hid (X.length = Nat.min (Nat.min (n - 24 * k) 24) 26) := by
        show _ = _
        rw [hXl]
        show min (n - 24 * k) 24 = min (min (n - 24 * k) 24) 26
        omega
      have HXS : Hid (∀ W, Below wr.heap.size wr W → 0 < X.length → ∃ rb ro, a = some ⟨rb, ro, none⟩ ∧ ∀ j v, X[j]? = some v → W.cell? ⟨rb, ro + 24 * k + j, none⟩ = some v) := fun W hW h0 => by
        rcases HRR.out.2 with e | ⟨rb, ro, ha, hrb, hrc⟩
        · rw [hX, bcells_length, pieceN_length, e] at h0; simp at h0
        · refine ⟨rb, ro, ha, fun j v hv => ?_⟩
          have hj : j < X.length := by rcases Nat.lt_or_ge j X.length with h9 | h9
                                       · exact h9
                                       · rw [List.getElem?_eq_none h9] at hv; cases hv
          have hj2 : j < n - 24 * k := by rw [hXl] at hj; exact Nat.lt_of_lt_of_le hj (Nat.min_le_left _ _)
          have hj3 : j < 24 := by rw [hXl] at hj; exact Nat.lt_of_lt_of_le hj (Nat.min_le_right _ _)
          have h9 := hrc (24 * k + j) (by rw [← HN.out]; omega)
          have h8 : W.cell? ⟨rb, ro + 24 * k + j, none⟩ = w9.cell? ⟨rb, ro + 24 * k + j, none⟩ := World.cell?_of_block (a := ⟨rb, ro + 24 * k + j, none⟩) ((hW.block rb (by omega)).trans (hbel.block rb hrb))
          rw [h8, Nat.add_assoc, h9]
          rw [hX] at hv
          unfold bcells pieceN at hv
          rw [List.getElem?_map, List.getElem?_take, if_pos hj3, List.getElem?_drop] at hv
          have h7 : 24 * k + j < zs.length := by rw [← HN.out]; omega
          rw [List.getElem?_eq_getElem h7] at hv ⊢
          simpa using hv
      have hn0X : 0 < X.length → 0 < n := fun h => by
        rw [hXl] at h
        have h2 := Nat.lt_of_lt_of_le h (Nat.min_le_left _ _)
        omega
      have HSL : Hid _ := hsl
      have HN0 : Hid _ := hn0X
      have HNS : Hid _ := newSector_nil wr
      clear hpl hpl2 hsl hse hX hXl hn0X
      go_wp2_with fail
      refine Calls.mono HNS.out ?_
      rintro e w2 ⟨rfl, hg1, hb2⟩
      have hs2 : wr.heap.size < w2.heap.size := lt_of_block hg1
      have HPP : Hid _ := putPair_any wr.heap.size 0 32 32 (p : Int) _ w2 hg1 (by simp) (by omega) (by omega) (by omega) (by omega)
      have HG3 : Hid _ := row_set (j := 1) (v := .int .u8 ((p : Int) / 256)) (row_set (j := 0) (v := .int .u8 ((p : Int) % 256)) hg1)
      have hb3 : Below wr.heap.size wr ((w2.setCell ⟨wr.heap.size, 0, none⟩ (.int .u8 ((p : Int) % 256))).setCell ⟨wr.heap.size, 1, none⟩ (.int .u8 ((p : Int) / 256))) := (hb2.setCell (Nat.le_refl _) _).setCell (Nat.le_refl _) _
      generalize (w2.setCell ⟨wr.heap.size, 0, none⟩ (.int .u8 ((p : Int) % 256))).setCell ⟨wr.heap.size, 0 + 1, none⟩ (.int .u8 ((p : Int) / 256)) = w3 at HG3 hb3 HPP
      have hs3 : wr.heap.size < w3.heap.size := lt_of_block HG3.out
      clear hg1 hb2 HNS
      go_wp2_with fail
      refine Calls.mono HPP.out ?_
      rintro e w4 ⟨⟨u, rfl⟩, hw4⟩
      subst hw4
      have z2 := row_cell (j := 2) HG3.out (by simp)
      have z3 := row_cell (j := 3) HG3.out (by simp)
      have z4 := row_cell (j := 4) HG3.out (by simp)
      have q2 : w4.frozen? ⟨wr.heap.size, 2, none⟩ = false := frozen_of_row _ _ _ _ _ HG3.out
      have q3 : w4.frozen? ⟨wr.heap.size, 3, none⟩ = false := frozen_of_row _ _ _ _ _ HG3.out
      have q4 : w4.frozen? ⟨wr.heap.size, 4, none⟩ = false := frozen_of_row _ _ _ _ _ HG3.out
      have HB3 : Hid _ := hb3
      clear HPP hb3
      go_wp2
      have HG5 : Hid _ := row_set (j := 4) (v := .int .u8 (n : Int)) (row_set (j := 3) (v := .int .u8 (m : Int)) (row_set (j := 2) (v := .int .u8 (k : Int)) HG3.out))
      have hb5 : Below wr.heap.size wr (((w4.setCell ⟨wr.heap.size, 2, none⟩ (.int .u8 (k : Int))).setCell ⟨wr.heap.size, 3, none⟩ (.int .u8 (m : Int))).setCell ⟨wr.heap.size, 4, none⟩ (.int .u8 (n : Int))) := ((HB3.out.setCell (Nat.le_refl _) _).setCell (Nat.le_refl _) _).setCell (Nat.le_refl _) _
      generalize (((w4.setCell ⟨wr.heap.size, 2, none⟩ (.int .u8 (k : Int))).setCell ⟨wr.heap.size, 3, none⟩ (.int .u8 (m : Int))).setCell ⟨wr.heap.size, 4, none⟩ (.int .u8 (n : Int))) = w5 at HG5 hb5 ⊢
      generalize (((((bcells (List.replicate 32 0)).set 0 (.int .u8 ((p : Int) % 256))).set 1 (.int .u8 ((p : Int) / 256))).set 2 (.int .u8 (k : Int))).set 3 (.int .u8 (m : Int))).set 4 (.int .u8 (n : Int)) = C5 at HG5 HSL
      have HC5 : Hid (C5.length = 32) := by
        show _ = _
        have h9 := congrArg List.length HSL.out
        rw [List.length_set, List.length_set, bcells_length, secN_length] at h9
        unfold splice at h9
        simp only [List.length_append, List.length_take, List.length_drop] at h9
        omega
      have HPO : Hid _ := pieceOf_any a n c k w5.drew HHD.out (by omega) hk1 (fun h0 => ⟨hk2 h0, by
        rcases HRR.out.2 with e | ⟨rb, ro, ha, _⟩
        · have := HN.out; rw [e] at this; simp at this; omega
        · exact ⟨rb, ro, ha⟩⟩) hk3
      have HSRC : Hid (∀ a9 : Option Addr, (∀ rb ro, 0 < n → a = some ⟨rb, ro, none⟩ → a9 = some ⟨rb, ro + 24 * k, none⟩) → 0 < X.length → ∃ ad, a9 = some ad ∧ ∀ j v, X[j]? = some v → w5.drew.cell? (ad.add j) = some v) := fun a9 hA h0 => by
        obtain ⟨rb, ro, h1, h2⟩ := HXS.out _ (Below.drew hb5) h0
        exact ⟨_, hA rb ro (HN0.out h0) h1, fun j v hv => by rw [add_at]; exact h2 j v hv⟩
      clear HXS HN0 HB3 z2 z3 z4 q2 q3 q4 hs3 HG3
      refine wp_region_noPanic ?_
      refine wp_region_held_drew (S := fun _ => True) (by kernel_rfl) trivial (fun hHeld => ?_)
      clear hHeld
      refine wpAnyH_take (i := 0) (v := ?_) rfl (by kernel_rfl) (by kernel_rfl) (by kernel_rfl) (fun _ _ _ h => h) (Or.inl ⟨by rfl, ?_⟩) trivial ?_
      rotate_left
      · (intro w_ hSw_; (try dsimp only at hSw_); go_simp; try with_reducible rfl)
      try simp only [Act.put, List.setIfInBounds_toArray, List.set_cons_zero, List.set_cons_succ, List.getElem_toArray, List.getElem_cons_zero, List.getElem_cons_succ]
      refine wpAnyH_take (i := 1) (v := ?_) rfl (by kernel_rfl) (by kernel_rfl) (by kernel_rfl) (fun _ _ _ h => h) (Or.inl ⟨by rfl, ?_⟩) trivial ?_
      rotate_left
      · (intro w_ hSw_; (try dsimp only at hSw_); go_simp; try with_reducible rfl)
      try simp only [Act.put, List.setIfInBounds_toArray, List.set_cons_zero, List.set_cons_succ, List.getElem_toArray, List.getElem_cons_zero, List.getElem_cons_succ]
      refine wpAnyH_take (i := 2) (v := ?_) rfl (by kernel_rfl) (by kernel_rfl) (by kernel_rfl) (fun _ _ _ h => h) (Or.inl ⟨by rfl, ?_⟩) trivial ?_
      rotate_left
      · (intro w_ hSw_; (try dsimp only at hSw_); go_simp; try with_reducible rfl)
      try simp only [Act.put, List.setIfInBounds_toArray, List.set_cons_zero, List.set_cons_succ, List.getElem_toArray, List.getElem_cons_zero, List.getElem_cons_succ]
      refine wpAnyH_take (i := 3) (v := ?_) rfl (by kernel_rfl) (by kernel_rfl) (by kernel_rfl) (fun _ _ _ h => h) (Or.inl ⟨by rfl, ?_⟩) trivial ?_
      rotate_left
      · (intro w_ hSw_; (try dsimp only at hSw_); go_simp; try with_reducible rfl)
      try simp only [Act.put, List.setIfInBounds_toArray, List.set_cons_zero, List.set_cons_succ, List.getElem_toArray, List.getElem_cons_zero, List.getElem_cons_succ]
      refine wpAnyH_ready (rs := [4]) (by kernel_rfl) (by simp) ?_
      refine AllReadyH.cons rfl (fun K hK => ?_) AllReadyH.nil
      go_simp
      refine Calls.mono HPO.out ?_
      rintro e w7 ⟨a9, c9, rfl, hw7, hc91, hc92, hA9⟩
      subst hw7
      have HA9 : Hid _ := hA9
      clear hA9
      go_wp2_with fail
      refine hK.out _ _ trivial (fun hHeld => ?_)
      clear hK K hHeld
      try simp only [Act.put, List.setIfInBounds_toArray, List.set_cons_zero, List.set_cons_succ, List.getElem_toArray, List.getElem_cons_zero, List.getElem_cons_succ]
      refine wpAnyH_ready (rs := [5]) (by kernel_rfl) (by simp) ?_
      refine AllReadyH.cons rfl (fun K hK => ?_) AllReadyH.nil
      refine step_copy_splice rfl (.tmp 48) (.tmp 51) 22 22 rfl 5 Tryd.underlying22 Tryd.sizeB _ _ _ _ _ _ (by rfl) (by rfl) wr.heap.size 6 C5 5 HG5.out X HXM.out (fun h0 => ⟨rfl, HSRC.out a9 HA9.out h0⟩) (by rw [HC5.out]; omega) HX1.out wr.heap.size wr (Below.drew hb5) (Nat.le_refl _) ?_
      intro w6 HG6 hb6
      refine hK.out _ _ trivial (fun hHeld => ?_)
      clear hK K hHeld
      try simp only [Act.put, List.setIfInBounds_toArray, List.set_cons_zero, List.set_cons_succ, List.getElem_toArray, List.getElem_cons_zero, List.getElem_cons_succ]
      refine wpAnyH_done (by kernel_rfl) (NoPanic.normal ?_) _
      have hl6 : (splice C5 6 X).length = 32 := by rw [length_splice _ _ _ (by rw [HC5.out]; omega)]; exact HC5.out
      have HPP : Hid _ := putPair_any wr.heap.size 30 2 2 ((p : Int) + 1) (splice C5 6 X) w6 HG6.out (by rw [hl6]; omega) (by omega) (by omega) (by omega) (by omega)
      have HG8 : Hid _ := row_set (j := 31) (v := .int .u8 (((p : Int) + 1) / 256)) (row_set (j := 30) (v := .int .u8 (((p : Int) + 1) % 256)) HG6.out)
      rw [HSL.out] at HG8
      have hb8 : Below wr.heap.size wr ((w6.setCell ⟨wr.heap.size, 30, none⟩ (.int .u8 (((p : Int) + 1) % 256))).setCell ⟨wr.heap.size, 31, none⟩ (.int .u8 (((p : Int) + 1) / 256))) := (hb6.setCell (Nat.le_refl _) _).setCell (Nat.le_refl _) _
      have ho8 := full_owns (base := wr.heap.size) (n := 32) (secN_length p zs k).symm (Nat.le_refl _) (by rw [secN_length]; omega) HG8.out
      generalize (w6.setCell ⟨wr.heap.size, 30, none⟩ (.int .u8 (((p : Int) + 1) % 256))).setCell ⟨wr.heap.size, 30 + 1, none⟩ (.int .u8 (((p : Int) + 1) / 256)) = w8 at hb8 ho8 HPP
      have hP8 := PartX.below HP.out hb8
      obtain ⟨⟨v0, hv0⟩, hfz⟩ := hP8.slot hlt
      have HR : Hid (FIRel w9 w1 p zs m (.int .i64 ((k : Int) + 1)) (w8.setCell ⟨w9.heap.size, k, none⟩ (.slice (some ⟨wr.heap.size, 0, none⟩) 32 32))) := by
        have hk9 := HMZ.out
        refine ⟨k + 1, _, by omega, by go_num, PartX.next HP.out hlt hb8 (secN_bytes p (by omega) zs HZB.out (by rw [← HN.out]; exact hn9) k (by omega)) ho8 ?_, ?_⟩
        · unfold frameN
          rw [List.getElem?_map, List.getElem?_range (by omega)]; rfl
        · exact (hbel.trans (hb8.mono hbel.size)).setCell (Nat.le_refl _) _
      have hi0 : (0 : Int) ≤ (k : Int) := by omega
      clear hl6 hb8 ho8 hP8 HG6 HG5 HG8 hb6 hb5 HC5 HSL HP hbel HXM HX1 HSRC HPO HA9
      go_wp2_with fail
      refine Calls.mono HPP.out ?_
      rintro e w10 ⟨⟨u, rfl⟩, hw10⟩
      subst hw10
      clear HPP
      go_wp2
      refine ⟨?_, by simp [intOf]; omega⟩
      first | exact HR.out | exact ⟨_, HR.out, rfl⟩ | exact ⟨_, _, HR.out, rfl⟩ | exact ⟨_, _, _, HR.out, rfl⟩ | exact ⟨_, _, _, _, HR.out, rfl⟩ | exact ⟨_, _, _, _, _, HR.out, rfl⟩ | exact ⟨_, _, _, _, _, _, HR.out, rfl⟩ | exact ⟨_, _, _, _, _, _, _, HR.out, rfl⟩ | exact ⟨_, _, _, _, _, _, _, _, HR.out, rfl⟩ | exact ⟨_, _, _, _, _, _, _, _, _, HR.out, rfl⟩ | exact ⟨_, _, _, _, _, _, _, _, _, _, HR.out, rfl⟩ | exact ⟨_, _, _, _, _, _, _, _, _, _, _, HR.out, rfl⟩ | exact ⟨_, _, _, _, _, _, _, _, _, _, _, _, HR.out, rfl⟩ | exact ⟨_, _, _, _, _, _, _, _, _, _, _, _, _, HR.out, rfl⟩ | exact ⟨_, _, _, _, _, _, _, _, _, _, _, _, _, _, HR.out, rfl⟩ | exact ⟨_, _, _, _, _, _, _, _, _, _, _, _, _, _, _, HR.out, rfl⟩ | exact ⟨_, _, _, _, _, _, _, _, _, _, _, _, _, _, _, _, HR.out, rfl⟩ | exact ⟨_, _, _, _, _, _, _, _, _, _, _, _, _, _, _, _, _, HR.out, rfl⟩ | exact ⟨_, _, _, _, _, _, _, _, _, _, _, _, _, _, _, _, _, _, HR.out, rfl⟩ | exact ⟨_, _, _, _, _, _, _, _, _, _, _, _, _, _, _, _, _, _, _, HR.out, rfl⟩ | exact ⟨_, _, _, _, _, _, _, _, _, _, _, _, _, _, _, _, _, _, _, _, HR.out, rfl⟩ | exact ⟨_, _, _, _, _, _, _, _, _, _, _, _, _, _, _, _, _, _, _, _, _, HR.out, rfl⟩ | exact ⟨_, _, _, _, _, _, _, _, _, _, _, _, _, _, _, _, _, _, _, _, _, _, HR.out, rfl⟩ | exact ⟨_, _, _, _, _, _, _, _, _, _, _, _, _, _, _, _, _, _, _, _, _, _, _, HR.out, rfl⟩ | exact ⟨_, _, _, _, _, _, _, _, _, _, _, _, _, _, _, _, _, _, _, _, _, _, _, _, HR.out, rfl⟩ | exact ⟨_, _, _, _, _, _, _, _, _, _, _, _, _, _, _, _, _, _, _, _, _, _, _, _, _, HR.out, rfl⟩ | exact ⟨_, _, _, _, _, _, _, _, _, _, _, _, _, _, _, _, _, _, _, _, _, _, _, _, _, _, HR.out, rfl⟩ | exact ⟨_, _, _, _, _, _, _, _, _, _, _, _, _, _, _, _, _, _, _, _, _, _, _, _, _, _, _, HR.out, rfl⟩ | exact ⟨_, _, _, _, _, _, _, _, _, _, _, _, _, _, _, _, _, _, _, _, _, _, _, _, _, _, _, _, HR.out, rfl⟩ | exact ⟨_, _, _, _, _, _, _, _, _, _, _, _, _, _, _, _, _, _, _, _, _, _, _, _, _, _, _, _, _, HR.out, rfl⟩ | exact ⟨_, _, _, _, _, _, _, _, _, _, _, _, _, _, _, _, _, _, _, _, _, _, _, _, _, _, _, _, _, _, HR.out, rfl⟩ | exact ⟨_, _, _, _, _, _, _, _, _, _, _, _, _, _, _, _, _, _, _, _, _, _, _, _, _, _, _, _, _, _, _, HR.out, rfl⟩ | exact ⟨_, _, _, _, _, _, _, _, _, _, _, _, _, _, _, _, _, _, _, _, _, _, _, _, _, _, _, _, _, _, _, _, HR.out, rfl⟩ | exact ⟨_, _, _, _, _, _, _, _, _, _, _, _, _, _, _, _, _, _, _, _, _, _, _, _, _, _, _, _, _, _, _, _, _, HR.out, rfl⟩ | exact ⟨_, _, _, _, _, _, _, _, _, _, _, _, _, _, _, _, _, _, _, _, _, _, _, _, _, _, _, _, _, _, _, _, _, _, HR.out, rfl⟩ | exact ⟨_, _, _, _, _, _, _, _, _, _, _, _, _, _, _, _, _, _, _, _, _, _, _, _, _, _, _, _, _, _, _, _, _, _, _, HR.out, rfl⟩ | exact ⟨_, _, _, _, _, _, _, _, _, _, _, _, _, _, _, _, _, _, _, _, _, _, _, _, _, _, _, _, _, _, _, _, _, _, _, _, HR.out, rfl⟩ | exact ⟨_, _, _, _, _, _, _, _, _, _, _, _, _, _, _, _, _, _, _, _, _, _, _, _, _, _, _, _, _, _, _, _, _, _, _, _, _, HR.out, rfl⟩ | exact ⟨_, _, _, _, _, _, _, _, _, _, _, _, _, _, _, _, _, _, _, _, _, _, _, _, _, _, _, _, _, _, _, _, _, _, _, _, _, _, HR.out, rfl⟩ | exact ⟨_, _, _, _, _, _, _, _, _, _, _, _, _, _, _, _, _, _, _, _, _, _, _, _, _, _, _, _, _, _, _, _, _, _, _, _, _, _, _, HR.out, rfl⟩ | exact ⟨_, _, _, _, _, _, _, _, _, _, _, _, _, _, _, _, _, _, _, _, _, _, _, _, _, _, _, _, _, _, _, _, _, _, _, _, _, _, _, _, HR.out, rfl⟩ | exact ⟨_, _, _, _, _, _, _, _, _, _, _, _, _, _, _, _, _, _, _, _, _, _, _, _, _, _, _, _, _, _, _, _, _, _, _, _, _, _, _, _, _, HR.out, rfl⟩ | exact ⟨_, _, _, _, _, _, _, _, _, _, _, _, _, _, _, _, _, _, _, _, _, _, _, _, _, _, _, _, _, _, _, _, _, _, _, _, _, _, _, _, _, _, HR.out, rfl⟩ | exact ⟨_, _, _, _, _, _, _, _, _, _, _, _, _, _, _, _, _, _, _, _, _, _, _, _, _, _, _, _, _, _, _, _, _, _, _, _, _, _, _, _, _, _, _, HR.out, rfl⟩ | exact ⟨_, _, _, _, _, _, _, _, _, _, _, _, _, _, _, _, _, _, _, _, _, _, _, _, _, _, _, _, _, _, _, _, _, _, _, _, _, _, _, _, _, _, _, _, HR.out, rfl⟩ | exact ⟨_, _, _, _, _, _, _, _, _, _, _, _, _, _, _, _, _, _, _, _, _, _, _, _, _, _, _, _, _, _, _, _, _, _, _, _, _, _, _, _, _, _, _, _, _, HR.out, rfl⟩ | exact ⟨_, _, _, _, _, _, _, _, _, _, _, _, _, _, _, _, _, _, _, _, _, _, _, _, _, _, _, _, _, _, _, _, _, _, _, _, _, _, _, _, _, _, _, _, _, _, HR.out, rfl⟩ | exact ⟨_, _, _, _, _, _, _, _, _, _, _, _, _, _, _, _, _, _, _, _, _, _, _, _, _, _, _, _, _, _, _, _, _, _, _, _, _, _, _, _, _, _, _, _, _, _, _, HR.out, rfl⟩ | exact ⟨_, _, _, _, _, _, _, _, _, _, _, _, _, _, _, _, _, _, _, _, _, _, _, _, _, _, _, _, _, _, _, _, _, _, _, _, _, _, _, _, _, _, _, _, _, _, _, _, HR.out, rfl⟩ | exact ⟨_, _, _, _, _, _, _, _, _, _, _, _, _, _, _, _, _, _, _, _, _, _, _, _, _, _, _, _, _, _, _, _, _, _, _, _, _, _, _, _, _, _, _, _, _, _, _, _, _, HR.out, rfl⟩ | exact ⟨_, _, _, _, _, _, _, _, _, _, _, _, _, _, _, _, _, _, _, _, _, _, _, _, _, _, _, _, _, _, _, _, _, _, _, _, _, _, _, _, _, _, _, _, _, _, _, _, _, _, HR.out, rfl⟩ | exact ⟨_, _, _, _, _, _, _, _, _, _, _, _, _, _, _, _, _, _, _, _, _, _, _, _, _, _, _, _, _, _, _, _, _, _, _, _, _, _, _, _, _, _, _, _, _, _, _, _, _, _, _, HR.out, rfl⟩ | exact ⟨_, _, _, _, _, _, _, _, _, _, _, _, _, _, _, _, _, _, _, _, _, _, _, _, _, _, _, _, _, _, _, _, _, _, _, _, _, _, _, _, _, _, _, _, _, _, _, _, _, _, _, _, HR.out, rfl⟩ | exact ⟨_, _, _, _, _, _, _, _, _, _, _, _, _, _, _, _, _, _, _, _, _, _, _, _, _, _, _, _, _, _, _, _, _, _, _, _, _, _, _, _, _, _, _, _, _, _, _, _, _, _, _, _, _, HR.out, rfl⟩ | exact ⟨_, _, _, _, _, _, _, _, _, _, _, _, _, _, _, _, _, _, _, _, _, _, _, _, _, _, _, _, _, _, _, _, _, _, _, _, _, _, _, _, _, _, _, _, _, _, _, _, _, _, _, _, _, _, HR.out, rfl⟩ | exact ⟨_, _, _, _, _, _, _, _, _, _, _, _, _, _, _, _, _, _, _, _, _, _, _, _, _, _, _, _, _, _, _, _, _, _, _, _, _, _, _, _, _, _, _, _, _, _, _, _, _, _, _, _, _, _, _, HR.out, rfl⟩ | exact ⟨_, _, _, _, _, _, _, _, _, _, _, _, _, _, _, _, _, _, _, _, _, _, _, _, _, _, _, _, _, _, _, _, _, _, _, _, _, _, _, _, _, _, _, _, _, _, _, _, _, _, _, _, _, _, _, _, HR.out, rfl⟩ | exact ⟨_, _, _, _, _, _, _, _, _, _, _, _, _, _, _, _, _, _, _, _, _, _, _, _, _, _, _, _, _, _, _, _, _, _, _, _, _, _, _, _, _, _, _, _, _, _, _, _, _, _, _, _, _, _, _, _, _, HR.out, rfl⟩ | exact ⟨_, _, _, _, _, _, _, _, _, _, _, _, _, _, _, _, _, _, _, _, _, _, _, _, _, _, _, _, _, _, _, _, _, _, _, _, _, _, _, _, _, _, _, _, _, _, _, _, _, _, _, _, _, _, _, _, _, _, HR.out, rfl⟩ | exact ⟨_, _, _, _, _, _, _, _, _, _, _, _, _, _, _, _, _, _, _, _, _, _, _, _, _, _, _, _, _, _, _, _, _, _, _, _, _, _, _, _, _, _, _, _, _, _, _, _, _, _, _, _, _, _, _, _, _, _, _, HR.out, rfl⟩ | exact ⟨_, _, _, _, _, _, _, _, _, _, _, _, _, _, _, _, _, _, _, _, _, _, _, _, _, _, _, _, _, _, _, _, _, _, _, _, _, _, _, _, _, _, _, _, _, _, _, _, _, _, _, _, _, _, _, _, _, _, _, _, HR.out, rfl⟩ | exact ⟨_, _, _, _, _, _, _, _, _, _, _, _, _, _, _, _, _, _, _, _, _, _, _, _, _, _, _, _, _, _, _, _, _, _, _, _, _, _, _, _, _, _, _, _, _, _, _, _, _, _, _, _, _, _, _, _, _, _, _, _, _, HR.out, rfl⟩ | exact ⟨_, _, _, _, _, _, _, _, _, _, _, _, _, _, _, _, _, _, _, _, _, _, _, _, _, _, _, _, _, _, _, _, _, _, _, _, _, _, _, _, _, _, _, _, _, _, _, _, _, _, _, _, _, _, _, _, _, _, _, _, _, _, HR.out, rfl⟩ | exact ⟨_, _, _, _, _, _, _, _, _, _, _, _, _, _, _, _, _, _, _, _, _, _, _, _, _, _, _, _, _, _, _, _, _, _, _, _, _, _, _, _, _, _, _, _, _, _, _, _, _, _, _, _, _, _, _, _, _, _, _, _, _, _, _, HR.out, rfl⟩ | exact ⟨_, _, _, _, _, _, _, _, _, _, _, _, _, _, _, _, _, _, _, _, _, _, _, _, _, _, _, _, _, _, _, _, _, _, _, _, _, _, _, _, _, _, _, _, _, _, _, _, _, _, _, _, _, _, _, _, _, _, _, _, _, _, _, _, HR.out, rfl⟩ | exact ⟨_, _, _, _, _, _, _, _, _, _, _, _, _, _, _, _, _, _, _, _, _, _, _, _, _, _, _, _, _, _, _, _, _, _, _, _, _, _, _, _, _, _, _, _, _, _, _, _, _, _, _, _, _, _, _, _, _, _, _, _, _, _, _, _, _, HR.out, rfl⟩
    · have hkm : k = m := by omega
      have hk9 : ¬ (k : Int) < (m : Int) := by omega
      subst hkm
      have HF : Hid (OwX wr w9.heap.size wr.heap.size (.slice (some ⟨w9.heap.size, 0, none⟩) k k) (frameN p zs) vs) := PartX.done HP.out HFL.out.symm (by omega)
      have HB : Hid _ := hbel
      clear HP hbel
      go_wp2
      go_ret
      first | exact ⟨_, _, rfl, HF.out, HB.out⟩ | exact ⟨_, rfl, ⟨_, HF.out⟩, HB.out⟩

set_option maxHeartbeats 1000000 in
theorem implFrame_all (p : Int) (sv : Value) (zs : List Int) (lz hz : Nat) (w : World) (rz : RdB w lz hz sv zs) (hhz : hz ≤ w.heap.size) :
    Calls Tryd.prog 16 #[.int .i64 p, sv] w fun e w' => ∃ x vs, e = .returned x ∧ OwX w' w.heap.size w'.heap.size x (frameD p zs) vs ∧ Below w.heap.size w w' := by
  by_cases hc : 0 ≤ p ∧ p < 60000 ∧ zs.length ≤ 200
  · obtain ⟨q, rfl⟩ : ∃ q : Nat, p = (q : Int) := ⟨p.toNat, by omega⟩
    have hf : frameD (q : Int) zs = frameN q zs := by unfold frameD; rw [if_pos hc, Int.toNat_natCast]
    rw [hf]
    exact implFrame_in q (by omega) sv zs lz hz w rz hhz hc.2.2
  · have hf : frameD p zs = [] := by unfold frameD; rw [if_neg hc]
    rw [hf]
    obtain ⟨_, a, n, c, rfl, hn, hhd, _⟩ := rz
    have hcm : n ≤ 9223372036854775807 := by have := hhd.1; have := hhd.2.1; unfold maxLen at this; omega
    have HC : Hid (p < 0 ∨ 60000 ≤ p ∨ (200 : Int) < (n : Int)) := by
      show _ ∨ _
      omega
    have HO : Hid (OwX w w.heap.size w.heap.size (.slice none 0 0) [] []) := ⟨rfl, World.ownsRow_nil _ _ _ _, fun k h => by simp [Value.ownBlock] at h, fun i hi => absurd hi (Nat.not_lt_zero _), fun i j q _ hj => absurd hj (Nat.not_lt_zero _)⟩
    clear hn hhd hf hc
    rcases HC.out with h0 | h0 | h0
    · have hd0 : decide (p < 0) = true := by simpa using h0
      clear HC
      go_enter Tryd.func16, Tryd.ntmps16
      go_wp2
      go_ret
      first | exact ⟨_, _, rfl, HO.out, Below.refl _ _⟩ | exact ⟨_, rfl, ⟨_, HO.out⟩, Below.refl _ _⟩
    · have hd0 : decide (p < 0) = false := by simp; omega
      have hd1 : decide (60000 ≤ p) = true := by simpa using h0
      clear HC
      go_enter Tryd.func16, Tryd.ntmps16
      go_wp2
      go_ret
      first | exact ⟨_, _, rfl, HO.out, Below.refl _ _⟩ | exact ⟨_, rfl, ⟨_, HO.out⟩, Below.refl _ _⟩
    · have hd2 : decide ((200 : Int) < (n : Int)) = true := by simpa using h0
      clear HC
      by_cases h1 : p < 0
      · have hd0 : decide (p < 0) = true := by simpa using h1
        go_enter Tryd.func16, Tryd.ntmps16
        go_wp2
        go_ret
        first | exact ⟨_, _, rfl, HO.out, Below.refl _ _⟩ | exact ⟨_, rfl, ⟨_, HO.out⟩, Below.refl _ _⟩
      · have hd0 : decide (p < 0) = false := by simpa using h1
        by_cases h2 : 60000 ≤ p
        · have hd1 : decide (60000 ≤ p) = true := by simpa using h2
          go_enter Tryd.func16, Tryd.ntmps16
          go_wp2
          go_ret
          first | exact ⟨_, _, rfl, HO.out, Below.refl _ _⟩ | exact ⟨_, rfl, ⟨_, HO.out⟩, Below.refl _ _⟩
        · have hd1 : decide (60000 ≤ p) = false := by simpa using h2
          go_enter Tryd.func16, Tryd.ntmps16
          go_wp2
          go_ret
          first | exact ⟨_, _, rfl, HO.out, Below.refl _ _⟩ | exact ⟨_, rfl, ⟨_, HO.out⟩, Below.refl _ _⟩
end Go.Proofs.YtjhaanenkeceiaaDoor
