/- Joined: Frames. -/
import Derived.Test.YtjhaanenkeceiaaDoorJ04
import Derived.Test.YtjhaanenkeceiaaDoorJ02
import Derived.Deep.AppendLies
import Derived.Laws.CopyOwn

section
/- A record in sectors, the specification's way. Condition: the record's number is at most 60000, the record of at most 200 bytes. -/
namespace Go.Proofs.YtjhaanenkeceiaaDoor
open Go.RowKit
set_option linter.unusedVariables false
set_option linter.unusedSimpArgs false
attribute [local go_sem ↓] Go.wp_at_zero Go.wp_at_succ

def manyN (n : Nat) : Nat := if n = 0 then 1 else (n + 23) / 24
def pieceN (zs : List Int) (k : Nat) : List Int := (zs.drop (24 * k)).take 24
def secN (p : Nat) (zs : List Int) (k : Nat) : List Int :=
  [((p : Int) % 256), ((p : Int) / 256), (k : Int), (manyN zs.length : Int), (zs.length : Int), 0] ++ (pieceN zs k ++ (List.replicate (24 - (pieceN zs k).length) 0 ++ [(((p : Int) + 1) % 256), (((p : Int) + 1) / 256)]))
def frameN (p : Nat) (zs : List Int) : List (List Int) := (List.range (manyN zs.length)).map (secN p zs)
theorem pieceN_length (zs : List Int) (k : Nat) : (pieceN zs k).length = Nat.min (zs.length - 24 * k) 24 := by
  unfold pieceN
  rw [List.length_take, List.length_drop, Nat.min_comm]
theorem secN_length (p : Nat) (zs : List Int) (k : Nat) : (secN p zs k).length = 32 := by
  have h := pieceN_length zs k
  have h2 : Nat.min (zs.length - 24 * k) 24 ≤ 24 := Nat.min_le_right _ _
  unfold secN
  simp only [List.length_append, List.length_cons, List.length_nil, List.length_replicate]
  omega
theorem manyN_le (n : Nat) (h : n ≤ 200) : manyN n ≤ 9 := by unfold manyN; split <;> omega
theorem manyN_pos (n : Nat) : 0 < manyN n := by unfold manyN; split <;> omega
theorem manyN_at (n k : Nat) (h : k < manyN n) : 24 * k ≤ n ∧ (0 < n → 24 * k < n) ∧ (n = 0 → k = 0) := by
  unfold manyN at h
  split at h <;> omega
theorem secN_bytes (p : Nat) (hp : p ≤ 60000) (zs : List Int) (hz : isBytes zs) (hn : zs.length ≤ 200) (k : Nat) (hk : k < manyN zs.length) : isBytes (secN p zs k) := by
  have h9 := manyN_le zs.length hn
  have hr : isBytes (List.replicate (24 - (pieceN zs k).length) (0 : Int)) := isBytes_zeros _
  unfold secN
  refine isBytes_append ?_ (isBytes_append (isBytes_take (isBytes_drop hz _) _) (isBytes_append hr ?_))
  · exact isBytes_cons (by omega) (by omega) (isBytes_cons (by omega) (by omega) (isBytes_cons (by omega) (by omega) (isBytes_cons (by omega) (by omega) (isBytes_cons (by omega) (by omega) (isBytes_cons (by omega) (by omega) isBytes_nil)))))
  · exact isBytes_cons (by omega) (by omega) (isBytes_cons (by omega) (by omega) isBytes_nil)
/-- What the stores and the copy lay is just that. -/
theorem sec_laid (a b c d e f g : Int) (X : List Int) (hX : X.length ≤ 24) :
    (((splice (((((bcells (List.replicate 32 0)).set 0 (.int .u8 a)).set 1 (.int .u8 b)).set 2 (.int .u8 c)).set 3 (.int .u8 d) |>.set 4 (.int .u8 e)) 6 (bcells X)).set 30 (.int .u8 f)).set 31 (.int .u8 g)) =
      bcells ([a, b, c, d, e, 0] ++ (X ++ (List.replicate (24 - X.length) 0 ++ [f, g]))) := by
  have h1 : (((((bcells (List.replicate 32 0)).set 0 (.int .u8 a)).set 1 (.int .u8 b)).set 2 (.int .u8 c)).set 3 (.int .u8 d) |>.set 4 (.int .u8 e)) = bcells ([a, b, c, d, e, 0] ++ List.replicate 26 0) := by
    simp [bcells, List.replicate]
  rw [h1]
  unfold splice
  have h2 : (bcells ([a, b, c, d, e, 0] ++ List.replicate 26 0)).take 6 = bcells [a, b, c, d, e, 0] := by simp [bcells]
  have h3 : (bcells ([a, b, c, d, e, 0] ++ List.replicate 26 0)).drop (6 + (bcells X).length) = bcells (List.replicate (24 - X.length) 0 ++ [0, 0]) := by
    rw [bcells_length]
    unfold bcells
    rw [← List.map_drop, List.drop_append, List.drop_eq_nil_of_le (by simp), List.nil_append]
    congr 1
    simp only [List.length_cons, List.length_nil, List.drop_replicate]
    rw [show 26 - (6 + X.length - (0 + 1 + 1 + 1 + 1 + 1 + 1)) = (24 - X.length) + 2 by omega, ← List.replicate_append_replicate]; rfl
  rw [h2, h3]
  have h4 : bcells [a, b, c, d, e, 0] ++ (bcells X ++ bcells (List.replicate (24 - X.length) 0 ++ [0, 0])) = bcells ([a, b, c, d, e, 0] ++ (X ++ List.replicate (24 - X.length) 0)) ++ [.int .u8 0, .int .u8 0] := by simp [bcells]
  have h5 : (bcells ([a, b, c, d, e, 0] ++ (X ++ List.replicate (24 - X.length) 0))).length = 30 := by rw [bcells_length]; simp; omega
  rw [h4, List.set_append_right _ _ (by omega), List.set_append_right _ _ (by omega), h5]
  simp [bcells]

theorem row_set {w : World} {g j : Nat} {cur : List Value} {t : TypeId} {v : Value} (h : w.heap[g]? = some (.cells cur.toArray t (0, 0))) : (w.setCell ⟨g, j, none⟩ v).heap[g]? = some (.cells (cur.set j v).toArray t (0, 0)) := by
  rw [heap_setCell_same _ _ _ _ _ _ h]; simp
theorem row_cell {w : World} {g j : Nat} {cur : List Value} {t : TypeId} (h : w.heap[g]? = some (.cells cur.toArray t (0, 0))) (hj : j < cur.length) : w.cell? ⟨g, j, none⟩ = some (cur[j]'hj) := by
  rw [cell_of_row _ _ _ _ _ _ h]; simp [hj]

theorem one_slice (w : World) (u : Value) : ∀ j v, [u][j]? = some v → (w.alloc (.cells #[u] 22)).cell? ((⟨w.heap.size, 0, none⟩ : Addr).add j) = some v := fun j v hj => by
  match j, hj with
  | 0, hj => simp at hj; subst hj; have h9 : (w.alloc (.cells #[u] 22)).cell? ⟨w.heap.size, 0, none⟩ = some u := World.cell?_alloc_at _ _ _ _ rfl; simp [Addr.add]
theorem one_slice1 (a : Option Addr) {n c : Nat} : ∀ v ∈ [Value.slice a n c], v.oneCell' = true := fun v hv => by simp at hv; subst hv; rfl
theorem add_at (b o j : Nat) : (⟨b, o, none⟩ : Addr).add j = ⟨b, o + j, none⟩ := by
  unfold Addr.add
  by_cases hi : j = 0
  · subst hi; simp
  · simp [hi]
theorem many_any (n : Nat) (hn : n ≤ 1000000) (w : World) : Calls Tryd.prog 85 #[.int .i64 n] w fun e w' => e = .returned (.int .i64 (manyN n)) ∧ w' = w := by
  by_cases h0 : n = 0
  · subst h0
    go_enter Tryd.func85, Tryd.ntmps85
    go_wp2
    go_ret
    exact ⟨rfl, rfl⟩
  · have hd : ((n : Int) == 0) = false := by simp; omega
    have hm : (((n : Int) + 24 - 1) / 24) = ((manyN n : Nat) : Int) := by unfold manyN; rw [if_neg h0]; omega
    have HM : Hid _ := hm
    clear hm
    go_enter Tryd.func85, Tryd.ntmps85
    go_wp2
    go_ret
    exact ⟨by rw [← HM.out]; rfl, rfl⟩

def FrRel (w : World) (p : Nat) (zs : List Int) (m : Nat) (o i : Value) (wr : World) : Prop :=
  ∃ k : Nat, k ≤ m ∧ i = .int .i64 k ∧ GrBB wr w.heap.size o ((List.range k).map (secN p zs)) ∧ Below w.heap.size w wr

set_option maxHeartbeats 4000000 in
theorem frame_any (p : Nat) (hp : p ≤ 60000) (sv : Value) (zs : List Int) (lz hz : Nat) (w : World) (rz : RdB w lz hz sv zs) (hhz : hz ≤ w.heap.size) (hn200 : zs.length ≤ 200) :
    Calls Tryd.prog 79 #[.int .i64 p, sv] w fun e w' => ∃ x, e = .returned x ∧ GrBB w' w.heap.size x (frameN p zs) ∧ Below w.heap.size w w' := by
  obtain ⟨hzb, a, n, c, rfl, hn, hhd, hrr⟩ := rz.reads
  obtain ⟨i0, hi, hz0, hz1, hz2⟩ := info_parts Tryd.infoB
  obtain ⟨j0, hj, hy0, hy1, hy2⟩ := info_parts Tryd.infoBB
  have HN : Hid _ := hn
  have HRR : Hid _ := hrr
  have HZB : Hid _ := hzb
  have hnc := hhd.1
  have hcm : c ≤ 9223372036854775807 := by have := hhd.2.1; unfold maxLen at this; omega
  have hnil := hhd.2.2
  have HNIL : Hid _ := hnil
  have hn9 : n ≤ 200 := by omega
  have hm9 := manyN_le n hn9
  have hma : ∀ k, k < manyN n → 24 * k ≤ n ∧ (0 < n → 24 * k < n) ∧ (n = 0 → k = 0) := manyN_at n
  have HMA : Hid _ := hma
  obtain ⟨m, hm⟩ : ∃ m, manyN n = m := ⟨_, rfl⟩
  rw [hm] at HMA hm9
  have hmz : manyN zs.length = m := by rw [← hn]; exact hm
  have HM : Hid (manyN n = m) := hm
  have HMZ : Hid (manyN zs.length = m) := hmz
  have HST : Hid (FrRel w p zs m (.slice none 0 0) (.int .i64 0) w) := ⟨0, Nat.zero_le _, rfl, GrBB_nil _ _, Below.refl _ _⟩
  have HMY : Hid _ := many_any n (by omega) w
  rw [hm] at HMY
  clear hn hrr hzb hhd hnil hma hm hmz rz hn200
  go_enter Tryd.func79, Tryd.ntmps79
  go_wp2_with fail
  refine Calls.mono HMY.out ?_
  rintro e w1 ⟨rfl, hw1⟩
  subst hw1
  go_wp2
  go_loopw [5, 7] (fun o i wr => FrRel w1 p zs m o i wr) (fun _ i _ => m - (intOf i).toNat)
  case atStart => exact HST.out
  case round =>
    clear HST HMY
    obtain ⟨k, hk, rfl, hG, hbel⟩ := hrel
    obtain ⟨xa, xc, rfl⟩ := hG.sliced
    have hkl : ((List.range k).map (secN p zs)).length = k := by simp
    rw [hkl] at hG ⊢
    have sz0 := hbel.size
    by_cases hlt : k < m
    · obtain ⟨hk1, hk2, hk3⟩ := HMA.out k hlt
      have hlt9 : (k : Int) < (m : Int) := by omega
      have hpl := pieceN_length zs k
      rw [← HN.out] at hpl
      have hpl2 : (pieceN zs k).length ≤ 24 := by rw [hpl]; exact Nat.min_le_right _ _
      have hsl := sec_laid ((p : Int) % 256) ((p : Int) / 256) (k : Int) (m : Int) (n : Int) (((p : Int) + 1) % 256) (((p : Int) + 1) / 256) (pieceN zs k) hpl2
      have hse : [((p : Int) % 256), ((p : Int) / 256), (k : Int), (m : Int), (n : Int), 0] ++ (pieceN zs k ++ (List.replicate (24 - (pieceN zs k).length) 0 ++ [(((p : Int) + 1) % 256), (((p : Int) + 1) / 256)])) = secN p zs k := by unfold secN; rw [HMZ.out, ← HN.out]
      rw [hse] at hsl
      obtain ⟨X, hX⟩ : ∃ X, X = bcells (pieceN zs k) := ⟨_, rfl⟩
      rw [← hX] at hsl
      have hXl : X.length = Nat.min (n - 24 * k) 24 := by rw [hX, bcells_length]; exact hpl
      have hX24 : X.length ≤ 24 := by rw [hX, bcells_length]; exact hpl2
      have HX1 : Hid (∀ v ∈ X, v.oneCell' = true) := by show ∀ v ∈ X, v.oneCell' = true; rw [hX]; exact bcells_one _
      have HXS : Hid (∀ W, Below wr.heap.size wr W → 0 < X.length → ∃ rb ro, a = some ⟨rb, ro, none⟩ ∧ ∀ j v, X[j]? = some v → W.cell? ⟨rb, ro + 24 * k + j, none⟩ = some v) := fun W hW h0 => by
        rcases HRR.out.2 with e | ⟨rb, ro, ha, hrb, hrc⟩
        · rw [hX, bcells_length, pieceN_length, e] at h0; simp at h0
        · refine ⟨rb, ro, ha, fun j v hv => ?_⟩
          have hj : j < X.length := by rcases Nat.lt_or_ge j X.length with h9 | h9
                                       · exact h9
                                       · rw [List.getElem?_eq_none h9] at hv; cases hv
          have hj2 : j < n - 24 * k := by rw [hXl] at hj; exact Nat.lt_of_lt_of_le hj (Nat.min_le_left _ _)
          have hj3 : j < 24 := by rw [hXl] at hj; exact Nat.lt_of_lt_of_le hj (Nat.min_le_right _ _)
          have h9 := hrc (24 * k + j) (by rw [← HN.out]; omega)
          have h8 : W.cell? ⟨rb, ro + 24 * k + j, none⟩ = w1.cell? ⟨rb, ro + 24 * k + j, none⟩ := World.cell?_of_block (a := ⟨rb, ro + 24 * k + j, none⟩) ((hW.block rb (by omega)).trans (hbel.block rb hrb))
          rw [h8, Nat.add_assoc, h9]
          rw [hX] at hv
          unfold bcells pieceN at hv
          rw [List.getElem?_map, List.getElem?_take, if_pos hj3, List.getElem?_drop] at hv
          have h7 : 24 * k + j < zs.length := by rw [← HN.out]; omega
          rw [List.getElem?_eq_getElem h7] at hv ⊢
          simpa using hv
      have HSL : Hid _ := hsl
      have HG : Hid (GrBB wr w1.heap.size (.slice xa k xc) ((List.range k).map (secN p zs))) := hG
      have HBEL : Hid (Below w1.heap.size w1 wr) := hbel
      have hXm : X.length = Nat.min (n - 24 * k) 24 := hXl
      have HXM : Hid _ := hXm
      clear hpl hpl2 hsl hse hX hXl hG hbel hXm
      go_wp2_with (at_make; refine wpList_make_full _ rfl _ _ 22 rfl wr.heap.size 5 i0 (.int .u8 0) 1 Tryd.underlying22 hi hz0 hz1 .i64 .i64 _ _ 32 rfl rfl rfl rfl (by rw [hz2]; omega) (by unfold maxLen; omega) (Nat.le_refl _) ?_; intro w2 hown hgrow; have hb2 : Below wr.heap.size wr w2 := (Below.refl _ _).grown hgrow (Nat.le_refl _) (fun k h => by cases h); have hs2 : wr.heap.size < w2.heap.size := (hown.lt _ rfl).2; rw [madeCells_bytes] at hown; have HG1 : Hid _ := full_heap hown; have q0 := hown.frozenAt 0; have q1 := hown.frozenAt 1; have q2 := hown.frozenAt 2; have q3 := hown.frozenAt 3; have q4 := hown.frozenAt 4; have z0 := row_cell (j := 0) HG1.out (by simp); have z1 := row_cell (j := 1) HG1.out (by simp); have z2 := row_cell (j := 2) HG1.out (by simp); have z3 := row_cell (j := 3) HG1.out (by simp); have z4 := row_cell (j := 4) HG1.out (by simp); have HB2 : Hid _ := hb2; clear hown hgrow hb2)
      have HG5 : Hid _ := row_set (j := 4) (v := .int .u8 (n : Int)) (row_set (j := 3) (v := .int .u8 (m : Int)) (row_set (j := 2) (v := .int .u8 (k : Int)) (row_set (j := 1) (v := .int .u8 ((p : Int) / 256)) (row_set (j := 0) (v := .int .u8 ((p : Int) % 256)) HG1.out))))
      have hb5 : Below wr.heap.size wr (((((w2.setCell ⟨wr.heap.size, 0, none⟩ (.int .u8 ((p : Int) % 256))).setCell ⟨wr.heap.size, 1, none⟩ (.int .u8 ((p : Int) / 256))).setCell ⟨wr.heap.size, 2, none⟩ (.int .u8 (k : Int))).setCell ⟨wr.heap.size, 3, none⟩ (.int .u8 (m : Int))).setCell ⟨wr.heap.size, 4, none⟩ (.int .u8 (n : Int))) := ((((HB2.out.setCell (Nat.le_refl _) _).setCell (Nat.le_refl _) _).setCell (Nat.le_refl _) _).setCell (Nat.le_refl _) _).setCell (Nat.le_refl _) _
      generalize (((((w2.setCell ⟨wr.heap.size, 0, none⟩ (.int .u8 ((p : Int) % 256))).setCell ⟨wr.heap.size, 1, none⟩ (.int .u8 ((p : Int) / 256))).setCell ⟨wr.heap.size, 2, none⟩ (.int .u8 (k : Int))).setCell ⟨wr.heap.size, 3, none⟩ (.int .u8 (m : Int))).setCell ⟨wr.heap.size, 4, none⟩ (.int .u8 (n : Int))) = w5 at HG5 hb5 ⊢
      generalize (((((bcells (List.replicate 32 0)).set 0 (.int .u8 ((p : Int) % 256))).set 1 (.int .u8 ((p : Int) / 256))).set 2 (.int .u8 (k : Int))).set 3 (.int .u8 (m : Int))).set 4 (.int .u8 (n : Int)) = C5 at HG5 HSL
      have HC5 : Hid (C5.length = 32) := by
        show _ = _
        have h9 := congrArg List.length HSL.out
        rw [List.length_set, List.length_set, bcells_length, secN_length] at h9
        unfold splice at h9
        simp only [List.length_append, List.length_take, List.length_drop] at h9
        omega
      by_cases hn0 : n = 0
      · have hk0 : k = 0 := hk3 hn0
        subst hk0
        subst hn0
        have HX00 : Hid (X.length = 0) := by show _ = _; rw [HXM.out]; rfl
        have HX0 : Hid (X.length = Nat.min 0 24) := by show _ = _; rw [HX00.out]; rfl
        have hwr : IntKind.i64.wrap 0 = 0 := by decide
        clear hk1 hk2 hk3 HXS HXM
        cases a with
        | none =>
          obtain ⟨_, hc9⟩ := HNIL.out rfl
          subst hc9
          refine wp_region_noPanic ?_
          refine wp_region_held_drew (S := fun _ => True) (by kernel_rfl) trivial (fun hHeld => ?_)
          clear hHeld
          refine wpAnyH_take (i := 0) (v := ?_) rfl (by kernel_rfl) (by kernel_rfl) (by kernel_rfl) (fun _ _ _ h => h) (Or.inl ⟨by rfl, ?_⟩) trivial ?_
          rotate_left
          · (intro w_ hSw_; (try dsimp only at hSw_); go_simp; try with_reducible rfl)
          try simp only [Act.put, List.setIfInBounds_toArray, List.set_cons_zero, List.set_cons_succ, List.getElem_toArray, List.getElem_cons_zero, List.getElem_cons_succ]
          refine wpAnyH_take (i := 1) (v := ?_) rfl (by kernel_rfl) (by kernel_rfl) (by kernel_rfl) (fun _ _ _ h => h) (Or.inl ⟨by rfl, ?_⟩) trivial ?_
          rotate_left
          · (intro w_ hSw_; (try dsimp only at hSw_); go_simp; try with_reducible rfl)
          try simp only [Act.put, List.setIfInBounds_toArray, List.set_cons_zero, List.set_cons_succ, List.getElem_toArray, List.getElem_cons_zero, List.getElem_cons_succ]
          refine wpAnyH_take (i := 2) (v := ?_) rfl (by kernel_rfl) (by kernel_rfl) (by kernel_rfl) (fun _ _ _ h => h) (Or.inl ⟨by rfl, ?_⟩) trivial ?_
          rotate_left
          · (intro w_ hSw_; (try dsimp only at hSw_); go_simp; try with_reducible rfl)
          try simp only [Act.put, List.setIfInBounds_toArray, List.set_cons_zero, List.set_cons_succ, List.getElem_toArray, List.getElem_cons_zero, List.getElem_cons_succ]
          refine wpAnyH_take (i := 3) (v := ?_) rfl (by kernel_rfl) (by kernel_rfl) (by kernel_rfl) (fun _ _ _ h => h) (Or.inl ⟨by rfl, ?_⟩) trivial ?_
          rotate_left
          · (intro w_ hSw_; (try dsimp only at hSw_); go_simp; try with_reducible rfl)
          try simp only [Act.put, List.setIfInBounds_toArray, List.set_cons_zero, List.set_cons_succ, List.getElem_toArray, List.getElem_cons_zero, List.getElem_cons_succ]
          refine wpAnyH_take (i := 4) (v := ?_) rfl (by kernel_rfl) (by kernel_rfl) (by kernel_rfl) (fun _ _ _ h => h) (Or.inl ⟨by rfl, ?_⟩) trivial ?_
          rotate_left
          · (intro w_ hSw_; (try dsimp only at hSw_); go_simp; try with_reducible rfl)
          try simp only [Act.put, List.setIfInBounds_toArray, List.set_cons_zero, List.set_cons_succ, List.getElem_toArray, List.getElem_cons_zero, List.getElem_cons_succ]
          refine wpAnyH_take (i := 5) (v := ?_) rfl (by kernel_rfl) (by kernel_rfl) (by kernel_rfl) (fun _ _ _ h => h) (Or.inl ⟨by rfl, ?_⟩) trivial ?_
          rotate_left
          · (intro w_ hSw_; (try dsimp only at hSw_); go_simp; try with_reducible rfl)
          try simp only [Act.put, List.setIfInBounds_toArray, List.set_cons_zero, List.set_cons_succ, List.getElem_toArray, List.getElem_cons_zero, List.getElem_cons_succ]
          refine wpAnyH_ready (rs := [6]) (by kernel_rfl) (by simp) ?_
          refine AllReadyH.cons rfl (fun K hK => ?_) AllReadyH.nil
          refine step_copy_splice rfl (.tmp 41) (.tmp 45) 22 22 rfl 5 Tryd.underlying22 Tryd.sizeB _ _ _ _ _ _ (by rfl) (by rfl) wr.heap.size 6 C5 5 HG5.out X HX0.out (fun h0 => absurd h0 (by rw [HX00.out]; exact Nat.lt_irrefl _)) (by rw [HC5.out]; omega) HX1.out wr.heap.size wr (Below.drew hb5) (Nat.le_refl _) ?_
          intro w6 HG6 hb6
          refine hK.out _ _ trivial (fun hHeld => ?_)
          clear hK K hHeld
          try simp only [Act.put, List.setIfInBounds_toArray, List.set_cons_zero, List.set_cons_succ, List.getElem_toArray, List.getElem_cons_zero, List.getElem_cons_succ]
          refine wpAnyH_done (by kernel_rfl) (NoPanic.normal ?_) _
          have hl6 : (splice C5 6 X).length = 32 := by rw [length_splice _ _ _ (by rw [HC5.out]; omega)]; exact HC5.out
          have z30 := row_cell (j := 30) HG6.out (by rw [hl6]; omega)
          have z31 := row_cell (j := 31) HG6.out (by rw [hl6]; omega)
          have q30 : w6.frozen? ⟨wr.heap.size, 30, none⟩ = false := frozen_of_row _ _ _ _ _ HG6.out
          have q31 : w6.frozen? ⟨wr.heap.size, 31, none⟩ = false := frozen_of_row _ _ _ _ _ HG6.out
          have HG8 : Hid _ := row_set (j := 31) (v := .int .u8 (((p : Int) + 1) / 256)) (row_set (j := 30) (v := .int .u8 (((p : Int) + 1) % 256)) HG6.out)
          rw [HSL.out] at HG8
          generalize (splice C5 6 X)[30]'(by rw [hl6]; omega) = y30 at z30
          generalize (splice C5 6 X)[31]'(by rw [hl6]; omega) = y31 at z31
          have hb8 : Below wr.heap.size wr ((w6.setCell ⟨wr.heap.size, 30, none⟩ (.int .u8 (((p : Int) + 1) % 256))).setCell ⟨wr.heap.size, 31, none⟩ (.int .u8 (((p : Int) + 1) / 256))) := (hb6.setCell (Nat.le_refl _) _).setCell (Nat.le_refl _) _
          have ho8 := full_owns (base := wr.heap.size) (n := 32) (secN_length p zs 0).symm (Nat.le_refl _) (by rw [secN_length]; omega) HG8.out
          generalize hw8 : (w6.setCell ⟨wr.heap.size, 30, none⟩ (.int .u8 (((p : Int) + 1) % 256))).setCell ⟨wr.heap.size, 31, none⟩ (.int .u8 (((p : Int) + 1) / 256)) = w8 at hb8 ho8
          have HW8 : Hid _ := hw8
          have HO8 : Hid _ := ho8
          have HB8 : Hid _ := hb8
          have s8 := hb8.size
          have hs8 : wr.heap.size < w8.heap.size := (ho8.lt _ rfl).2
          obtain ⟨vs, hvl, hrow, hee⟩ := HG.out
          have hrl : ((List.range 0).map (secN p zs)).length = 0 := by simp
          have hrow' : wr.ownsRow w1.heap.size 22 1 (.slice xa 0 xc) 0 vs := by rw [hrl] at hrow; exact hrow
          have HRW : Hid (w8.ownsRow w1.heap.size 22 1 (.slice xa 0 xc) 0 vs) := ownsRow_same hrow' (fun q hq => (hrow'.lt q hq).2) (SameIn.ofBelow hb8 (Nat.le_refl _))
          have HROW : Hid _ := And.intro hvl (And.intro hrow hee)
          clear hl6 hw8 hb8 ho8 hvl hrow hrow' hee hrl HG6 HG5 HG1 HG8 hb6 hb5 HC5 HSL
          go_wp2_with (first | (rw [HW8.out]) | (at_builtin; go_must (refine wpList_append_lies _ rfl (.tmp 58) (.tmp 60) 23 rfl w1.heap.size 22 j0 (.slice none 0 0) 1 24 Tryd.underlying23 hj hy0 hy1 hy2 rfl (by decide) _ 0 vs rfl (World.ownsRow.alloc HRW.out _) ⟨w8.heap.size, 0, none⟩ 1 1 [.slice (some ⟨wr.heap.size, 0, none⟩) 32 32] rfl rfl (one_slice w8 _) (one_slice1 _) (by decide) (by unfold maxLen; omega) (by omega) (by simp; omega) _ rfl ?_; intro g9 c9 w9 ho9 hg9 ha9 hl9)))
          have HR : Hid (FrRel w1 p zs m (.slice (some ⟨g9, 0, none⟩) (0 + 1) c9) (.int .i64 (((0 : Nat) : Int) + 1)) w9) := by
            have hbn := Below.new (w := w8) (.cells #[.slice (some ⟨wr.heap.size, 0, none⟩) 32 32] 22)
            have hb9 : Below wr.heap.size wr (w8.alloc (.cells #[.slice (some ⟨wr.heap.size, 0, none⟩) 32 32] 22)) := HB8.out.trans (hbn.mono s8)
            have hk9 := HMZ.out
            have hu : OwB w8 wr.heap.size w8.heap.size (.slice (some ⟨wr.heap.size, 0, none⟩) 32 32) (secN p zs 0) := OwB.of (secN_bytes p hp zs HZB.out (by rw [← HN.out]; exact hn9) 0 (by omega)) HO8.out
            have hG := GrBB.next (zss := (List.range 0).map (secN p zs)) HROW.out.1 HROW.out.2.1 HROW.out.2.2 hb9 (by rw [show ((List.range 0).map (secN p zs)).length = 0 by simp]; exact ho9) hg9 ha9 ((hu.rd.same (SameIn.ofBelow hbn (Nat.le_refl _))).wide (by omega) (by simp)) (fun q hq => by have := slice_block hq; simp at this; simp; omega)
            rw [show ((List.range 0).map (secN p zs)).length = 0 by simp] at hG
            refine ⟨0 + 1, by omega, by go_num, ?_, ?_⟩
            · rw [List.range_succ, List.map_append]; exact hG
            · exact HBEL.out.trans ⟨hg9.os.trans hb9.os, hg9.tape.trans hb9.tape, hg9.output.trans hb9.output, Nat.le_trans hb9.size hg9.size, fun q hq => (hg9.block q (by simp; omega) (fun e => by have := (HROW.out.2.1.lt q e.symm).1; omega)).trans (hb9.block q (by omega))⟩
          clear HROW HRW HO8 HB8 HG HBEL ho9 hg9 ha9 hl9
          go_wp2
          refine ⟨?_, by simp [intOf]; omega⟩
          first | exact HR.out | exact ⟨_, HR.out, rfl, rfl⟩ | exact ⟨_, _, HR.out, rfl, rfl⟩ | exact ⟨_, _, _, HR.out, rfl, rfl⟩ | exact ⟨_, _, _, _, HR.out, rfl, rfl⟩ | exact ⟨_, _, _, _, _, HR.out, rfl, rfl⟩ | exact ⟨_, _, _, _, _, _, HR.out, rfl, rfl⟩ | exact ⟨_, _, _, _, _, _, _, HR.out, rfl, rfl⟩ | exact ⟨_, _, _, _, _, _, _, _, HR.out, rfl, rfl⟩ | exact ⟨_, _, _, _, _, _, _, _, _, HR.out, rfl, rfl⟩ | exact ⟨_, _, _, _, _, _, _, _, _, _, HR.out, rfl, rfl⟩ | exact ⟨_, _, _, _, _, _, _, _, _, _, _, HR.out, rfl, rfl⟩ | exact ⟨_, _, _, _, _, _, _, _, _, _, _, _, HR.out, rfl, rfl⟩ | exact ⟨_, _, _, _, _, _, _, _, _, _, _, _, _, HR.out, rfl, rfl⟩ | exact ⟨_, _, _, _, _, _, _, _, _, _, _, _, _, _, HR.out, rfl, rfl⟩ | exact ⟨_, _, _, _, _, _, _, _, _, _, _, _, _, _, _, HR.out, rfl, rfl⟩ | exact ⟨_, _, _, _, _, _, _, _, _, _, _, _, _, _, _, _, HR.out, rfl, rfl⟩ | exact ⟨_, _, _, _, _, _, _, _, _, _, _, _, _, _, _, _, _, HR.out, rfl, rfl⟩ | exact ⟨_, _, _, _, _, _, _, _, _, _, _, _, _, _, _, _, _, _, HR.out, rfl, rfl⟩ | exact ⟨_, _, _, _, _, _, _, _, _, _, _, _, _, _, _, _, _, _, _, HR.out, rfl, rfl⟩ | exact ⟨_, _, _, _, _, _, _, _, _, _, _, _, _, _, _, _, _, _, _, _, HR.out, rfl, rfl⟩ | exact ⟨_, _, _, _, _, _, _, _, _, _, _, _, _, _, _, _, _, _, _, _, _, HR.out, rfl, rfl⟩ | exact ⟨_, _, _, _, _, _, _, _, _, _, _, _, _, _, _, _, _, _, _, _, _, _, HR.out, rfl, rfl⟩ | exact ⟨_, _, _, _, _, _, _, _, _, _, _, _, _, _, _, _, _, _, _, _, _, _, _, HR.out, rfl, rfl⟩ | exact ⟨_, _, _, _, _, _, _, _, _, _, _, _, _, _, _, _, _, _, _, _, _, _, _, _, HR.out, rfl, rfl⟩ | exact ⟨_, _, _, _, _, _, _, _, _, _, _, _, _, _, _, _, _, _, _, _, _, _, _, _, _, HR.out, rfl, rfl⟩ | exact ⟨_, _, _, _, _, _, _, _, _, _, _, _, _, _, _, _, _, _, _, _, _, _, _, _, _, _, HR.out, rfl, rfl⟩ | exact ⟨_, _, _, _, _, _, _, _, _, _, _, _, _, _, _, _, _, _, _, _, _, _, _, _, _, _, _, HR.out, rfl, rfl⟩ | exact ⟨_, _, _, _, _, _, _, _, _, _, _, _, _, _, _, _, _, _, _, _, _, _, _, _, _, _, _, _, HR.out, rfl, rfl⟩ | exact ⟨_, _, _, _, _, _, _, _, _, _, _, _, _, _, _, _, _, _, _, _, _, _, _, _, _, _, _, _, _, HR.out, rfl, rfl⟩ | exact ⟨_, _, _, _, _, _, _, _, _, _, _, _, _, _, _, _, _, _, _, _, _, _, _, _, _, _, _, _, _, _, HR.out, rfl, rfl⟩ | exact ⟨_, _, _, _, _, _, _, _, _, _, _, _, _, _, _, _, _, _, _, _, _, _, _, _, _, _, _, _, _, _, _, HR.out, rfl, rfl⟩ | exact ⟨_, _, _, _, _, _, _, _, _, _, _, _, _, _, _, _, _, _, _, _, _, _, _, _, _, _, _, _, _, _, _, _, HR.out, rfl, rfl⟩ | exact ⟨_, _, _, _, _, _, _, _, _, _, _, _, _, _, _, _, _, _, _, _, _, _, _, _, _, _, _, _, _, _, _, _, _, HR.out, rfl, rfl⟩ | exact ⟨_, _, _, _, _, _, _, _, _, _, _, _, _, _, _, _, _, _, _, _, _, _, _, _, _, _, _, _, _, _, _, _, _, _, HR.out, rfl, rfl⟩ | exact ⟨_, _, _, _, _, _, _, _, _, _, _, _, _, _, _, _, _, _, _, _, _, _, _, _, _, _, _, _, _, _, _, _, _, _, _, HR.out, rfl, rfl⟩ | exact ⟨_, _, _, _, _, _, _, _, _, _, _, _, _, _, _, _, _, _, _, _, _, _, _, _, _, _, _, _, _, _, _, _, _, _, _, _, HR.out, rfl, rfl⟩ | exact ⟨_, _, _, _, _, _, _, _, _, _, _, _, _, _, _, _, _, _, _, _, _, _, _, _, _, _, _, _, _, _, _, _, _, _, _, _, _, HR.out, rfl, rfl⟩ | exact ⟨_, _, _, _, _, _, _, _, _, _, _, _, _, _, _, _, _, _, _, _, _, _, _, _, _, _, _, _, _, _, _, _, _, _, _, _, _, _, HR.out, rfl, rfl⟩ | exact ⟨_, _, _, _, _, _, _, _, _, _, _, _, _, _, _, _, _, _, _, _, _, _, _, _, _, _, _, _, _, _, _, _, _, _, _, _, _, _, _, HR.out, rfl, rfl⟩ | exact ⟨_, _, _, _, _, _, _, _, _, _, _, _, _, _, _, _, _, _, _, _, _, _, _, _, _, _, _, _, _, _, _, _, _, _, _, _, _, _, _, _, HR.out, rfl, rfl⟩ | exact ⟨_, _, _, _, _, _, _, _, _, _, _, _, _, _, _, _, _, _, _, _, _, _, _, _, _, _, _, _, _, _, _, _, _, _, _, _, _, _, _, _, _, HR.out, rfl, rfl⟩ | exact ⟨_, _, _, _, _, _, _, _, _, _, _, _, _, _, _, _, _, _, _, _, _, _, _, _, _, _, _, _, _, _, _, _, _, _, _, _, _, _, _, _, _, _, HR.out, rfl, rfl⟩ | exact ⟨_, _, _, _, _, _, _, _, _, _, _, _, _, _, _, _, _, _, _, _, _, _, _, _, _, _, _, _, _, _, _, _, _, _, _, _, _, _, _, _, _, _, _, HR.out, rfl, rfl⟩ | exact ⟨_, _, _, _, _, _, _, _, _, _, _, _, _, _, _, _, _, _, _, _, _, _, _, _, _, _, _, _, _, _, _, _, _, _, _, _, _, _, _, _, _, _, _, _, HR.out, rfl, rfl⟩ | exact ⟨_, _, _, _, _, _, _, _, _, _, _, _, _, _, _, _, _, _, _, _, _, _, _, _, _, _, _, _, _, _, _, _, _, _, _, _, _, _, _, _, _, _, _, _, _, HR.out, rfl, rfl⟩ | exact ⟨_, _, _, _, _, _, _, _, _, _, _, _, _, _, _, _, _, _, _, _, _, _, _, _, _, _, _, _, _, _, _, _, _, _, _, _, _, _, _, _, _, _, _, _, _, _, HR.out, rfl, rfl⟩ | exact ⟨_, _, _, _, _, _, _, _, _, _, _, _, _, _, _, _, _, _, _, _, _, _, _, _, _, _, _, _, _, _, _, _, _, _, _, _, _, _, _, _, _, _, _, _, _, _, _, HR.out, rfl, rfl⟩ | exact ⟨_, _, _, _, _, _, _, _, _, _, _, _, _, _, _, _, _, _, _, _, _, _, _, _, _, _, _, _, _, _, _, _, _, _, _, _, _, _, _, _, _, _, _, _, _, _, _, _, HR.out, rfl, rfl⟩ | exact ⟨_, _, _, _, _, _, _, _, _, _, _, _, _, _, _, _, _, _, _, _, _, _, _, _, _, _, _, _, _, _, _, _, _, _, _, _, _, _, _, _, _, _, _, _, _, _, _, _, _, HR.out, rfl, rfl⟩ | exact ⟨_, _, _, _, _, _, _, _, _, _, _, _, _, _, _, _, _, _, _, _, _, _, _, _, _, _, _, _, _, _, _, _, _, _, _, _, _, _, _, _, _, _, _, _, _, _, _, _, _, _, HR.out, rfl, rfl⟩ | exact ⟨_, _, _, _, _, _, _, _, _, _, _, _, _, _, _, _, _, _, _, _, _, _, _, _, _, _, _, _, _, _, _, _, _, _, _, _, _, _, _, _, _, _, _, _, _, _, _, _, _, _, _, HR.out, rfl, rfl⟩ | exact ⟨_, _, _, _, _, _, _, _, _, _, _, _, _, _, _, _, _, _, _, _, _, _, _, _, _, _, _, _, _, _, _, _, _, _, _, _, _, _, _, _, _, _, _, _, _, _, _, _, _, _, _, _, HR.out, rfl, rfl⟩ | exact ⟨_, _, _, _, _, _, _, _, _, _, _, _, _, _, _, _, _, _, _, _, _, _, _, _, _, _, _, _, _, _, _, _, _, _, _, _, _, _, _, _, _, _, _, _, _, _, _, _, _, _, _, _, _, HR.out, rfl, rfl⟩ | exact ⟨_, _, _, _, _, _, _, _, _, _, _, _, _, _, _, _, _, _, _, _, _, _, _, _, _, _, _, _, _, _, _, _, _, _, _, _, _, _, _, _, _, _, _, _, _, _, _, _, _, _, _, _, _, _, HR.out, rfl, rfl⟩ | exact ⟨_, _, _, _, _, _, _, _, _, _, _, _, _, _, _, _, _, _, _, _, _, _, _, _, _, _, _, _, _, _, _, _, _, _, _, _, _, _, _, _, _, _, _, _, _, _, _, _, _, _, _, _, _, _, _, HR.out, rfl, rfl⟩ | exact ⟨_, _, _, _, _, _, _, _, _, _, _, _, _, _, _, _, _, _, _, _, _, _, _, _, _, _, _, _, _, _, _, _, _, _, _, _, _, _, _, _, _, _, _, _, _, _, _, _, _, _, _, _, _, _, _, _, HR.out, rfl, rfl⟩ | exact ⟨_, _, _, _, _, _, _, _, _, _, _, _, _, _, _, _, _, _, _, _, _, _, _, _, _, _, _, _, _, _, _, _, _, _, _, _, _, _, _, _, _, _, _, _, _, _, _, _, _, _, _, _, _, _, _, _, _, HR.out, rfl, rfl⟩ | exact ⟨_, _, _, _, _, _, _, _, _, _, _, _, _, _, _, _, _, _, _, _, _, _, _, _, _, _, _, _, _, _, _, _, _, _, _, _, _, _, _, _, _, _, _, _, _, _, _, _, _, _, _, _, _, _, _, _, _, _, HR.out, rfl, rfl⟩ | exact ⟨_, _, _, _, _, _, _, _, _, _, _, _, _, _, _, _, _, _, _, _, _, _, _, _, _, _, _, _, _, _, _, _, _, _, _, _, _, _, _, _, _, _, _, _, _, _, _, _, _, _, _, _, _, _, _, _, _, _, _, HR.out, rfl, rfl⟩ | exact ⟨_, _, _, _, _, _, _, _, _, _, _, _, _, _, _, _, _, _, _, _, _, _, _, _, _, _, _, _, _, _, _, _, _, _, _, _, _, _, _, _, _, _, _, _, _, _, _, _, _, _, _, _, _, _, _, _, _, _, _, _, HR.out, rfl, rfl⟩ | exact ⟨_, _, _, _, _, _, _, _, _, _, _, _, _, _, _, _, _, _, _, _, _, _, _, _, _, _, _, _, _, _, _, _, _, _, _, _, _, _, _, _, _, _, _, _, _, _, _, _, _, _, _, _, _, _, _, _, _, _, _, _, _, HR.out, rfl, rfl⟩ | exact ⟨_, _, _, _, _, _, _, _, _, _, _, _, _, _, _, _, _, _, _, _, _, _, _, _, _, _, _, _, _, _, _, _, _, _, _, _, _, _, _, _, _, _, _, _, _, _, _, _, _, _, _, _, _, _, _, _, _, _, _, _, _, _, HR.out, rfl, rfl⟩ | exact ⟨_, _, _, _, _, _, _, _, _, _, _, _, _, _, _, _, _, _, _, _, _, _, _, _, _, _, _, _, _, _, _, _, _, _, _, _, _, _, _, _, _, _, _, _, _, _, _, _, _, _, _, _, _, _, _, _, _, _, _, _, _, _, _, HR.out, rfl, rfl⟩ | exact ⟨_, _, _, _, _, _, _, _, _, _, _, _, _, _, _, _, _, _, _, _, _, _, _, _, _, _, _, _, _, _, _, _, _, _, _, _, _, _, _, _, _, _, _, _, _, _, _, _, _, _, _, _, _, _, _, _, _, _, _, _, _, _, _, _, HR.out, rfl, rfl⟩ | exact ⟨_, _, _, _, _, _, _, _, _, _, _, _, _, _, _, _, _, _, _, _, _, _, _, _, _, _, _, _, _, _, _, _, _, _, _, _, _, _, _, _, _, _, _, _, _, _, _, _, _, _, _, _, _, _, _, _, _, _, _, _, _, _, _, _, _, HR.out, rfl, rfl⟩
        | some ad =>
          obtain ⟨rb, ro, rs⟩ := ad
          by_cases hc0 : c = 0
          · subst hc0
            refine wp_region_noPanic ?_
            refine wp_region_held_drew (S := fun _ => True) (by kernel_rfl) trivial (fun hHeld => ?_)
            clear hHeld
            refine wpAnyH_take (i := 0) (v := ?_) rfl (by kernel_rfl) (by kernel_rfl) (by kernel_rfl) (fun _ _ _ h => h) (Or.inl ⟨by rfl, ?_⟩) trivial ?_
            rotate_left
            · (intro w_ hSw_; (try dsimp only at hSw_); go_simp; try with_reducible rfl)
            try simp only [Act.put, List.setIfInBounds_toArray, List.set_cons_zero, List.set_cons_succ, List.getElem_toArray, List.getElem_cons_zero, List.getElem_cons_succ]
            refine wpAnyH_take (i := 1) (v := ?_) rfl (by kernel_rfl) (by kernel_rfl) (by kernel_rfl) (fun _ _ _ h => h) (Or.inl ⟨by rfl, ?_⟩) trivial ?_
            rotate_left
            · (intro w_ hSw_; (try dsimp only at hSw_); go_simp; try with_reducible rfl)
            try simp only [Act.put, List.setIfInBounds_toArray, List.set_cons_zero, List.set_cons_succ, List.getElem_toArray, List.getElem_cons_zero, List.getElem_cons_succ]
            refine wpAnyH_take (i := 2) (v := ?_) rfl (by kernel_rfl) (by kernel_rfl) (by kernel_rfl) (fun _ _ _ h => h) (Or.inl ⟨by rfl, ?_⟩) trivial ?_
            rotate_left
            · (intro w_ hSw_; (try dsimp only at hSw_); go_simp; try with_reducible rfl)
            try simp only [Act.put, List.setIfInBounds_toArray, List.set_cons_zero, List.set_cons_succ, List.getElem_toArray, List.getElem_cons_zero, List.getElem_cons_succ]
            refine wpAnyH_take (i := 3) (v := ?_) rfl (by kernel_rfl) (by kernel_rfl) (by kernel_rfl) (fun _ _ _ h => h) (Or.inl ⟨by rfl, ?_⟩) trivial ?_
            rotate_left
            · (intro w_ hSw_; (try dsimp only at hSw_); go_simp; try with_reducible rfl)
            try simp only [Act.put, List.setIfInBounds_toArray, List.set_cons_zero, List.set_cons_succ, List.getElem_toArray, List.getElem_cons_zero, List.getElem_cons_succ]
            refine wpAnyH_take (i := 4) (v := ?_) rfl (by kernel_rfl) (by kernel_rfl) (by kernel_rfl) (fun _ _ _ h => h) (Or.inl ⟨by rfl, ?_⟩) trivial ?_
            rotate_left
            · (intro w_ hSw_; (try dsimp only at hSw_); go_simp; try with_reducible rfl)
            try simp only [Act.put, List.setIfInBounds_toArray, List.set_cons_zero, List.set_cons_succ, List.getElem_toArray, List.getElem_cons_zero, List.getElem_cons_succ]
            refine wpAnyH_take (i := 5) (v := ?_) rfl (by kernel_rfl) (by kernel_rfl) (by kernel_rfl) (fun _ _ _ h => h) (Or.inl ⟨by rfl, ?_⟩) trivial ?_
            rotate_left
            · (intro w_ hSw_; (try dsimp only at hSw_); go_simp; try with_reducible rfl)
            try simp only [Act.put, List.setIfInBounds_toArray, List.set_cons_zero, List.set_cons_succ, List.getElem_toArray, List.getElem_cons_zero, List.getElem_cons_succ]
            refine wpAnyH_ready (rs := [6]) (by kernel_rfl) (by simp) ?_
            refine AllReadyH.cons rfl (fun K hK => ?_) AllReadyH.nil
            refine step_copy_splice rfl (.tmp 41) (.tmp 45) 22 22 rfl 5 Tryd.underlying22 Tryd.sizeB _ _ _ _ _ _ (by rfl) (by rfl) wr.heap.size 6 C5 5 HG5.out X HX0.out (fun h0 => absurd h0 (by rw [HX00.out]; exact Nat.lt_irrefl _)) (by rw [HC5.out]; omega) HX1.out wr.heap.size wr (Below.drew hb5) (Nat.le_refl _) ?_
            intro w6 HG6 hb6
            refine hK.out _ _ trivial (fun hHeld => ?_)
            clear hK K hHeld
            try simp only [Act.put, List.setIfInBounds_toArray, List.set_cons_zero, List.set_cons_succ, List.getElem_toArray, List.getElem_cons_zero, List.getElem_cons_succ]
            refine wpAnyH_done (by kernel_rfl) (NoPanic.normal ?_) _
            have hl6 : (splice C5 6 X).length = 32 := by rw [length_splice _ _ _ (by rw [HC5.out]; omega)]; exact HC5.out
            have z30 := row_cell (j := 30) HG6.out (by rw [hl6]; omega)
            have z31 := row_cell (j := 31) HG6.out (by rw [hl6]; omega)
            have q30 : w6.frozen? ⟨wr.heap.size, 30, none⟩ = false := frozen_of_row _ _ _ _ _ HG6.out
            have q31 : w6.frozen? ⟨wr.heap.size, 31, none⟩ = false := frozen_of_row _ _ _ _ _ HG6.out
            have HG8 : Hid _ := row_set (j := 31) (v := .int .u8 (((p : Int) + 1) / 256)) (row_set (j := 30) (v := .int .u8 (((p : Int) + 1) % 256)) HG6.out)
            rw [HSL.out] at HG8
            generalize (splice C5 6 X)[30]'(by rw [hl6]; omega) = y30 at z30
            generalize (splice C5 6 X)[31]'(by rw [hl6]; omega) = y31 at z31
            have hb8 : Below wr.heap.size wr ((w6.setCell ⟨wr.heap.size, 30, none⟩ (.int .u8 (((p : Int) + 1) % 256))).setCell ⟨wr.heap.size, 31, none⟩ (.int .u8 (((p : Int) + 1) / 256))) := (hb6.setCell (Nat.le_refl _) _).setCell (Nat.le_refl _) _
            have ho8 := full_owns (base := wr.heap.size) (n := 32) (secN_length p zs 0).symm (Nat.le_refl _) (by rw [secN_length]; omega) HG8.out
            generalize hw8 : (w6.setCell ⟨wr.heap.size, 30, none⟩ (.int .u8 (((p : Int) + 1) % 256))).setCell ⟨wr.heap.size, 31, none⟩ (.int .u8 (((p : Int) + 1) / 256)) = w8 at hb8 ho8
            have HW8 : Hid _ := hw8
            have HO8 : Hid _ := ho8
            have HB8 : Hid _ := hb8
            have s8 := hb8.size
            have hs8 : wr.heap.size < w8.heap.size := (ho8.lt _ rfl).2
            obtain ⟨vs, hvl, hrow, hee⟩ := HG.out
            have hrl : ((List.range 0).map (secN p zs)).length = 0 := by simp
            have hrow' : wr.ownsRow w1.heap.size 22 1 (.slice xa 0 xc) 0 vs := by rw [hrl] at hrow; exact hrow
            have HRW : Hid (w8.ownsRow w1.heap.size 22 1 (.slice xa 0 xc) 0 vs) := ownsRow_same hrow' (fun q hq => (hrow'.lt q hq).2) (SameIn.ofBelow hb8 (Nat.le_refl _))
            have HROW : Hid _ := And.intro hvl (And.intro hrow hee)
            clear hl6 hw8 hb8 ho8 hvl hrow hrow' hee hrl HG6 HG5 HG1 HG8 hb6 hb5 HC5 HSL
            go_wp2_with (first | (rw [HW8.out]) | (at_builtin; go_must (refine wpList_append_lies _ rfl (.tmp 58) (.tmp 60) 23 rfl w1.heap.size 22 j0 (.slice none 0 0) 1 24 Tryd.underlying23 hj hy0 hy1 hy2 rfl (by decide) _ 0 vs rfl (World.ownsRow.alloc HRW.out _) ⟨w8.heap.size, 0, none⟩ 1 1 [.slice (some ⟨wr.heap.size, 0, none⟩) 32 32] rfl rfl (one_slice w8 _) (one_slice1 _) (by decide) (by unfold maxLen; omega) (by omega) (by simp; omega) _ rfl ?_; intro g9 c9 w9 ho9 hg9 ha9 hl9)))
            have HR : Hid (FrRel w1 p zs m (.slice (some ⟨g9, 0, none⟩) (0 + 1) c9) (.int .i64 (((0 : Nat) : Int) + 1)) w9) := by
              have hbn := Below.new (w := w8) (.cells #[.slice (some ⟨wr.heap.size, 0, none⟩) 32 32] 22)
              have hb9 : Below wr.heap.size wr (w8.alloc (.cells #[.slice (some ⟨wr.heap.size, 0, none⟩) 32 32] 22)) := HB8.out.trans (hbn.mono s8)
              have hk9 := HMZ.out
              have hu : OwB w8 wr.heap.size w8.heap.size (.slice (some ⟨wr.heap.size, 0, none⟩) 32 32) (secN p zs 0) := OwB.of (secN_bytes p hp zs HZB.out (by rw [← HN.out]; exact hn9) 0 (by omega)) HO8.out
              have hG := GrBB.next (zss := (List.range 0).map (secN p zs)) HROW.out.1 HROW.out.2.1 HROW.out.2.2 hb9 (by rw [show ((List.range 0).map (secN p zs)).length = 0 by simp]; exact ho9) hg9 ha9 ((hu.rd.same (SameIn.ofBelow hbn (Nat.le_refl _))).wide (by omega) (by simp)) (fun q hq => by have := slice_block hq; simp at this; simp; omega)
              rw [show ((List.range 0).map (secN p zs)).length = 0 by simp] at hG
              refine ⟨0 + 1, by omega, by go_num, ?_, ?_⟩
              · rw [List.range_succ, List.map_append]; exact hG
              · exact HBEL.out.trans ⟨hg9.os.trans hb9.os, hg9.tape.trans hb9.tape, hg9.output.trans hb9.output, Nat.le_trans hb9.size hg9.size, fun q hq => (hg9.block q (by simp; omega) (fun e => by have := (HROW.out.2.1.lt q e.symm).1; omega)).trans (hb9.block q (by omega))⟩
            clear HROW HRW HO8 HB8 HG HBEL ho9 hg9 ha9 hl9
            go_wp2
            refine ⟨?_, by simp [intOf]; omega⟩
            first | exact HR.out | exact ⟨_, HR.out, rfl, rfl⟩ | exact ⟨_, _, HR.out, rfl, rfl⟩ | exact ⟨_, _, _, HR.out, rfl, rfl⟩ | exact ⟨_, _, _, _, HR.out, rfl, rfl⟩ | exact ⟨_, _, _, _, _, HR.out, rfl, rfl⟩ | exact ⟨_, _, _, _, _, _, HR.out, rfl, rfl⟩ | exact ⟨_, _, _, _, _, _, _, HR.out, rfl, rfl⟩ | exact ⟨_, _, _, _, _, _, _, _, HR.out, rfl, rfl⟩ | exact ⟨_, _, _, _, _, _, _, _, _, HR.out, rfl, rfl⟩ | exact ⟨_, _, _, _, _, _, _, _, _, _, HR.out, rfl, rfl⟩ | exact ⟨_, _, _, _, _, _, _, _, _, _, _, HR.out, rfl, rfl⟩ | exact ⟨_, _, _, _, _, _, _, _, _, _, _, _, HR.out, rfl, rfl⟩ | exact ⟨_, _, _, _, _, _, _, _, _, _, _, _, _, HR.out, rfl, rfl⟩ | exact ⟨_, _, _, _, _, _, _, _, _, _, _, _, _, _, HR.out, rfl, rfl⟩ | exact ⟨_, _, _, _, _, _, _, _, _, _, _, _, _, _, _, HR.out, rfl, rfl⟩ | exact ⟨_, _, _, _, _, _, _, _, _, _, _, _, _, _, _, _, HR.out, rfl, rfl⟩ | exact ⟨_, _, _, _, _, _, _, _, _, _, _, _, _, _, _, _, _, HR.out, rfl, rfl⟩ | exact ⟨_, _, _, _, _, _, _, _, _, _, _, _, _, _, _, _, _, _, HR.out, rfl, rfl⟩ | exact ⟨_, _, _, _, _, _, _, _, _, _, _, _, _, _, _, _, _, _, _, HR.out, rfl, rfl⟩ | exact ⟨_, _, _, _, _, _, _, _, _, _, _, _, _, _, _, _, _, _, _, _, HR.out, rfl, rfl⟩ | exact ⟨_, _, _, _, _, _, _, _, _, _, _, _, _, _, _, _, _, _, _, _, _, HR.out, rfl, rfl⟩ | exact ⟨_, _, _, _, _, _, _, _, _, _, _, _, _, _, _, _, _, _, _, _, _, _, HR.out, rfl, rfl⟩ | exact ⟨_, _, _, _, _, _, _, _, _, _, _, _, _, _, _, _, _, _, _, _, _, _, _, HR.out, rfl, rfl⟩ | exact ⟨_, _, _, _, _, _, _, _, _, _, _, _, _, _, _, _, _, _, _, _, _, _, _, _, HR.out, rfl, rfl⟩ | exact ⟨_, _, _, _, _, _, _, _, _, _, _, _, _, _, _, _, _, _, _, _, _, _, _, _, _, HR.out, rfl, rfl⟩ | exact ⟨_, _, _, _, _, _, _, _, _, _, _, _, _, _, _, _, _, _, _, _, _, _, _, _, _, _, HR.out, rfl, rfl⟩ | exact ⟨_, _, _, _, _, _, _, _, _, _, _, _, _, _, _, _, _, _, _, _, _, _, _, _, _, _, _, HR.out, rfl, rfl⟩ | exact ⟨_, _, _, _, _, _, _, _, _, _, _, _, _, _, _, _, _, _, _, _, _, _, _, _, _, _, _, _, HR.out, rfl, rfl⟩ | exact ⟨_, _, _, _, _, _, _, _, _, _, _, _, _, _, _, _, _, _, _, _, _, _, _, _, _, _, _, _, _, HR.out, rfl, rfl⟩ | exact ⟨_, _, _, _, _, _, _, _, _, _, _, _, _, _, _, _, _, _, _, _, _, _, _, _, _, _, _, _, _, _, HR.out, rfl, rfl⟩ | exact ⟨_, _, _, _, _, _, _, _, _, _, _, _, _, _, _, _, _, _, _, _, _, _, _, _, _, _, _, _, _, _, _, HR.out, rfl, rfl⟩ | exact ⟨_, _, _, _, _, _, _, _, _, _, _, _, _, _, _, _, _, _, _, _, _, _, _, _, _, _, _, _, _, _, _, _, HR.out, rfl, rfl⟩ | exact ⟨_, _, _, _, _, _, _, _, _, _, _, _, _, _, _, _, _, _, _, _, _, _, _, _, _, _, _, _, _, _, _, _, _, HR.out, rfl, rfl⟩ | exact ⟨_, _, _, _, _, _, _, _, _, _, _, _, _, _, _, _, _, _, _, _, _, _, _, _, _, _, _, _, _, _, _, _, _, _, HR.out, rfl, rfl⟩ | exact ⟨_, _, _, _, _, _, _, _, _, _, _, _, _, _, _, _, _, _, _, _, _, _, _, _, _, _, _, _, _, _, _, _, _, _, _, HR.out, rfl, rfl⟩ | exact ⟨_, _, _, _, _, _, _, _, _, _, _, _, _, _, _, _, _, _, _, _, _, _, _, _, _, _, _, _, _, _, _, _, _, _, _, _, HR.out, rfl, rfl⟩ | exact ⟨_, _, _, _, _, _, _, _, _, _, _, _, _, _, _, _, _, _, _, _, _, _, _, _, _, _, _, _, _, _, _, _, _, _, _, _, _, HR.out, rfl, rfl⟩ | exact ⟨_, _, _, _, _, _, _, _, _, _, _, _, _, _, _, _, _, _, _, _, _, _, _, _, _, _, _, _, _, _, _, _, _, _, _, _, _, _, HR.out, rfl, rfl⟩ | exact ⟨_, _, _, _, _, _, _, _, _, _, _, _, _, _, _, _, _, _, _, _, _, _, _, _, _, _, _, _, _, _, _, _, _, _, _, _, _, _, _, HR.out, rfl, rfl⟩ | exact ⟨_, _, _, _, _, _, _, _, _, _, _, _, _, _, _, _, _, _, _, _, _, _, _, _, _, _, _, _, _, _, _, _, _, _, _, _, _, _, _, _, HR.out, rfl, rfl⟩ | exact ⟨_, _, _, _, _, _, _, _, _, _, _, _, _, _, _, _, _, _, _, _, _, _, _, _, _, _, _, _, _, _, _, _, _, _, _, _, _, _, _, _, _, HR.out, rfl, rfl⟩ | exact ⟨_, _, _, _, _, _, _, _, _, _, _, _, _, _, _, _, _, _, _, _, _, _, _, _, _, _, _, _, _, _, _, _, _, _, _, _, _, _, _, _, _, _, HR.out, rfl, rfl⟩ | exact ⟨_, _, _, _, _, _, _, _, _, _, _, _, _, _, _, _, _, _, _, _, _, _, _, _, _, _, _, _, _, _, _, _, _, _, _, _, _, _, _, _, _, _, _, HR.out, rfl, rfl⟩ | exact ⟨_, _, _, _, _, _, _, _, _, _, _, _, _, _, _, _, _, _, _, _, _, _, _, _, _, _, _, _, _, _, _, _, _, _, _, _, _, _, _, _, _, _, _, _, HR.out, rfl, rfl⟩ | exact ⟨_, _, _, _, _, _, _, _, _, _, _, _, _, _, _, _, _, _, _, _, _, _, _, _, _, _, _, _, _, _, _, _, _, _, _, _, _, _, _, _, _, _, _, _, _, HR.out, rfl, rfl⟩ | exact ⟨_, _, _, _, _, _, _, _, _, _, _, _, _, _, _, _, _, _, _, _, _, _, _, _, _, _, _, _, _, _, _, _, _, _, _, _, _, _, _, _, _, _, _, _, _, _, HR.out, rfl, rfl⟩ | exact ⟨_, _, _, _, _, _, _, _, _, _, _, _, _, _, _, _, _, _, _, _, _, _, _, _, _, _, _, _, _, _, _, _, _, _, _, _, _, _, _, _, _, _, _, _, _, _, _, HR.out, rfl, rfl⟩ | exact ⟨_, _, _, _, _, _, _, _, _, _, _, _, _, _, _, _, _, _, _, _, _, _, _, _, _, _, _, _, _, _, _, _, _, _, _, _, _, _, _, _, _, _, _, _, _, _, _, _, HR.out, rfl, rfl⟩ | exact ⟨_, _, _, _, _, _, _, _, _, _, _, _, _, _, _, _, _, _, _, _, _, _, _, _, _, _, _, _, _, _, _, _, _, _, _, _, _, _, _, _, _, _, _, _, _, _, _, _, _, HR.out, rfl, rfl⟩ | exact ⟨_, _, _, _, _, _, _, _, _, _, _, _, _, _, _, _, _, _, _, _, _, _, _, _, _, _, _, _, _, _, _, _, _, _, _, _, _, _, _, _, _, _, _, _, _, _, _, _, _, _, HR.out, rfl, rfl⟩ | exact ⟨_, _, _, _, _, _, _, _, _, _, _, _, _, _, _, _, _, _, _, _, _, _, _, _, _, _, _, _, _, _, _, _, _, _, _, _, _, _, _, _, _, _, _, _, _, _, _, _, _, _, _, HR.out, rfl, rfl⟩ | exact ⟨_, _, _, _, _, _, _, _, _, _, _, _, _, _, _, _, _, _, _, _, _, _, _, _, _, _, _, _, _, _, _, _, _, _, _, _, _, _, _, _, _, _, _, _, _, _, _, _, _, _, _, _, HR.out, rfl, rfl⟩ | exact ⟨_, _, _, _, _, _, _, _, _, _, _, _, _, _, _, _, _, _, _, _, _, _, _, _, _, _, _, _, _, _, _, _, _, _, _, _, _, _, _, _, _, _, _, _, _, _, _, _, _, _, _, _, _, HR.out, rfl, rfl⟩ | exact ⟨_, _, _, _, _, _, _, _, _, _, _, _, _, _, _, _, _, _, _, _, _, _, _, _, _, _, _, _, _, _, _, _, _, _, _, _, _, _, _, _, _, _, _, _, _, _, _, _, _, _, _, _, _, _, HR.out, rfl, rfl⟩ | exact ⟨_, _, _, _, _, _, _, _, _, _, _, _, _, _, _, _, _, _, _, _, _, _, _, _, _, _, _, _, _, _, _, _, _, _, _, _, _, _, _, _, _, _, _, _, _, _, _, _, _, _, _, _, _, _, _, HR.out, rfl, rfl⟩ | exact ⟨_, _, _, _, _, _, _, _, _, _, _, _, _, _, _, _, _, _, _, _, _, _, _, _, _, _, _, _, _, _, _, _, _, _, _, _, _, _, _, _, _, _, _, _, _, _, _, _, _, _, _, _, _, _, _, _, HR.out, rfl, rfl⟩ | exact ⟨_, _, _, _, _, _, _, _, _, _, _, _, _, _, _, _, _, _, _, _, _, _, _, _, _, _, _, _, _, _, _, _, _, _, _, _, _, _, _, _, _, _, _, _, _, _, _, _, _, _, _, _, _, _, _, _, _, HR.out, rfl, rfl⟩ | exact ⟨_, _, _, _, _, _, _, _, _, _, _, _, _, _, _, _, _, _, _, _, _, _, _, _, _, _, _, _, _, _, _, _, _, _, _, _, _, _, _, _, _, _, _, _, _, _, _, _, _, _, _, _, _, _, _, _, _, _, HR.out, rfl, rfl⟩ | exact ⟨_, _, _, _, _, _, _, _, _, _, _, _, _, _, _, _, _, _, _, _, _, _, _, _, _, _, _, _, _, _, _, _, _, _, _, _, _, _, _, _, _, _, _, _, _, _, _, _, _, _, _, _, _, _, _, _, _, _, _, HR.out, rfl, rfl⟩ | exact ⟨_, _, _, _, _, _, _, _, _, _, _, _, _, _, _, _, _, _, _, _, _, _, _, _, _, _, _, _, _, _, _, _, _, _, _, _, _, _, _, _, _, _, _, _, _, _, _, _, _, _, _, _, _, _, _, _, _, _, _, _, HR.out, rfl, rfl⟩ | exact ⟨_, _, _, _, _, _, _, _, _, _, _, _, _, _, _, _, _, _, _, _, _, _, _, _, _, _, _, _, _, _, _, _, _, _, _, _, _, _, _, _, _, _, _, _, _, _, _, _, _, _, _, _, _, _, _, _, _, _, _, _, _, HR.out, rfl, rfl⟩ | exact ⟨_, _, _, _, _, _, _, _, _, _, _, _, _, _, _, _, _, _, _, _, _, _, _, _, _, _, _, _, _, _, _, _, _, _, _, _, _, _, _, _, _, _, _, _, _, _, _, _, _, _, _, _, _, _, _, _, _, _, _, _, _, _, HR.out, rfl, rfl⟩ | exact ⟨_, _, _, _, _, _, _, _, _, _, _, _, _, _, _, _, _, _, _, _, _, _, _, _, _, _, _, _, _, _, _, _, _, _, _, _, _, _, _, _, _, _, _, _, _, _, _, _, _, _, _, _, _, _, _, _, _, _, _, _, _, _, _, HR.out, rfl, rfl⟩ | exact ⟨_, _, _, _, _, _, _, _, _, _, _, _, _, _, _, _, _, _, _, _, _, _, _, _, _, _, _, _, _, _, _, _, _, _, _, _, _, _, _, _, _, _, _, _, _, _, _, _, _, _, _, _, _, _, _, _, _, _, _, _, _, _, _, _, HR.out, rfl, rfl⟩ | exact ⟨_, _, _, _, _, _, _, _, _, _, _, _, _, _, _, _, _, _, _, _, _, _, _, _, _, _, _, _, _, _, _, _, _, _, _, _, _, _, _, _, _, _, _, _, _, _, _, _, _, _, _, _, _, _, _, _, _, _, _, _, _, _, _, _, _, HR.out, rfl, rfl⟩
          · skip
            refine wp_region_noPanic ?_
            refine wp_region_held_drew (S := fun _ => True) (by kernel_rfl) trivial (fun hHeld => ?_)
            clear hHeld
            refine wpAnyH_take (i := 0) (v := ?_) rfl (by kernel_rfl) (by kernel_rfl) (by kernel_rfl) (fun _ _ _ h => h) (Or.inl ⟨by rfl, ?_⟩) trivial ?_
            rotate_left
            · (intro w_ hSw_; (try dsimp only at hSw_); go_simp; try with_reducible rfl)
            try simp only [Act.put, List.setIfInBounds_toArray, List.set_cons_zero, List.set_cons_succ, List.getElem_toArray, List.getElem_cons_zero, List.getElem_cons_succ]
            refine wpAnyH_take (i := 1) (v := ?_) rfl (by kernel_rfl) (by kernel_rfl) (by kernel_rfl) (fun _ _ _ h => h) (Or.inl ⟨by rfl, ?_⟩) trivial ?_
            rotate_left
            · (intro w_ hSw_; (try dsimp only at hSw_); go_simp; try with_reducible rfl)
            try simp only [Act.put, List.setIfInBounds_toArray, List.set_cons_zero, List.set_cons_succ, List.getElem_toArray, List.getElem_cons_zero, List.getElem_cons_succ]
            refine wpAnyH_take (i := 2) (v := ?_) rfl (by kernel_rfl) (by kernel_rfl) (by kernel_rfl) (fun _ _ _ h => h) (Or.inl ⟨by rfl, ?_⟩) trivial ?_
            rotate_left
            · (intro w_ hSw_; (try dsimp only at hSw_); go_simp; try with_reducible rfl)
            try simp only [Act.put, List.setIfInBounds_toArray, List.set_cons_zero, List.set_cons_succ, List.getElem_toArray, List.getElem_cons_zero, List.getElem_cons_succ]
            refine wpAnyH_take (i := 3) (v := ?_) rfl (by kernel_rfl) (by kernel_rfl) (by kernel_rfl) (fun _ _ _ h => h) (Or.inl ⟨by rfl, ?_⟩) trivial ?_
            rotate_left
            · (intro w_ hSw_; (try dsimp only at hSw_); go_simp; try with_reducible rfl)
            try simp only [Act.put, List.setIfInBounds_toArray, List.set_cons_zero, List.set_cons_succ, List.getElem_toArray, List.getElem_cons_zero, List.getElem_cons_succ]
            refine wpAnyH_take (i := 4) (v := ?_) rfl (by kernel_rfl) (by kernel_rfl) (by kernel_rfl) (fun _ _ _ h => h) (Or.inl ⟨by rfl, ?_⟩) trivial ?_
            rotate_left
            · (intro w_ hSw_; (try dsimp only at hSw_); go_simp; try with_reducible rfl)
            try simp only [Act.put, List.setIfInBounds_toArray, List.set_cons_zero, List.set_cons_succ, List.getElem_toArray, List.getElem_cons_zero, List.getElem_cons_succ]
            refine wpAnyH_take (i := 5) (v := ?_) rfl (by kernel_rfl) (by kernel_rfl) (by kernel_rfl) (fun _ _ _ h => h) (Or.inl ⟨by rfl, ?_⟩) trivial ?_
            rotate_left
            · (intro w_ hSw_; (try dsimp only at hSw_); go_simp; try with_reducible rfl)
            try simp only [Act.put, List.setIfInBounds_toArray, List.set_cons_zero, List.set_cons_succ, List.getElem_toArray, List.getElem_cons_zero, List.getElem_cons_succ]
            refine wpAnyH_ready (rs := [6]) (by kernel_rfl) (by simp) ?_
            refine AllReadyH.cons rfl (fun K hK => ?_) AllReadyH.nil
            refine step_copy_splice rfl (.tmp 41) (.tmp 45) 22 22 rfl 5 Tryd.underlying22 Tryd.sizeB _ _ _ _ _ _ (by rfl) (by rfl) wr.heap.size 6 C5 5 HG5.out X HX0.out (fun h0 => absurd h0 (by rw [HX00.out]; exact Nat.lt_irrefl _)) (by rw [HC5.out]; omega) HX1.out wr.heap.size wr (Below.drew hb5) (Nat.le_refl _) ?_
            intro w6 HG6 hb6
            refine hK.out _ _ trivial (fun hHeld => ?_)
            clear hK K hHeld
            try simp only [Act.put, List.setIfInBounds_toArray, List.set_cons_zero, List.set_cons_succ, List.getElem_toArray, List.getElem_cons_zero, List.getElem_cons_succ]
            refine wpAnyH_done (by kernel_rfl) (NoPanic.normal ?_) _
            have hl6 : (splice C5 6 X).length = 32 := by rw [length_splice _ _ _ (by rw [HC5.out]; omega)]; exact HC5.out
            have z30 := row_cell (j := 30) HG6.out (by rw [hl6]; omega)
            have z31 := row_cell (j := 31) HG6.out (by rw [hl6]; omega)
            have q30 : w6.frozen? ⟨wr.heap.size, 30, none⟩ = false := frozen_of_row _ _ _ _ _ HG6.out
            have q31 : w6.frozen? ⟨wr.heap.size, 31, none⟩ = false := frozen_of_row _ _ _ _ _ HG6.out
            have HG8 : Hid _ := row_set (j := 31) (v := .int .u8 (((p : Int) + 1) / 256)) (row_set (j := 30) (v := .int .u8 (((p : Int) + 1) % 256)) HG6.out)
            rw [HSL.out] at HG8
            generalize (splice C5 6 X)[30]'(by rw [hl6]; omega) = y30 at z30
            generalize (splice C5 6 X)[31]'(by rw [hl6]; omega) = y31 at z31
            have hb8 : Below wr.heap.size wr ((w6.setCell ⟨wr.heap.size, 30, none⟩ (.int .u8 (((p : Int) + 1) % 256))).setCell ⟨wr.heap.size, 31, none⟩ (.int .u8 (((p : Int) + 1) / 256))) := (hb6.setCell (Nat.le_refl _) _).setCell (Nat.le_refl _) _
            have ho8 := full_owns (base := wr.heap.size) (n := 32) (secN_length p zs 0).symm (Nat.le_refl _) (by rw [secN_length]; omega) HG8.out
            generalize hw8 : (w6.setCell ⟨wr.heap.size, 30, none⟩ (.int .u8 (((p : Int) + 1) % 256))).setCell ⟨wr.heap.size, 31, none⟩ (.int .u8 (((p : Int) + 1) / 256)) = w8 at hb8 ho8
            have HW8 : Hid _ := hw8
            have HO8 : Hid _ := ho8
            have HB8 : Hid _ := hb8
            have s8 := hb8.size
            have hs8 : wr.heap.size < w8.heap.size := (ho8.lt _ rfl).2
            obtain ⟨vs, hvl, hrow, hee⟩ := HG.out
            have hrl : ((List.range 0).map (secN p zs)).length = 0 := by simp
            have hrow' : wr.ownsRow w1.heap.size 22 1 (.slice xa 0 xc) 0 vs := by rw [hrl] at hrow; exact hrow
            have HRW : Hid (w8.ownsRow w1.heap.size 22 1 (.slice xa 0 xc) 0 vs) := ownsRow_same hrow' (fun q hq => (hrow'.lt q hq).2) (SameIn.ofBelow hb8 (Nat.le_refl _))
            have HROW : Hid _ := And.intro hvl (And.intro hrow hee)
            clear hl6 hw8 hb8 ho8 hvl hrow hrow' hee hrl HG6 HG5 HG1 HG8 hb6 hb5 HC5 HSL
            go_wp2_with (first | (rw [HW8.out]) | (at_builtin; go_must (refine wpList_append_lies _ rfl (.tmp 58) (.tmp 60) 23 rfl w1.heap.size 22 j0 (.slice none 0 0) 1 24 Tryd.underlying23 hj hy0 hy1 hy2 rfl (by decide) _ 0 vs rfl (World.ownsRow.alloc HRW.out _) ⟨w8.heap.size, 0, none⟩ 1 1 [.slice (some ⟨wr.heap.size, 0, none⟩) 32 32] rfl rfl (one_slice w8 _) (one_slice1 _) (by decide) (by unfold maxLen; omega) (by omega) (by simp; omega) _ rfl ?_; intro g9 c9 w9 ho9 hg9 ha9 hl9)))
            have HR : Hid (FrRel w1 p zs m (.slice (some ⟨g9, 0, none⟩) (0 + 1) c9) (.int .i64 (((0 : Nat) : Int) + 1)) w9) := by
              have hbn := Below.new (w := w8) (.cells #[.slice (some ⟨wr.heap.size, 0, none⟩) 32 32] 22)
              have hb9 : Below wr.heap.size wr (w8.alloc (.cells #[.slice (some ⟨wr.heap.size, 0, none⟩) 32 32] 22)) := HB8.out.trans (hbn.mono s8)
              have hk9 := HMZ.out
              have hu : OwB w8 wr.heap.size w8.heap.size (.slice (some ⟨wr.heap.size, 0, none⟩) 32 32) (secN p zs 0) := OwB.of (secN_bytes p hp zs HZB.out (by rw [← HN.out]; exact hn9) 0 (by omega)) HO8.out
              have hG := GrBB.next (zss := (List.range 0).map (secN p zs)) HROW.out.1 HROW.out.2.1 HROW.out.2.2 hb9 (by rw [show ((List.range 0).map (secN p zs)).length = 0 by simp]; exact ho9) hg9 ha9 ((hu.rd.same (SameIn.ofBelow hbn (Nat.le_refl _))).wide (by omega) (by simp)) (fun q hq => by have := slice_block hq; simp at this; simp; omega)
              rw [show ((List.range 0).map (secN p zs)).length = 0 by simp] at hG
              refine ⟨0 + 1, by omega, by go_num, ?_, ?_⟩
              · rw [List.range_succ, List.map_append]; exact hG
              · exact HBEL.out.trans ⟨hg9.os.trans hb9.os, hg9.tape.trans hb9.tape, hg9.output.trans hb9.output, Nat.le_trans hb9.size hg9.size, fun q hq => (hg9.block q (by simp; omega) (fun e => by have := (HROW.out.2.1.lt q e.symm).1; omega)).trans (hb9.block q (by omega))⟩
            clear HROW HRW HO8 HB8 HG HBEL ho9 hg9 ha9 hl9
            go_wp2
            refine ⟨?_, by simp [intOf]; omega⟩
            first | exact HR.out | exact ⟨_, HR.out, rfl, rfl⟩ | exact ⟨_, _, HR.out, rfl, rfl⟩ | exact ⟨_, _, _, HR.out, rfl, rfl⟩ | exact ⟨_, _, _, _, HR.out, rfl, rfl⟩ | exact ⟨_, _, _, _, _, HR.out, rfl, rfl⟩ | exact ⟨_, _, _, _, _, _, HR.out, rfl, rfl⟩ | exact ⟨_, _, _, _, _, _, _, HR.out, rfl, rfl⟩ | exact ⟨_, _, _, _, _, _, _, _, HR.out, rfl, rfl⟩ | exact ⟨_, _, _, _, _, _, _, _, _, HR.out, rfl, rfl⟩ | exact ⟨_, _, _, _, _, _, _, _, _, _, HR.out, rfl, rfl⟩ | exact ⟨_, _, _, _, _, _, _, _, _, _, _, HR.out, rfl, rfl⟩ | exact ⟨_, _, _, _, _, _, _, _, _, _, _, _, HR.out, rfl, rfl⟩ | exact ⟨_, _, _, _, _, _, _, _, _, _, _, _, _, HR.out, rfl, rfl⟩ | exact ⟨_, _, _, _, _, _, _, _, _, _, _, _, _, _, HR.out, rfl, rfl⟩ | exact ⟨_, _, _, _, _, _, _, _, _, _, _, _, _, _, _, HR.out, rfl, rfl⟩ | exact ⟨_, _, _, _, _, _, _, _, _, _, _, _, _, _, _, _, HR.out, rfl, rfl⟩ | exact ⟨_, _, _, _, _, _, _, _, _, _, _, _, _, _, _, _, _, HR.out, rfl, rfl⟩ | exact ⟨_, _, _, _, _, _, _, _, _, _, _, _, _, _, _, _, _, _, HR.out, rfl, rfl⟩ | exact ⟨_, _, _, _, _, _, _, _, _, _, _, _, _, _, _, _, _, _, _, HR.out, rfl, rfl⟩ | exact ⟨_, _, _, _, _, _, _, _, _, _, _, _, _, _, _, _, _, _, _, _, HR.out, rfl, rfl⟩ | exact ⟨_, _, _, _, _, _, _, _, _, _, _, _, _, _, _, _, _, _, _, _, _, HR.out, rfl, rfl⟩ | exact ⟨_, _, _, _, _, _, _, _, _, _, _, _, _, _, _, _, _, _, _, _, _, _, HR.out, rfl, rfl⟩ | exact ⟨_, _, _, _, _, _, _, _, _, _, _, _, _, _, _, _, _, _, _, _, _, _, _, HR.out, rfl, rfl⟩ | exact ⟨_, _, _, _, _, _, _, _, _, _, _, _, _, _, _, _, _, _, _, _, _, _, _, _, HR.out, rfl, rfl⟩ | exact ⟨_, _, _, _, _, _, _, _, _, _, _, _, _, _, _, _, _, _, _, _, _, _, _, _, _, HR.out, rfl, rfl⟩ | exact ⟨_, _, _, _, _, _, _, _, _, _, _, _, _, _, _, _, _, _, _, _, _, _, _, _, _, _, HR.out, rfl, rfl⟩ | exact ⟨_, _, _, _, _, _, _, _, _, _, _, _, _, _, _, _, _, _, _, _, _, _, _, _, _, _, _, HR.out, rfl, rfl⟩ | exact ⟨_, _, _, _, _, _, _, _, _, _, _, _, _, _, _, _, _, _, _, _, _, _, _, _, _, _, _, _, HR.out, rfl, rfl⟩ | exact ⟨_, _, _, _, _, _, _, _, _, _, _, _, _, _, _, _, _, _, _, _, _, _, _, _, _, _, _, _, _, HR.out, rfl, rfl⟩ | exact ⟨_, _, _, _, _, _, _, _, _, _, _, _, _, _, _, _, _, _, _, _, _, _, _, _, _, _, _, _, _, _, HR.out, rfl, rfl⟩ | exact ⟨_, _, _, _, _, _, _, _, _, _, _, _, _, _, _, _, _, _, _, _, _, _, _, _, _, _, _, _, _, _, _, HR.out, rfl, rfl⟩ | exact ⟨_, _, _, _, _, _, _, _, _, _, _, _, _, _, _, _, _, _, _, _, _, _, _, _, _, _, _, _, _, _, _, _, HR.out, rfl, rfl⟩ | exact ⟨_, _, _, _, _, _, _, _, _, _, _, _, _, _, _, _, _, _, _, _, _, _, _, _, _, _, _, _, _, _, _, _, _, HR.out, rfl, rfl⟩ | exact ⟨_, _, _, _, _, _, _, _, _, _, _, _, _, _, _, _, _, _, _, _, _, _, _, _, _, _, _, _, _, _, _, _, _, _, HR.out, rfl, rfl⟩ | exact ⟨_, _, _, _, _, _, _, _, _, _, _, _, _, _, _, _, _, _, _, _, _, _, _, _, _, _, _, _, _, _, _, _, _, _, _, HR.out, rfl, rfl⟩ | exact ⟨_, _, _, _, _, _, _, _, _, _, _, _, _, _, _, _, _, _, _, _, _, _, _, _, _, _, _, _, _, _, _, _, _, _, _, _, HR.out, rfl, rfl⟩ | exact ⟨_, _, _, _, _, _, _, _, _, _, _, _, _, _, _, _, _, _, _, _, _, _, _, _, _, _, _, _, _, _, _, _, _, _, _, _, _, HR.out, rfl, rfl⟩ | exact ⟨_, _, _, _, _, _, _, _, _, _, _, _, _, _, _, _, _, _, _, _, _, _, _, _, _, _, _, _, _, _, _, _, _, _, _, _, _, _, HR.out, rfl, rfl⟩ | exact ⟨_, _, _, _, _, _, _, _, _, _, _, _, _, _, _, _, _, _, _, _, _, _, _, _, _, _, _, _, _, _, _, _, _, _, _, _, _, _, _, HR.out, rfl, rfl⟩ | exact ⟨_, _, _, _, _, _, _, _, _, _, _, _, _, _, _, _, _, _, _, _, _, _, _, _, _, _, _, _, _, _, _, _, _, _, _, _, _, _, _, _, HR.out, rfl, rfl⟩ | exact ⟨_, _, _, _, _, _, _, _, _, _, _, _, _, _, _, _, _, _, _, _, _, _, _, _, _, _, _, _, _, _, _, _, _, _, _, _, _, _, _, _, _, HR.out, rfl, rfl⟩ | exact ⟨_, _, _, _, _, _, _, _, _, _, _, _, _, _, _, _, _, _, _, _, _, _, _, _, _, _, _, _, _, _, _, _, _, _, _, _, _, _, _, _, _, _, HR.out, rfl, rfl⟩ | exact ⟨_, _, _, _, _, _, _, _, _, _, _, _, _, _, _, _, _, _, _, _, _, _, _, _, _, _, _, _, _, _, _, _, _, _, _, _, _, _, _, _, _, _, _, HR.out, rfl, rfl⟩ | exact ⟨_, _, _, _, _, _, _, _, _, _, _, _, _, _, _, _, _, _, _, _, _, _, _, _, _, _, _, _, _, _, _, _, _, _, _, _, _, _, _, _, _, _, _, _, HR.out, rfl, rfl⟩ | exact ⟨_, _, _, _, _, _, _, _, _, _, _, _, _, _, _, _, _, _, _, _, _, _, _, _, _, _, _, _, _, _, _, _, _, _, _, _, _, _, _, _, _, _, _, _, _, HR.out, rfl, rfl⟩ | exact ⟨_, _, _, _, _, _, _, _, _, _, _, _, _, _, _, _, _, _, _, _, _, _, _, _, _, _, _, _, _, _, _, _, _, _, _, _, _, _, _, _, _, _, _, _, _, _, HR.out, rfl, rfl⟩ | exact ⟨_, _, _, _, _, _, _, _, _, _, _, _, _, _, _, _, _, _, _, _, _, _, _, _, _, _, _, _, _, _, _, _, _, _, _, _, _, _, _, _, _, _, _, _, _, _, _, HR.out, rfl, rfl⟩ | exact ⟨_, _, _, _, _, _, _, _, _, _, _, _, _, _, _, _, _, _, _, _, _, _, _, _, _, _, _, _, _, _, _, _, _, _, _, _, _, _, _, _, _, _, _, _, _, _, _, _, HR.out, rfl, rfl⟩ | exact ⟨_, _, _, _, _, _, _, _, _, _, _, _, _, _, _, _, _, _, _, _, _, _, _, _, _, _, _, _, _, _, _, _, _, _, _, _, _, _, _, _, _, _, _, _, _, _, _, _, _, HR.out, rfl, rfl⟩ | exact ⟨_, _, _, _, _, _, _, _, _, _, _, _, _, _, _, _, _, _, _, _, _, _, _, _, _, _, _, _, _, _, _, _, _, _, _, _, _, _, _, _, _, _, _, _, _, _, _, _, _, _, HR.out, rfl, rfl⟩ | exact ⟨_, _, _, _, _, _, _, _, _, _, _, _, _, _, _, _, _, _, _, _, _, _, _, _, _, _, _, _, _, _, _, _, _, _, _, _, _, _, _, _, _, _, _, _, _, _, _, _, _, _, _, HR.out, rfl, rfl⟩ | exact ⟨_, _, _, _, _, _, _, _, _, _, _, _, _, _, _, _, _, _, _, _, _, _, _, _, _, _, _, _, _, _, _, _, _, _, _, _, _, _, _, _, _, _, _, _, _, _, _, _, _, _, _, _, HR.out, rfl, rfl⟩ | exact ⟨_, _, _, _, _, _, _, _, _, _, _, _, _, _, _, _, _, _, _, _, _, _, _, _, _, _, _, _, _, _, _, _, _, _, _, _, _, _, _, _, _, _, _, _, _, _, _, _, _, _, _, _, _, HR.out, rfl, rfl⟩ | exact ⟨_, _, _, _, _, _, _, _, _, _, _, _, _, _, _, _, _, _, _, _, _, _, _, _, _, _, _, _, _, _, _, _, _, _, _, _, _, _, _, _, _, _, _, _, _, _, _, _, _, _, _, _, _, _, HR.out, rfl, rfl⟩ | exact ⟨_, _, _, _, _, _, _, _, _, _, _, _, _, _, _, _, _, _, _, _, _, _, _, _, _, _, _, _, _, _, _, _, _, _, _, _, _, _, _, _, _, _, _, _, _, _, _, _, _, _, _, _, _, _, _, HR.out, rfl, rfl⟩ | exact ⟨_, _, _, _, _, _, _, _, _, _, _, _, _, _, _, _, _, _, _, _, _, _, _, _, _, _, _, _, _, _, _, _, _, _, _, _, _, _, _, _, _, _, _, _, _, _, _, _, _, _, _, _, _, _, _, _, HR.out, rfl, rfl⟩ | exact ⟨_, _, _, _, _, _, _, _, _, _, _, _, _, _, _, _, _, _, _, _, _, _, _, _, _, _, _, _, _, _, _, _, _, _, _, _, _, _, _, _, _, _, _, _, _, _, _, _, _, _, _, _, _, _, _, _, _, HR.out, rfl, rfl⟩ | exact ⟨_, _, _, _, _, _, _, _, _, _, _, _, _, _, _, _, _, _, _, _, _, _, _, _, _, _, _, _, _, _, _, _, _, _, _, _, _, _, _, _, _, _, _, _, _, _, _, _, _, _, _, _, _, _, _, _, _, _, HR.out, rfl, rfl⟩ | exact ⟨_, _, _, _, _, _, _, _, _, _, _, _, _, _, _, _, _, _, _, _, _, _, _, _, _, _, _, _, _, _, _, _, _, _, _, _, _, _, _, _, _, _, _, _, _, _, _, _, _, _, _, _, _, _, _, _, _, _, _, HR.out, rfl, rfl⟩ | exact ⟨_, _, _, _, _, _, _, _, _, _, _, _, _, _, _, _, _, _, _, _, _, _, _, _, _, _, _, _, _, _, _, _, _, _, _, _, _, _, _, _, _, _, _, _, _, _, _, _, _, _, _, _, _, _, _, _, _, _, _, _, HR.out, rfl, rfl⟩ | exact ⟨_, _, _, _, _, _, _, _, _, _, _, _, _, _, _, _, _, _, _, _, _, _, _, _, _, _, _, _, _, _, _, _, _, _, _, _, _, _, _, _, _, _, _, _, _, _, _, _, _, _, _, _, _, _, _, _, _, _, _, _, _, HR.out, rfl, rfl⟩ | exact ⟨_, _, _, _, _, _, _, _, _, _, _, _, _, _, _, _, _, _, _, _, _, _, _, _, _, _, _, _, _, _, _, _, _, _, _, _, _, _, _, _, _, _, _, _, _, _, _, _, _, _, _, _, _, _, _, _, _, _, _, _, _, _, HR.out, rfl, rfl⟩ | exact ⟨_, _, _, _, _, _, _, _, _, _, _, _, _, _, _, _, _, _, _, _, _, _, _, _, _, _, _, _, _, _, _, _, _, _, _, _, _, _, _, _, _, _, _, _, _, _, _, _, _, _, _, _, _, _, _, _, _, _, _, _, _, _, _, HR.out, rfl, rfl⟩ | exact ⟨_, _, _, _, _, _, _, _, _, _, _, _, _, _, _, _, _, _, _, _, _, _, _, _, _, _, _, _, _, _, _, _, _, _, _, _, _, _, _, _, _, _, _, _, _, _, _, _, _, _, _, _, _, _, _, _, _, _, _, _, _, _, _, _, HR.out, rfl, rfl⟩ | exact ⟨_, _, _, _, _, _, _, _, _, _, _, _, _, _, _, _, _, _, _, _, _, _, _, _, _, _, _, _, _, _, _, _, _, _, _, _, _, _, _, _, _, _, _, _, _, _, _, _, _, _, _, _, _, _, _, _, _, _, _, _, _, _, _, _, _, HR.out, rfl, rfl⟩
      · obtain ⟨rb, ro, rfl⟩ : ∃ rb ro, a = some ⟨rb, ro, none⟩ := by
          rcases HRR.out.2 with e | ⟨rb, ro, ha, _⟩
          · have := HN.out; rw [e] at this; simp at this; omega
          · exact ⟨rb, ro, ha⟩
        obtain ⟨Q, hQ⟩ : ∃ Q, Q = 24 * k := ⟨_, rfl⟩
        have hwr : IntKind.i64.wrap (24 * (k : Int)) = (Q : Int) := by
          have hq : (Q : Int) = 24 * (k : Int) := by omega
          have hq9 : (Q : Int) ≤ 216 := by omega
          rw [← hq]
          simp only [IntKind.wrap, IntKind.bits, IntKind.signed]
          simp
          omega
        have hc1 : ¬ c = Q := by have := hk2 (by omega); omega
        have hs1 : (Q : Int) ≤ (n : Int) := by omega
        rw [← hQ] at HXS HXM
        clear hQ hk1 hk2
        refine wp_region_noPanic ?_
        refine wp_region_held_drew (S := fun _ => True) (by kernel_rfl) trivial (fun hHeld => ?_)
        clear hHeld
        refine wpAnyH_take (i := 0) (v := ?_) rfl (by kernel_rfl) (by kernel_rfl) (by kernel_rfl) (fun _ _ _ h => h) (Or.inl ⟨by rfl, ?_⟩) trivial ?_
        rotate_left
        · (intro w_ hSw_; (try dsimp only at hSw_); go_simp; try with_reducible rfl)
        try simp only [Act.put, List.setIfInBounds_toArray, List.set_cons_zero, List.set_cons_succ, List.getElem_toArray, List.getElem_cons_zero, List.getElem_cons_succ]
        refine wpAnyH_take (i := 1) (v := ?_) rfl (by kernel_rfl) (by kernel_rfl) (by kernel_rfl) (fun _ _ _ h => h) (Or.inl ⟨by rfl, ?_⟩) trivial ?_
        rotate_left
        · (intro w_ hSw_; (try dsimp only at hSw_); go_simp; try with_reducible rfl)
        try simp only [Act.put, List.setIfInBounds_toArray, List.set_cons_zero, List.set_cons_succ, List.getElem_toArray, List.getElem_cons_zero, List.getElem_cons_succ]
        refine wpAnyH_take (i := 2) (v := ?_) rfl (by kernel_rfl) (by kernel_rfl) (by kernel_rfl) (fun _ _ _ h => h) (Or.inl ⟨by rfl, ?_⟩) trivial ?_
        rotate_left
        · (intro w_ hSw_; (try dsimp only at hSw_); go_simp; try with_reducible rfl)
        try simp only [Act.put, List.setIfInBounds_toArray, List.set_cons_zero, List.set_cons_succ, List.getElem_toArray, List.getElem_cons_zero, List.getElem_cons_succ]
        refine wpAnyH_take (i := 3) (v := ?_) rfl (by kernel_rfl) (by kernel_rfl) (by kernel_rfl) (fun _ _ _ h => h) (Or.inl ⟨by rfl, ?_⟩) trivial ?_
        rotate_left
        · (intro w_ hSw_; (try dsimp only at hSw_); go_simp; try with_reducible rfl)
        try simp only [Act.put, List.setIfInBounds_toArray, List.set_cons_zero, List.set_cons_succ, List.getElem_toArray, List.getElem_cons_zero, List.getElem_cons_succ]
        refine wpAnyH_take (i := 4) (v := ?_) rfl (by kernel_rfl) (by kernel_rfl) (by kernel_rfl) (fun _ _ _ h => h) (Or.inl ⟨by rfl, ?_⟩) trivial ?_
        rotate_left
        · (intro w_ hSw_; (try dsimp only at hSw_); go_simp; try with_reducible rfl)
        try simp only [Act.put, List.setIfInBounds_toArray, List.set_cons_zero, List.set_cons_succ, List.getElem_toArray, List.getElem_cons_zero, List.getElem_cons_succ]
        refine wpAnyH_take (i := 5) (v := ?_) rfl (by kernel_rfl) (by kernel_rfl) (by kernel_rfl) (fun _ _ _ h => h) (Or.inl ⟨by rfl, ?_⟩) trivial ?_
        rotate_left
        · (intro w_ hSw_; (try dsimp only at hSw_); go_simp; try with_reducible rfl)
        try simp only [Act.put, List.setIfInBounds_toArray, List.set_cons_zero, List.set_cons_succ, List.getElem_toArray, List.getElem_cons_zero, List.getElem_cons_succ]
        refine wpAnyH_ready (rs := [6]) (by kernel_rfl) (by simp) ?_
        refine AllReadyH.cons rfl (fun K hK => ?_) AllReadyH.nil
        refine step_copy_splice rfl (.tmp 41) (.tmp 45) 22 22 rfl 5 Tryd.underlying22 Tryd.sizeB _ _ _ _ _ _ (by rfl) (by rfl) wr.heap.size 6 C5 5 HG5.out X HXM.out (fun h0 => ⟨rfl, by obtain ⟨rb, ro, h1, h2⟩ := HXS.out _ (Below.drew hb5) h0; simp only [Option.some.injEq, Addr.mk.injEq, and_true] at h1; obtain ⟨rfl, rfl⟩ := h1; exact ⟨_, rfl, fun j v hv => by rw [add_at]; exact h2 j v hv⟩⟩) (by rw [HC5.out]; omega) HX1.out wr.heap.size wr (Below.drew hb5) (Nat.le_refl _) ?_
        intro w6 HG6 hb6
        refine hK.out _ _ trivial (fun hHeld => ?_)
        clear hK K hHeld
        try simp only [Act.put, List.setIfInBounds_toArray, List.set_cons_zero, List.set_cons_succ, List.getElem_toArray, List.getElem_cons_zero, List.getElem_cons_succ]
        refine wpAnyH_done (by kernel_rfl) (NoPanic.normal ?_) _
        have hl6 : (splice C5 6 X).length = 32 := by rw [length_splice _ _ _ (by rw [HC5.out]; omega)]; exact HC5.out
        have z30 := row_cell (j := 30) HG6.out (by rw [hl6]; omega)
        have z31 := row_cell (j := 31) HG6.out (by rw [hl6]; omega)
        have q30 : w6.frozen? ⟨wr.heap.size, 30, none⟩ = false := frozen_of_row _ _ _ _ _ HG6.out
        have q31 : w6.frozen? ⟨wr.heap.size, 31, none⟩ = false := frozen_of_row _ _ _ _ _ HG6.out
        have HG8 : Hid _ := row_set (j := 31) (v := .int .u8 (((p : Int) + 1) / 256)) (row_set (j := 30) (v := .int .u8 (((p : Int) + 1) % 256)) HG6.out)
        rw [HSL.out] at HG8
        generalize (splice C5 6 X)[30]'(by rw [hl6]; omega) = y30 at z30
        generalize (splice C5 6 X)[31]'(by rw [hl6]; omega) = y31 at z31
        have hb8 : Below wr.heap.size wr ((w6.setCell ⟨wr.heap.size, 30, none⟩ (.int .u8 (((p : Int) + 1) % 256))).setCell ⟨wr.heap.size, 31, none⟩ (.int .u8 (((p : Int) + 1) / 256))) := (hb6.setCell (Nat.le_refl _) _).setCell (Nat.le_refl _) _
        have ho8 := full_owns (base := wr.heap.size) (n := 32) (secN_length p zs k).symm (Nat.le_refl _) (by rw [secN_length]; omega) HG8.out
        generalize hw8 : (w6.setCell ⟨wr.heap.size, 30, none⟩ (.int .u8 (((p : Int) + 1) % 256))).setCell ⟨wr.heap.size, 31, none⟩ (.int .u8 (((p : Int) + 1) / 256)) = w8 at hb8 ho8
        have HW8 : Hid _ := hw8
        have HO8 : Hid _ := ho8
        have HB8 : Hid _ := hb8
        have s8 := hb8.size
        have hs8 : wr.heap.size < w8.heap.size := (ho8.lt _ rfl).2
        obtain ⟨vs, hvl, hrow, hee⟩ := HG.out
        have hrl : ((List.range k).map (secN p zs)).length = k := by simp
        have hrow' : wr.ownsRow w1.heap.size 22 1 (.slice xa k xc) k vs := by rw [hrl] at hrow; exact hrow
        have HRW : Hid (w8.ownsRow w1.heap.size 22 1 (.slice xa k xc) k vs) := ownsRow_same hrow' (fun q hq => (hrow'.lt q hq).2) (SameIn.ofBelow hb8 (Nat.le_refl _))
        have HROW : Hid _ := And.intro hvl (And.intro hrow hee)
        clear hl6 hw8 hb8 ho8 hvl hrow hrow' hee hrl HG6 HG5 HG1 HG8 hb6 hb5 HC5 HSL
        go_wp2_with (first | (rw [HW8.out]) | (at_builtin; go_must (refine wpList_append_lies _ rfl (.tmp 58) (.tmp 60) 23 rfl w1.heap.size 22 j0 (.slice none 0 0) 1 24 Tryd.underlying23 hj hy0 hy1 hy2 rfl (by decide) _ k vs rfl (World.ownsRow.alloc HRW.out _) ⟨w8.heap.size, 0, none⟩ 1 1 [.slice (some ⟨wr.heap.size, 0, none⟩) 32 32] rfl rfl (one_slice w8 _) (one_slice1 _) (by decide) (by unfold maxLen; omega) (by omega) (by simp; omega) _ rfl ?_; intro g9 c9 w9 ho9 hg9 ha9 hl9)))
        have HR : Hid (FrRel w1 p zs m (.slice (some ⟨g9, 0, none⟩) (k + 1) c9) (.int .i64 ((k : Int) + 1)) w9) := by
          have hbn := Below.new (w := w8) (.cells #[.slice (some ⟨wr.heap.size, 0, none⟩) 32 32] 22)
          have hb9 : Below wr.heap.size wr (w8.alloc (.cells #[.slice (some ⟨wr.heap.size, 0, none⟩) 32 32] 22)) := HB8.out.trans (hbn.mono s8)
          have hk9 := HMZ.out
          have hu : OwB w8 wr.heap.size w8.heap.size (.slice (some ⟨wr.heap.size, 0, none⟩) 32 32) (secN p zs k) := OwB.of (secN_bytes p hp zs HZB.out (by rw [← HN.out]; exact hn9) k (by omega)) HO8.out
          have hG := GrBB.next (zss := (List.range k).map (secN p zs)) HROW.out.1 HROW.out.2.1 HROW.out.2.2 hb9 (by rw [show ((List.range k).map (secN p zs)).length = k by simp]; exact ho9) hg9 ha9 ((hu.rd.same (SameIn.ofBelow hbn (Nat.le_refl _))).wide (by omega) (by simp)) (fun q hq => by have := slice_block hq; simp at this; simp; omega)
          rw [show ((List.range k).map (secN p zs)).length = k by simp] at hG
          refine ⟨k + 1, by omega, by go_num, ?_, ?_⟩
          · rw [List.range_succ, List.map_append]; exact hG
          · exact HBEL.out.trans ⟨hg9.os.trans hb9.os, hg9.tape.trans hb9.tape, hg9.output.trans hb9.output, Nat.le_trans hb9.size hg9.size, fun q hq => (hg9.block q (by simp; omega) (fun e => by have := (HROW.out.2.1.lt q e.symm).1; omega)).trans (hb9.block q (by omega))⟩
        clear HROW HRW HO8 HB8 HG HBEL ho9 hg9 ha9 hl9
        go_wp2
        refine ⟨?_, by simp [intOf]; omega⟩
        first | exact HR.out | exact ⟨_, HR.out, rfl, rfl⟩ | exact ⟨_, _, HR.out, rfl, rfl⟩ | exact ⟨_, _, _, HR.out, rfl, rfl⟩ | exact ⟨_, _, _, _, HR.out, rfl, rfl⟩ | exact ⟨_, _, _, _, _, HR.out, rfl, rfl⟩ | exact ⟨_, _, _, _, _, _, HR.out, rfl, rfl⟩ | exact ⟨_, _, _, _, _, _, _, HR.out, rfl, rfl⟩ | exact ⟨_, _, _, _, _, _, _, _, HR.out, rfl, rfl⟩ | exact ⟨_, _, _, _, _, _, _, _, _, HR.out, rfl, rfl⟩ | exact ⟨_, _, _, _, _, _, _, _, _, _, HR.out, rfl, rfl⟩ | exact ⟨_, _, _, _, _, _, _, _, _, _, _, HR.out, rfl, rfl⟩ | exact ⟨_, _, _, _, _, _, _, _, _, _, _, _, HR.out, rfl, rfl⟩ | exact ⟨_, _, _, _, _, _, _, _, _, _, _, _, _, HR.out, rfl, rfl⟩ | exact ⟨_, _, _, _, _, _, _, _, _, _, _, _, _, _, HR.out, rfl, rfl⟩ | exact ⟨_, _, _, _, _, _, _, _, _, _, _, _, _, _, _, HR.out, rfl, rfl⟩ | exact ⟨_, _, _, _, _, _, _, _, _, _, _, _, _, _, _, _, HR.out, rfl, rfl⟩ | exact ⟨_, _, _, _, _, _, _, _, _, _, _, _, _, _, _, _, _, HR.out, rfl, rfl⟩ | exact ⟨_, _, _, _, _, _, _, _, _, _, _, _, _, _, _, _, _, _, HR.out, rfl, rfl⟩ | exact ⟨_, _, _, _, _, _, _, _, _, _, _, _, _, _, _, _, _, _, _, HR.out, rfl, rfl⟩ | exact ⟨_, _, _, _, _, _, _, _, _, _, _, _, _, _, _, _, _, _, _, _, HR.out, rfl, rfl⟩ | exact ⟨_, _, _, _, _, _, _, _, _, _, _, _, _, _, _, _, _, _, _, _, _, HR.out, rfl, rfl⟩ | exact ⟨_, _, _, _, _, _, _, _, _, _, _, _, _, _, _, _, _, _, _, _, _, _, HR.out, rfl, rfl⟩ | exact ⟨_, _, _, _, _, _, _, _, _, _, _, _, _, _, _, _, _, _, _, _, _, _, _, HR.out, rfl, rfl⟩ | exact ⟨_, _, _, _, _, _, _, _, _, _, _, _, _, _, _, _, _, _, _, _, _, _, _, _, HR.out, rfl, rfl⟩ | exact ⟨_, _, _, _, _, _, _, _, _, _, _, _, _, _, _, _, _, _, _, _, _, _, _, _, _, HR.out, rfl, rfl⟩ | exact ⟨_, _, _, _, _, _, _, _, _, _, _, _, _, _, _, _, _, _, _, _, _, _, _, _, _, _, HR.out, rfl, rfl⟩ | exact ⟨_, _, _, _, _, _, _, _, _, _, _, _, _, _, _, _, _, _, _, _, _, _, _, _, _, _, _, HR.out, rfl, rfl⟩ | exact ⟨_, _, _, _, _, _, _, _, _, _, _, _, _, _, _, _, _, _, _, _, _, _, _, _, _, _, _, _, HR.out, rfl, rfl⟩ | exact ⟨_, _, _, _, _, _, _, _, _, _, _, _, _, _, _, _, _, _, _, _, _, _, _, _, _, _, _, _, _, HR.out, rfl, rfl⟩ | exact ⟨_, _, _, _, _, _, _, _, _, _, _, _, _, _, _, _, _, _, _, _, _, _, _, _, _, _, _, _, _, _, HR.out, rfl, rfl⟩ | exact ⟨_, _, _, _, _, _, _, _, _, _, _, _, _, _, _, _, _, _, _, _, _, _, _, _, _, _, _, _, _, _, _, HR.out, rfl, rfl⟩ | exact ⟨_, _, _, _, _, _, _, _, _, _, _, _, _, _, _, _, _, _, _, _, _, _, _, _, _, _, _, _, _, _, _, _, HR.out, rfl, rfl⟩ | exact ⟨_, _, _, _, _, _, _, _, _, _, _, _, _, _, _, _, _, _, _, _, _, _, _, _, _, _, _, _, _, _, _, _, _, HR.out, rfl, rfl⟩ | exact ⟨_, _, _, _, _, _, _, _, _, _, _, _, _, _, _, _, _, _, _, _, _, _, _, _, _, _, _, _, _, _, _, _, _, _, HR.out, rfl, rfl⟩ | exact ⟨_, _, _, _, _, _, _, _, _, _, _, _, _, _, _, _, _, _, _, _, _, _, _, _, _, _, _, _, _, _, _, _, _, _, _, HR.out, rfl, rfl⟩ | exact ⟨_, _, _, _, _, _, _, _, _, _, _, _, _, _, _, _, _, _, _, _, _, _, _, _, _, _, _, _, _, _, _, _, _, _, _, _, HR.out, rfl, rfl⟩ | exact ⟨_, _, _, _, _, _, _, _, _, _, _, _, _, _, _, _, _, _, _, _, _, _, _, _, _, _, _, _, _, _, _, _, _, _, _, _, _, HR.out, rfl, rfl⟩ | exact ⟨_, _, _, _, _, _, _, _, _, _, _, _, _, _, _, _, _, _, _, _, _, _, _, _, _, _, _, _, _, _, _, _, _, _, _, _, _, _, HR.out, rfl, rfl⟩ | exact ⟨_, _, _, _, _, _, _, _, _, _, _, _, _, _, _, _, _, _, _, _, _, _, _, _, _, _, _, _, _, _, _, _, _, _, _, _, _, _, _, HR.out, rfl, rfl⟩ | exact ⟨_, _, _, _, _, _, _, _, _, _, _, _, _, _, _, _, _, _, _, _, _, _, _, _, _, _, _, _, _, _, _, _, _, _, _, _, _, _, _, _, HR.out, rfl, rfl⟩ | exact ⟨_, _, _, _, _, _, _, _, _, _, _, _, _, _, _, _, _, _, _, _, _, _, _, _, _, _, _, _, _, _, _, _, _, _, _, _, _, _, _, _, _, HR.out, rfl, rfl⟩ | exact ⟨_, _, _, _, _, _, _, _, _, _, _, _, _, _, _, _, _, _, _, _, _, _, _, _, _, _, _, _, _, _, _, _, _, _, _, _, _, _, _, _, _, _, HR.out, rfl, rfl⟩ | exact ⟨_, _, _, _, _, _, _, _, _, _, _, _, _, _, _, _, _, _, _, _, _, _, _, _, _, _, _, _, _, _, _, _, _, _, _, _, _, _, _, _, _, _, _, HR.out, rfl, rfl⟩ | exact ⟨_, _, _, _, _, _, _, _, _, _, _, _, _, _, _, _, _, _, _, _, _, _, _, _, _, _, _, _, _, _, _, _, _, _, _, _, _, _, _, _, _, _, _, _, HR.out, rfl, rfl⟩ | exact ⟨_, _, _, _, _, _, _, _, _, _, _, _, _, _, _, _, _, _, _, _, _, _, _, _, _, _, _, _, _, _, _, _, _, _, _, _, _, _, _, _, _, _, _, _, _, HR.out, rfl, rfl⟩ | exact ⟨_, _, _, _, _, _, _, _, _, _, _, _, _, _, _, _, _, _, _, _, _, _, _, _, _, _, _, _, _, _, _, _, _, _, _, _, _, _, _, _, _, _, _, _, _, _, HR.out, rfl, rfl⟩ | exact ⟨_, _, _, _, _, _, _, _, _, _, _, _, _, _, _, _, _, _, _, _, _, _, _, _, _, _, _, _, _, _, _, _, _, _, _, _, _, _, _, _, _, _, _, _, _, _, _, HR.out, rfl, rfl⟩ | exact ⟨_, _, _, _, _, _, _, _, _, _, _, _, _, _, _, _, _, _, _, _, _, _, _, _, _, _, _, _, _, _, _, _, _, _, _, _, _, _, _, _, _, _, _, _, _, _, _, _, HR.out, rfl, rfl⟩ | exact ⟨_, _, _, _, _, _, _, _, _, _, _, _, _, _, _, _, _, _, _, _, _, _, _, _, _, _, _, _, _, _, _, _, _, _, _, _, _, _, _, _, _, _, _, _, _, _, _, _, _, HR.out, rfl, rfl⟩ | exact ⟨_, _, _, _, _, _, _, _, _, _, _, _, _, _, _, _, _, _, _, _, _, _, _, _, _, _, _, _, _, _, _, _, _, _, _, _, _, _, _, _, _, _, _, _, _, _, _, _, _, _, HR.out, rfl, rfl⟩ | exact ⟨_, _, _, _, _, _, _, _, _, _, _, _, _, _, _, _, _, _, _, _, _, _, _, _, _, _, _, _, _, _, _, _, _, _, _, _, _, _, _, _, _, _, _, _, _, _, _, _, _, _, _, HR.out, rfl, rfl⟩ | exact ⟨_, _, _, _, _, _, _, _, _, _, _, _, _, _, _, _, _, _, _, _, _, _, _, _, _, _, _, _, _, _, _, _, _, _, _, _, _, _, _, _, _, _, _, _, _, _, _, _, _, _, _, _, HR.out, rfl, rfl⟩ | exact ⟨_, _, _, _, _, _, _, _, _, _, _, _, _, _, _, _, _, _, _, _, _, _, _, _, _, _, _, _, _, _, _, _, _, _, _, _, _, _, _, _, _, _, _, _, _, _, _, _, _, _, _, _, _, HR.out, rfl, rfl⟩ | exact ⟨_, _, _, _, _, _, _, _, _, _, _, _, _, _, _, _, _, _, _, _, _, _, _, _, _, _, _, _, _, _, _, _, _, _, _, _, _, _, _, _, _, _, _, _, _, _, _, _, _, _, _, _, _, _, HR.out, rfl, rfl⟩ | exact ⟨_, _, _, _, _, _, _, _, _, _, _, _, _, _, _, _, _, _, _, _, _, _, _, _, _, _, _, _, _, _, _, _, _, _, _, _, _, _, _, _, _, _, _, _, _, _, _, _, _, _, _, _, _, _, _, HR.out, rfl, rfl⟩ | exact ⟨_, _, _, _, _, _, _, _, _, _, _, _, _, _, _, _, _, _, _, _, _, _, _, _, _, _, _, _, _, _, _, _, _, _, _, _, _, _, _, _, _, _, _, _, _, _, _, _, _, _, _, _, _, _, _, _, HR.out, rfl, rfl⟩ | exact ⟨_, _, _, _, _, _, _, _, _, _, _, _, _, _, _, _, _, _, _, _, _, _, _, _, _, _, _, _, _, _, _, _, _, _, _, _, _, _, _, _, _, _, _, _, _, _, _, _, _, _, _, _, _, _, _, _, _, HR.out, rfl, rfl⟩ | exact ⟨_, _, _, _, _, _, _, _, _, _, _, _, _, _, _, _, _, _, _, _, _, _, _, _, _, _, _, _, _, _, _, _, _, _, _, _, _, _, _, _, _, _, _, _, _, _, _, _, _, _, _, _, _, _, _, _, _, _, HR.out, rfl, rfl⟩ | exact ⟨_, _, _, _, _, _, _, _, _, _, _, _, _, _, _, _, _, _, _, _, _, _, _, _, _, _, _, _, _, _, _, _, _, _, _, _, _, _, _, _, _, _, _, _, _, _, _, _, _, _, _, _, _, _, _, _, _, _, _, HR.out, rfl, rfl⟩ | exact ⟨_, _, _, _, _, _, _, _, _, _, _, _, _, _, _, _, _, _, _, _, _, _, _, _, _, _, _, _, _, _, _, _, _, _, _, _, _, _, _, _, _, _, _, _, _, _, _, _, _, _, _, _, _, _, _, _, _, _, _, _, HR.out, rfl, rfl⟩ | exact ⟨_, _, _, _, _, _, _, _, _, _, _, _, _, _, _, _, _, _, _, _, _, _, _, _, _, _, _, _, _, _, _, _, _, _, _, _, _, _, _, _, _, _, _, _, _, _, _, _, _, _, _, _, _, _, _, _, _, _, _, _, _, HR.out, rfl, rfl⟩ | exact ⟨_, _, _, _, _, _, _, _, _, _, _, _, _, _, _, _, _, _, _, _, _, _, _, _, _, _, _, _, _, _, _, _, _, _, _, _, _, _, _, _, _, _, _, _, _, _, _, _, _, _, _, _, _, _, _, _, _, _, _, _, _, _, HR.out, rfl, rfl⟩ | exact ⟨_, _, _, _, _, _, _, _, _, _, _, _, _, _, _, _, _, _, _, _, _, _, _, _, _, _, _, _, _, _, _, _, _, _, _, _, _, _, _, _, _, _, _, _, _, _, _, _, _, _, _, _, _, _, _, _, _, _, _, _, _, _, _, HR.out, rfl, rfl⟩ | exact ⟨_, _, _, _, _, _, _, _, _, _, _, _, _, _, _, _, _, _, _, _, _, _, _, _, _, _, _, _, _, _, _, _, _, _, _, _, _, _, _, _, _, _, _, _, _, _, _, _, _, _, _, _, _, _, _, _, _, _, _, _, _, _, _, _, HR.out, rfl, rfl⟩ | exact ⟨_, _, _, _, _, _, _, _, _, _, _, _, _, _, _, _, _, _, _, _, _, _, _, _, _, _, _, _, _, _, _, _, _, _, _, _, _, _, _, _, _, _, _, _, _, _, _, _, _, _, _, _, _, _, _, _, _, _, _, _, _, _, _, _, _, HR.out, rfl, rfl⟩
    · have hkm : k = m := by omega
      have hk9 : ¬ (k : Int) < (m : Int) := by omega
      have HF : Hid (GrBB wr w1.heap.size (.slice xa k xc) (frameN p zs)) := by
        show GrBB _ _ _ _
        unfold frameN
        rw [HMZ.out, ← hkm]; exact hG
      have HB : Hid _ := hbel
      clear hG hbel hkm
      go_wp2
      go_ret
      exact ⟨_, rfl, HF.out, HB.out⟩

def frameD (p : Int) (zs : List Int) : List (List Int) := if 0 ≤ p ∧ p < 60000 ∧ zs.length ≤ 200 then frameN p.toNat zs else []
end Go.Proofs.YtjhaanenkeceiaaDoor
end
