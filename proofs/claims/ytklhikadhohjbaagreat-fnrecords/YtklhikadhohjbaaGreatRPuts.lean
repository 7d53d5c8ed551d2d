/- What the program's joined and numBytes answer, as plain functions on lists of bytes. Conditions: at most 2^20 bytes come in (what they are called with here). -/
import Derived.Test.YtklhikadhohjbaaGreatRNums
import Derived.Test.YtklhikadhohjbaaGreatRA00
namespace Go.Proofs.YtklhikadhohjbaaGreat
open Go.RowKit
set_option linter.unusedVariables false
set_option maxRecDepth 100000

set_option maxHeartbeats 1000000 in
theorem joined_any (a b : Option Addr) (xs ys : List Int) (ca cb : Nat) (w : World) (hx : Reads w a xs) (hy : Reads w b ys) (hl : xs.length ≤ 2097152) (hm : ys.length ≤ 2097152) :
  Calls Tryz.prog 159 #[.slice a xs.length ca, .slice b ys.length cb] w fun e w' => e = .returned (.slice (some ⟨w.heap.size, 0, none⟩) (xs ++ ys).length (xs ++ ys).length) ∧
   Owns w' w.heap.size (.slice (some ⟨w.heap.size, 0, none⟩) (xs ++ ys).length (xs ++ ys).length) (xs ++ ys) ∧ Below w.heap.size w w' ∧ w.heap.size < w'.heap.size := by
 obtain ⟨i0, hi, hz0, hz1, hz2⟩ := info_parts Tryz.infoB
 obtain ⟨m, hm'⟩ : ∃ m, xs.length = m := ⟨_, rfl⟩
 obtain ⟨n, hn'⟩ : ∃ n, ys.length = n := ⟨_, rfl⟩
 have HM : Hid (xs.length = m) := hm'
 have HN : Hid (ys.length = n) := hn'
 rw [List.length_append, hm', hn']
 rw [hm'] at hl
 rw [hn'] at hm
 obtain ⟨X, HX⟩ : ∃ X, Hid (X = bcells xs) := ⟨_, rfl⟩
 obtain ⟨Y, HY⟩ : ∃ Y, Hid (Y = bcells ys) := ⟨_, rfl⟩
 have hXl : X.length = m := by rw [HX.out, bcells_length]; exact hm'
 have hYl : Y.length = n := by rw [HY.out, bcells_length]; exact hn'
 obtain ⟨Z, HZ⟩ : ∃ Z, Hid (Z = bcells (List.replicate (m + n) 0)) := ⟨_, rfl⟩
 have hZl : Z.length = m + n := by rw [HZ.out]; simp
 have hsl : (splice Z 0 X).length = m + n := by rw [length_splice _ _ _ (by omega), hZl]
 have HFIN : Hid (splice (splice Z 0 X) m Y = bcells (xs ++ ys)) := by
  show _ = _
  rw [splice_two Z X Y m hXl (by omega), HX.out, HY.out]; simp [bcells]
 have HX1 : Hid (∀ v ∈ X, v.oneCell' = true) := by show ∀ v ∈ X, v.oneCell' = true; rw [HX.out]; exact bcells_one xs
 have HY1 : Hid (∀ v ∈ Y, v.oneCell' = true) := by show ∀ v ∈ Y, v.oneCell' = true; rw [HY.out]; exact bcells_one ys
 have hXm : X.length = Nat.min m (m + n) := by rw [hXl]; exact (Nat.min_eq_left (by omega)).symm
 have hYm : Y.length = Nat.min n n := by rw [hYl]; exact (Nat.min_self n).symm
 clear hm' hn'
 go_enter Tryz.func159, Tryz.ntmps159
 go_wp2_with (first
  | (at_make; refine wpList_make_full _ rfl _ _ 22 rfl w.heap.size 5 i0 (.int .u8 0) 1 Tryz.underlying22 hi hz0 hz1 .i64 .i64 _ _ (m + n) rfl rfl (by omega) (by omega) (by rw [hz2]; omega) (by unfold maxLen; omega) (Nat.le_refl _) ?_; intro w1 hown hgrow; have hb1 : Below w.heap.size w w1 := (Below.refl _ _).grown hgrow (Nat.le_refl _) (fun k h => by cases h); have hs1 : w.heap.size < w1.heap.size := (hown.lt _ rfl).2; rw [madeCells_bytes, ← HZ.out] at hown; have HG1 : Hid _ := full_heap hown; clear hown hgrow)
  | (refine wpList_copy_splice rfl (.tmp 12) (.tmp 13) 22 22 rfl 5 Tryz.underlying22 Tryz.sizeB _ _ _ _ _ _ rfl rfl w.heap.size 0 Z 5 HG1.out X hXm (fun h0 => ⟨rfl, by rw [HX.out] at h0 ⊢; exact (hx.below hb1).src h0⟩) (by omega) HX1.out w.heap.size w hb1 (Nat.le_refl _) ?_; intro w2 HG2 hb2)
  | (refine wpList_copy_splice rfl (.tmp 18) (.tmp 19) 22 22 rfl 5 Tryz.underlying22 Tryz.sizeB _ _ _ _ _ _ rfl rfl w.heap.size m (splice Z 0 X) 5 HG2.out Y (by rw [hYl]; simp <;> omega) (fun h0 => ⟨by simp <;> omega, by rw [HY.out] at h0 ⊢; exact (hy.below hb2).src h0⟩) (by omega) HY1.out w.heap.size w hb2 (Nat.le_refl _) ?_; intro w3 HG3 hb3))
 all_goals
  go_ret
  have hg3 := HG3.out
  rw [HFIN.out] at hg3
  exact ⟨rfl, full_owns (by have := HM.out; have := HN.out; rw [List.length_append]; omega) (Nat.le_refl _) (by rw [List.length_append, HM.out, HN.out]; omega) hg3, hb3, lt_of_block hg3⟩

def numB : Nat → Int → List Int
 | 0, n => [n]
 | f + 1, n => if n < 128 then [n] else (n % 128 + 128) :: numB f (n / 128)

def putB (n : Int) : List Int := if n < 0 ∨ 2147483647 < n then [] else numB 4 n

theorem numB_small (f : Nat) (n : Int) (h : n < 128) : numB f n = [n] := by cases f <;> simp [numB, h]

theorem numB_more (f : Nat) (n : Int) (h : ¬ n < 128) : numB (f + 1) n = (n % 128 + 128) :: numB f (n / 128) := by rw [numB, if_neg h]

theorem numB_len (f : Nat) (n : Int) : 1 ≤ (numB f n).length ∧ (numB f n).length ≤ f + 1 := by
 induction f generalizing n with
 | zero => simp [numB]
 | succ f ih =>
  have := ih (n / 128)
  by_cases h : n < 128
  ·rw [numB_small _ _ h]; simp
  ·rw [numB_more _ _ h]; simp only [List.length_cons]; omega

theorem numB_bytes (f : Nat) (n : Int) (h0 : 0 ≤ n) (h : n < wt (f + 1)) (hf : f ≤ 4) : isBytes (numB f n) := by
 induction f generalizing n with
 | zero => exact isBytes_cons h0 (by have h2 : n < 128 := h; omega) isBytes_nil
 | succ f ih =>
  by_cases h1 : n < 128
  ·rw [numB_small _ _ h1]; exact isBytes_cons h0 (by omega) isBytes_nil
  ·rw [numB_more _ _ h1]
   have := wt_succ (f + 1) (by omega)
   exact isBytes_cons (by omega) (by omega) (ih (n / 128) (by omega) (by omega) (by omega))

theorem putB_bytes (n : Int) : isBytes (putB n) := by
 unfold putB
 split
 ·exact isBytes_nil
 ·exact numB_bytes 4 n (by omega) (by show n < 34359738368; omega) (by omega)

theorem putB_len (n : Int) : (putB n).length ≤ 5 := by
 unfold putB
 split
 ·simp
 ·exact (numB_len 4 n).2

set_option maxHeartbeats 1000000 in
theorem numBytes_any (n : Int) (w : World) (h0 : 0 ≤ n) (h1 : n ≤ 2147483647) :
  Calls Tryz.prog 160 #[.int .i64 n] w fun e w' => ∃ (d0 d1 d2 d3 d4 : Int) (c : Nat), e = .returned (.tuple #[.agg #[.int .u8 d0, .int .u8 d1, .int .u8 d2, .int .u8 d3, .int .u8 d4], .int .i64 c]) ∧ 1 ≤ c ∧ c ≤ 5 ∧ [d0, d1, d2, d3, d4].take c = numB 4 n ∧ Below w.heap.size w w' := by
 by_cases s1 : n < 128
 ·have HN : Hid (numB 4 n = [n]) := numB_small 4 n s1
  go_enter Tryz.func160, Tryz.ntmps160
  go_wp2
  refine wp_loop_rounds 1 ?_
  rw [rounds_succ]
  go_wp2
  exact bodyPost_ret (v := .tuple #[.agg #[.int .u8 n, .int .u8 0, .int .u8 0, .int .u8 0, .int .u8 0], .int .i64 1]) (by simp [results, Tryz.results160, go_sem]) rfl ⟨n, 0, 0, 0, 0, 1, rfl, by omega, by omega, by rw [HN.out]; rfl, ((Below.refl _ _).alloc (Nat.le_refl _) _).alloc (by simp) _⟩
 by_cases s2 : n / 128 < 128
 ·have HN : Hid (numB 4 n = [n % 128 + 128, n / 128]) := by
   show _ = _
   rw [numB_more _ _ s1, numB_small _ _ s2]
  go_enter Tryz.func160, Tryz.ntmps160
  go_wp2
  refine wp_loop_rounds 2 ?_
  rw [rounds_succ]
  go_wp2
  rw [rounds_succ]
  go_wp2
  exact bodyPost_ret (v := .tuple #[.agg #[.int .u8 (n % 128 + 128), .int .u8 (n / 128), .int .u8 (0), .int .u8 (0), .int .u8 (0)], .int .i64 2]) (by simp [results, Tryz.results160, go_sem]) rfl ⟨n % 128 + 128, n / 128, 0, 0, 0, 2, rfl, by omega, by omega, by rw [HN.out]; rfl, ((Below.refl _ _).alloc (Nat.le_refl _) _).alloc (by simp) _⟩
 by_cases s3 : n / 128 / 128 < 128
 ·have HN : Hid (numB 4 n = [n % 128 + 128, n / 128 % 128 + 128, n / 128 / 128]) := by
   show _ = _
   rw [numB_more _ _ s1, numB_more _ _ s2, numB_small _ _ s3]
  go_enter Tryz.func160, Tryz.ntmps160
  go_wp2
  refine wp_loop_rounds 3 ?_
  rw [rounds_succ]
  go_wp2
  rw [rounds_succ]
  go_wp2
  rw [rounds_succ]
  go_wp2
  exact bodyPost_ret (v := .tuple #[.agg #[.int .u8 (n % 128 + 128), .int .u8 (n / 128 % 128 + 128), .int .u8 (n / 128 / 128), .int .u8 (0), .int .u8 (0)], .int .i64 3]) (by simp [results, Tryz.results160, go_sem]) rfl ⟨n % 128 + 128, n / 128 % 128 + 128, n / 128 / 128, 0, 0, 3, rfl, by omega, by omega, by rw [HN.out]; rfl, ((Below.refl _ _).alloc (Nat.le_refl _) _).alloc (by simp) _⟩
 by_cases s4 : n / 128 / 128 / 128 < 128
 ·have HN : Hid (numB 4 n = [n % 128 + 128, n / 128 % 128 + 128, n / 128 / 128 % 128 + 128, n / 128 / 128 / 128]) := by
   show _ = _
   rw [numB_more _ _ s1, numB_more _ _ s2, numB_more _ _ s3, numB_small _ _ s4]
  go_enter Tryz.func160, Tryz.ntmps160
  go_wp2
  refine wp_loop_rounds 4 ?_
  rw [rounds_succ]
  go_wp2
  rw [rounds_succ]
  go_wp2
  rw [rounds_succ]
  go_wp2
  rw [rounds_succ]
  go_wp2
  exact bodyPost_ret (v := .tuple #[.agg #[.int .u8 (n % 128 + 128), .int .u8 (n / 128 % 128 + 128), .int .u8 (n / 128 / 128 % 128 + 128), .int .u8 (n / 128 / 128 / 128), .int .u8 (0)], .int .i64 4]) (by simp [results, Tryz.results160, go_sem]) rfl ⟨n % 128 + 128, n / 128 % 128 + 128, n / 128 / 128 % 128 + 128, n / 128 / 128 / 128, 0, 4, rfl, by omega, by omega, by rw [HN.out]; rfl, ((Below.refl _ _).alloc (Nat.le_refl _) _).alloc (by simp) _⟩
 ·have s5 : n / 128 / 128 / 128 / 128 < 128 := by omega
  have HN : Hid (numB 4 n = [n % 128 + 128, n / 128 % 128 + 128, n / 128 / 128 % 128 + 128, n / 128 / 128 / 128 % 128 + 128, n / 128 / 128 / 128 / 128]) := by
   show _ = _
   rw [numB_more _ _ s1, numB_more _ _ s2, numB_more _ _ s3, numB_more _ _ s4, numB_small _ _ s5]
  go_enter Tryz.func160, Tryz.ntmps160
  go_wp2
  refine wp_loop_rounds 5 ?_
  rw [rounds_succ]
  go_wp2
  rw [rounds_succ]
  go_wp2
  rw [rounds_succ]
  go_wp2
  rw [rounds_succ]
  go_wp2
  rw [rounds_succ]
  go_wp2
  exact bodyPost_ret (v := .tuple #[.agg #[.int .u8 (n % 128 + 128), .int .u8 (n / 128 % 128 + 128), .int .u8 (n / 128 / 128 % 128 + 128), .int .u8 (n / 128 / 128 / 128 % 128 + 128), .int .u8 (n / 128 / 128 / 128 / 128)], .int .i64 5]) (by simp [results, Tryz.results160, go_sem]) rfl ⟨n % 128 + 128, n / 128 % 128 + 128, n / 128 / 128 % 128 + 128, n / 128 / 128 / 128 % 128 + 128, n / 128 / 128 / 128 / 128, 5, rfl, by omega, by omega, by rw [HN.out]; rfl, ((Below.refl _ _).alloc (Nat.le_refl _) _).alloc (by simp) _⟩
end Go.Proofs.YtklhikadhohjbaaGreat
