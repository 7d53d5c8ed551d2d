/- Joined: Puts PutNum Steps Texts Pure WBy0 PRead PRead2 GetTexts RdC RdE SpecD1 SpecD2 SpecD3 SpecT1 SpecT3 SpecD4 WBy1 WBy2 RdI RdI2 RdS RdS2 PBack. -/
import Derived.Test.YtklhikadhohjbaaGreatMNums
import Derived.Test.YtklhikadhohjbaaGreatMA01
import Derived.Deep.RegionHeld3
import Derived.Deep.AppendLies
import Derived.Test.YtklhikadhohjbaaGreatMSzs

namespace Go.Proofs.YtklhikadhohjbaaGreat
open Go.RowKit
set_option linter.unusedVariables false
set_option linter.unusedSimpArgs false
set_option maxRecDepth 100000
section
set_option maxHeartbeats 1000000 in
theorem joined_any (a b : Option Addr) (xs ys : List Int) (ca cb : Nat) (w : World) (hx : Reads w a xs) (hy : Reads w b ys) (hl : xs.length ≤ 2097152) (hm : ys.length ≤ 2097152) :
  Calls Tryz.prog 159 #[.slice a xs.length ca, .slice b ys.length cb] w fun e w' => e = .returned (.slice (some ⟨w.heap.size, 0, none⟩) (xs ++ ys).length (xs ++ ys).length) ∧
   Owns w' w.heap.size (.slice (some ⟨w.heap.size, 0, none⟩) (xs ++ ys).length (xs ++ ys).length) (xs ++ ys) ∧ Below w.heap.size w w' ∧ w.heap.size < w'.heap.size := by
 obtain ⟨i0, hi, hz0, hz1, hz2⟩ := info_parts Tryz.infoB
 obtain ⟨m, hm'⟩ : ∃ m, xs.length = m := ⟨_, rfl⟩
 obtain ⟨n, hn'⟩ : ∃ n, ys.length = n := ⟨_, rfl⟩
 have HM : Hid (xs.length = m) := hm'
 have HN : Hid (ys.length = n) := hn'
 rw [List.length_append, hm', hn']
 rw [hm'] at hl
 rw [hn'] at hm
 obtain ⟨X, HX⟩ : ∃ X, Hid (X = bcells xs) := ⟨_, rfl⟩
 obtain ⟨Y, HY⟩ : ∃ Y, Hid (Y = bcells ys) := ⟨_, rfl⟩
 have hXl : X.length = m := by rw [HX.out, bcells_length]; exact hm'
 have hYl : Y.length = n := by rw [HY.out, bcells_length]; exact hn'
 obtain ⟨Z, HZ⟩ : ∃ Z, Hid (Z = bcells (List.replicate (m + n) 0)) := ⟨_, rfl⟩
 have hZl : Z.length = m + n := by rw [HZ.out]; simp
 have hsl : (splice Z 0 X).length = m + n := by rw [length_splice _ _ _ (by omega), hZl]
 have HFIN : Hid (splice (splice Z 0 X) m Y = bcells (xs ++ ys)) := by
  show _ = _
  rw [splice_two Z X Y m hXl (by omega), HX.out, HY.out]; simp [bcells]
 have HX1 : Hid (∀ v ∈ X, v.oneCell' = true) := by show ∀ v ∈ X, v.oneCell' = true; rw [HX.out]; exact bcells_one xs
 have HY1 : Hid (∀ v ∈ Y, v.oneCell' = true) := by show ∀ v ∈ Y, v.oneCell' = true; rw [HY.out]; exact bcells_one ys
 have hXm : X.length = Nat.min m (m + n) := by rw [hXl]; exact (Nat.min_eq_left (by omega)).symm
 have hYm : Y.length = Nat.min n n := by rw [hYl]; exact (Nat.min_self n).symm
 clear hm' hn'
 go_enter Tryz.func159, Tryz.ntmps159
 go_wp2_with (first
  | (at_make; refine wpList_make_full _ rfl _ _ 22 rfl w.heap.size 5 i0 (.int .u8 0) 1 Tryz.underlying22 hi hz0 hz1 .i64 .i64 _ _ (m + n) rfl rfl (by omega) (by omega) (by rw [hz2]; omega) (by unfold maxLen; omega) (Nat.le_refl _) ?_; intro w1 hown hgrow; have hb1 : Below w.heap.size w w1 := (Below.refl _ _).grown hgrow (Nat.le_refl _) (fun k h => by cases h); have hs1 : w.heap.size < w1.heap.size := (hown.lt _ rfl).2; rw [madeCells_bytes, ← HZ.out] at hown; have HG1 : Hid _ := full_heap hown; clear hown hgrow)
  | (refine wpList_copy_splice rfl (.tmp 12) (.tmp 13) 22 22 rfl 5 Tryz.underlying22 Tryz.sizeB _ _ _ _ _ _ rfl rfl w.heap.size 0 Z 5 HG1.out X hXm (fun h0 => ⟨rfl, by rw [HX.out] at h0 ⊢; exact (hx.below hb1).src h0⟩) (by omega) HX1.out w.heap.size w hb1 (Nat.le_refl _) ?_; intro w2 HG2 hb2)
  | (refine wpList_copy_splice rfl (.tmp 18) (.tmp 19) 22 22 rfl 5 Tryz.underlying22 Tryz.sizeB _ _ _ _ _ _ rfl rfl w.heap.size m (splice Z 0 X) 5 HG2.out Y (by rw [hYl]; simp <;> omega) (fun h0 => ⟨by simp <;> omega, by rw [HY.out] at h0 ⊢; exact (hy.below hb2).src h0⟩) (by omega) HY1.out w.heap.size w hb2 (Nat.le_refl _) ?_; intro w3 HG3 hb3))
 all_goals
  go_ret
  have hg3 := HG3.out
  rw [HFIN.out] at hg3
  exact ⟨rfl, full_owns (by have := HM.out; have := HN.out; rw [List.length_append]; omega) (Nat.le_refl _) (by rw [List.length_append, HM.out, HN.out]; omega) hg3, hb3, lt_of_block hg3⟩

def numB : Nat → Int → List Int
 | 0, n => [n]
 | f + 1, n => if n < 128 then [n] else (n % 128 + 128) :: numB f (n / 128)

def putB (n : Int) : List Int := if n < 0 ∨ 2147483647 < n then [] else numB 4 n

theorem numB_small (f : Nat) (n : Int) (h : n < 128) : numB f n = [n] := by cases f <;> simp [numB, h]

theorem numB_more (f : Nat) (n : Int) (h : ¬ n < 128) : numB (f + 1) n = (n % 128 + 128) :: numB f (n / 128) := by rw [numB, if_neg h]

theorem numB_len (f : Nat) (n : Int) : 1 ≤ (numB f n).length ∧ (numB f n).length ≤ f + 1 := by
 induction f generalizing n with
 | zero => simp [numB]
 | succ f ih =>
  have := ih (n / 128)
  by_cases h : n < 128
  ·rw [numB_small _ _ h]; simp
  ·rw [numB_more _ _ h]; simp only [List.length_cons]; omega

theorem numB_bytes (f : Nat) (n : Int) (h0 : 0 ≤ n) (h : n < wt (f + 1)) (hf : f ≤ 4) : isBytes (numB f n) := by
 induction f generalizing n with
 | zero => exact isBytes_cons h0 (by have h2 : n < 128 := h; omega) isBytes_nil
 | succ f ih =>
  by_cases h1 : n < 128
  ·rw [numB_small _ _ h1]; exact isBytes_cons h0 (by omega) isBytes_nil
  ·rw [numB_more _ _ h1]
   have := wt_succ (f + 1) (by omega)
   exact isBytes_cons (by omega) (by omega) (ih (n / 128) (by omega) (by omega) (by omega))

theorem putB_bytes (n : Int) : isBytes (putB n) := by
 unfold putB
 split
 ·exact isBytes_nil
 ·exact numB_bytes 4 n (by omega) (by show n < 34359738368; omega) (by omega)

theorem putB_len (n : Int) : (putB n).length ≤ 5 := by
 unfold putB
 split
 ·simp
 ·exact (numB_len 4 n).2

set_option maxHeartbeats 1000000 in
theorem numBytes_any (n : Int) (w : World) (h0 : 0 ≤ n) (h1 : n ≤ 2147483647) :
  Calls Tryz.prog 160 #[.i n] w fun e w' => ∃ (d0 d1 d2 d3 d4 : Int) (c : Nat), e = .returned (.tuple #[.agg #[.int .u8 d0, .int .u8 d1, .int .u8 d2, .int .u8 d3, .int .u8 d4], .i c]) ∧ 1 ≤ c ∧ c ≤ 5 ∧ [d0, d1, d2, d3, d4].take c = numB 4 n ∧ Below w.heap.size w w' := by
 by_cases s1 : n < 128
 ·have HN : Hid (numB 4 n = [n]) := numB_small 4 n s1
  go_enter Tryz.func160, Tryz.ntmps160
  go_wp2
  refine wp_loop_rounds 1 ?_
  rw [rounds_succ]
  go_wp2
  exact bodyPost_ret (v := .tuple #[.agg #[.int .u8 n, .int .u8 0, .int .u8 0, .int .u8 0, .int .u8 0], .i 1]) (by simp [results, Tryz.results160, go_sem]) rfl ⟨n, 0, 0, 0, 0, 1, rfl, by omega, by omega, by rw [HN.out]; rfl, ((Below.refl _ _).alloc (Nat.le_refl _) _).alloc (by simp) _⟩
 by_cases s2 : n / 128 < 128
 ·have HN : Hid (numB 4 n = [n % 128 + 128, n / 128]) := by
   show _ = _
   rw [numB_more _ _ s1, numB_small _ _ s2]
  go_enter Tryz.func160, Tryz.ntmps160
  go_wp2
  refine wp_loop_rounds 2 ?_
  rw [rounds_succ]
  go_wp2
  rw [rounds_succ]
  go_wp2
  exact bodyPost_ret (v := .tuple #[.agg #[.int .u8 (n % 128 + 128), .int .u8 (n / 128), .int .u8 (0), .int .u8 (0), .int .u8 (0)], .i 2]) (by simp [results, Tryz.results160, go_sem]) rfl ⟨n % 128 + 128, n / 128, 0, 0, 0, 2, rfl, by omega, by omega, by rw [HN.out]; rfl, ((Below.refl _ _).alloc (Nat.le_refl _) _).alloc (by simp) _⟩
 by_cases s3 : n / 128 / 128 < 128
 ·have HN : Hid (numB 4 n = [n % 128 + 128, n / 128 % 128 + 128, n / 128 / 128]) := by
   show _ = _
   rw [numB_more _ _ s1, numB_more _ _ s2, numB_small _ _ s3]
  go_enter Tryz.func160, Tryz.ntmps160
  go_wp2
  refine wp_loop_rounds 3 ?_
  rw [rounds_succ]
  go_wp2
  rw [rounds_succ]
  go_wp2
  rw [rounds_succ]
  go_wp2
  exact bodyPost_ret (v := .tuple #[.agg #[.int .u8 (n % 128 + 128), .int .u8 (n / 128 % 128 + 128), .int .u8 (n / 128 / 128), .int .u8 (0), .int .u8 (0)], .i 3]) (by simp [results, Tryz.results160, go_sem]) rfl ⟨n % 128 + 128, n / 128 % 128 + 128, n / 128 / 128, 0, 0, 3, rfl, by omega, by omega, by rw [HN.out]; rfl, ((Below.refl _ _).alloc (Nat.le_refl _) _).alloc (by simp) _⟩
 by_cases s4 : n / 128 / 128 / 128 < 128
 ·have HN : Hid (numB 4 n = [n % 128 + 128, n / 128 % 128 + 128, n / 128 / 128 % 128 + 128, n / 128 / 128 / 128]) := by
   show _ = _
   rw [numB_more _ _ s1, numB_more _ _ s2, numB_more _ _ s3, numB_small _ _ s4]
  go_enter Tryz.func160, Tryz.ntmps160
  go_wp2
  refine wp_loop_rounds 4 ?_
  rw [rounds_succ]
  go_wp2
  rw [rounds_succ]
  go_wp2
  rw [rounds_succ]
  go_wp2
  rw [rounds_succ]
  go_wp2
  exact bodyPost_ret (v := .tuple #[.agg #[.int .u8 (n % 128 + 128), .int .u8 (n / 128 % 128 + 128), .int .u8 (n / 128 / 128 % 128 + 128), .int .u8 (n / 128 / 128 / 128), .int .u8 (0)], .i 4]) (by simp [results, Tryz.results160, go_sem]) rfl ⟨n % 128 + 128, n / 128 % 128 + 128, n / 128 / 128 % 128 + 128, n / 128 / 128 / 128, 0, 4, rfl, by omega, by omega, by rw [HN.out]; rfl, ((Below.refl _ _).alloc (Nat.le_refl _) _).alloc (by simp) _⟩
 ·have s5 : n / 128 / 128 / 128 / 128 < 128 := by omega
  have HN : Hid (numB 4 n = [n % 128 + 128, n / 128 % 128 + 128, n / 128 / 128 % 128 + 128, n / 128 / 128 / 128 % 128 + 128, n / 128 / 128 / 128 / 128]) := by
   show _ = _
   rw [numB_more _ _ s1, numB_more _ _ s2, numB_more _ _ s3, numB_more _ _ s4, numB_small _ _ s5]
  go_enter Tryz.func160, Tryz.ntmps160
  go_wp2
  refine wp_loop_rounds 5 ?_
  rw [rounds_succ]
  go_wp2
  rw [rounds_succ]
  go_wp2
  rw [rounds_succ]
  go_wp2
  rw [rounds_succ]
  go_wp2
  rw [rounds_succ]
  go_wp2
  exact bodyPost_ret (v := .tuple #[.agg #[.int .u8 (n % 128 + 128), .int .u8 (n / 128 % 128 + 128), .int .u8 (n / 128 / 128 % 128 + 128), .int .u8 (n / 128 / 128 / 128 % 128 + 128), .int .u8 (n / 128 / 128 / 128 / 128)], .i 5]) (by simp [results, Tryz.results160, go_sem]) rfl ⟨n % 128 + 128, n / 128 % 128 + 128, n / 128 / 128 % 128 + 128, n / 128 / 128 / 128 % 128 + 128, n / 128 / 128 / 128 / 128, 5, rfl, by omega, by omega, by rw [HN.out]; rfl, ((Below.refl _ _).alloc (Nat.le_refl _) _).alloc (by simp) _⟩
end
section
theorem slice5 (b c : Nat) (W : World) (h : c ≤ 5) : (Instr.sliceAt 212 (.pointer (some ⟨b, 0, none⟩)) none (some (.i (c : Int))) none).run Tryz.prog W = .ok (.slice (some ⟨b, 0, none⟩) c 5) W := by
 have hal : Tryz.prog.arrayLen 212 = 5 := by simp [Program.arrayLen, Tryz.underlying212]
 rw [run_sliceAt_array_h W 212 ⟨b, 0, none⟩ (by simp [Program.arrayLen, Program.elem, Tryz.underlying212]) .i64 (c : Int) (by omega) (by rw [hal]; omega)]
 go_simp

theorem take5 {d0 d1 d2 d3 d4 : Int} {c : Nat} {ys : List Int} (hc : c ≤ 5) (h : [d0, d1, d2, d3, d4].take c = ys) : ys.length = c ∧ ∀ i, i < c → ys[i]?.getD 0 = [d0, d1, d2, d3, d4][i]?.getD 0 := by
 subst h
 refine ⟨by simp; omega, fun i hi => ?_⟩
 rw [List.getElem?_take, if_pos hi]

theorem reads_array (w : World) (d0 d1 d2 d3 d4 : Int) (c : Nat) (t : TypeId) (ys : List Int) (hb : isBytes ys) (hc : c ≤ 5) (h : [d0, d1, d2, d3, d4].take c = ys) :
  Reads (w.alloc (.cells #[.int .u8 d0, .int .u8 d1, .int .u8 d2, .int .u8 d3, .int .u8 d4] t)) (some ⟨w.heap.size, 0, none⟩) ys := by
 obtain ⟨hl, hi⟩ := take5 hc h
 refine ⟨hb, .inr ⟨w.heap.size, 0, rfl, by simp, fun i hlt => ?_⟩⟩
 rw [World.cell?_alloc_at _ _ _ _ rfl, hi i (by omega), Nat.zero_add]
 have h5 : i < 5 := by omega
 rcases (show i = 0 ∨ i = 1 ∨ i = 2 ∨ i = 3 ∨ i = 4 from by omega) with rfl | rfl | rfl | rfl | rfl <;> rfl

theorem joined_v (a b : Option Addr) (xs ys : List Int) (m n ca cb : Nat) (w : World) (hx : Reads w a xs) (hy : Reads w b ys) (hm : m = xs.length) (hn : n = ys.length) (hl : xs.length ≤ 2097152) (hl' : ys.length ≤ 2097152) :
  Calls Tryz.prog 159 #[.slice a m ca, .slice b n cb] w fun e w' => ∃ v, e = .returned v ∧ Owns w' w.heap.size v (xs ++ ys) ∧ Below w.heap.size w w' := by
 subst hm; subst hn
 exact (joined_any a b xs ys ca cb w hx hy hl hl').mono fun e w' ⟨he, ho, hb, _⟩ => ⟨_, he, ho, hb⟩

set_option maxHeartbeats 1000000 in
theorem implPut_any (a : Option Addr) (xs : List Int) (len cap : Nat) (n : Int) (w : World) (hx : Reads w a xs) (hlen : len = xs.length) (hl : xs.length ≤ 2097152) :
  Calls Tryz.prog 76 #[.slice a len cap, .i n] w fun e w' => ∃ v, e = .returned v ∧ Owns w' w.heap.size v (xs ++ putB n) ∧ Below w.heap.size w w' := by
 by_cases hn : n < 0 ∨ 2147483647 < n
 ·have hp : putB n = [] := by unfold putB; rw [if_pos hn]
  rw [hp]
  clear hp
  have HE : Hid _ := hlen
  clear hlen
  rcases hn with hn | hn
  all_goals
   go_enter Tryz.func76, Tryz.ntmps76
   go_wp2_with fail
   refine (joined_v a none xs [] _ _ _ _ w hx (reads_none _ _) HE.out rfl hl (by simp)).mono ?_
   rintro e w1 ⟨v, rfl, ho, hb⟩
   go_wp2
   go_ret
   exact ⟨v, rfl, ho, hb⟩
 ·have h0 : 0 ≤ n := by omega
  have h1 : n ≤ 2147483647 := by omega
  have hp : putB n = numB 4 n := by unfold putB; rw [if_neg hn]
  have hbB := putB_bytes n
  rw [hp] at hbB ⊢
  have HE : Hid _ := hlen
  clear hp hn hlen
  go_enter Tryz.func76, Tryz.ntmps76
  go_wp2_with fail
  refine (numBytes_any n w h0 h1).mono ?_
  rintro e w1 ⟨d0, d1, d2, d3, d4, c, rfl, hc1, hc5, htake, hb1⟩
  have hlen := (take5 hc5 htake).1
  have hrY := reads_array w1 d0 d1 d2 d3 d4 _ 212 _ hbB hc5 htake
  have hb2 : Below w1.heap.size w1 (w1.alloc (.cells #[.int .u8 d0, .int .u8 d1, .int .u8 d2, .int .u8 d3, .int .u8 d4] 212)) := (Below.refl _ _).alloc (Nat.le_refl _) _
  have hsl := fun W => slice5 w1.heap.size c W hc5
  have HB2 : Hid _ := hb2
  have HRY : Hid _ := hrY
  have HC : Hid _ := hlen
  clear htake hb2 hrY hlen
  go_wp2_with fail
  refine (joined_v a (some ⟨w1.heap.size, 0, none⟩) xs (numB 4 n) _ _ _ _ _ ((hx.below hb1).below HB2.out) HRY.out HE.out HC.out.symm hl (by rw [HC.out]; omega)).mono ?_
  rintro e w3 ⟨v, rfl, ho, hb3⟩
  have hs1 := hb1.size
  have HF : Hid (Owns w3 w.heap.size v (xs ++ numB 4 n) ∧ Below w.heap.size w w3) := ⟨ho.base (by simp; omega), (hb1.trans (HB2.out.mono hs1)).trans (hb3.mono (by simp; omega))⟩
  clear ho hb3 HB2 HRY hsl
  go_wp2
  go_ret
  exact ⟨v, rfl, HF.out.1, HF.out.2⟩

def SRel (xs : List Int) (n : Int) (w : World) (o q : Value) (wr : World) : Prop :=
 ∃ (f : Nat) (m : Int) (pre : List Int), f ≤ 4 ∧ 0 ≤ m ∧ m < wt (f + 1) ∧ q = .i m ∧ pre.length + f = 4 ∧ numB 4 n = pre ++ numB f m ∧ Owns wr w.heap.size o (xs ++ pre) ∧ Below w.heap.size w wr

set_option maxHeartbeats 1000000 in
theorem specPut_any (a : Option Addr) (xs : List Int) (len cap : Nat) (n : Int) (w : World) (hx : Reads w a xs) (hlen : len = xs.length) (hl : xs.length ≤ 2097152) (hnil : a = none → len = 0 ∧ cap = 0) :
  Calls Tryz.prog 219 #[.slice a len cap, .i n] w fun e w' => ∃ v, e = .returned v ∧ Owns w' w.heap.size v (xs ++ putB n) ∧ Below w.heap.size w w' := by
 have HE : Hid _ := hlen
 have HX : Hid (Reads (w.alloc (.cells #[] 5)) a xs) := hx.below ((Below.refl _ _).alloc (Nat.le_refl _) _)
 have HNIL : Hid _ := hnil
 have HL : Hid _ := hl
 have HB1 : Hid (Below w.heap.size w (w.alloc (.cells #[] 5))) := (Below.refl _ _).alloc (Nat.le_refl _) _
 clear hlen hx hnil hl
 by_cases hn : n < 0 ∨ 2147483647 < n
 ·have hp : putB n = [] := by unfold putB; rw [if_pos hn]
  rw [hp, List.append_nil]
  clear hp
  rcases hn with hn | hn
  all_goals
   go_enter Tryz.func219, Tryz.ntmps219
   go_wp2_with (at_builtin; go_must (refine wpList_app _ rfl (.tmp 6) (.tmp 7) rfl w.heap.size _ [] xs rfl (owns_empty w) a len cap rfl HE.out HX.out (by simp) (by have := HL.out; omega) (by simp) HNIL.out ?_; intro v w1 ho hg))
   go_ret
   exact ⟨v, rfl, by simpa using ho, HB1.out.grown hg (by simp) (fun k hk => ((owns_empty w).lt k hk).1)⟩
 ·have h0 : 0 ≤ n := by omega
  have h1 : n ≤ 2147483647 := by omega
  have hp : putB n = numB 4 n := by unfold putB; rw [if_neg hn]
  rw [hp]
  clear hp hn
  go_enter Tryz.func219, Tryz.ntmps219
  go_wp2_with (at_builtin; go_must (refine wpList_app _ rfl (.tmp 6) (.tmp 7) rfl w.heap.size _ [] xs rfl (owns_empty w) a len cap rfl HE.out HX.out (by simp) (by have := HL.out; omega) (by simp) HNIL.out ?_; intro v w1 ho hg))
  go_loopw [5, 1] (fun o q wr => SRel xs n w o q wr) (fun _ q _ => (intOf q).toNat)
  case atStart => exact ⟨4, n, [], by omega, h0, by show n < 34359738368; omega, rfl, rfl, rfl, by simpa using ho, HB1.out.grown hg (by simp) (fun k hk => ((owns_empty w).lt k hk).1)⟩
  case round =>
   clear ho hg
   obtain ⟨f, m, pre, hf, hm0, hm1, rfl, hpf, hpre, hown, hbel⟩ := hrel
   have hsz := hbel.size
   have HO : Hid _ := hown
   have HP : Hid _ := hpre
   have HBE : Hid _ := hbel
   have HM1 : Hid _ := hm1
   have hmt : m ≤ 34359738368 := by
    have : wt (f + 1) ≤ 34359738368 := by
     rcases (show f = 0 ∨ f = 1 ∨ f = 2 ∨ f = 3 ∨ f = 4 from by omega) with rfl | rfl | rfl | rfl | rfl <;> decide
    omega
   clear hown hpre hbel hm1
   by_cases hge : 127 < m
   ·go_wp2_with (at_builtin; go_must (refine wpList_app _ rfl (.tmp 18) (.tmp 23) rfl w.heap.size _ (xs ++ pre) [m % 128 + 128] rfl (HO.out.alloc _) _ 1 1 rfl rfl (one_new _ (m % 128 + 128) (by omega) (by omega)) (by have := HL.out; simp; omega) (by simp) (by simp; omega) (fun h => by cases h) ?_; intro v2 w2 ho2 hg2))
    have HR : SRel xs n w v2 (.i (m / 128)) w2 := by
     have hm1 := HM1.out
     obtain ⟨f, rfl⟩ : ∃ g, f = g + 1 := by
      cases f with
      | zero => exact absurd hm1 (by show ¬ m < 128; omega)
      | succ g => exact ⟨g, rfl⟩
     have hw := wt_succ (f + 1) (by omega)
     refine ⟨f, m / 128, pre ++ [m % 128 + 128], by omega, by omega, by omega, rfl, by simp; omega, ?_, ?_, (HBE.out.alloc hsz _).grown hg2 (by simp; omega) (fun k hk => (HO.out.lt k hk).1)⟩
     ·rw [HP.out, numB_more f m (by omega), List.append_assoc]; rfl
     ·rw [← List.append_assoc]; exact ho2
    refine ⟨?_, by simp [intOf]; omega⟩
    first | exact HR | exact ⟨_, _, HR, rfl, rfl⟩
   ·have hm1 := HM1.out
    go_wp2_with (at_builtin; go_must (refine wpList_app _ rfl (.tmp 27) (.tmp 30) rfl w.heap.size _ (xs ++ pre) [m] rfl (HO.out.alloc _) _ 1 1 rfl rfl (one_new _ m (by omega) (by omega)) (by have := HL.out; simp; omega) (by simp) (by simp; omega) (fun h => by cases h) ?_; intro v2 w2 ho2 hg2))
    go_ret
    refine ⟨v2, rfl, ?_, ?_⟩
    ·rw [HP.out, numB_small f m (by omega), ← List.append_assoc]; exact ho2
    ·exact (HBE.out.alloc hsz _).grown hg2 (by simp; omega) (fun k hk => (HO.out.lt k hk).1)
end
section
set_option maxRecDepth 100000
end
section
def textB (t : List Int) : List Int := if 40 < t.length then [] else putB t.length ++ t
def getText (zs : List Int) (p : Int) : List Int × Int :=
 if (getNum zs p).2 < 0 ∨ 40 < (getNum zs p).1 ∨ (zs.length : Int) - (getNum zs p).2 < (getNum zs p).1 then ([], -1)
 else ((zs.drop (getNum zs p).2.toNat).take (getNum zs p).1.toNat, (getNum zs p).2 + (getNum zs p).1)

theorem textB_bytes {t : List Int} (h : isBytes t) : isBytes (textB t) := by
 unfold textB
 split
 ·exact isBytes_nil
 ·exact isBytes_append (putB_bytes _) h
theorem textB_len (t : List Int) : (textB t).length ≤ 45 := by
 unfold textB
 split
 ·simp
 ·have := putB_len (t.length : Int); rw [List.length_append]; omega
theorem isBytes_drop {zs : List Int} (h : isBytes zs) (k : Nat) : isBytes (zs.drop k) := fun j => by rw [List.getElem?_drop]; exact h _
theorem isBytes_take {zs : List Int} (h : isBytes zs) (k : Nat) : isBytes (zs.take k) := fun j => by
 rw [List.getElem?_take]
 split
 ·exact h j
 ·simp
theorem getText_bytes {zs : List Int} (h : isBytes zs) (p : Int) : isBytes (getText zs p).1 := by
 unfold getText
 split
 ·exact isBytes_nil
 ·exact isBytes_take (isBytes_drop h _) _
theorem getText_len (zs : List Int) (p : Int) : (getText zs p).1.length ≤ 40 := by
 unfold getText
 split
 ·simp
 ·simp only [List.length_take]; omega

theorem getLoop_fits {f : Nat} {r : List Int} {i : Nat} {n sc : Int} {m : Int} {c : Nat} (hr : isBytes r) (hn : 0 ≤ n) (hs : 0 ≤ sc) (h : getLoop f r i n sc = some (m, c)) : 0 ≤ m ∧ m ≤ 2147483647 ∧ i < c ∧ c ≤ i + r.length := by
 induction f generalizing r i n sc with
 | zero => cases h
 | succ f ih =>
  cases r with
  | nil => cases h
  | cons x r =>
   have hx : 0 ≤ x ∧ x ≤ 255 := by simpa using hr 0
   have hr' : isBytes r := fun j => by simpa using hr (j + 1)
   by_cases h1 : 128 ≤ x
   ·rw [getLoop_more h1] at h
    have := ih hr' (by have := Int.mul_nonneg (show 0 ≤ x - 128 by omega) hs; omega) (by omega) h
    simp only [List.length_cons]; omega
   ·by_cases h2 : (0 < i ∧ x = 0) ∨ 2147483647 < n + x * sc
    ·rw [getLoop_bad h1 h2] at h; cases h
    ·rw [getLoop_end h1 h2] at h
     simp only [Option.some.injEq, Prod.mk.injEq] at h
     obtain ⟨rfl, rfl⟩ := h
     have := Int.mul_nonneg hx.1 hs
     simp only [List.length_cons]; omega
theorem getNum_fits {zs : List Int} {p n nx : Int} (hz : isBytes zs) (h : getNum zs p = (n, nx)) : (n = 0 ∧ nx = -1) ∨ (0 ≤ n ∧ n ≤ 2147483647 ∧ 0 ≤ p ∧ p < nx ∧ nx ≤ zs.length) := by
 unfold getNum at h
 split at h
 ·simp only [Prod.mk.injEq] at h; exact .inl ⟨h.1.symm, h.2.symm⟩
 ·split at h
  ·simp only [Prod.mk.injEq] at h; exact .inl ⟨h.1.symm, h.2.symm⟩
  ·rename_i m c hg
   simp only [Prod.mk.injEq] at h
   obtain ⟨rfl, rfl⟩ := h
   have := getLoop_fits (isBytes_drop hz _) (by omega) (by omega) hg
   rw [List.length_drop] at this
   right; omega

theorem joined_ov (v : Value) (b : Option Addr) (xs ys : List Int) (base n cb : Nat) (w : World) (hx : Owns w base v xs) (bx : isBytes xs) (hy : Reads w b ys) (hn : n = ys.length) (hl : xs.length ≤ 2097152) (hl' : ys.length ≤ 2097152) :
  Calls Tryz.prog 159 #[v, .slice b n cb] w fun e w' => ∃ v, e = .returned v ∧ Owns w' w.heap.size v (xs ++ ys) ∧ Below w.heap.size w w' := by
 obtain ⟨a, ca, rfl, _, _, ra⟩ := hx.open bx
 exact joined_v a b xs ys _ n ca cb w ra hy rfl hn hl hl'

set_option maxHeartbeats 1000000 in
theorem implPutText_any (a b : Option Addr) (xs ts : List Int) (la ca lb cb : Nat) (w : World) (hx : Reads w a xs) (hy : Reads w b ts) (hla : la = xs.length) (hlb : lb = ts.length) (hl : xs.length ≤ 2000000) (hm : ts.length ≤ 2000000) :
  Calls Tryz.prog 145 #[.slice a la ca, .slice b lb cb] w fun e w' => ∃ v, e = .returned v ∧ Owns w' w.heap.size v (xs ++ textB ts) ∧ Below w.heap.size w w' := by
 have HLA : Hid _ := hla
 have HLB : Hid _ := hlb
 have hlb' : lb ≤ 2000000 := by omega
 clear hla hlb
 by_cases h40 : 40 < lb
 ·have HT : Hid (textB ts = []) := by show _ = _; unfold textB; rw [if_pos (by rw [← HLB.out]; exact h40)]
  go_enter Tryz.func145, Tryz.ntmps145
  go_wp2_with fail
  refine (joined_v a none xs [] _ _ _ _ w hx (reads_none _ _) HLA.out rfl (by omega) (by simp)).mono ?_
  rintro e w1 ⟨v, rfl, ho, hb⟩
  go_wp2
  go_ret
  exact ⟨v, rfl, by rw [HT.out]; exact ho, hb⟩
 ·have HT : Hid (textB ts = putB (lb : Int) ++ ts) := by show _ = _; unfold textB; rw [if_neg (by rw [← HLB.out]; exact h40), HLB.out]
  go_enter Tryz.func145, Tryz.ntmps145
  go_wp2_with fail
  refine (implPut_any a xs _ _ _ _ hx HLA.out (by omega)).mono ?_
  rintro e w1 ⟨v1, rfl, o1, b1⟩
  have hp := putB_len (lb : Int)
  go_wp2_with fail
  refine (joined_ov v1 b (xs ++ putB (lb : Int)) ts _ _ _ _ o1 (isBytes_append hx.1 (putB_bytes _)) (hy.below b1) HLB.out (by rw [List.length_append]; omega) (by omega)).mono ?_
  rintro e w2 ⟨v2, rfl, o2, b2⟩
  go_wp2
  go_ret
  exact ⟨v2, rfl, by rw [HT.out, ← List.append_assoc]; exact o2.base b1.size, b1.trans (b2.mono b1.size)⟩

set_option maxHeartbeats 1000000 in
theorem specPutText_any (a b : Option Addr) (xs ts : List Int) (la ca lb cb : Nat) (w : World) (hx : Reads w a xs) (hy : Reads w b ts) (hla : la = xs.length) (hlb : lb = ts.length) (hl : xs.length ≤ 2000000) (hm : ts.length ≤ 2000000)
  (na : a = none → la = 0 ∧ ca = 0) (nb : b = none → lb = 0 ∧ cb = 0) :
  Calls Tryz.prog 262 #[.slice a la ca, .slice b lb cb] w fun e w' => ∃ v, e = .returned v ∧ Owns w' w.heap.size v (xs ++ textB ts) ∧ Below w.heap.size w w' := by
 have HLA : Hid _ := hla
 have HLB : Hid _ := hlb
 have NA : Hid _ := na
 have NB : Hid _ := nb
 have hlb' : lb ≤ 2000000 := by omega
 have HX : Hid (Reads (w.alloc (.cells #[] 5)) a xs) := hx.below ((Below.refl _ _).alloc (Nat.le_refl _) _)
 have HB1 : Hid (Below w.heap.size w (w.alloc (.cells #[] 5))) := (Below.refl _ _).alloc (Nat.le_refl _) _
 clear hla hlb na nb
 by_cases h40 : 40 < lb
 ·have HT : Hid (textB ts = []) := by show _ = _; unfold textB; rw [if_pos (by rw [← HLB.out]; exact h40)]
  go_enter Tryz.func262, Tryz.ntmps262
  go_wp2_with (at_builtin; go_must (refine wpList_app _ rfl (.tmp 8) (.tmp 9) rfl w.heap.size _ [] xs rfl (owns_empty w) a la ca rfl HLA.out HX.out (by simp) (by omega) (by simp) NA.out ?_; intro v w1 ho hg))
  go_ret
  exact ⟨v, rfl, by rw [HT.out]; simpa using ho, HB1.out.grown hg (by simp) (fun k hk => ((owns_empty w).lt k hk).1)⟩
 ·have HT : Hid (textB ts = putB (lb : Int) ++ ts) := by show _ = _; unfold textB; rw [if_neg (by rw [← HLB.out]; exact h40), HLB.out]
  clear HX HB1
  go_enter Tryz.func262, Tryz.ntmps262
  go_wp2_with fail
  refine (specPut_any a xs _ _ _ _ hx HLA.out (by omega) NA.out).mono ?_
  rintro e w1 ⟨v1, rfl, o1, b1⟩
  have hp := putB_len (lb : Int)
  go_wp2_with (at_builtin; go_must (refine wpList_app _ rfl (.tmp 14) (.tmp 15) rfl w.heap.size v1 (xs ++ putB (lb : Int)) ts rfl o1 b lb cb rfl HLB.out (hy.below b1) (by rw [List.length_append]; omega) (by omega) b1.size NB.out ?_; intro v2 w2 ho hg))
  go_ret
  exact ⟨v2, rfl, by rw [HT.out, ← List.append_assoc]; exact ho, b1.grown hg b1.size (fun k hk => (o1.lt k hk).1)⟩
end
section
theorem getLoop_put (f : Nat) (n : Int) (r : List Int) (i : Nat) (m sc : Int) (h0 : 0 ≤ n) (h1 : n < wt (f + 1)) (hf : f ≤ 4) (hi : i = 0 ∨ 0 < n) (hs : 0 ≤ sc) (hm : m + n * sc ≤ 2147483647) :
  getLoop (f + 1) (numB f n ++ r) i m sc = some (m + n * sc, i + (numB f n).length) := by
 induction f generalizing n i m sc with
 | zero =>
  have h2 : n < 128 := h1
  show getLoop 1 (n :: r) i m sc = _
  rw [getLoop_end (by omega) (by omega)]; rfl
 | succ f ih =>
  by_cases h2 : n < 128
  ·rw [numB_small _ _ h2]
   show getLoop (f + 1 + 1) (n :: r) i m sc = _
   rw [getLoop_end (by omega) (by omega)]; rfl
  ·rw [numB_more _ _ h2]
   show getLoop (f + 1 + 1) ((n % 128 + 128) :: (numB f (n / 128) ++ r)) i m sc = _
   rw [getLoop_more (by omega)]
   have hw := wt_succ (f + 1) (by omega)
   have e : m + (n % 128 + 128 - 128) * sc + n / 128 * (sc * 128) = m + n * sc := by
    have hn : n = 128 * (n / 128) + n % 128 := by omega
    generalize n / 128 = q at hn
    generalize n % 128 = t at hn
    subst hn
    grind
   rw [ih (n / 128) (i + 1) _ _ (by omega) (by omega) (by omega) (.inr (by omega)) (by omega) (by rw [e]; exact hm), e]
   simp only [List.length_cons]
   congr 2
   omega
theorem getNum_put (ys r : List Int) (n : Int) (h0 : 0 ≤ n) (h1 : n ≤ 2147483647) : getNum (ys ++ putB n ++ r) (ys.length : Int) = (n, (ys.length : Int) + ((putB n).length : Int)) := by
 have hp : putB n = numB 4 n := by unfold putB; rw [if_neg (by omega)]
 rw [hp, getNum_some (n := n) (c := (numB 4 n).length)]
 rw [List.append_assoc, List.drop_left]
 have := getLoop_put 4 n r 0 0 1 h0 (by show n < 34359738368; omega) (by omega) (.inl rfl) (by omega) (by omega)
 rw [this]
 simp
theorem getLoop_only (f : Nat) (r : List Int) (i : Nat) (m sc v : Int) (c : Nat) (hr : isBytes r) (h : getLoop (f + 1) r i m sc = some (v, c)) :
  ∃ q, 0 ≤ q ∧ v = m + q * sc ∧ i < c ∧ r.take (c - i) = numB f q ∧ (0 < i → 0 < q) := by
 induction f generalizing r i m sc with
 | zero =>
  cases r with
  | nil => cases h
  | cons x r =>
   have hx : 0 ≤ x ∧ x ≤ 255 := by simpa using hr 0
   by_cases h1 : 128 ≤ x
   ·rw [getLoop_more h1] at h; cases h
   ·by_cases h2 : (0 < i ∧ x = 0) ∨ 2147483647 < m + x * sc
    ·rw [getLoop_bad h1 h2] at h; cases h
    ·rw [getLoop_end h1 h2] at h
     simp only [Option.some.injEq, Prod.mk.injEq] at h
     obtain ⟨rfl, rfl⟩ := h
     exact ⟨x, hx.1, rfl, by omega, by rw [show i + 1 - i = 1 by omega]; rfl, fun hi => by omega⟩
 | succ f ih =>
  cases r with
  | nil => cases h
  | cons x r =>
   have hx : 0 ≤ x ∧ x ≤ 255 := by simpa using hr 0
   have hr' : isBytes r := fun j => by simpa using hr (j + 1)
   by_cases h1 : 128 ≤ x
   ·rw [getLoop_more h1] at h
    obtain ⟨q, hq0, hv, hic, htk, hpos⟩ := ih r (i + 1) _ _ hr' h
    have hq := hpos (by omega)
    refine ⟨(x - 128) + 128 * q, by omega, ?_, by omega, ?_, fun _ => by omega⟩
    ·rw [hv]; grind
    ·rw [show c - i = (c - (i + 1)) + 1 by omega, List.take_succ_cons, htk, numB_more _ _ (by omega)]
     have e1 : (x - 128 + 128 * q) % 128 + 128 = x := by omega
     have e2 : (x - 128 + 128 * q) / 128 = q := by omega
     rw [e1, e2]
   ·by_cases h2 : (0 < i ∧ x = 0) ∨ 2147483647 < m + x * sc
    ·rw [getLoop_bad h1 h2] at h; cases h
    ·rw [getLoop_end h1 h2] at h
     simp only [Option.some.injEq, Prod.mk.injEq] at h
     obtain ⟨rfl, rfl⟩ := h
     exact ⟨x, hx.1, rfl, by omega, by rw [show i + 1 - i = 1 by omega, numB_small _ _ (by omega)]; rfl, fun hi => by omega⟩
theorem getNum_only (zs : List Int) (p n : Int) (s : Nat) (hz : isBytes zs) (h : getNum zs p = (n, (s : Int))) : 0 ≤ p ∧ p.toNat ≤ s ∧ s ≤ zs.length ∧ zs.take p.toNat ++ putB n = zs.take s := by
 have hfit := getNum_fits hz h
 obtain ⟨hn0, hn1, hp0, hps, hsl⟩ : 0 ≤ n ∧ n ≤ 2147483647 ∧ 0 ≤ p ∧ p < (s : Int) ∧ (s : Int) ≤ zs.length := by omega
 refine ⟨hp0, by omega, by omega, ?_⟩
 unfold getNum at h
 rw [if_neg (by omega)] at h
 split at h
 ·simp only [Prod.mk.injEq] at h; omega
 ·rename_i m c hg
  simp only [Prod.mk.injEq] at h
  obtain ⟨rfl, hs⟩ := h
  obtain ⟨q, hq0, hv, hic, htk, _⟩ := getLoop_only 4 _ 0 0 1 _ _ (isBytes_drop hz _) hg
  obtain rfl : m = q := by omega
  have hpb : putB m = numB 4 m := by unfold putB; rw [if_neg (by omega)]
  rw [hpb, ← htk, Nat.sub_zero, ← List.take_add]
  congr 1
  omega
end
section
def flagB (b : Bool) : List Int := if b then [1] else [0]
def hdB (h : Hd) : List Int := putB h.sh ++ (putB h.ino ++ flagB h.dir)
def opB (o : OpD) : List Int := putB o.kind ++ (hdB o.dir ++ (textB o.nm ++ (hdB o.to ++ (textB o.asn ++ putB o.val))))
def enB (e : En) : List Int := textB e.nm ++ hdB e.h
def ensB (l : List En) : List Int := l.flatMap enB
def rpB (r : RpD) : List Int := putB r.code ++ (hdB r.h ++ (putB r.val ++ (putB r.list.length ++ ensB r.list)))
def txB (t : TxD) : List Int := putB t.1 ++ (putB t.2.1 ++ putB t.2.2)
def ptB (p : PtD) : List Int := putB p.kind ++ (hdB p.h ++ (textB p.asn ++ hdB p.to))
def msRest (m : MsD) : List Int :=
 if m.kind = 0 then putB m.req ++ opB m.op
 else if m.kind = 1 then putB m.req ++ rpB m.rp
 else if m.kind = 2 then txB m.tx ++ ptB m.pt
 else if m.kind = 3 then txB m.tx ++ (ptB m.pt ++ (putB m.code ++ hdB m.h))
 else if m.kind = 5 then txB m.tx ++ putB m.code
 else if m.kind = 6 then txB m.tx ++ (putB m.req ++ hdB m.h)
 else if m.kind = 7 then txB m.tx ++ (putB m.req ++ (putB m.code ++ hdB m.h))
 else txB m.tx
def msB (m : MsD) : List Int := putB m.kind ++ (putB m.fr ++ (putB m.to ++ msRest m))
theorem flagB_bytes (b : Bool) : isBytes (flagB b) := by cases b <;> exact isBytes_cons (by decide) (by decide) isBytes_nil
theorem flagB_len (b : Bool) : (flagB b).length = 1 := by cases b <;> rfl
theorem hdB_len (h : Hd) : (hdB h).length ≤ 11 := by
 have h1 := putB_len h.sh; have h2 := putB_len h.ino; have h3 := flagB_len h.dir
 unfold hdB; rw [List.length_append, List.length_append]; omega
theorem enB_len (e : En) : (enB e).length ≤ 56 := by
 have h1 := textB_len e.nm; have h2 := hdB_len e.h
 unfold enB; rw [List.length_append]; omega
theorem ensB_len (l : List En) : (ensB l).length ≤ 56 * l.length := by
 induction l with
 | nil => simp [ensB]
 | cons e l ih => have := enB_len e; unfold ensB at *; rw [List.flatMap_cons, List.length_append, List.length_cons]; omega
theorem txB_len (t : TxD) : (txB t).length ≤ 15 := by
 have h1 := putB_len t.1; have h2 := putB_len t.2.1; have h3 := putB_len t.2.2
 unfold txB; rw [List.length_append, List.length_append]; omega
theorem opB_len (o : OpD) : (opB o).length ≤ 122 := by
 have h1 := putB_len o.kind; have h2 := hdB_len o.dir; have h3 := textB_len o.nm; have h4 := hdB_len o.to; have h5 := textB_len o.asn; have h6 := putB_len o.val
 unfold opB; simp only [List.length_append]; omega
theorem ptB_len (p : PtD) : (ptB p).length ≤ 72 := by
 have h1 := putB_len p.kind; have h2 := hdB_len p.h; have h3 := textB_len p.asn; have h4 := hdB_len p.to
 unfold ptB; simp only [List.length_append]; omega
theorem Below.al2 {a b : World} (h : Below a.heap.size a b) (o : Obj) : Below a.heap.size a (b.alloc o) := h.alloc h.size _
abbrev Ap (f : FuncId) (args : Array Value) (w : World) (zs : List Int) : Prop :=
 Calls Tryz.prog f args w fun e w' => ∃ v, e = .returned v ∧ isBytes zs ∧ Owns w' w.heap.size v zs ∧ Below w.heap.size w w'
theorem Owns.rdT {w : World} {B : Nat} {v : Value} {zs : List Int} (o : Owns w B v zs) (h : isBytes zs) : RdV w (fun _ => True) v (.bytes zs) := rdS_of_owns h (o.base (Nat.zero_le _)) (fun _ _ => trivial)
theorem specPutR (v : Value) (xs : List Int) (n : Int) (S : Nat → Prop) (w : World) (r : RdV w S v (.bytes xs)) (hl : xs.length ≤ 2000000) : Ap 219 #[v, .i n] w (xs ++ putB n) := by
 obtain ⟨a, cap, rfl, hh, hr⟩ := r.b.reads
 exact (specPut_any a xs _ cap n w hr rfl (by omega) hh.2.2).mono fun e w' ⟨u, he, ho, hb⟩ => ⟨u, he, isBytes_append hr.1 (putB_bytes n), ho, hb⟩
theorem implPutR (v : Value) (xs : List Int) (n : Int) (S : Nat → Prop) (w : World) (r : RdV w S v (.bytes xs)) (hl : xs.length ≤ 2000000) : Ap 76 #[v, .i n] w (xs ++ putB n) := by
 obtain ⟨a, cap, rfl, hh, hr⟩ := r.b.reads
 exact (implPut_any a xs _ cap n w hr rfl (by omega)).mono fun e w' ⟨u, he, ho, hb⟩ => ⟨u, he, isBytes_append hr.1 (putB_bytes n), ho, hb⟩
theorem specTextR (v u : Value) (xs ts : List Int) (S S2 : Nat → Prop) (w : World) (r : RdV w S v (.bytes xs)) (r2 : RdV w S2 u (.bytes ts)) (hl : xs.length ≤ 2000000) (hm : ts.length ≤ 2000000) : Ap 262 #[v, u] w (xs ++ textB ts) := by
 obtain ⟨a, cap, rfl, hh, hr⟩ := r.b.reads
 obtain ⟨b, cbp, rfl, gh, gr⟩ := r2.b.reads
 exact (specPutText_any a b xs ts _ cap _ cbp w hr gr rfl rfl hl hm hh.2.2 gh.2.2).mono fun e w' ⟨u, he, ho, hb⟩ => ⟨u, he, isBytes_append hr.1 (textB_bytes gr.1), ho, hb⟩
theorem implTextR (v u : Value) (xs ts : List Int) (S S2 : Nat → Prop) (w : World) (r : RdV w S v (.bytes xs)) (r2 : RdV w S2 u (.bytes ts)) (hl : xs.length ≤ 2000000) (hm : ts.length ≤ 2000000) : Ap 145 #[v, u] w (xs ++ textB ts) := by
 obtain ⟨a, cap, rfl, hh, hr⟩ := r.b.reads
 obtain ⟨b, cbp, rfl, gh, gr⟩ := r2.b.reads
 exact (implPutText_any a b xs ts _ cap _ cbp w hr gr rfl rfl hl hm).mono fun e w' ⟨u, he, ho, hb⟩ => ⟨u, he, isBytes_append hr.1 (textB_bytes gr.1), ho, hb⟩
theorem bl1 (B : Nat) (w : World) : Below B w w := Below.refl B w
theorem bl2 {a b : World} (h : Below a.heap.size a b) (o : Obj) : Below a.heap.size a (b.alloc o) := Below.al2 h o
theorem bl3 {B : Nat} {a b : World} (h : Below B a b) : Below B a b.drew := Below.drew h
theorem bl4 {B : Nat} {a b : World} (h : Below B a b) (n : Nat) : Below B a (b.drewN n) := below_drewN2 h n
end
section
def Took (zs : List Int) (p : Int) (B : List Int) (s : Int) : Prop := 0 ≤ p ∧ p ≤ s ∧ s ≤ zs.length ∧ zs.take p.toNat ++ B = zs.take s.toNat
theorem Took.trans {zs B B2 : List Int} {p s t : Int} (h : Took zs p B s) (k : Took zs s B2 t) : Took zs p (B ++ B2) t := by
 obtain ⟨h1, h2, h3, h4⟩ := h
 obtain ⟨k1, k2, k3, k4⟩ := k
 exact ⟨h1, by omega, k3, by rw [← List.append_assoc, h4, k4]⟩
theorem Took.all {zs B : List Int} (h : Took zs 0 B zs.length) : B = zs := by
 have := h.2.2.2
 simpa using this
theorem Took.nil {zs : List Int} {p : Int} (h : 0 ≤ p) (h2 : p ≤ zs.length) : Took zs p [] p := ⟨h, by omega, h2, by simp⟩
theorem num_took {zs : List Int} {p : Int} (hz : isBytes zs) (h : 0 ≤ (getNum zs p).2) : Took zs p (putB (getNum zs p).1) (getNum zs p).2 := by
 obtain ⟨n, nx, hg⟩ : ∃ n nx, getNum zs p = (n, nx) := ⟨_, _, rfl⟩
 rw [hg] at h ⊢
 dsimp only at h ⊢
 obtain ⟨s, rfl⟩ : ∃ s : Nat, nx = (s : Int) := ⟨nx.toNat, by omega⟩
 obtain ⟨h1, h2, h3, h4⟩ := getNum_only zs p n s hz hg
 exact ⟨h1, by omega, by omega, by simpa using h4⟩
theorem text_took {zs : List Int} {p : Int} (hz : isBytes zs) (h : 0 ≤ (getText zs p).2) : Took zs p (textB (getText zs p).1) (getText zs p).2 := by
 obtain ⟨n, nx, hg⟩ : ∃ n nx, getNum zs p = (n, nx) := ⟨_, _, rfl⟩
 have hf := getNum_fits hz hg
 unfold getText at h ⊢
 rw [hg] at h ⊢
 dsimp only at h ⊢
 by_cases hb : nx < 0 ∨ 40 < n ∨ (zs.length : Int) - nx < n
 ·rw [if_pos hb] at h; simp at h
 ·rw [if_neg hb] at h ⊢
  have h0 := num_took (p := p) hz (by rw [hg]; show (0 : Int) ≤ nx; omega)
  rw [hg] at h0
  dsimp only at h0 ⊢
  have hl : ((zs.drop nx.toNat).take n.toNat).length = n.toNat := by rw [List.length_take, List.length_drop]; omega
  have ht : textB ((zs.drop nx.toNat).take n.toNat) = putB n ++ (zs.drop nx.toNat).take n.toNat := by
   unfold textB
   rw [hl, if_neg (by omega)]
   congr 2; omega
  rw [ht]
  refine h0.trans ⟨by omega, by omega, by omega, ?_⟩
  rw [show (nx + n).toNat = nx.toNat + n.toNat by omega, List.take_add]
def rdFlag (zs : List Int) (p : Int) : Bool × Int := if p < 0 ∨ (zs.length : Int) ≤ p ∨ 1 < zs[p.toNat]?.getD 0 then (false, -1) else (zs[p.toNat]?.getD 0 == 1, p + 1)
theorem take_next (zs : List Int) (k : Nat) (h : k < zs.length) : zs.take (k + 1) = zs.take k ++ [zs[k]?.getD 0] := by
 rw [← List.take_append_getElem h, List.getElem?_eq_getElem h]; rfl
theorem flag_took {zs : List Int} {p : Int} (hz : isBytes zs) (h : 0 ≤ (rdFlag zs p).2) : Took zs p (flagB (rdFlag zs p).1) (rdFlag zs p).2 := by
 unfold rdFlag at h ⊢
 by_cases hb : p < 0 ∨ (zs.length : Int) ≤ p ∨ 1 < zs[p.toNat]?.getD 0
 ·rw [if_pos hb] at h; simp at h
 ·rw [if_neg hb]
  dsimp only
  have hk : p.toNat < zs.length := by omega
  refine ⟨by omega, by omega, by omega, ?_⟩
  rw [show (p + 1).toNat = p.toNat + 1 by omega, take_next zs _ hk]
  have hc : 0 ≤ zs[p.toNat]?.getD 0 := by
   exact (hz p.toNat).1
  generalize zs[p.toNat]?.getD 0 = c at hb hc
  obtain rfl | rfl : c = 0 ∨ c = 1 := by omega
  ·rfl
  ·rfl
theorem flag_num {zs : List Int} (p : Int) (hz : isBytes zs) : ((getNum zs p).1 == 1, if (getNum zs p).1 = 0 ∨ (getNum zs p).1 = 1 then (getNum zs p).2 else -1) = rdFlag zs p := by
 obtain ⟨n, nx, hg⟩ : ∃ n nx, getNum zs p = (n, nx) := ⟨_, _, rfl⟩
 have hf := getNum_fits hz hg
 by_cases ho : p < 0 ∨ (zs.length : Int) ≤ p
 ·have hr : rdFlag zs p = (false, -1) := by unfold rdFlag; rw [if_pos (by omega)]
  rw [getNum_out zs p ho, hr]
  rfl
 ·have hk : p.toNat < zs.length := by omega
  have hc : 0 ≤ zs[p.toNat]?.getD 0 := by
   exact (hz p.toNat).1
  have hd : zs.drop p.toNat = zs[p.toNat]?.getD 0 :: zs.drop (p.toNat + 1) := by rw [List.drop_eq_getElem_cons hk, List.getElem?_eq_getElem hk]; rfl
  by_cases h128 : 128 ≤ zs[p.toNat]?.getD 0
  ·have hr : rdFlag zs p = (false, -1) := by unfold rdFlag; rw [if_pos (by omega)]
   rw [hr, hg]
   dsimp only
   rcases hf with ⟨rfl, rfl⟩ | ⟨hn0, _, hp0, hps, hsl⟩
   ·rfl
   ·have ht := num_took (p := p) hz (by rw [hg]; show (0 : Int) ≤ nx; omega)
    rw [hg] at ht
    have h4 : zs.take p.toNat ++ putB n = zs.take nx.toNat := ht.2.2.2
    have hne : ¬ (n = 0 ∨ n = 1) := by
     intro hn
     have hpb : putB n = [n] := by rcases hn with rfl | rfl <;> rfl
     rw [hpb] at h4
     have hlen := congrArg List.length h4
     rw [List.length_append, List.length_take, List.length_take, List.length_singleton] at hlen
     have hnx : nx.toNat = p.toNat + 1 := by omega
     rw [hnx, take_next zs _ hk] at h4
     have := List.append_cancel_left h4
     simp at this
     omega
    rw [if_neg hne]
    have : (n == 1) = false := by simp; omega
    rw [this]
  ·have hgn : getNum zs p = (zs[p.toNat]?.getD 0, p + 1) := by
    unfold getNum
    rw [if_neg (by omega), hd, getLoop_end (f := 4) (by omega) (by omega)]
    simp
   rw [hgn]
   dsimp only
   by_cases h1 : 1 < zs[p.toNat]?.getD 0
   ·have hr : rdFlag zs p = (false, -1) := by unfold rdFlag; rw [if_pos (.inr (.inr h1))]
    have ht : (zs[p.toNat]?.getD 0 == 1) = false := by
     generalize zs[p.toNat]?.getD 0 = c at h1
     simp; omega
    rw [hr, ht, if_neg (by omega)]
   ·have hr : rdFlag zs p = (zs[p.toNat]?.getD 0 == 1, p + 1) := by unfold rdFlag; rw [if_neg (by omega)]
    rw [hr, if_pos (by omega)]
def rdHd (zs : List Int) (p : Int) : Hd × Int := let a := getNum zs p; let b := getNum zs a.2; let c := rdFlag zs b.2; ((a.1, b.1, c.1), c.2)
def rdOp (zs : List Int) (p : Int) : OpD × Int := let k := getNum zs p; let d := rdHd zs k.2; let n := getText zs d.2; let t := rdHd zs n.2; let s := getText zs t.2; let v := getNum zs s.2; (⟨k.1, d.1, n.1, t.1, s.1, v.1⟩, v.2)
def rdTx (zs : List Int) (p : Int) : TxD × Int := let a := getNum zs p; let b := getNum zs a.2; let c := getNum zs b.2; ((a.1, b.1, c.1), c.2)
def rdPt (zs : List Int) (p : Int) : PtD × Int := let k := getNum zs p; let d := rdHd zs k.2; let n := getText zs d.2; let t := rdHd zs n.2; (⟨k.1, d.1, n.1, t.1⟩, t.2)
theorem num_neg {zs : List Int} {p : Int} (h : 0 ≤ (getNum zs p).2) : 0 ≤ p := by
 by_cases hp : p < 0
 ·rw [getNum_out zs p (.inl hp)] at h; simp at h
 ·omega
theorem text_neg {zs : List Int} {p : Int} (h : 0 ≤ (getText zs p).2) : 0 ≤ p := by
 by_cases hp : p < 0
 ·unfold getText at h; rw [getNum_out zs p (.inl hp)] at h; simp at h
 ·omega
theorem flag_neg {zs : List Int} {p : Int} (h : 0 ≤ (rdFlag zs p).2) : 0 ≤ p := by
 by_cases hp : p < 0
 ·unfold rdFlag at h; rw [if_pos (.inl hp)] at h; simp at h
 ·omega
theorem hd_neg {zs : List Int} {p : Int} (h : 0 ≤ (rdHd zs p).2) : 0 ≤ p := num_neg (num_neg (flag_neg h))
theorem hd_took {zs : List Int} {p : Int} (hz : isBytes zs) (h : 0 ≤ (rdHd zs p).2) : Took zs p (hdB (rdHd zs p).1) (rdHd zs p).2 :=
 (num_took hz (num_neg (flag_neg h))).trans ((num_took hz (flag_neg h)).trans (flag_took hz h))
theorem tx_neg {zs : List Int} {p : Int} (h : 0 ≤ (rdTx zs p).2) : 0 ≤ p := num_neg (num_neg (num_neg h))
theorem tx_took {zs : List Int} {p : Int} (hz : isBytes zs) (h : 0 ≤ (rdTx zs p).2) : Took zs p (txB (rdTx zs p).1) (rdTx zs p).2 :=
 (num_took hz (num_neg (num_neg h))).trans ((num_took hz (num_neg h)).trans (num_took hz h))
theorem op_neg {zs : List Int} {p : Int} (h : 0 ≤ (rdOp zs p).2) : 0 ≤ p := num_neg (hd_neg (text_neg (hd_neg (text_neg (num_neg h)))))
theorem op_took {zs : List Int} {p : Int} (hz : isBytes zs) (h : 0 ≤ (rdOp zs p).2) : Took zs p (opB (rdOp zs p).1) (rdOp zs p).2 :=
 (num_took hz (hd_neg (text_neg (hd_neg (text_neg (num_neg h)))))).trans ((hd_took hz (text_neg (hd_neg (text_neg (num_neg h))))).trans ((text_took hz (hd_neg (text_neg (num_neg h)))).trans ((hd_took hz (text_neg (num_neg h))).trans ((text_took hz (num_neg h)).trans (num_took hz h)))))
theorem pt_neg {zs : List Int} {p : Int} (h : 0 ≤ (rdPt zs p).2) : 0 ≤ p := num_neg (hd_neg (text_neg (hd_neg h)))
theorem pt_took {zs : List Int} {p : Int} (hz : isBytes zs) (h : 0 ≤ (rdPt zs p).2) : Took zs p (ptB (rdPt zs p).1) (rdPt zs p).2 :=
 (num_took hz (hd_neg (text_neg (hd_neg h)))).trans ((hd_took hz (text_neg (hd_neg h))).trans ((text_took hz (hd_neg h)).trans (hd_took hz h)))
def rdEns (zs : List Int) : Nat → Int → List En × Int
 | 0, p => ([], p)
 | f + 1, p => if p < 0 then ([], p) else (⟨(getText zs p).1, (rdHd zs (getText zs p).2).1⟩ :: (rdEns zs f (rdHd zs (getText zs p).2).2).1, (rdEns zs f (rdHd zs (getText zs p).2).2).2)
def rdEnsP (zs : List Int) : Nat → Int → List En × Int
 | 0, p => ([], p)
 | f + 1, p => (⟨(getText zs p).1, (rdHd zs (getText zs p).2).1⟩ :: (rdEnsP zs f (rdHd zs (getText zs p).2).2).1, (rdEnsP zs f (rdHd zs (getText zs p).2).2).2)
theorem ens_neg {zs : List Int} (f : Nat) {p : Int} (h : 0 ≤ (rdEns zs f p).2) : 0 ≤ p := by
 cases f with
 | zero => exact h
 | succ f =>
  by_cases hp : p < 0
  ·rw [rdEns, if_pos hp] at h; exact h
  ·omega
theorem ensP_neg {zs : List Int} (f : Nat) : ∀ {p : Int}, 0 ≤ (rdEnsP zs f p).2 → 0 ≤ p := by
 induction f with
 | zero => intro p h; exact h
 | succ f ih => intro p h; exact text_neg (hd_neg (ih h))
theorem ens_same {zs : List Int} (f : Nat) : ∀ {p : Int}, 0 ≤ (rdEnsP zs f p).2 → rdEns zs f p = rdEnsP zs f p := by
 induction f with
 | zero => intro p h; rfl
 | succ f ih =>
  intro p h
  have h1 : 0 ≤ p := ensP_neg (f + 1) h
  have h2 := ih (p := (rdHd zs (getText zs p).2).2) h
  rw [rdEns, if_neg (by omega), rdEnsP, h2]
theorem ens_took {zs : List Int} (hz : isBytes zs) (f : Nat) : ∀ {p : Int}, p ≤ zs.length → 0 ≤ (rdEns zs f p).2 → Took zs p (ensB (rdEns zs f p).1) (rdEns zs f p).2 ∧ (rdEns zs f p).1.length = f := by
 induction f with
 | zero => intro p hp h; exact ⟨Took.nil h hp, rfl⟩
 | succ f ih =>
  intro p hp h
  have h1 : 0 ≤ p := ens_neg (f + 1) h
  rw [rdEns, if_neg (by omega)] at h ⊢
  dsimp only at h ⊢
  have h2 := ens_neg f h
  have t1 := text_took hz (hd_neg h2)
  have t2 := hd_took hz h2
  obtain ⟨t3, hl⟩ := ih t2.2.2.1 h
  refine ⟨?_, by rw [List.length_cons, hl]⟩
  have : ensB (⟨(getText zs p).1, (rdHd zs (getText zs p).2).1⟩ :: (rdEns zs f (rdHd zs (getText zs p).2).2).1) = textB (getText zs p).1 ++ (hdB (rdHd zs (getText zs p).2).1 ++ ensB (rdEns zs f (rdHd zs (getText zs p).2).2).1) := by
   simp [ensB, enB]
  rw [this]
  exact t1.trans (t2.trans t3)
end
section
def rdEnS (zs : List Int) (p : Int) : List En × Int := rdEns zs (min (getNum zs p).1.toNat 13) (getNum zs p).2
def rdEnP (zs : List Int) (p : Int) : List En × Int := if 12 < (getNum zs p).1 then ([], -1) else rdEnsP zs (getNum zs p).1.toNat (getNum zs p).2
def rdRp (e : Int → List En × Int) (zs : List Int) (p : Int) : RpD × Int := let k := getNum zs p; let h := rdHd zs k.2; let v := getNum zs h.2; let l := e v.2; (⟨k.1, h.1, v.1, l.1⟩, l.2)
def rdMs (e : Int → List En × Int) (zs : List Int) : MsD × Int :=
 let k := getNum zs 0; let f := getNum zs k.2; let t := getNum zs f.2
 if k.1 = 0 then let r := getNum zs t.2; let o := rdOp zs r.2; (⟨k.1, f.1, t.1, r.1, o.1, rp0, tx0, pt0, 0, hd0⟩, o.2)
 else if k.1 = 1 then let r := getNum zs t.2; let o := rdRp e zs r.2; (⟨k.1, f.1, t.1, r.1, op0, o.1, tx0, pt0, 0, hd0⟩, o.2)
 else let x := rdTx zs t.2
  if k.1 = 2 then let o := rdPt zs x.2; (⟨k.1, f.1, t.1, 0, op0, rp0, x.1, o.1, 0, hd0⟩, o.2)
  else if k.1 = 3 then let o := rdPt zs x.2; let c := getNum zs o.2; let h := rdHd zs c.2; (⟨k.1, f.1, t.1, 0, op0, rp0, x.1, o.1, c.1, h.1⟩, h.2)
  else if k.1 = 5 then let c := getNum zs x.2; (⟨k.1, f.1, t.1, 0, op0, rp0, x.1, pt0, c.1, hd0⟩, c.2)
  else if k.1 = 6 then let r := getNum zs x.2; let h := rdHd zs r.2; (⟨k.1, f.1, t.1, r.1, op0, rp0, x.1, pt0, 0, h.1⟩, h.2)
  else if k.1 = 7 then let r := getNum zs x.2; let c := getNum zs r.2; let h := rdHd zs c.2; (⟨k.1, f.1, t.1, r.1, op0, rp0, x.1, pt0, c.1, h.1⟩, h.2)
  else (⟨k.1, f.1, t.1, 0, op0, rp0, x.1, pt0, 0, hd0⟩, x.2)
theorem enP_neg {zs : List Int} {p : Int} (h : 0 ≤ (rdEnP zs p).2) : 0 ≤ p := by
 unfold rdEnP at h
 split at h
 ·simp at h
 ·exact num_neg (ensP_neg _ h)
theorem enP_took {zs : List Int} {p : Int} (hz : isBytes zs) (h : 0 ≤ (rdEnP zs p).2) : Took zs p (putB ((rdEnP zs p).1.length : Int) ++ ensB (rdEnP zs p).1) (rdEnP zs p).2 := by
 unfold rdEnP at h ⊢
 split at h
 ·simp at h
 ·rename_i hn
  rw [if_neg hn]
  have h1 := ensP_neg _ h
  have t1 := num_took hz h1
  have hs := ens_same _ h
  rw [← hs] at h ⊢
  obtain ⟨t2, hl⟩ := ens_took hz _ t1.2.2.1 h
  have hf : 0 ≤ (getNum zs p).1 := by
   obtain ⟨n, nx, hg⟩ : ∃ n nx, getNum zs p = (n, nx) := ⟨_, _, rfl⟩
   have := getNum_fits hz hg
   rw [hg]; show 0 ≤ n; omega
  rw [hl, show (((getNum zs p).1.toNat : Nat) : Int) = (getNum zs p).1 by omega]
  exact t1.trans t2
theorem rp_neg {zs : List Int} {p : Int} (h : 0 ≤ (rdRp (rdEnP zs) zs p).2) : 0 ≤ p := num_neg (hd_neg (num_neg (enP_neg h)))
theorem rp_took {zs : List Int} {p : Int} (hz : isBytes zs) (h : 0 ≤ (rdRp (rdEnP zs) zs p).2) : Took zs p (rpB (rdRp (rdEnP zs) zs p).1) (rdRp (rdEnP zs) zs p).2 :=
 (num_took hz (hd_neg (num_neg (enP_neg h)))).trans ((hd_took hz (num_neg (enP_neg h))).trans ((num_took hz (enP_neg h)).trans (enP_took hz h)))
theorem ms_took {zs : List Int} (hz : isBytes zs) (h : 0 ≤ (rdMs (rdEnP zs) zs).2) : Took zs 0 (msB (rdMs (rdEnP zs) zs).1) (rdMs (rdEnP zs) zs).2 := by
 have head : ∀ (B : List Int) (s : Int), 0 ≤ (getNum zs (getNum zs (getNum zs 0).2).2).2 → Took zs (getNum zs (getNum zs (getNum zs 0).2).2).2 B s → Took zs 0 (putB (getNum zs 0).1 ++ (putB (getNum zs (getNum zs 0).2).1 ++ (putB (getNum zs (getNum zs (getNum zs 0).2).2).1 ++ B))) s :=
  fun B s h0 t => (num_took hz (num_neg (num_neg h0))).trans ((num_took hz (num_neg h0)).trans ((num_took hz h0).trans t))
 unfold rdMs at h ⊢
 dsimp only at h ⊢
 by_cases k0 : (getNum zs 0).1 = 0
 ·simp only [k0, if_true] at h ⊢
  have hh := head _ _ (num_neg (op_neg h)) ((num_took hz (op_neg h)).trans (op_took hz h))
  rw [k0] at hh
  simpa [msB, msRest] using hh
 by_cases k1 : (getNum zs 0).1 = 1
 ·simp only [k1, if_true] at h ⊢
  simp only [show ¬ ((1 : Int) = 0) by omega, if_false] at h ⊢
  have hh := head _ _ (num_neg (rp_neg h)) ((num_took hz (rp_neg h)).trans (rp_took hz h))
  rw [k1] at hh
  simpa [msB, msRest] using hh
 simp only [k0, k1, if_false] at h ⊢
 by_cases k2 : (getNum zs 0).1 = 2
 ·simp only [k2, if_true] at h ⊢
  have hh := head _ _ (tx_neg (pt_neg h)) ((tx_took hz (pt_neg h)).trans (pt_took hz h))
  rw [k2] at hh
  simpa [msB, msRest] using hh
 by_cases k3 : (getNum zs 0).1 = 3
 ·simp only [k3, if_true] at h ⊢
  simp only [show ¬ ((3 : Int) = 2) by omega, if_false] at h ⊢
  have h1 := num_neg (hd_neg h)
  have hh := head _ _ (tx_neg (pt_neg h1)) ((tx_took hz (pt_neg h1)).trans ((pt_took hz h1).trans ((num_took hz (hd_neg h)).trans (hd_took hz h))))
  rw [k3] at hh
  simpa [msB, msRest] using hh
 simp only [k2, k3, if_false] at h ⊢
 by_cases k5 : (getNum zs 0).1 = 5
 ·simp only [k5, if_true] at h ⊢
  have hh := head _ _ (tx_neg (num_neg h)) ((tx_took hz (num_neg h)).trans (num_took hz h))
  rw [k5] at hh
  simpa [msB, msRest] using hh
 by_cases k6 : (getNum zs 0).1 = 6
 ·simp only [k6, if_true] at h ⊢
  simp only [show ¬ ((6 : Int) = 5) by omega, if_false] at h ⊢
  have h1 := num_neg (hd_neg h)
  have hh := head _ _ (tx_neg h1) ((tx_took hz h1).trans ((num_took hz (hd_neg h)).trans (hd_took hz h)))
  rw [k6] at hh
  simpa [msB, msRest] using hh
 by_cases k7 : (getNum zs 0).1 = 7
 ·simp only [k7, if_true] at h ⊢
  simp only [show ¬ ((7 : Int) = 5) by omega, show ¬ ((7 : Int) = 6) by omega, if_false] at h ⊢
  have h1 := num_neg (hd_neg h)
  have hh := head _ _ (tx_neg (num_neg h1)) ((tx_took hz (num_neg h1)).trans ((num_took hz h1).trans ((num_took hz (hd_neg h)).trans (hd_took hz h))))
  rw [k7] at hh
  simpa [msB, msRest] using hh
 simp only [k5, k6, k7, if_false] at h ⊢
 have hh := head _ _ (tx_neg h) (tx_took hz h)
 simpa [msB, msRest, k0, k1, k2, k3, k5, k6, k7] using hh
end
section
theorem getText_no {zs : List Int} {p n nx : Int} (hg : getNum zs p = (n, nx)) (h : nx < 0 ∨ 40 < n ∨ (zs.length : Int) - nx < n) : getText zs p = ([], -1) := by
 unfold getText; rw [hg]; exact if_pos h
theorem getText_yes {zs : List Int} {p : Int} {n nx : Nat} (hg : getNum zs p = ((n : Int), (nx : Int))) (h : ¬ ((nx : Int) < 0 ∨ 40 < (n : Int) ∨ (zs.length : Int) - nx < n)) : getText zs p = ((zs.drop nx).take n, (nx : Int) + n) := by
 unfold getText; rw [hg]; rw [if_neg h]; simp
theorem Reads.part {w : World} {b off : Nat} {zs : List Int} (h : Reads w (some ⟨b, off, none⟩) zs) (nx n : Nat) (hn : nx + n ≤ zs.length) : Reads w (some ⟨b, off + nx, none⟩) ((zs.drop nx).take n) := by
 refine ⟨isBytes_take (isBytes_drop h.1 _) _, ?_⟩
 rcases h.2 with h0 | ⟨b', off', ha, hb, hc⟩
 ·left; subst h0; simp
 ·simp only [Option.some.injEq, Addr.mk.injEq] at ha
  obtain ⟨rfl, rfl, _⟩ := ha
  refine .inr ⟨b, off + nx, rfl, hb, fun i hi => ?_⟩
  have hi' : i < n := by simp at hi; omega
  have := hc (nx + i) (by omega)
  rw [Nat.add_assoc, this, List.getElem?_take, if_pos hi', List.getElem?_drop]

set_option maxHeartbeats 1000000 in
theorem implGetText_any (a : Option Addr) (zs : List Int) (len cap : Nat) (p : Int) (w : World) (h : Reads w a zs) (hlen : len = zs.length) (hl : zs.length ≤ 2000000) (hcap : zs.length ≤ cap) (hcm : cap ≤ maxLen) :
  Calls Tryz.prog 261 #[.slice a len cap, .i p] w fun e w' => ∃ v, e = .returned (.tuple #[v, .i (getText zs p).2]) ∧ Owns w' w.heap.size v (getText zs p).1 ∧ Below w.heap.size w w' := by
 obtain ⟨n, nx, hg⟩ : ∃ n nx, getNum zs p = (n, nx) := ⟨_, _, rfl⟩
 have hget := implGet_any a zs cap p w h (by omega) hcap hcm
 rw [hg, ← hlen] at hget
 have HGET : Hid _ := hget
 have fits := getNum_fits h.1 hg
 have hll : len ≤ 2000000 := by omega
 have hlc : len ≤ cap := by omega
 unfold maxLen at hcm
 clear hget
 by_cases hno : nx < 0 ∨ 40 < n ∨ (zs.length : Int) - nx < n
 ·have HT : Hid _ := getText_no hg hno
  rw [← hlen] at hno
  have hn1 : -1 ≤ nx ∧ nx ≤ 2000000 ∧ 0 ≤ n ∧ n ≤ 2147483647 := by omega
  clear hg fits hlen hcap hl
  by_cases h1 : nx < 0
  ·clear hno
   go_enter Tryz.func261, Tryz.ntmps261
   go_wp2_with fail
   refine Calls.mono HGET.out ?_
   rintro e w1 ⟨rfl, rfl⟩
   go_wp2
   go_ret2
   exact ⟨.slice none 0 0, by rw [HT.out]; rfl, by rw [HT.out]; exact World.ownsRow_nil _ _ _ _, Below.refl _ _⟩
  ·by_cases h2 : 40 < n
   ·clear hno
    go_enter Tryz.func261, Tryz.ntmps261
    go_wp2_with fail
    refine Calls.mono HGET.out ?_
    rintro e w1 ⟨rfl, rfl⟩
    go_wp2
    go_ret2
    exact ⟨.slice none 0 0, by rw [HT.out]; rfl, by rw [HT.out]; exact World.ownsRow_nil _ _ _ _, Below.refl _ _⟩
   ·have h3 : (len : Int) - nx < n := by omega
    clear hno
    go_enter Tryz.func261, Tryz.ntmps261
    go_wp2_with fail
    refine Calls.mono HGET.out ?_
    rintro e w1 ⟨rfl, rfl⟩
    go_wp2
    go_ret2
    exact ⟨.slice none 0 0, by rw [HT.out]; rfl, by rw [HT.out]; exact World.ownsRow_nil _ _ _ _, Below.refl _ _⟩
 ·obtain ⟨N, rfl⟩ : ∃ N : Nat, n = (N : Int) := ⟨n.toNat, by omega⟩
  obtain ⟨X, rfl⟩ : ∃ X : Nat, nx = (X : Int) := ⟨nx.toNat, by omega⟩
  have HT : Hid _ := getText_yes hg hno
  obtain ⟨b, off, rfl⟩ : ∃ b off, a = some ⟨b, off, none⟩ := by
   rcases h.2 with rfl | ⟨b, off, ha, _⟩
   ·simp at fits; omega
   ·exact ⟨b, off, ha⟩
  have HP : Hid _ := h.part X N (by omega)
  have HN : Hid (N = ((zs.drop X).take N).length) := by show _ = _; simp; omega
  have hXN : X + N ≤ len := by omega
  have hN : N ≤ 40 := by omega
  have hX : 1 ≤ X := by omega
  have HEM : Hid (N = 0 → (zs.drop X).take N = []) := fun e => by rw [e]; simp
  clear hg fits hlen hcap hl hno
  by_cases hN0 : N = 0
  ·subst hN0
   have HT2 : Hid (getText zs p = ([], (X : Int))) := by show _ = _; rw [HT.out]; simp
   clear HT HP HN HEM
   go_enter Tryz.func261, Tryz.ntmps261
   go_wp2_with fail
   refine Calls.mono HGET.out ?_
   rintro e w1 ⟨rfl, rfl⟩
   go_wp2_with fail
   all_goals
    refine (joined_v none _ [] [] _ _ _ _ _ (reads_none _ _) (reads_none _ _) rfl rfl (by simp) (by simp)).mono ?_
    rintro e w2 ⟨v, rfl, ho, hb⟩
    go_wp2
    go_ret2
    exact ⟨v, by rw [HT2.out]; rfl, by rw [HT2.out]; exact ho, hb⟩
  ·clear HEM
   have hXc : X < cap := by omega
   go_enter Tryz.func261, Tryz.ntmps261
   go_wp2_with fail
   refine Calls.mono HGET.out ?_
   rintro e w1 ⟨rfl, rfl⟩
   go_wp2_with fail
   refine (joined_v none _ [] ((zs.drop X).take N) _ _ _ _ _ (reads_none _ _) HP.out rfl HN.out (by simp) (by rw [← HN.out]; omega)).mono ?_
   rintro e w2 ⟨v, rfl, ho, hb⟩
   go_wp2
   go_ret2
   exact ⟨v, by rw [HT.out]; rfl, by rw [HT.out]; exact ho, hb⟩
end
section
def CurV (T : TypeId) (pb : Nat) (zs : List Int) (v : Value) (p : Int) (w : World) : Prop := VarA w pb T #[v, .i p] ∧ RdV w (fun b => b < pb) v (.bytes zs) ∧ -1 ≤ p ∧ p ≤ zs.length
section
variable {T : TypeId} {pb : Nat} {zs : List Int} {v : Value} {p : Int} {w w' : World}
theorem CurV.lt (h : CurV T pb zs v p w) : pb < w.heap.size := VarA.lt h.1
theorem CurV.keep {S : Nat → Prop} (h : CurV T pb zs v p w) (t : Turned S w w') (hS : ∀ b, S b → pb < b) : CurV T pb zs v p w' :=
 ⟨VarA.turn h.1 t (fun hs => absurd (hS _ hs) (by omega)), RdV.keep (t.keeps (fun b hb hs => absurd (hS _ hs) (by omega))) h.2.1, h.2.2⟩
theorem CurV.step (h : CurV T pb zs v p w) (hb : Below w.heap.size w w') : CurV T pb zs v p w' := ⟨VarA.step h.1 hb, RdV.step h.2.1 hb, h.2.2⟩
theorem CurV.alloc (h : CurV T pb zs v p w) (o : Obj) : CurV T pb zs v p (w.alloc o) := h.step (Below.new1 o)
theorem CurV.put (h : CurV T pb zs v p w) (q : Int) (h1 : -1 ≤ q) (h2 : q ≤ zs.length) : CurV T pb zs v q (w.setCell ⟨pb, 1, none⟩ (.i q)) := by
 refine ⟨VarA.set h.1 1 (.i q), RdV.keep (Turned.keeps (S := fun b => b = pb) ((Turned.refl _ w).set ⟨pb, 1, none⟩ _ rfl) (fun b hb hs => by omega)) h.2.1, h1, h2⟩
end
theorem Turned.then {S S' : Nat → Prop} {a b c : World} (h : Turned S a b) (k : Turned S' b c) (hs : ∀ i, i < a.heap.size → S' i → S i) : Turned S a c :=
 ⟨k.os.trans h.os, k.tape.trans h.tape, k.output.trans h.output, Nat.le_trans h.size k.size, fun i hi hr => (k.block i (Nat.lt_of_lt_of_le hi h.size) (fun e => hr (hs i hi e))).trans (h.block i hi hr)⟩
theorem storeG_run {P : Program} {w : World} {g off : Nat} {T ty : TypeId} {old vs : Array Value} {u : Value} (hu : u.cells = vs) (hv : VarA w g T old) (hl : off + vs.size ≤ old.size) (hi : (P.info? ty).map (·.size) = some vs.size) (h1 : vs.toList.all (·.oneCell') = true) :
  (storeVar ty ⟨g, off, none⟩ u).run P w = .ok () (w.setRow g (old.toList.take off ++ vs.toList ++ old.toList.drop (off + vs.size)).toArray) := by
 have h := run_storeCells_at (P := P) g off T vs.toList 0 old w hv (by simpa using hl) (fun v hv => (List.all_eq_true.1 h1) v hv)
 cases hq : P.info? ty with
 | none => simp [hq] at hi
 | some i =>
  have hs : vs.size = i.size := by simp [hq] at hi; omega
  simp only [Nat.add_zero, Array.length_toList] at h
  simp [storeVar, sizeOf, typeInfo, hq, hu, hs, h]
theorem wpList_storeG {ty t' : TypeId} {dst : Option Tmp} {x y : Operand} {pos : String} {af : Array Edge} {ops : Array Oper} {rest : List Oper} {a : Act} {Q : Exit → Act → World → Prop} {w : World} {g off : Nat} {T : TypeId} {old vs new : Array Value} {u : Value}
  (hv : VarA w g T old) (hx : a.eval x = .pointer (some ⟨g, off, none⟩)) (hy : a.eval y = u) (hu : u.cells = vs) (hi : (Tryz.prog.info? ty).map (·.size) = some vs.size) (h1 : vs.toList.all (·.oneCell') = true) (hl : off + vs.size ≤ old.size)
  (hnew : (old.toList.take off ++ vs.toList ++ old.toList.drop (off + vs.size)).toArray = new)
  (hK : ∀ w', VarA w' g T new → Turned (fun b => b = g) w w' → wpList Tryz.prog ops Q rest (a.put dst undef) w') :
  wpList Tryz.prog ops Q (⟨dst, .store ty x y, t', pos, af, none⟩ :: rest) a w := by
 refine wpList_plain rfl fun K' hK' => ?_
 unfold Oper.wp execOp
 simp only [hx, hy, Instr.storeAt, Instr.sureAddr, Sem.run_bind, Sem.run_pure, Result.andThen_ok, storeG_run hu hv hl hi h1]
 rw [hnew]
 exact hK' _ _ (hK _ (VarA.row hv) (turned_row w g new))
theorem getNum_at {zs : List Int} (hz : isBytes zs) (p : Int) : -1 ≤ (getNum zs p).2 ∧ (getNum zs p).2 ≤ zs.length := by
 obtain ⟨n, nx, hg⟩ : ∃ n nx, getNum zs p = (n, nx) := ⟨_, _, rfl⟩
 have := getNum_fits hz hg
 rw [hg]; dsimp only; omega
theorem getText_at {zs : List Int} (hz : isBytes zs) (p : Int) : -1 ≤ (getText zs p).2 ∧ (getText zs p).2 ≤ zs.length := by
 obtain ⟨n, nx, hg⟩ : ∃ n nx, getNum zs p = (n, nx) := ⟨_, _, rfl⟩
 have := getNum_fits hz hg
 unfold getText
 rw [hg]; dsimp only
 split
 ·exact ⟨by simp, by simp⟩
 ·dsimp only; omega
theorem RdV.zs {w : World} {S : Nat → Prop} {v : Value} {zs : List Int} (r : RdV w S v (.bytes zs)) : isBytes zs := r.b.reads.choose_spec.choose_spec.2.2.1
theorem implGetR (v : Value) (zs : List Int) (S : Nat → Prop) (p : Int) (w : World) (r : RdV w S v (.bytes zs)) (hl : zs.length ≤ 2000000) :
  Calls Tryz.prog 151 #[v, .i p] w fun e w' => e = .returned (.tuple #[.i (getNum zs p).1, .i (getNum zs p).2]) ∧ w' = w := by
 obtain ⟨a, cap, rfl, hh, hr⟩ := r.b.reads
 exact implGet_any a zs cap p w hr (by omega) hh.1 hh.2.1
theorem implGetTextR (v : Value) (zs : List Int) (S : Nat → Prop) (p : Int) (w : World) (r : RdV w S v (.bytes zs)) (hl : zs.length ≤ 2000000) :
  Calls Tryz.prog 261 #[v, .i p] w fun e w' => ∃ v, e = .returned (.tuple #[v, .i (getText zs p).2]) ∧ Owns w' w.heap.size v (getText zs p).1 ∧ Below w.heap.size w w' := by
 obtain ⟨a, cap, rfl, hh, hr⟩ := r.b.reads
 exact implGetText_any a zs _ cap p w hr rfl hl hh.1 hh.2.1
abbrev Gone (T : TypeId) (pb : Nat) (zs : List Int) (v : Value) (q : Int) (w w' : World) : Prop := CurV T pb zs v q w' ∧ Turned (fun b => b = pb) w w'
theorem Turned.drew1 (S : Nat → Prop) (a : World) : Turned S a a.drew := ⟨rfl, rfl, rfl, Nat.le_refl _, fun _ _ _ => rfl⟩
theorem CurV.dr {T : TypeId} {pb : Nat} {zs : List Int} {v : Value} {p : Int} {w : World} (h : CurV T pb zs v p w) : CurV T pb zs v p w.drew := h.step (Below.drew (Below.refl _ _))
theorem owNilB (w : World) (S : Nat → Prop) : OwV w S (.slice none 0 0) (.bytes []) := ⟨isBytes_nil, ⟨rfl, .inl ⟨rfl, rfl⟩⟩, fun b hb => by cases hb⟩
set_option maxHeartbeats 2000000 in
theorem implNumC (pb : Nat) (zs : List Int) (v : Value) (p : Int) (w : World) (h : CurV 108 pb zs v p w) (hl : zs.length ≤ 2000000) :
  Calls Tryz.prog 68 #[.pointer (some ⟨pb, 0, none⟩)] w fun e w' => e = .returned (.i (getNum zs p).1) ∧ Gone 108 pb zs v (getNum zs p).2 w w' := by
 have HG : Hid (∀ W, Below w.heap.size w W → _) := fun W hW => implGetR v zs _ p W (RdV.step h.2.1 hW) hl
 have hz := RdV.zs h.2.1
 have HA : Hid _ := getNum_at hz p
 have HC : Hid (CurV 108 pb zs v p w) := h
 obtain ⟨c0, c1⟩ := VarA.l2 h.1
 have hf := VarA.fz h.1
 clear h hz
 generalize getNum zs p = g at HG HA ⊢
 obtain ⟨n, nx⟩ := g
 dsimp only at HG HA ⊢
 go_enter Tryz.func68, Tryz.ntmps68
 go_wp2
 go_region_held3 (fun w' => w'.cell? ⟨pb, 0, none⟩ = some v ∧ w'.cell? ⟨pb, 1, none⟩ = some (.i p)) (first | go_keep | (refine ⟨?_, ?_⟩ <;> assumption)) (first | (go_at_call 151; refine Calls.mono (HG.out _ (by repeat (first | exact Below.refl _ _ | refine Below.drew ?_ | refine below_drewN2 ?_ _))) ?_; rintro e w' ⟨rfl, rfl⟩))
 go_wp2
 go_ret
 exact ⟨rfl, CurV.put HC.out.dr nx HA.out.1 HA.out.2, (Turned.drew1 _ _).set _ _ rfl⟩
set_option maxHeartbeats 2000000 in
theorem implTextC (pb : Nat) (zs : List Int) (v : Value) (p : Int) (w : World) (h : CurV 108 pb zs v p w) (hl : zs.length ≤ 2000000) :
  Calls Tryz.prog 216 #[.pointer (some ⟨pb, 0, none⟩)] w fun e w' => ∃ a n c, e = .returned (.slice a n c) ∧ OwV w' (fun b => w.heap.size ≤ b ∧ b < w'.heap.size) (.slice a n c) (.bytes (getText zs p).1) ∧ Gone 108 pb zs v (getText zs p).2 w w' := by
 have HG : Hid (∀ W, Below w.heap.size w W → _) := fun W hW => implGetTextR v zs _ p W (RdV.step h.2.1 hW) hl
 have hz := RdV.zs h.2.1
 have HA : Hid _ := getText_at hz p
 have HZ : Hid _ := getText_bytes hz p
 have HC : Hid (CurV 108 pb zs v p w) := h
 have hpl := h.lt
 obtain ⟨c0, c1⟩ := VarA.l2 h.1
 have hf := VarA.fz h.1
 clear h hz
 generalize getText zs p = g at HG HA HZ ⊢
 obtain ⟨ts, nx⟩ := g
 dsimp only at HG HA HZ ⊢
 go_enter Tryz.func216, Tryz.ntmps216
 go_wp2
 go_region_held3 (fun w' => w'.cell? ⟨pb, 0, none⟩ = some v ∧ w'.cell? ⟨pb, 1, none⟩ = some (.i p)) (first | go_keep | (refine ⟨?_, ?_⟩ <;> assumption)) (first | (go_at_call 261; refine Calls.mono (HG.out _ (by repeat (first | exact Below.refl _ _ | refine Below.drew ?_ | refine below_drewN2 ?_ _))) ?_; rintro e w2 ⟨u, rfl, ou, b_⟩; have HB2 : Hid (Below w.heap.size w w2) := (Below.drew (Below.refl _ _)).trans b_; have HOU : Hid (OwV w2 (fun b => w.heap.size ≤ b ∧ b < w2.heap.size) u (.bytes ts)) := OwV.ofOwns HZ.out ou; clear ou b_; have HC2 : Hid (CurV 108 pb zs v p w2) := HC.out.step HB2.out; obtain ⟨d0, d1⟩ := VarA.l2 HC2.out.1; have df := VarA.fz HC2.out.1))
 obtain ⟨ua, uc, un, hu⟩ : ∃ a c n, u = .slice a n c := by
  obtain ⟨a_, c_, h_⟩ := HOU.out.rd.sliceB
  exact ⟨a_, c_, _, h_⟩
 subst hu
 have HCC : Hid (CurV 108 pb zs v nx (w2.setCell ⟨pb, 1, none⟩ (.i nx))) := CurV.put HC2.out nx HA.out.1 HA.out.2
 have HTT : Hid (Turned (fun b => b = pb) w (w2.setCell ⟨pb, 1, none⟩ (.i nx))) := (Turned.ofBelow HB2.out).set _ _ rfl
 have HOW : Hid (OwV (w2.setCell ⟨pb, 1, none⟩ (.i nx)) (fun b => w.heap.size ≤ b ∧ b < (w2.setCell ⟨pb, 1, none⟩ (.i nx)).heap.size) (.slice ua un uc) (.bytes ts)) := by
  have t_ : Turned (fun b => b = pb) w2 (w2.setCell ⟨pb, 1, none⟩ (.i nx)) := (Turned.refl _ _).set _ _ rfl
  exact (HOU.out.keep (t_.keeps (fun b hb hs => by omega))).mono (fun b hb => ⟨hb.1, Nat.lt_of_lt_of_le hb.2 t_.size⟩)
 by_cases hn0 : un = 0
 ·have HE : Hid (ts = []) := by
   have h1 := HOU.out.rd.b.reads
   obtain ⟨a_, c_, h2, _⟩ := h1
   simp only [Value.slice.injEq] at h2
   exact List.eq_nil_of_length_eq_zero (by omega)
  subst hn0
  go_wp2
  go_ret
  exact ⟨_, _, _, rfl, by rw [HE.out]; exact owNilB _ _, HCC.out, HTT.out⟩
 ·go_wp2
  go_ret
  exact ⟨_, _, _, rfl, HOW.out, HCC.out, HTT.out⟩
end
section
def enVal (e : En) (u : Value) : Nat → Value
 | 0 => u
 | 1 => .i e.h.sh
 | 2 => .i e.h.ino
 | _ => .bool e.h.dir
theorem OwV.snocEn {w w' : World} {lo hi hi2 g cap : Nat} {v u : Value} {l : List En} {e : En} (hown : OwV w (fun b => lo ≤ b ∧ b < hi) v (ensDt l)) (hu : OwV w (fun b => hi ≤ b ∧ b < hi2) u (.bytes e.nm)) (h2 : hi2 ≤ w.heap.size) (hh2 : hi ≤ hi2) (hlh : lo ≤ hi)
  (C : List Value) (hC : w.ownsRow 0 139 4 v l.length C) (V : Nat → Nat → Value) (Q : Nat → Nat → Nat → Prop) (hS : ∀ b, v.ownBlock = some b → lo ≤ b ∧ b < hi) (hV : ∀ i j, i < l.length → j < 4 → C[i * 4 + j]? = some (V i j)) (hQ : ∀ i j, i < l.length → j < 4 → OwV w (Q i j) (V i j) (enCell (l[i]?.getD en0) j))
  (hq1 : ∀ i j b, i < l.length → j < 4 → Q i j b → (lo ≤ b ∧ b < hi) ∧ v.ownBlock ≠ some b) (hq2 : ∀ i j i' j' b, i < l.length → j < 4 → i' < l.length → j' < 4 → Q i j b → Q i' j' b → i = i' ∧ j = j')
  (ho : w'.ownsRow 0 139 4 (.slice (some ⟨g, 0, none⟩) (l.length + 1) cap) (l.length + 1) (C ++ [u, .i e.h.sh, .i e.h.ino, .bool e.h.dir])) (hg : w.grownBy w' v.ownBlock) (hgg : v.ownBlock = some g ∨ g = w.heap.size) (hgl : g < w'.heap.size) :
  OwV w' (fun b => lo ≤ b ∧ b < w'.heap.size) (.slice (some ⟨g, 0, none⟩) (l.length + 1) cap) (ensDt (l ++ [e])) := by
 have hsz := hg.size
 have hCl : C.length = l.length * 4 := hC.1
 have hkeep : ∀ (R : Nat → Prop), (∀ b, R b → v.ownBlock ≠ some b) → Keeps R w w' := fun R hR => ⟨hsz, fun b hb hlt => hg.block b hlt (fun h => hR b hb h.symm)⟩
 have hln : (l ++ [e]).length = l.length + 1 := by simp
 unfold ensDt
 rw [hln]
 refine OwV.mkRows ⟨fun i j => if i < l.length then V i j else enVal e u j, _, fun i j => if i < l.length then Q i j else if j = 0 then (fun b => hi ≤ b ∧ b < hi2) else (fun _ => False), ho, ?_, ?_, ?_, ?_, ?_⟩
 ·intro b hb
  obtain rfl : g = b := by simpa [Value.ownBlock] using hb
  rcases hgg with h | h
  ·exact ⟨(hS _ h).1, hgl⟩
  ·exact ⟨by omega, hgl⟩
 ·intro i j hi' hj
  by_cases hlt : i < l.length
  ·simp only [hlt, if_true]
   rw [List.getElem?_append_left (by rw [hCl]; exact place_lt hlt hj)]
   exact hV i j hlt hj
  ·obtain rfl : i = l.length := by omega
   simp only [Nat.lt_irrefl, if_false]
   rw [List.getElem?_append_right (by omega), hCl, show l.length * 4 + j - l.length * 4 = j by omega]
   match j, hj with
   | 0, _ => rfl
   | 1, _ => rfl
   | 2, _ => rfl
   | 3, _ => rfl
 ·intro i j hi' hj
  by_cases hlt : i < l.length
  ·simp only [hlt, if_true]
   rw [show (l ++ [e])[i]?.getD en0 = l[i]?.getD en0 by rw [List.getElem?_append_left hlt]]
   exact OwV.keep (hkeep _ (fun b hb => (hq1 i j b hlt hj hb).2)) (hQ i j hlt hj)
  ·obtain rfl : i = l.length := by omega
   simp only [Nat.lt_irrefl, if_false]
   rw [show (l ++ [e])[l.length]?.getD en0 = e by simp]
   match j, hj with
   | 0, _ => exact OwV.keep (hkeep (fun b => hi ≤ b ∧ b < hi2) (fun b hb h => by have := hS b h; omega)) hu
   | 1, _ => rfl
   | 2, _ => rfl
   | 3, _ => rfl
 ·intro i j b hi' hj hb
  by_cases hlt : i < l.length
  ·simp only [hlt, if_true] at hb
   have h1 := hq1 i j b hlt hj hb
   refine ⟨⟨h1.1.1, by omega⟩, ?_⟩
   intro h
   obtain rfl : g = b := by simpa [Value.ownBlock] using h
   rcases hgg with h3 | h3
   ·exact h1.2 h3
   ·omega
  ·simp only [hlt, if_false] at hb
   by_cases hj0 : j = 0
   ·simp only [hj0, if_true] at hb
    refine ⟨⟨by omega, by omega⟩, ?_⟩
    intro h
    obtain rfl : g = b := by simpa [Value.ownBlock] using h
    rcases hgg with h3 | h3
    ·have := hS _ h3; omega
    ·omega
   ·simp only [hj0, if_false] at hb
 ·intro i j i' j' b hi' hj hi2' hj' hb hb'
  by_cases hlt : i < l.length <;> by_cases hlt' : i' < l.length
  ·simp only [hlt, hlt', if_true] at hb hb'
   exact hq2 i j i' j' b hlt hj hlt' hj' hb hb'
  ·simp only [hlt, hlt', if_true, if_false] at hb hb'
   have h1 := hq1 i j b hlt hj hb
   by_cases hj0 : j' = 0
   ·simp only [hj0, if_true] at hb'; omega
   ·simp only [hj0, if_false] at hb'
  ·simp only [hlt, hlt', if_true, if_false] at hb hb'
   have h1 := hq1 i' j' b hlt' hj' hb'
   by_cases hj0 : j = 0
   ·simp only [hj0, if_true] at hb; omega
   ·simp only [hj0, if_false] at hb
  ·simp only [hlt, hlt', if_false] at hb hb'
   by_cases hj0 : j = 0 <;> by_cases hj0' : j' = 0
   ·exact ⟨by omega, by omega⟩
   ·simp only [hj0', if_false] at hb'
   ·simp only [hj0, if_false] at hb
   ·simp only [hj0, if_false] at hb
theorem wpList_appEn {ops : Array Oper} {rest : List Oper} {o : Oper} {a : Act} {Q : Exit → Act → World → Prop} (w : World) (hgd : o.guard = none) (s x : Operand)
  (ho : o.op = .call { callee := .builtin .append, args := #[s, x], argTypes := #[27, 27] })
  (v : Value) (hs : a.eval s = v) (l : List En) (e : En) (u : Value) (lo hi hi2 q : Nat) (hx : a.eval x = .slice (some ⟨q, 0, none⟩) 1 1) (hone : u.oneCell' = true) (fr : Nat × Nat) (hq : w.heap[q]? = some (.cells #[u, .i e.h.sh, .i e.h.ino, .bool e.h.dir] 139 fr))
  (hown : OwV w (fun b => lo ≤ b ∧ b < hi) v (ensDt l)) (hu : OwV w (fun b => hi ≤ b ∧ b < hi2) u (.bytes e.nm)) (h2 : hi2 ≤ w.heap.size) (hh2 : hi ≤ hi2) (hlh : lo ≤ hi) (hl : l.length ≤ 4000)
  (h : ∀ g n cap w', OwV w' (fun b => lo ≤ b ∧ b < w'.heap.size) (.slice g n cap) (ensDt (l ++ [e])) → Turned (fun b => lo ≤ b ∧ b < hi) w w' → wpList Tryz.prog ops Q rest (a.put o.dst (.slice g n cap)) w') : wpList Tryz.prog ops Q (o :: rest) a w := by
 obtain ⟨i0, hi0, hz0, hz1, hz2⟩ := info_parts Tryz.infoEn
 have hown' := hown
 unfold ensDt at hown'
 obtain ⟨V, C, Qs, h1, hS, h3, h4, h5, h6⟩ := OwV.inv hown'
 refine wpList_append_lies w hgd s x 27 ho 0 139 i0 (.agg #[.slice none 0 0, .i 0, .i 0, .bool false]) 4 48 Tryz.underlying27 hi0 hz0 hz1 hz2 rfl (by decide) v l.length C hs h1 ⟨q, 0, none⟩ 1 1 [u, .i e.h.sh, .i e.h.ino, .bool e.h.dir] hx rfl (World.news_of_block hq) (fun y hy => ?_) (by decide) (by unfold maxLen; omega) (by omega) (Nat.zero_le _) w.heap.size rfl ?_
 ·simp only [List.mem_cons, List.not_mem_nil, or_false] at hy
  rcases hy with rfl | rfl | rfl | rfl
  ·exact hone
  ·rfl
  ·rfl
  ·rfl
 intro g cap w' ho' hg hgg hgl
 exact h _ _ _ w' (OwV.snocEn hown hu h2 hh2 hlh C h1 V Qs hS h3 h4 h5 h6 ho' hg hgg hgl) (Turned.ofGrown hg (fun k hk => hS k hk))
theorem ensP_snoc (zs : List Int) (k : Nat) : ∀ p : Int, rdEnsP zs (k + 1) p = ((rdEnsP zs k p).1 ++ [⟨(getText zs (rdEnsP zs k p).2).1, (rdHd zs (getText zs (rdEnsP zs k p).2).2).1⟩], (rdHd zs (getText zs (rdEnsP zs k p).2).2).2) := by
 induction k with
 | zero => intro p; rfl
 | succ k ih => intro p; rw [rdEnsP, ih]; rfl
theorem ensP_len (zs : List Int) (k : Nat) : ∀ p : Int, (rdEnsP zs k p).1.length = k := by
 induction k with
 | zero => intro p; rfl
 | succ k ih => intro p; rw [rdEnsP]; simp [ih]
end
section
theorem step_appS {ops : Array Oper} {o : Oper} {a : Act} {w : World} {K : Act → World → Prop} {Q : Exit → Act → World → Prop} {E : Prop} (hgd : o.guard = none) (s x : Operand)
  (ho : o.op = .call { callee := .builtin .append, args := #[s, x], argTypes := #[22, 22] })
  (base : Nat) (v : Value) (zs ys : List Int) (hs : a.eval s = v) (hown : Owns w base v zs) (ao : Option Addr) (m c : Nat) (hx : a.eval x = .slice ao m c) (hm : m = ys.length) (hr : Reads w ao ys)
  (hl : zs.length ≤ 4194304) (hl' : ys.length ≤ 4194304) (hbase : base ≤ w.heap.size) (hnil : ao = none → m = 0 ∧ c = 0)
  (h : ∀ v' w', Owns w' base v' (zs ++ ys) → w.grownBy w' v.ownBlock → K (a.put o.dst v') w') : if Region.wanted o (yielded ops a.tmps) = true then Oper.wp Tryz.prog o a w K Q else E := by
 have hw : Region.wanted o (yielded ops a.tmps) = true := by simp [Region.wanted, hgd]
 rw [if_pos hw]
 obtain ⟨i0, hi, hz0, hz1, hz2⟩ := info_parts Tryz.infoB
 cases ao with
 | none =>
  obtain ⟨h0, hc0⟩ := hnil rfl
  have : ys = [] := List.eq_nil_of_length_eq_zero (by omega)
  subst this
  subst hm
  subst hc0
  have hrun := run_append_owned_none (P := Tryz.prog) (w := w) base 22 o.type 5 i0 1 Tryz.underlying22 hi v zs.length (bcells zs) hown
  unfold Oper.wp
  have hx' : a.eval x = .slice none 0 0 := hx
  simp [execOp, ho, resolve, invoke, builtin, hs, hx', hrun, Result.andThen]
  exact h v w (by rw [List.append_nil]; exact hown) ⟨rfl, rfl, rfl, Nat.le_refl _, fun _ _ _ => rfl⟩
 | some ad =>
  refine wp_append_own w s x 22 ho base 5 i0 (.int .u8 0) 1 1 Tryz.underlying22 hi hz0 hz1 hz2 rfl (by decide) v zs.length (bcells zs) hs hown ad m c (bcells ys) hx (by simp [hm]) hr.srcAt (bcells_one ys) (by unfold maxLen; omega) (by omega) hbase ?_
  intro v' w' ho' hg _
  refine h v' w' ?_ hg
  unfold Owns
  rw [List.length_append, ← hm]
  simpa [bcells] using ho'
theorem step_appEn {ops : Array Oper} {o : Oper} {a : Act} {K : Act → World → Prop} {Q : Exit → Act → World → Prop} {E : Prop} (w : World) (hgd : o.guard = none) (s x : Operand)
  (ho : o.op = .call { callee := .builtin .append, args := #[s, x], argTypes := #[27, 27] })
  (v : Value) (hs : a.eval s = v) (l : List En) (e : En) (u : Value) (lo hi hi2 q : Nat) (hx : a.eval x = .slice (some ⟨q, 0, none⟩) 1 1) (hone : u.oneCell' = true) (fr : Nat × Nat) (hq : w.heap[q]? = some (.cells #[u, .i e.h.sh, .i e.h.ino, .bool e.h.dir] 139 fr))
  (hown : OwV w (fun b => lo ≤ b ∧ b < hi) v (ensDt l)) (hu : OwV w (fun b => hi ≤ b ∧ b < hi2) u (.bytes e.nm)) (h2 : hi2 ≤ w.heap.size) (hh2 : hi ≤ hi2) (hlh : lo ≤ hi) (hl : l.length ≤ 4000)
  (h : ∀ g n cap w', OwV w' (fun b => lo ≤ b ∧ b < w'.heap.size) (.slice g n cap) (ensDt (l ++ [e])) → Turned (fun b => lo ≤ b ∧ b < hi) w w' → K (a.put o.dst (.slice g n cap)) w') : if Region.wanted o (yielded ops a.tmps) = true then Oper.wp Tryz.prog o a w K Q else E := by
 obtain ⟨i0, hi0, hz0, hz1, hz2⟩ := info_parts Tryz.infoEn
 have hown' := hown
 unfold ensDt at hown'
 obtain ⟨V, C, Qs, h1, hS, h3, h4, h5, h6⟩ := OwV.inv hown'
 refine step_append_lies w hgd s x 27 ho 0 139 i0 (.agg #[.slice none 0 0, .i 0, .i 0, .bool false]) 4 48 Tryz.underlying27 hi0 hz0 hz1 hz2 rfl (by decide) v l.length C hs h1 ⟨q, 0, none⟩ 1 1 [u, .i e.h.sh, .i e.h.ino, .bool e.h.dir] hx rfl (World.news_of_block hq) (fun y hy => ?_) (by decide) (by unfold maxLen; omega) (by omega) (Nat.zero_le _) w.heap.size rfl ?_
 ·simp only [List.mem_cons, List.not_mem_nil, or_false] at hy
  rcases hy with rfl | rfl | rfl | rfl
  ·exact hone
  ·rfl
  ·rfl
  ·rfl
 intro g cap w' ho' hg hgg hgl
 exact h _ _ _ w' (OwV.snocEn hown hu h2 hh2 hlh C h1 V Qs hS h3 h4 h5 h6 ho' hg hgg hgl) (Turned.ofGrown hg (fun k hk => hS k hk))

set_option maxHeartbeats 4000000 in
theorem specCopyEn_any (v : Value) (l : List En) (S : Nat → Prop) (w : World) (r : RdV w S v (ensDt l)) (hl : szEns l ≤ 2097152) (hn : l.length ≤ 4000) :
  Calls Tryz.prog 188 #[v] w fun e w' => ∃ a n c, e = .returned (.slice a n c) ∧ OwV w' (fun b => w.heap.size ≤ b ∧ b < w'.heap.size) (.slice a n c) (ensDt l) ∧ Below w.heap.size w w' := by
 obtain ⟨a, cap, rfl, _⟩ := RdV.sliced r
 have HR : Hid (∀ W, Below w.heap.size w W → RdV W S (.slice a l.length cap) (ensDt l)) := fun W hW => r.step hW
 have HLN : Hid (∀ k, k < l.length → (l[k]?.getD en0).nm.length ≤ 2097152) := fun k hk => Nat.le_trans (szEns_at l k) hl
 clear r hl
 go_enter Tryz.func188, Tryz.ntmps188
 go_wp2
 go_loopw [3, 4] (fun o i wr => ∃ (k : Nat) (ga : Option Addr) (gn gc : Nat), k ≤ l.length ∧ i = .i k ∧ o = .slice ga gn gc ∧ Hid (OwV wr (fun b => w.heap.size ≤ b ∧ b < wr.heap.size) (.slice ga gn gc) (ensDt (l.take k))) ∧ Hid (Below w.heap.size w wr)) (fun _ i _ => l.length - (intOf i).toNat)
 case atStart => exact ⟨0, none, 0, 0, Nat.zero_le _, rfl, rfl, OwV.nilR _ _ _ _ _, Below.refl _ _⟩
 case round =>
  obtain ⟨k, ga, gn, gc, hk, rfl, rfl, HO, HB⟩ := hrel
  by_cases hlt : k < l.length
  ·obtain ⟨b, off, rfl, hbl, hSb, hc⟩ := (HR.out w (Below.refl _ _)).at hlt
   obtain ⟨x0, q0, r0⟩ := hc 0 (by omega)
   obtain ⟨x1, q1, r1⟩ := hc 1 (by omega)
   obtain ⟨x2, q2, r2⟩ := hc 2 (by omega)
   obtain ⟨x3, q3, r3⟩ := hc 3 (by omega)
   have htk : l.take (k + 1) = l.take k ++ [l[k]?.getD en0] := by rw [List.take_succ_eq_append_getElem hlt]; simp [hlt]
   have hnm := HLN.out k hlt
   generalize l[k]?.getD en0 = e at r0 r1 r2 r3 htk hnm
   obtain ⟨nm, ⟨sh, ino, dr⟩⟩ := e
   obtain rfl : x1 = .i sh := r1
   obtain rfl : x2 = .i ino := r2
   obtain rfl : x3 = .bool dr := r3
   have r0' : RdV w S x0 (.bytes nm) := r0
   obtain ⟨a0, c0, rfl⟩ := r0'.sliceB
   have HS : Hid (∀ W, Below w.heap.size w W → W.cell? ⟨b, off + k * 4, none⟩ = some (.slice a0 nm.length c0) ∧ W.cell? ⟨b, off + k * 4 + 1, none⟩ = some (.i sh) ∧ W.cell? ⟨b, off + k * 4 + 2, none⟩ = some (.i ino) ∧ W.cell? ⟨b, off + k * 4 + 3, none⟩ = some (.bool dr)) := fun W hW => ⟨(hW.cell (p := ⟨b, off + k * 4, none⟩) hbl).trans (by simpa using q0), (hW.cell (p := ⟨b, off + k * 4 + 1, none⟩) hbl).trans q1, (hW.cell (p := ⟨b, off + k * 4 + 2, none⟩) hbl).trans q2, (hW.cell (p := ⟨b, off + k * 4 + 3, none⟩) hbl).trans q3⟩
   have HRB : Hid (∀ W, Below w.heap.size w W → Reads W a0 nm ∧ Headed a0 nm.length c0) := fun W hW => by
    obtain ⟨a', cap', he, hh, hr⟩ := (r0'.step hW).b.reads
    simp only [Value.slice.injEq, true_and] at he
    obtain ⟨rfl, rfl⟩ := he
    exact ⟨hr, hh⟩
   have HZ : Hid (isBytes nm) := r0'.b.1
   have hix : (k : Int) < (l.length : Int) := by omega
   have HTK : Hid _ := htk
   have hsw := HB.out.size
   clear r0 r0' hc htk
   go_wp2
   refine wp_region_noPanic ?_
   refine wp_region_held_drew (S := fun w' => w'.cell? ⟨b, off + k * 4, none⟩ = some (.slice a0 nm.length c0) ∧ w'.cell? ⟨b, off + k * 4 + 1, none⟩ = some (.i sh) ∧ w'.cell? ⟨b, off + k * 4 + 2, none⟩ = some (.i ino) ∧ w'.cell? ⟨b, off + k * 4 + 3, none⟩ = some (.bool dr)) (by kernel_rfl) (HS.out _ (HB.out.trans ((Below.drew (Below.refl wr.heap.size wr)).mono HB.out.size))) (fun hHeld => ?_)
   refine tkh 0 ?_ rfl (by kernel_rfl) rfl (by assumption) ?_ ?_
   rotate_left
   ·(intro _ h; (try dsimp only at h); go_simp; try with_reducible rfl)
   try simp only [Act.put, qz1, qz2, qz3, qz4, qz5, qz6]
   refine tkh 2 ?_ rfl (by kernel_rfl) rfl (by assumption) ?_ ?_
   rotate_left
   ·(intro _ h; (try dsimp only at h); go_simp; try with_reducible rfl)
   try simp only [Act.put, qz1, qz2, qz3, qz4, qz5, qz6]
   refine tkh 3 ?_ rfl (by kernel_rfl) rfl (by assumption) ?_ ?_
   rotate_left
   ·(intro _ h; (try dsimp only at h); go_simp; try with_reducible rfl)
   try simp only [Act.put, qz1, qz2, qz3, qz4, qz5, qz6]
   refine tkh 4 ?_ rfl (by kernel_rfl) rfl (by assumption) ?_ ?_
   rotate_left
   ·(intro _ h; (try dsimp only at h); go_simp; try with_reducible rfl)
   try simp only [Act.put, qz1, qz2, qz3, qz4, qz5, qz6]
   refine tkh 5 ?_ rfl (by kernel_rfl) rfl (by assumption) ?_ ?_
   rotate_left
   ·(intro _ h; (try dsimp only at h); go_simp; try with_reducible rfl)
   try simp only [Act.put, qz1, qz2, qz3, qz4, qz5, qz6]
   refine tkh 6 ?_ rfl (by kernel_rfl) rfl (by assumption) ?_ ?_
   rotate_left
   ·(intro _ h; (try dsimp only at h); go_simp; try with_reducible rfl)
   try simp only [Act.put, qz1, qz2, qz3, qz4, qz5, qz6]
   refine tkh 8 ?_ rfl (by kernel_rfl) rfl (by assumption) ?_ ?_
   rotate_left
   ·(intro _ h; (try dsimp only at h); go_simp; try with_reducible rfl)
   try simp only [Act.put, qz1, qz2, qz3, qz4, qz5, qz6]
   refine tkh 9 ?_ rfl (by kernel_rfl) rfl (by assumption) ?_ ?_
   rotate_left
   ·(intro _ h; (try dsimp only at h); go_simp; try with_reducible rfl)
   try simp only [Act.put, qz1, qz2, qz3, qz4, qz5, qz6]
   refine tkh 10 ?_ rfl (by kernel_rfl) rfl (by assumption) ?_ ?_
   rotate_left
   ·(intro _ h; (try dsimp only at h); go_simp; try with_reducible rfl)
   try simp only [Act.put, qz1, qz2, qz3, qz4, qz5, qz6]
   refine tkh 11 ?_ rfl (by kernel_rfl) rfl (by assumption) ?_ ?_
   rotate_left
   ·(intro _ h; (try dsimp only at h); go_simp; try with_reducible rfl)
   try simp only [Act.put, qz1, qz2, qz3, qz4, qz5, qz6]
   refine tkh 12 ?_ rfl (by kernel_rfl) rfl (by assumption) ?_ ?_
   rotate_left
   ·(intro _ h; (try dsimp only at h); go_simp; try with_reducible rfl)
   try simp only [Act.put, qz1, qz2, qz3, qz4, qz5, qz6]
   refine doH 1 (by kernel_rfl) rfl fun K hK => ?_
   go_simp
   have b5 : Below wr.heap.size wr (wr.drew.alloc (.cells #[] 5)) := Below.alloc (Below.drew (Below.refl wr.heap.size wr)) (Nat.le_refl _) _
   refine hK.out _ _ (HS.out _ (HB.out.trans (b5.mono HB.out.size))) (fun hHeld => ?_)
   clear hK K
   try simp only [Act.put, qz1, qz2, qz3, qz4, qz5, qz6]
   refine doH 7 (by kernel_rfl) rfl fun K hK => ?_
   refine step_appS rfl (.tmp 12) (.tmp 17) (by rfl) wr.heap.size _ [] nm (by rfl) (owns_empty wr.drew) a0 nm.length c0 (by rfl) rfl (HRB.out _ (HB.out.trans (b5.mono HB.out.size))).1 (by simp) (by omega) (by simp) (fun h => (HRB.out _ (HB.out.trans (b5.mono HB.out.size))).2.2.2 h) ?_
   intro v6 w6 ho6 hg6
   rw [List.nil_append] at ho6
   obtain ⟨ua, uc, rfl, _⟩ := ho6.shape
   have b6 : Below wr.heap.size wr w6 := Below.grown b5 hg6 (by simp) (fun q hq => ((owns_empty wr.drew).lt q hq).1)
   have s6 := b6.size
   refine hK.out _ _ (HS.out _ (HB.out.trans (b6.mono HB.out.size))) (fun hHeld => ?_)
   clear hK K
   try simp only [Act.put, qz1, qz2, qz3, qz4, qz5, qz6]
   refine tkh 13 ?_ rfl (by kernel_rfl) rfl (by assumption) ?_ ?_
   rotate_left
   ·(intro _ h; (try dsimp only at h); go_simp; try with_reducible rfl)
   try simp only [Act.put, qz1, qz2, qz3, qz4, qz5, qz6]
   refine doH 14 (by kernel_rfl) rfl fun K hK => ?_
   go_simp
   have b7 : Below wr.heap.size wr (w6.alloc (.cells #[.slice ua nm.length uc, .i sh, .i ino, .bool dr] 139)) := Below.alloc b6 s6 _
   refine hK.out _ _ (HS.out _ (HB.out.trans (b7.mono HB.out.size))) (fun hHeld => ?_)
   clear hK K
   try simp only [Act.put, qz1, qz2, qz3, qz4, qz5, qz6]
   refine doH 15 (by kernel_rfl) rfl fun K hK => ?_
   refine step_appEn (w6.alloc (.cells #[.slice ua nm.length uc, .i sh, .i ino, .bool dr] 139)) rfl (.tmp 11) (.tmp 25) (by rfl) _ (by rfl) (l.take k) ⟨nm, (sh, ino, dr)⟩ (.slice ua nm.length uc) w.heap.size wr.heap.size w6.heap.size w6.heap.size (by rfl) rfl (0, 0) (heap_alloc_new _ _) (OwV.step HO.out b7) (OwV.step (OwV.mono (fun q hq => hq) (OwV.ofOwns HZ.out ho6)) (Below.newH _)) (by simp) s6 hsw (by rw [List.length_take]; omega) ?_
   intro g8 n8 c8 w8 ho8 t8
   have s8 := t8.size
   rw [World.size_alloc] at s8
   have HB8 : Below w.heap.size w w8 := Turned.below (HB.out.trans (b7.mono HB.out.size)) t8 (by have := HB.out.size; simp; omega) (fun i hi => hi.1)
   refine hK.out _ _ (HS.out _ HB8) (fun hHeld => ?_)
   clear hK K
   try simp only [Act.put, qz1, qz2, qz3, qz4, qz5, qz6]
   refine tkh 16 ?_ rfl (by kernel_rfl) rfl (by assumption) ?_ ?_
   rotate_left
   ·(intro _ h; (try dsimp only at h); go_simp; try with_reducible rfl)
   try simp only [Act.put, qz1, qz2, qz3, qz4, qz5, qz6]
   refine wpAnyH_done (by kernel_rfl) (NoPanic.normal ?_) _
   clear hHeld
   rw [← HTK.out] at ho8
   have HO8 : Hid (OwV w8 _ _ _) := ho8
   have HB9 : Hid (Below w.heap.size w w8) := HB8
   clear ho8 HB8 t8 b5 b6 b7 ho6 hg6
   go_wp2
   refine ⟨⟨k + 1, g8, n8, c8, by omega, by go_num, rfl, HO8, HB9⟩, by simp [intOf]; omega⟩
  ·have he : k = l.length := by omega
   subst he
   rw [List.take_length] at HO
   go_wp2
   go_ret
   exact ⟨_, _, _, rfl, HO.out, HB.out⟩
end
section
def ndVal (n : Nd) (x : Value) : Nat → Value
 | 0 => .i n.h.sh
 | 1 => .i n.h.ino
 | 2 => .bool n.h.dir
 | 3 => .i n.par.sh
 | 4 => .i n.par.ino
 | 5 => .bool n.par.dir
 | 6 => .i n.links
 | 7 => .i n.val
 | _ => x
def Ent (w : World) (lo : Nat) (v : Value) : Nat → Prop := fun b => lo ≤ b ∧ b < w.heap.size ∧ v.ownBlock ≠ some b
def SN (w : World) (lo : Nat) (v : Value) (l : List Nd) : Prop :=
 ∃ (V : Nat → Value) (C : List Value), w.ownsRow lo 133 9 v l.length C ∧ (∀ i j, i < l.length → j < 9 → C[i * 9 + j]? = some (ndVal (l[i]?.getD nd0) (V i) j)) ∧ ∀ i, i < l.length → RdV w (Ent w lo v) (V i) (ensDt (l[i]?.getD nd0).es)
theorem SN.nil (w : World) (lo : Nat) : SN w lo (.slice none 0 0) [] :=
 ⟨fun _ => undef, [], World.ownsRow_nil _ _ _ _, fun i j hi => absurd hi (Nat.not_lt_zero _), fun i hi => absurd hi (Nat.not_lt_zero _)⟩
theorem SN.lt {w : World} {lo : Nat} {v : Value} {l : List Nd} (s : SN w lo v l) : ∀ b, v.ownBlock = some b → lo ≤ b ∧ b < w.heap.size := by
 obtain ⟨V, C, h1, h2, h3⟩ := s
 exact fun b hb => h1.lt b hb
theorem SN.keep {w w' : World} {lo : Nat} {v : Value} {l : List Nd} (s : SN w lo v l) (t : Keeps (fun b => lo ≤ b ∧ b < w.heap.size) w w') : SN w' lo v l := by
 have hb := s.lt
 obtain ⟨V, C, h1, h2, h3⟩ := s
 exact ⟨V, C, ownsRow_keep h1 hb t, h2, fun i hi => RdV.mono (fun b hb => ⟨hb.1, Nat.lt_of_lt_of_le hb.2.1 t.1, hb.2.2⟩) (RdV.keep (t.mono (fun b hb => ⟨hb.1, hb.2.1⟩)) (h3 i hi))⟩
theorem SN.step {w w' : World} {lo : Nat} {v : Value} {l : List Nd} (s : SN w lo v l) (hb : Below w.heap.size w w') : SN w' lo v l := s.keep (Keeps.ofBelow hb)
theorem SN.grow {w w' : World} {lo g cap : Nat} {v x : Value} {l : List Nd} {n : Nd} (hx : RdV w (Ent w lo v) x (ensDt n.es)) (V : Nat → Value) (C : List Value) (h1 : w.ownsRow lo 133 9 v l.length C)
  (h2 : ∀ i j, i < l.length → j < 9 → C[i * 9 + j]? = some (ndVal (l[i]?.getD nd0) (V i) j)) (h3 : ∀ i, i < l.length → RdV w (Ent w lo v) (V i) (ensDt (l[i]?.getD nd0).es))
  (ho : w'.ownsRow lo 133 9 (.slice (some ⟨g, 0, none⟩) (l.length + 1) cap) (l.length + 1) (C ++ [.i n.h.sh, .i n.h.ino, .bool n.h.dir, .i n.par.sh, .i n.par.ino, .bool n.par.dir, .i n.links, .i n.val, x]))
  (hg : w.grownBy w' v.ownBlock) (hgg : v.ownBlock = some g ∨ g = w.heap.size) : SN w' lo (.slice (some ⟨g, 0, none⟩) (l.length + 1) cap) (l ++ [n]) := by
 have hsz := hg.size
 have hCl : C.length = l.length * 9 := h1.1
 have hln : (l ++ [n]).length = l.length + 1 := by simp
 have hrd : ∀ (y : Value) (es : List En), RdV w (Ent w lo v) y (ensDt es) → RdV w' (Ent w' lo (.slice (some ⟨g, 0, none⟩) (l.length + 1) cap)) y (ensDt es) := fun y es r =>
  RdV.mono (fun b hb => ⟨hb.1, by have := hb.2.1; omega, fun e => by
   have e' : g = b := by simpa [Value.ownBlock] using e
   rcases hgg with h | h
   ·exact hb.2.2 (by rw [h, e'])
   ·have := hb.2.1; omega⟩) (RdV.keep ⟨hsz, fun b hb hlt => hg.block b hlt (fun h => hb.2.2 h.symm)⟩ r)
 refine ⟨fun i => if i < l.length then V i else x, _, by rw [hln]; exact ho, fun i j hi hj => ?_, fun i hi => ?_⟩
 ·rw [hln] at hi
  by_cases hlt : i < l.length
  ·simp only [hlt, if_true]
   rw [List.getElem?_append_left (by rw [hCl]; exact place_lt hlt hj), List.getElem?_append_left hlt]
   exact h2 i j hlt hj
  ·obtain rfl : i = l.length := by omega
   simp only [Nat.lt_irrefl, if_false]
   rw [List.getElem?_append_right (by omega), hCl, show l.length * 9 + j - l.length * 9 = j by omega, show (l ++ [n])[l.length]?.getD nd0 = n by simp]
   match j, hj with
   | 0, _ => rfl
   | 1, _ => rfl
   | 2, _ => rfl
   | 3, _ => rfl
   | 4, _ => rfl
   | 5, _ => rfl
   | 6, _ => rfl
   | 7, _ => rfl
   | 8, _ => rfl
 ·rw [hln] at hi
  by_cases hlt : i < l.length
  ·simp only [hlt, if_true]
   rw [List.getElem?_append_left hlt]
   exact hrd _ _ (h3 i hlt)
  ·obtain rfl : i = l.length := by omega
   simp only [Nat.lt_irrefl, if_false]
   rw [show (l ++ [n])[l.length]?.getD nd0 = n by simp]
   exact hrd _ _ hx
theorem step_appNd {ops : Array Oper} {o : Oper} {a : Act} {K : Act → World → Prop} {Q : Exit → Act → World → Prop} {E : Prop} (w : World) (hgd : o.guard = none) (s x : Operand)
  (ho : o.op = .call { callee := .builtin .append, args := #[s, x], argTypes := #[53, 53] })
  (v : Value) (hs : a.eval s = v) (l : List Nd) (n : Nd) (u : Value) (lo q : Nat) (hx : a.eval x = .slice (some ⟨q, 0, none⟩) 1 1) (hone : u.oneCell' = true) (fr : Nat × Nat)
  (hq : w.heap[q]? = some (.cells #[.i n.h.sh, .i n.h.ino, .bool n.h.dir, .i n.par.sh, .i n.par.ino, .bool n.par.dir, .i n.links, .i n.val, u] 133 fr))
  (hown : SN w lo v l) (hu : RdV w (Ent w lo v) u (ensDt n.es)) (hlo : lo ≤ w.heap.size) (hl : l.length ≤ 4000)
  (h : ∀ g m cap w', SN w' lo (.slice g m cap) (l ++ [n]) → w.grownBy w' v.ownBlock → K (a.put o.dst (.slice g m cap)) w') : if Region.wanted o (yielded ops a.tmps) = true then Oper.wp Tryz.prog o a w K Q else E := by
 obtain ⟨i0, hi0, hz0, hz1, hz2⟩ := info_parts Tryz.infoNd
 obtain ⟨V, C, h1, h2, h3⟩ := hown
 refine step_append_lies w hgd s x 53 ho lo 133 i0 _ 9 _ Tryz.underlying53 hi0 hz0 hz1 hz2 rfl (by decide) v l.length C hs h1 ⟨q, 0, none⟩ 1 1 [.i n.h.sh, .i n.h.ino, .bool n.h.dir, .i n.par.sh, .i n.par.ino, .bool n.par.dir, .i n.links, .i n.val, u] hx rfl (World.news_of_block hq) (fun y hy => ?_) (by decide) (by unfold maxLen; omega) (by omega) hlo w.heap.size rfl ?_
 ·simp only [List.mem_cons, List.not_mem_nil, or_false] at hy
  rcases hy with rfl | rfl | rfl | rfl | rfl | rfl | rfl | rfl | rfl <;> first | exact hone | rfl
 intro g cap w' ho' hg hgg hgl
 exact h _ _ _ w' (SN.grow hu V C h1 h2 h3 ho' hg hgg) hg
theorem wpList_appNd {ops : Array Oper} {rest : List Oper} {o : Oper} {a : Act} {Q : Exit → Act → World → Prop} (w : World) (hgd : o.guard = none) (s x : Operand)
  (ho : o.op = .call { callee := .builtin .append, args := #[s, x], argTypes := #[53, 53] })
  (v : Value) (hs : a.eval s = v) (l : List Nd) (n : Nd) (u : Value) (lo q : Nat) (hx : a.eval x = .slice (some ⟨q, 0, none⟩) 1 1) (hone : u.oneCell' = true) (fr : Nat × Nat)
  (hq : w.heap[q]? = some (.cells #[.i n.h.sh, .i n.h.ino, .bool n.h.dir, .i n.par.sh, .i n.par.ino, .bool n.par.dir, .i n.links, .i n.val, u] 133 fr))
  (hown : SN w lo v l) (hu : RdV w (Ent w lo v) u (ensDt n.es)) (hlo : lo ≤ w.heap.size) (hl : l.length ≤ 4000)
  (h : ∀ g m cap w', SN w' lo (.slice g m cap) (l ++ [n]) → w.grownBy w' v.ownBlock → wpList Tryz.prog ops Q rest (a.put o.dst (.slice g m cap)) w') : wpList Tryz.prog ops Q (o :: rest) a w := by
 obtain ⟨i0, hi0, hz0, hz1, hz2⟩ := info_parts Tryz.infoNd
 obtain ⟨V, C, h1, h2, h3⟩ := hown
 refine wpList_append_lies w hgd s x 53 ho lo 133 i0 _ 9 _ Tryz.underlying53 hi0 hz0 hz1 hz2 rfl (by decide) v l.length C hs h1 ⟨q, 0, none⟩ 1 1 [.i n.h.sh, .i n.h.ino, .bool n.h.dir, .i n.par.sh, .i n.par.ino, .bool n.par.dir, .i n.links, .i n.val, u] hx rfl (World.news_of_block hq) (fun y hy => ?_) (by decide) (by unfold maxLen; omega) (by omega) hlo w.heap.size rfl ?_
 ·simp only [List.mem_cons, List.not_mem_nil, or_false] at hy
  rcases hy with rfl | rfl | rfl | rfl | rfl | rfl | rfl | rfl | rfl <;> first | exact hone | rfl
 intro g cap w' ho' hg hgg hgl
 exact h _ _ _ w' (SN.grow hu V C h1 h2 h3 ho' hg hgg) hg
end
section
theorem SN.low {w : World} {lo lo' : Nat} {v : Value} {l : List Nd} (s : SN w lo v l) (h : lo' ≤ lo) : SN w lo' v l := by
 obtain ⟨V, C, h1, h2, h3⟩ := s
 exact ⟨V, C, ⟨h1.1, h1.2.imp id (fun ⟨g, c, cur, hv, hg, r⟩ => ⟨g, c, cur, hv, Nat.le_trans h hg, r⟩)⟩, h2, fun i hi => RdV.mono (fun b hb => ⟨Nat.le_trans h hb.1, hb.2⟩) (h3 i hi)⟩

def CpRel (w : World) (v : Value) (l : List Nd) (i : Value) (wr : World) : Prop :=
 ∃ (k : Nat) (ga : Option Addr) (gn gc : Nat), k ≤ l.length ∧ i = .i k ∧ VarA wr w.heap.size 55 #[v] ∧ VarA wr (w.heap.size + 1) 55 #[.slice none 0 0] ∧ VarA wr (w.heap.size + 1 + 1) 55 #[.slice ga gn gc] ∧ SN wr (w.heap.size + 3) (.slice ga gn gc) (l.take k) ∧ Below w.heap.size w wr ∧ w.heap.size + 3 ≤ wr.heap.size
set_option maxHeartbeats 4000000 in
theorem specCopy4_any (v : Value) (l : List Nd) (S : Nat → Prop) (w : World) (r : RdV w S v (ndsDt l)) (hl : szNds l ≤ 2097152) (hn : l.length ≤ 4000) (hes : ∀ i : Nat, (l[i]?.getD nd0).es.length ≤ 4000) :
  Calls Tryz.prog 113 #[.agg #[v]] w fun e w' => ∃ a n c, e = .returned (.agg #[.slice a n c]) ∧ SN w' w.heap.size (.slice a n c) l ∧ Below w.heap.size w w' := by
 obtain ⟨a, cap, rfl, _⟩ := RdV.sliced r
 have HR : Hid (∀ W, Below w.heap.size w W → RdV W S (.slice a l.length cap) (ndsDt l)) := fun W hW => r.step hW
 clear r
 go_enter Tryz.func113, Tryz.ntmps113
 go_wp2
 go_loopw [4] (fun i wr => CpRel w (.slice a l.length cap) l i wr) (fun i _ => l.length - (intOf i).toNat)
 case atStart =>
  refine ⟨0, none, 0, 0, Nat.zero_le _, rfl, ((VarA.new w _ _).alloc _).alloc _, ?_, ?_, by rw [List.take_zero]; exact SN.nil _ _, (((Below.refl _ _).alloc (Nat.le_refl _) _).alloc (by simp) _).alloc (by simp; omega) _, by simp⟩
  ·have := (VarA.new (w.alloc (.cells #[.slice a l.length cap] 55)) 55 #[.slice none 0 0]).alloc (.cells #[.slice none 0 0] 55)
   simpa using this
  ·have := VarA.new ((w.alloc (.cells #[.slice a l.length cap] 55)).alloc (.cells #[.slice none 0 0] 55)) 55 #[.slice none 0 0]
   simpa using this
 case round =>
  obtain ⟨k, ga, gn, gc, hk, rfl, vT, vR, vO, sn, bw, hsz⟩ := hrel
  have t0 := vT.c 0 rfl
  by_cases hlt : k < l.length
  ·obtain ⟨b, off, rfl, hbl, hSb, hc⟩ := (HR.out w (Below.refl _ _)).at hlt
   have htk : l.take (k + 1) = l.take k ++ [l[k]?.getD nd0] := by rw [List.take_succ_eq_append_getElem hlt]; simp [hlt]
   have hel := hes k
   have hzn : szEns (l[k]?.getD nd0).es ≤ 2097152 := Nat.le_trans (szNds_at l k) hl
   obtain ⟨x0, q0, r0⟩ := hc 0 (by omega)
   obtain ⟨x1, q1, r1⟩ := hc 1 (by omega)
   obtain ⟨x2, q2, r2⟩ := hc 2 (by omega)
   obtain ⟨x3, q3, r3⟩ := hc 3 (by omega)
   obtain ⟨x4, q4, r4⟩ := hc 4 (by omega)
   obtain ⟨x5, q5, r5⟩ := hc 5 (by omega)
   obtain ⟨x6, q6, r6⟩ := hc 6 (by omega)
   obtain ⟨x7, q7, r7⟩ := hc 7 (by omega)
   obtain ⟨x8, q8, r8⟩ := hc 8 (by omega)
   generalize l[k]?.getD nd0 = nd at r0 r1 r2 r3 r4 r5 r6 r7 r8 htk hel hzn
   obtain ⟨⟨s0, s1, s2⟩, ⟨s3, s4, s5⟩, lk, vl, es⟩ := nd
   obtain rfl : x0 = .i s0 := r0
   obtain rfl : x1 = .i s1 := r1
   obtain rfl : x2 = .bool s2 := r2
   obtain rfl : x3 = .i s3 := r3
   obtain rfl : x4 = .i s4 := r4
   obtain rfl : x5 = .bool s5 := r5
   obtain rfl : x6 = .i lk := r6
   obtain rfl : x7 = .i vl := r7
   have r8' : RdV w S x8 (ensDt es) := r8
   obtain ⟨xa, xc, rfl, _⟩ := RdV.sliced r8'
   have HCE : Hid (∀ W, Below w.heap.size w W → _) := fun W hW => specCopyEn_any _ es S W (r8'.step hW) hzn hel
   have p0 := (bw.cell (p := ⟨b, off + k * 9 + 0, none⟩) hbl).trans q0
   have p1 := (bw.cell (p := ⟨b, off + k * 9 + 1, none⟩) hbl).trans q1
   have p2 := (bw.cell (p := ⟨b, off + k * 9 + 2, none⟩) hbl).trans q2
   have p3 := (bw.cell (p := ⟨b, off + k * 9 + 3, none⟩) hbl).trans q3
   have p4 := (bw.cell (p := ⟨b, off + k * 9 + 4, none⟩) hbl).trans q4
   have p5 := (bw.cell (p := ⟨b, off + k * 9 + 5, none⟩) hbl).trans q5
   have p6 := (bw.cell (p := ⟨b, off + k * 9 + 6, none⟩) hbl).trans q6
   have p7 := (bw.cell (p := ⟨b, off + k * 9 + 7, none⟩) hbl).trans q7
   have p8 := (bw.cell (p := ⟨b, off + k * 9 + 8, none⟩) hbl).trans q8
   rw [Nat.add_zero] at p0
   have HSN : Hid (SN wr (w.heap.size + 3) (.slice ga gn gc) (l.take k)) := sn
   have HBW : Hid (Below w.heap.size w wr) := bw
   have HVT : Hid (VarA wr w.heap.size 55 _) := vT
   have HVR : Hid (VarA wr (w.heap.size + 1) 55 _) := vR
   have HVO : Hid (VarA wr (w.heap.size + 1 + 1) 55 _) := vO
   have HTK : Hid _ := htk
   clear q0 q1 q2 q3 q4 q5 q6 q7 q8 r8 r8' hc vT vR vO sn bw htk
   go_wp2_with fail
   refine Calls.mono (HCE.out _ (HBW.out.alloc HBW.out.size _)) ?_
   rintro e w6 ⟨ea, en, ec, rfl, oE, b6⟩
   have s6 := b6.size
   rw [World.size_alloc] at s6
   have vN : VarA w6 wr.heap.size 133 _ := (VarA.new wr 133 #[.i s0, .i s1, .bool s2, .i s3, .i s4, .bool s5, .i lk, .i vl, .slice xa es.length xc]).step b6
   have b6' : Below wr.heap.size wr w6 := (Below.newH (w := wr) _).trans (b6.mono (by simp))
   have n0 := vN.c 0 rfl
   have n1 := vN.c 1 rfl
   have n2 := vN.c 2 rfl
   have n3 := vN.c 3 rfl
   have n4 := vN.c 4 rfl
   have n5 := vN.c 5 rfl
   have n6 := vN.c 6 rfl
   have n7 := vN.c 7 rfl
   have n8 := vN.c 8 rfl
   have nf := vN.fz
   have o0 := (HVO.out.step b6').c 0 rfl
   have hvo := HVO.out.lt
   have B8 : Below wr.heap.size wr ((w6.setCell ⟨wr.heap.size, 8, none⟩ (.slice ea en ec)).alloc (.cells #[.i s0, .i s1, .bool s2, .i s3, .i s4, .bool s5, .i lk, .i vl, .slice ea en ec] 133)) := (b6'.setCell (Nat.le_refl _) _).alloc (by simp; omega) _
   have SN8 := HSN.out.step B8
   have hvb := HSN.out.lt
   have RE8 : RdV ((w6.setCell ⟨wr.heap.size, 8, none⟩ (.slice ea en ec)).alloc (.cells #[.i s0, .i s1, .bool s2, .i s3, .i s4, .bool s5, .i lk, .i vl, .slice ea en ec] 133)) (Ent ((w6.setCell ⟨wr.heap.size, 8, none⟩ (.slice ea en ec)).alloc (.cells #[.i s0, .i s1, .bool s2, .i s3, .i s4, .bool s5, .i lk, .i vl, .slice ea en ec] 133)) (w.heap.size + 3) (.slice ga gn gc)) (.slice ea en ec) (ensDt es) := by
    refine RdV.mono (fun q hq => ?_) (RdV.keep ?_ (OwV.rd oE))
    ·simp at hq
     exact ⟨by omega, by simp; omega, fun h => by have := hvb q h; omega⟩
    ·refine ⟨by simp, fun q hq hlt => ?_⟩
     simp at hq
     rw [Below.heap_alloc _ _ q (by simpa using hlt), heap_setCell_other _ _ _ _ (by show q ≠ wr.heap.size; omega)]
   have HSN8 : Hid _ := SN8
   have HRE8 : Hid _ := RE8
   have HB8 : Hid _ := B8
   have hkl : (l.take k).length ≤ 4000 := by rw [List.length_take]; omega
   clear SN8 RE8 B8 oE b6 vN HCE p0 p1 p2 p3 p4 p5 p6 p7 p8
   go_wp2_with (at_builtin; go_must (refine wpList_appNd _ rfl (.tmp 23) (.tmp 25) rfl _ rfl (l.take k) ⟨(s0, s1, s2), (s3, s4, s5), lk, vl, es⟩ (.slice ea en ec) (w.heap.size + 3) w6.heap.size rfl rfl (0, 0) (by have := heap_alloc_new (w6.setCell ⟨wr.heap.size, 8, none⟩ (.slice ea en ec)) (.cells #[.i s0, .i s1, .bool s2, .i s3, .i s4, .bool s5, .i lk, .i vl, .slice ea en ec] 133); simpa using this) HSN8.out HRE8.out (by simp; omega) hkl ?_; intro g9 m9 c9 w9 sn9 hg9; have vO9 : VarA w9 (w.heap.size + 1 + 1) 55 #[.slice ga gn gc] := (hg9.block _ (by simp; omega) (fun h => by have := hvb _ h.symm; omega)).trans (HVO.out.step HB8.out); have z0 := vO9.c 0 rfl; have zf := vO9.fz))
   have s9 := hg9.size
   simp at s9
   have blk : ∀ q, q < wr.heap.size → q < w.heap.size + 3 → w9.heap[q]? = wr.heap[q]? := fun q hq hq3 => (hg9.block q (by simp; omega) (fun h => by have := hvb _ h.symm; omega)).trans (HB8.out.block q hq)
   have B9 : Below w.heap.size w w9 := Below.grown (HBW.out.trans (HB8.out.mono HBW.out.size)) hg9 (by have := HB8.out.size; omega) (fun q hq => by have := hvb q hq; omega)
   rw [← HTK.out] at sn9
   refine ⟨⟨k + 1, g9, m9, c9, by omega, by go_num, VarA.aside ((blk _ (by omega) (by omega)).trans HVT.out) (by show w.heap.size ≠ w.heap.size + 1 + 1; omega) _, VarA.aside ((blk _ (by omega) (by omega)).trans HVR.out) (by show w.heap.size + 1 ≠ w.heap.size + 1 + 1; omega) _, vO9.set 0 _, sn9.keep ⟨by simp, fun q hq _ => heap_setCell_other _ _ _ _ (by show q ≠ w.heap.size + 1 + 1; omega)⟩, B9.setCell (by show w.heap.size ≤ w.heap.size + 1 + 1; omega) _, by simp; omega⟩, by simp [intOf]; omega⟩
  ·have he : k = l.length := by omega
   subst he
   rw [List.take_length] at sn
   have r0 := vR.c 0 rfl
   have rf := vR.fz
   have o0 := vO.c 0 rfl
   have HSN : Hid _ := sn
   have HBW : Hid _ := bw
   clear vT vR vO sn bw
   go_wp2
   refine bodyPost_ret (v := .agg #[.slice ga gn gc]) (by simp [results, Tryz.results113, go_sem, r0]) rfl ⟨_, _, _, rfl, SN.low (SN.keep HSN.out ⟨by simp, fun q hq _ => heap_setCell_other _ _ _ _ (by show q ≠ w.heap.size + 1; omega)⟩) (by omega), HBW.out.setCell (by show w.heap.size ≤ w.heap.size + 1; omega) _⟩
end
section
def lessH (a b : Hd) : Bool := decide (a.sh < b.sh) || (decide (a.sh = b.sh) && decide (a.ino < b.ino))
theorem specLess_any (a b : Hd) (w : World) : Calls Tryz.prog 95 #[a.v, b.v] w fun e w' => e = .returned (.bool (lessH a b)) ∧ Below w.heap.size w w' := by
 obtain ⟨s, i, d⟩ := a
 obtain ⟨s2, i2, d2⟩ := b
 go_enter Tryz.func95, Tryz.ntmps95
 go_wp2
 all_goals (go_ret; exact ⟨by first | rfl | (simp_all [lessH] <;> omega), Below.newH2 _ _⟩)

def fi (l : List Nd) (h : Hd) : Nat := l.findIdx (fun n => decide (n.h = h))
def findH (l : List Nd) (h : Hd) : Int := if fi l h < l.length then (fi l h : Int) else -1
theorem fi_at (l : List Nd) (h : Hd) (k : Nat) (hk : k < l.length) (h1 : (l[k]?.getD nd0).h = h) (h2 : ∀ i, i < k → (l[i]?.getD nd0).h ≠ h) : fi l h = k := by
 unfold fi
 rw [List.findIdx_eq hk]
 refine ⟨by simpa [hk] using h1, fun j hj => ?_⟩
 have := h2 j hj
 have hj' : j < l.length := by omega
 simpa [hj'] using this
theorem fi_none (l : List Nd) (h : Hd) (h2 : ∀ i, i < l.length → (l[i]?.getD nd0).h ≠ h) : findH l h = -1 := by
 unfold findH fi
 rw [if_neg]
 rw [List.findIdx_lt_length]
 rintro ⟨x, hx, hp⟩
 obtain ⟨i, hi, rfl⟩ := List.getElem_of_mem hx
 exact h2 i hi (by simpa [hi] using hp)

set_option maxHeartbeats 2000000 in
theorem specFind_any (x : Value) (l : List Nd) (h : Hd) (S : Nat → Prop) (w : World) (r : RdV w S x (ndsDt l)) (hl : l.length ≤ 2097152) :
  Calls Tryz.prog 96 #[.agg #[x], h.v] w fun e w' => e = .returned (.i (findH l h)) ∧ Below w.heap.size w w' := by
 obtain ⟨a, cap, rfl, _⟩ := RdV.sliced r
 obtain ⟨s, ino, d⟩ := h
 have HR : Hid (∀ W, Below w.heap.size w W → RdV W S (.slice a l.length cap) (.rows 133 9 l.length (fun i j => ndCell (l[i]?.getD nd0) j))) := RdV.old r
 obtain ⟨n, hn⟩ : ∃ n, l.length = n := ⟨_, rfl⟩
 rw [hn] at hl HR ⊢
 have HN : Hid _ := hn
 clear r hn
 go_enter Tryz.func96, Tryz.ntmps96
 go_wp2
 go_loopw [5] (fun i wr => ∃ k : Nat, k ≤ n ∧ i = .i k ∧ Below w.heap.size w wr ∧ VarA wr w.heap.size 55 #[.slice a n cap] ∧ VarA wr (w.heap.size + 1) 24 #[.i s, .i ino, .bool d] ∧ Hid (∀ i, i < k → (l[i]?.getD nd0).h ≠ (s, ino, d))) (fun i _ => n - (intOf i).toNat)
 case atStart => exact ⟨0, Nat.zero_le _, rfl, Below.newH2 _ _, (VarA.new w _ _).alloc _, by have := VarA.new (w.alloc (.cells #[.slice a n cap] 55)) 24 #[.i s, .i ino, .bool d]; simpa using this, fun i hi => absurd hi (Nat.not_lt_zero _)⟩
 case round =>
  obtain ⟨k, hk, rfl, hbel, v0, v1, HA⟩ := hrel
  have c0 := v0.l1
  obtain ⟨f0, f1, f2⟩ := v1.l3
  by_cases hlt : k < n
  ·obtain ⟨b, off, rfl, hbl, _, hx⟩ := RdV.at (HR.out wr hbel) hlt
   obtain ⟨e, he⟩ : ∃ e, l[k]?.getD nd0 = e := ⟨_, rfl⟩
   obtain ⟨x0, c1, r0⟩ := hx 0 (by omega)
   obtain ⟨x1, c2, r1⟩ := hx 1 (by omega)
   obtain ⟨x2, c3, r2⟩ := hx 2 (by omega)
   rw [he] at r0 r1 r2
   have HE : Hid _ := he
   clear hx he
   obtain ⟨⟨p, q, dd⟩, par, lk, vl, es⟩ := e
   obtain rfl : x0 = .i p := r0
   obtain rfl : x1 = .i q := r1
   obtain rfl : x2 = .bool dd := r2
   simp only [Nat.add_zero] at c1
   have HY : Hid ((p = s ∧ q = ino ∧ dd = d) → findH l (s, ino, d) = (k : Int)) := by
    rintro ⟨rfl, rfl, rfl⟩
    have := fi_at l (p, q, dd) k (by rw [HN.out]; exact hlt) (by rw [HE.out]) HA.out
    show _ = _
    unfold findH
    rw [this, if_pos (by rw [HN.out]; exact hlt)]
   have HZ : Hid (¬ (p = s ∧ q = ino ∧ dd = d) → ∀ i, i < k + 1 → (l[i]?.getD nd0).h ≠ (s, ino, d)) := fun hne i hi => by
    by_cases h1 : i < k
    ·exact HA.out i h1
    ·obtain rfl : i = k := by omega
     rw [HE.out]
     intro e
     simp only [Prod.mk.injEq] at e
     exact hne e
   clear HA
   by_cases h1 : p = s
   case neg =>
    have g1 : (p == s) = false := by simpa using h1
    have HF : Hid _ := HZ.out (fun e => h1 e.1)
    clear HY HZ
    go_wp2
    go_quiet (fail)
    go_wp2
    go_roundw
    case rel => exact ⟨k + 1, by omega, by go_num, below_drewN2 hbel _, v0, v1, HF.out⟩
    case measure => simp [intOf]; omega
   subst h1
   by_cases h2 : q = ino
   case neg =>
    have g1 : (q == ino) = false := by simpa using h2
    have HF : Hid _ := HZ.out (fun e => h2 e.2.1)
    clear HY HZ
    go_wp2
    go_quiet (fail)
    go_wp2
    go_roundw
    case rel => exact ⟨k + 1, by omega, by go_num, below_drewN2 hbel _, v0, v1, HF.out⟩
    case measure => simp [intOf]; omega
   subst h2
   by_cases h3 : dd = d
   case neg =>
    have g1 : (dd == d) = false := by simpa using h3
    have HF : Hid _ := HZ.out (fun e => h3 e.2.2)
    clear HY HZ
    go_wp2
    go_quiet (fail)
    go_wp2
    go_roundw
    case rel => exact ⟨k + 1, by omega, by go_num, below_drewN2 hbel _, v0, v1, HF.out⟩
    case measure => simp [intOf]; omega
   subst h3
   have HF : Hid _ := HY.out ⟨rfl, rfl, rfl⟩
   clear HY HZ
   go_wp2
   go_quiet (fail)
   go_wp2
   go_ret
   exact ⟨by rw [HF.out]; rfl, below_drewN2 hbel _⟩
  ·have he : k = n := by omega
   subst he
   have HF : Hid (findH l (s, ino, d) = -1) := fi_none l _ (fun i hi => HA.out i (by rw [HN.out] at hi; exact hi))
   go_wp2
   go_ret
   exact ⟨by rw [HF.out]; rfl, hbel⟩

def cntE (es : List En) (h : Hd) : Nat := es.countP (fun e => decide (e.h = h))
def cntH (l : List Nd) (h : Hd) : Nat := psum (fun n => cntE n.es h) l l.length
theorem cntE_next (es : List En) (h : Hd) (k : Nat) (hk : k < es.length) : cntE (es.take (k + 1)) h = cntE (es.take k) h + (if (es[k]?.getD en0).h = h then 1 else 0) := by
 unfold cntE
 rw [List.take_succ_eq_append_getElem hk, List.countP_append]
 simp [hk, List.countP_cons]
theorem cntE_le (es : List En) (h : Hd) (k : Nat) : cntE (es.take k) h ≤ es.length := by
 unfold cntE
 exact Nat.le_trans List.countP_le_length (by simp; omega)
end
section
def ei (es : List En) (nm : List Int) : Nat := es.findIdx (fun e => decide (e.nm = nm))
def findE (es : List En) (nm : List Int) : Int := if ei es nm < es.length then (ei es nm : Int) else -1
theorem ei_at (l : List En) (h : List Int) (k : Nat) (hk : k < l.length) (h1 : (l[k]?.getD en0).nm = h) (h2 : ∀ i, i < k → (l[i]?.getD en0).nm ≠ h) : ei l h = k := by
 unfold ei
 rw [List.findIdx_eq hk]
 refine ⟨by simpa [hk] using h1, fun j hj => ?_⟩
 have := h2 j hj
 have hj' : j < l.length := by omega
 simpa [hj'] using this
theorem ei_none (l : List En) (h : List Int) (h2 : ∀ i, i < l.length → (l[i]?.getD en0).nm ≠ h) : findE l h = -1 := by
 unfold findE ei
 rw [if_neg]
 rw [List.findIdx_lt_length]
 rintro ⟨x, hx, hp⟩
 obtain ⟨i, hi, rfl⟩ := List.getElem_of_mem hx
 exact h2 i hi (by simpa [hi] using hp)
theorem conv_d (v : Value) (zs : List Int) (S : Nat → Prop) (w : World) (r : RdV w S v (.bytes zs)) : (convert 22 9 v).run Tryz.prog w = .ok (.string (strOfNums zs)) w := by
 obtain ⟨a, cap, rfl, _, hr⟩ := r.b.reads
 exact conv_any a zs zs.length cap w hr rfl

set_option maxHeartbeats 2000000 in
theorem specEntry_any (x y : Value) (n : Nd) (nm : List Int) (S S2 : Nat → Prop) (w : World) (r : RdV w S x (ensDt n.es)) (r2 : RdV w S2 y (.bytes nm)) (hl : n.es.length ≤ 2097152) :
  Calls Tryz.prog 182 #[ndV n x, y] w fun e w' => e = .returned (.i (findE n.es nm)) ∧ Below w.heap.size w w' := by
 obtain ⟨a, cap, rfl, _⟩ := RdV.sliced r
 obtain ⟨ya, yc, rfl⟩ := r2.sliceB
 obtain ⟨⟨p, q, d⟩, ⟨p2, q2, d2⟩, lk, vl, es⟩ := n
 dsimp only at r hl ⊢
 have hbn := r2.b.1
 have HR : Hid (∀ W, Below w.heap.size w W → RdV W S (.slice a es.length cap) (.rows 139 4 es.length (fun i j => enCell (es[i]?.getD en0) j))) := RdV.old r
 have HY : Hid (∀ W, Below w.heap.size w W → (convert 22 9 (.slice ya nm.length yc)).run Tryz.prog W = .ok (.string (strOfNums nm)) W) := fun W hW => conv_d _ nm S2 W (r2.step hW)
 obtain ⟨m, hm⟩ : ∃ m, es.length = m := ⟨_, rfl⟩
 rw [hm] at hl HR ⊢
 have HN : Hid _ := hm
 generalize nm.length = yn at *
 clear r r2 hm
 go_enter Tryz.func182, Tryz.ntmps182
 go_wp2
 go_loopw [5] (fun i wr => ∃ k : Nat, k ≤ m ∧ i = .i k ∧ Below w.heap.size w wr ∧ VarA wr w.heap.size 133 #[.i p, .i q, .bool d, .i p2, .i q2, .bool d2, .i lk, .i vl, .slice a m cap] ∧ Hid (∀ i, i < k → (es[i]?.getD en0).nm ≠ nm)) (fun i _ => m - (intOf i).toNat)
 case atStart => exact ⟨0, Nat.zero_le _, rfl, Below.newH _, VarA.new w _ _, fun i hi => absurd hi (Nat.not_lt_zero _)⟩
 case round =>
  obtain ⟨k, hk, rfl, hbel, v0, HA⟩ := hrel
  have c8 := v0.c 8 rfl
  dsimp at c8
  by_cases hlt : k < m
  ·obtain ⟨b, off, rfl, hbl, _, hx⟩ := RdV.at (HR.out wr hbel) hlt
   obtain ⟨e, he⟩ : ∃ e, es[k]?.getD en0 = e := ⟨_, rfl⟩
   obtain ⟨x0, c1, r0⟩ := hx 0 (by omega)
   rw [he] at r0
   have HE : Hid _ := he
   clear hx he
   obtain ⟨nm1, hh⟩ := e
   simp only [Nat.add_zero] at c1
   have RB : RdV wr S x0 (.bytes nm1) := r0
   have hb1 := RB.b.1
   have hcv : ∀ n, (convert 22 9 x0).run Tryz.prog (wr.drewN n) = .ok (.string (strOfNums nm1)) (wr.drewN n) := fun n => conv_d x0 nm1 S _ (RB.step (below_drewN2 (Below.refl _ _) n))
   have hcy : ∀ n, (convert 22 9 (.slice ya yn yc)).run Tryz.prog (wr.drewN n) = .ok (.string (strOfNums nm)) (wr.drewN n) := fun n => HY.out _ (below_drewN2 hbel n)
   obtain ⟨xa, xc, rfl⟩ := RB.sliceB
   generalize nm1.length = xn at *
   have hstr := str_eq nm1 nm hb1 hbn
   generalize strOfNums nm1 = s1 at hcv hstr
   generalize strOfNums nm = s2 at hcy hstr HY
   clear r0 RB hb1
   by_cases heq : nm1 = nm
   ·have HF : Hid (findE es nm = (k : Int)) := by
     have := ei_at es nm k (by rw [HN.out]; exact hlt) (by rw [HE.out]; exact heq) HA.out
     show _ = _
     unfold findE
     rw [this, if_pos (by rw [HN.out]; exact hlt)]
    simp only [heq, decide_true] at hstr
    clear HA HY
    go_wp2
    go_quiet (fail)
    go_wp2
    go_ret
    exact ⟨by rw [HF.out]; rfl, below_drewN2 hbel _⟩
   ·have HF : Hid (∀ i, i < k + 1 → (es[i]?.getD en0).nm ≠ nm) := fun i hi => by
     by_cases h1 : i < k
     ·exact HA.out i h1
     ·obtain rfl : i = k := by omega
      rw [HE.out]; exact heq
    simp only [heq, decide_false] at hstr
    clear HA HY
    go_wp2
    go_quiet (fail)
    go_wp2
    go_roundw
    case rel => exact ⟨k + 1, by omega, by go_num, below_drewN2 hbel _, v0, HF.out⟩
    case measure => simp [intOf]; omega
  ·have he : k = m := by omega
   subst he
   have HF : Hid (findE es nm = -1) := ei_none es _ (fun i hi => HA.out i (by rw [HN.out] at hi; exact hi))
   go_wp2
   go_ret
   exact ⟨by rw [HF.out]; rfl, hbel⟩
end
section
theorem SN.rd {w : World} {lo : Nat} {v : Value} {l : List Nd} (s : SN w lo v l) : RdV w (fun b => lo ≤ b ∧ b < w.heap.size) v (ndsDt l) := by
 obtain ⟨V, C, h1, h2, h3⟩ := s
 unfold ndsDt
 refine RdV.mkRows _ ?_
 rcases h1.2 with ⟨hv, h0⟩ | ⟨g, c, cur, hv, hg, hh, hnc, hm, _⟩
 ·subst hv
  rw [h0]
  exact ⟨none, 0, fun _ _ => undef, rfl, ⟨Nat.le_refl _, Nat.zero_le _, fun _ => ⟨rfl, rfl⟩⟩, .inl rfl, fun i j hi => absurd hi (Nat.not_lt_zero _)⟩
 ·subst hv
  refine ⟨some ⟨g, 0, none⟩, c, fun i j => ndVal (l[i]?.getD nd0) (V i) j, rfl, ⟨hnc, hm, fun e => by cases e⟩, .inr ⟨g, 0, rfl, ⟨hg, lt_of_block hh⟩, lt_of_block hh, fun i j hi hj => ?_⟩, fun i j hi hj => ?_⟩
  ·rw [Nat.zero_add, World.ownsRow.cellAt h1 (i * 9 + j) (place_lt hi hj)]
   exact h2 i j hi hj
  ·match j, hj with
   | 0, _ => rfl
   | 1, _ => rfl
   | 2, _ => rfl
   | 3, _ => rfl
   | 4, _ => rfl
   | 5, _ => rfl
   | 6, _ => rfl
   | 7, _ => rfl
   | 8, _ => exact RdV.mono (fun b hb => ⟨hb.1, hb.2.1⟩) (h3 i hi)

def refD (es : List En) (nm : List Int) : Int := if 0 ≤ findE es nm then 4 else if 12 ≤ es.length then 5 else 0
set_option maxHeartbeats 2000000 in
theorem specRefuse_any (x y : Value) (n : Nd) (nm : List Int) (S S2 : Nat → Prop) (w : World) (r : RdV w S x (ensDt n.es)) (r2 : RdV w S2 y (.bytes nm)) (hl : n.es.length ≤ 2097152) :
  Calls Tryz.prog 191 #[ndV n x, y] w fun e w' => e = .returned (.i (refD n.es nm)) ∧ Below w.heap.size w w' := by
 have HE : Hid (∀ W, Below w.heap.size w W → _) := fun W hW => specEntry_any x y n nm S S2 W (r.step hW) (r2.step hW) hl
 obtain ⟨a, cap, rfl, _⟩ := RdV.sliced r
 obtain ⟨ya, yc, rfl⟩ := r2.sliceB
 obtain ⟨⟨p, q, d⟩, ⟨p2, q2, d2⟩, lk, vl, es⟩ := n
 unfold refD
 dsimp only at HE hl ⊢
 generalize findE es nm = f at HE ⊢
 generalize es.length = en at *
 clear r r2
 go_enter Tryz.func191, Tryz.ntmps191
 go_wp2_with fail
 refine Calls.mono (HE.out _ (Below.newH _)) ?_
 rintro e w2 ⟨rfl, b_⟩
 have vA := (VarA.new w _ _).step b_
 have HB : Hid (Below w.heap.size w w2) := (Below.newH (w := w) _).trans (b_.mono (by simp))
 have c8 := vA.c 8 rfl
 clear b_ vA
 go_wp2
 all_goals (go_ret; refine ⟨?_, HB.out⟩; first | rfl | (simp_all; done) | (simp_all; omega))
end
section
set_option maxHeartbeats 8000000 in
theorem specHandF (v : Value) (xs : List Int) (p q : Int) (S S2 : Nat → Prop) (w : World) (r : RdV w S v (.bytes xs)) (hl : xs.length ≤ 1900000) : Ap 224 #[v, Hd.v (p, q, false)] w (xs ++ hdB (p, q, false)) := by
 have h1 := putB_len p
 have h2 := putB_len q
 have HR : Hid (∀ W, Below w.heap.size w W → _) := r.old
 clear r
 go_enter Tryz.func224, Tryz.ntmps224
 go_wp2
 go_region_held3 (fun w' => w'.cell? ⟨w.heap.size, 0, none⟩ = some (.i p) ∧ w'.cell? ⟨w.heap.size, 1, none⟩ = some (.i q) ∧ w'.cell? ⟨w.heap.size, 2, none⟩ = some (.bool false)) (first | go_keep | (refine ⟨?_, ?_, ?_⟩ <;> assumption)) (first
  | (go_at_call 219; (with_reducible refine Calls.mono (specPutR v xs p _ _ (HR.out _ (by repeat (first | apply bl1 | apply bl2 | apply bl3 | apply bl4))) (by omega)) ?_); rintro e w2 ⟨v1, rfl, z1, o1, b_⟩; have HB1 : Hid (Below w.heap.size w w2) := Below.trans (by repeat (first | apply bl1 | apply bl2 | apply bl3 | apply bl4)) (b_.mono (by simp [World.drew] <;> omega)); have vA1 : VarA w2 w.heap.size 24 #[.i p, .i q, .bool false] := VarA.step (VarA.dr (VarA.new w _ _)) b_; clear b_; obtain ⟨c1_0, c1_1, c1_2⟩ := vA1.l3)
  | (go_at_call 219; (with_reducible refine Calls.mono (specPutR v1 (xs ++ putB p) q _ _ ((Owns.step o1 (by repeat (first | apply bl1 | apply bl2 | apply bl3 | apply bl4))).rdT z1) (by simp only [List.length_append]; omega)) ?_); rintro e w3 ⟨v2, rfl, z2, o2, b_⟩; have HB2 : Hid (Below w.heap.size w w3) := HB1.out.trans (Below.mono (Below.trans (by repeat (first | apply bl1 | apply bl2 | apply bl3 | apply bl4)) b_) HB1.out.size); have vA2 : VarA w3 w.heap.size 24 #[.i p, .i q, .bool false] := VarA.step vA1 (Below.trans (by repeat (first | apply bl1 | apply bl2 | apply bl3 | apply bl4)) b_); clear b_; obtain ⟨c2_0, c2_1, c2_2⟩ := vA2.l3))
 all_goals
  have hsz := HB1.out.size
  have hs3 := HB2.out.size
  have HO : Hid (Owns w3 w.heap.size v2 (xs ++ putB p ++ putB q)) := o2.base (b' := w.heap.size) (by omega)
  have HZ : Hid _ := z2
  obtain ⟨a0_, a1_, a2_⟩ := vA2.l3
  clear o1 o2 z1 z2 vA1 vA2
  go_wp2_with (at_builtin; go_must (refine wpList_app _ rfl (.tmp 17) (.tmp 18) rfl w.heap.size v2 (xs ++ putB p ++ putB q) [0] rfl (HO.out.alloc _) _ 1 1 rfl rfl (one_new _ 0 (by omega) (by omega)) (by simp only [List.length_append]; omega) (by simp) (by simp; omega) (fun h => by cases h) ?_; intro v3 w4 ho hg))
  go_ret
  exact ⟨v3, rfl, by simpa [hdB, flagB, List.append_assoc] using isBytes_append HZ.out (flagB_bytes false), by simpa [hdB, flagB, List.append_assoc] using ho, (HB2.out.alloc hs3 _).grown hg (by simp; omega) (fun k hk => (HO.out.lt k hk).1)⟩
set_option maxHeartbeats 8000000 in
theorem specHandD (v : Value) (xs : List Int) (p q : Int) (S S2 : Nat → Prop) (w : World) (r : RdV w S v (.bytes xs)) (hl : xs.length ≤ 1900000) : Ap 224 #[v, Hd.v (p, q, true)] w (xs ++ hdB (p, q, true)) := by
 have h1 := putB_len p
 have h2 := putB_len q
 have HR : Hid (∀ W, Below w.heap.size w W → _) := r.old
 clear r
 go_enter Tryz.func224, Tryz.ntmps224
 go_wp2
 go_region_held3 (fun w' => w'.cell? ⟨w.heap.size, 0, none⟩ = some (.i p) ∧ w'.cell? ⟨w.heap.size, 1, none⟩ = some (.i q) ∧ w'.cell? ⟨w.heap.size, 2, none⟩ = some (.bool true)) (first | go_keep | (refine ⟨?_, ?_, ?_⟩ <;> assumption)) (first
  | (go_at_call 219; (with_reducible refine Calls.mono (specPutR v xs p _ _ (HR.out _ (by repeat (first | apply bl1 | apply bl2 | apply bl3 | apply bl4))) (by omega)) ?_); rintro e w2 ⟨v1, rfl, z1, o1, b_⟩; have HB1 : Hid (Below w.heap.size w w2) := Below.trans (by repeat (first | apply bl1 | apply bl2 | apply bl3 | apply bl4)) (b_.mono (by simp [World.drew] <;> omega)); have vA1 : VarA w2 w.heap.size 24 #[.i p, .i q, .bool true] := VarA.step (VarA.dr (VarA.new w _ _)) b_; clear b_; obtain ⟨c1_0, c1_1, c1_2⟩ := vA1.l3)
  | (go_at_call 219; (with_reducible refine Calls.mono (specPutR v1 (xs ++ putB p) q _ _ ((Owns.step o1 (by repeat (first | apply bl1 | apply bl2 | apply bl3 | apply bl4))).rdT z1) (by simp only [List.length_append]; omega)) ?_); rintro e w3 ⟨v2, rfl, z2, o2, b_⟩; have HB2 : Hid (Below w.heap.size w w3) := HB1.out.trans (Below.mono (Below.trans (by repeat (first | apply bl1 | apply bl2 | apply bl3 | apply bl4)) b_) HB1.out.size); have vA2 : VarA w3 w.heap.size 24 #[.i p, .i q, .bool true] := VarA.step vA1 (Below.trans (by repeat (first | apply bl1 | apply bl2 | apply bl3 | apply bl4)) b_); clear b_; obtain ⟨c2_0, c2_1, c2_2⟩ := vA2.l3))
 all_goals
  have hsz := HB1.out.size
  have hs3 := HB2.out.size
  have HO : Hid (Owns w3 w.heap.size v2 (xs ++ putB p ++ putB q)) := o2.base (b' := w.heap.size) (by omega)
  have HZ : Hid _ := z2
  obtain ⟨a0_, a1_, a2_⟩ := vA2.l3
  clear o1 o2 z1 z2 vA1 vA2
  go_wp2_with (at_builtin; go_must (refine wpList_app _ rfl (.tmp 14) (.tmp 15) rfl w.heap.size v2 (xs ++ putB p ++ putB q) [1] rfl (HO.out.alloc _) _ 1 1 rfl rfl (one_new _ 1 (by omega) (by omega)) (by simp only [List.length_append]; omega) (by simp) (by simp; omega) (fun h => by cases h) ?_; intro v3 w4 ho hg))
  go_ret
  exact ⟨v3, rfl, by simpa [hdB, flagB, List.append_assoc] using isBytes_append HZ.out (flagB_bytes true), by simpa [hdB, flagB, List.append_assoc] using ho, (HB2.out.alloc hs3 _).grown hg (by simp; omega) (fun k hk => (HO.out.lt k hk).1)⟩
theorem specHandR (v : Value) (xs : List Int) (h : Hd) (S : Nat → Prop) (w : World) (r : RdV w S v (.bytes xs)) (hl : xs.length ≤ 1900000) : Ap 224 #[v, h.v] w (xs ++ hdB h) := by
 obtain ⟨p, q, d⟩ := h
 cases d
 ·exact specHandF v xs p q S S w r hl
 ·exact specHandD v xs p q S S w r hl
theorem specHandX (v : Value) (xs : List Int) (p q : Int) (d : Bool) (S : Nat → Prop) (w : World) (r : RdV w S v (.bytes xs)) (hl : xs.length ≤ 1900000) : Ap 224 #[v, .agg #[.i p, .i q, .bool d]] w (xs ++ hdB (p, q, d)) := specHandR v xs (p, q, d) S w r hl
set_option maxHeartbeats 8000000 in
theorem specTxR (v : Value) (xs : List Int) (t : TxD) (S S2 : Nat → Prop) (w : World) (r : RdV w S v (.bytes xs)) (hl : xs.length ≤ 1800000) : Ap 222 #[v, txV t] w (xs ++ txB t) := by
 obtain ⟨p, q, s⟩ := t
 have h1 := putB_len p
 have h2 := putB_len q
 have h3 := putB_len s
 have HR : Hid (∀ W, Below w.heap.size w W → _) := r.old
 clear r
 go_enter Tryz.func222, Tryz.ntmps222
 go_wp2
 go_region_held3 (fun w' => w'.cell? ⟨w.heap.size, 0, none⟩ = some (.i p) ∧ w'.cell? ⟨w.heap.size, 1, none⟩ = some (.i q) ∧ w'.cell? ⟨w.heap.size, 2, none⟩ = some (.i s)) (first | go_keep | (refine ⟨?_, ?_, ?_⟩ <;> assumption)) (first
  | (go_at_call 219; (with_reducible refine Calls.mono (specPutR v xs p _ _ (HR.out _ (by repeat (first | apply bl1 | apply bl2 | apply bl3 | apply bl4))) (by omega)) ?_); rintro e w2 ⟨v1, rfl, z1, o1, b_⟩; have HB1 : Hid (Below w.heap.size w w2) := Below.trans (by repeat (first | apply bl1 | apply bl2 | apply bl3 | apply bl4)) (b_.mono (by simp [World.drew] <;> omega)); have vA1 : VarA w2 w.heap.size 31 #[.i p, .i q, .i s] := VarA.step (VarA.dr (VarA.new w _ _)) b_; clear b_; obtain ⟨c1_0, c1_1, c1_2⟩ := vA1.l3)
  | (go_at_call 219; (with_reducible refine Calls.mono (specPutR v1 (xs ++ putB p) q _ _ ((Owns.step o1 (by repeat (first | apply bl1 | apply bl2 | apply bl3 | apply bl4))).rdT z1) (by simp only [List.length_append]; omega)) ?_); rintro e w3 ⟨v2, rfl, z2, o2, b_⟩; have HB2 : Hid (Below w.heap.size w w3) := HB1.out.trans (Below.mono (Below.trans (by repeat (first | apply bl1 | apply bl2 | apply bl3 | apply bl4)) b_) HB1.out.size); have vA2 : VarA w3 w.heap.size 31 #[.i p, .i q, .i s] := VarA.step vA1 (Below.trans (by repeat (first | apply bl1 | apply bl2 | apply bl3 | apply bl4)) b_); clear b_; obtain ⟨c2_0, c2_1, c2_2⟩ := vA2.l3)
  | (go_at_call 219; (with_reducible refine Calls.mono (specPutR v2 (xs ++ putB p ++ putB q) s _ _ ((Owns.step o2 (by repeat (first | apply bl1 | apply bl2 | apply bl3 | apply bl4))).rdT z2) (by simp only [List.length_append]; omega)) ?_); rintro e w4 ⟨v3, rfl, z3, o3, b_⟩; have HB3 : Hid (Below w.heap.size w w4) := HB2.out.trans (Below.mono (Below.trans (by repeat (first | apply bl1 | apply bl2 | apply bl3 | apply bl4)) b_) HB2.out.size); have vA3 : VarA w4 w.heap.size 31 #[.i p, .i q, .i s] := VarA.step vA2 (Below.trans (by repeat (first | apply bl1 | apply bl2 | apply bl3 | apply bl4)) b_); clear b_; obtain ⟨c3_0, c3_1, c3_2⟩ := vA3.l3))
 all_goals
  go_wp2
  go_ret
  refine ⟨_, rfl, ?_, ?_, HB3.out⟩
  ·simpa [txB, List.append_assoc] using z3
  ·have o_ := o3.base (b' := w.heap.size) (by first | exact HB2.out.size | omega)
   simpa [txB, List.append_assoc] using o_
set_option maxHeartbeats 8000000 in
theorem specOpR (v : Value) (xs : List Int) (o : OpD) (x y : Value) (S S2 : Nat → Prop) (w : World) (r : RdV w S v (.bytes xs)) (hl : xs.length ≤ 1800000) (q1 : RdV w S2 x (.bytes o.nm)) (q2 : RdV w S2 y (.bytes o.asn)) (hn : o.nm.length ≤ 1048576) (hm : o.asn.length ≤ 1048576) : Ap 220 #[v, opV o x y] w (xs ++ opB o) := by
 obtain ⟨kd, ⟨p, q, d⟩, nm, ⟨p2, q2_, d2⟩, asn, vl⟩ := o
 dsimp only at q1 q2 hn hm ⊢
 have h1 := putB_len kd
 have h2 := hdB_len (p, q, d)
 have h3 := textB_len nm
 have h4 := hdB_len (p2, q2_, d2)
 have h5 := textB_len asn
 have h6 := putB_len vl
 have HX : Hid (∀ W, Below w.heap.size w W → _) := q1.old
 have HY : Hid (∀ W, Below w.heap.size w W → _) := q2.old
 clear q1 q2
 have HR : Hid (∀ W, Below w.heap.size w W → _) := r.old
 clear r
 go_enter Tryz.func220, Tryz.ntmps220
 go_wp2
 go_region_held3 (fun w' => w'.cell? ⟨w.heap.size, 0, none⟩ = some (.i kd) ∧ w'.cell? ⟨w.heap.size, 1, none⟩ = some (.i p) ∧ w'.cell? ⟨w.heap.size, 2, none⟩ = some (.i q) ∧ w'.cell? ⟨w.heap.size, 3, none⟩ = some (.bool d) ∧ w'.cell? ⟨w.heap.size, 4, none⟩ = some (x) ∧ w'.cell? ⟨w.heap.size, 5, none⟩ = some (.i p2) ∧ w'.cell? ⟨w.heap.size, 6, none⟩ = some (.i q2_) ∧ w'.cell? ⟨w.heap.size, 7, none⟩ = some (.bool d2) ∧ w'.cell? ⟨w.heap.size, 8, none⟩ = some (y) ∧ w'.cell? ⟨w.heap.size, 9, none⟩ = some (.i vl)) (first | go_keep | (refine ⟨?_, ?_, ?_, ?_, ?_, ?_, ?_, ?_, ?_, ?_⟩ <;> assumption)) (first
  | (go_at_call 219; (with_reducible refine Calls.mono (specPutR v xs kd _ _ (HR.out _ (by repeat (first | apply bl1 | apply bl2 | apply bl3 | apply bl4))) (by omega)) ?_); rintro e w2 ⟨v1, rfl, z1, o1, b_⟩; have HB1 : Hid (Below w.heap.size w w2) := Below.trans (by repeat (first | apply bl1 | apply bl2 | apply bl3 | apply bl4)) (b_.mono (by simp [World.drew] <;> omega)); have vA1 : VarA w2 w.heap.size 26 #[.i kd, .i p, .i q, .bool d, x, .i p2, .i q2_, .bool d2, y, .i vl] := VarA.step (VarA.dr (VarA.new w _ _)) b_; clear b_; obtain ⟨c1_0, c1_1, c1_2, c1_3, c1_4, c1_5, c1_6, c1_7, c1_8, c1_9⟩ := vA1.l10)
  | (go_at_call 224; (with_reducible refine Calls.mono (specHandX v1 (xs ++ putB kd) p q d _ _ ((Owns.step o1 (by repeat (first | apply bl1 | apply bl2 | apply bl3 | apply bl4))).rdT z1) (by simp only [List.length_append]; omega)) ?_); rintro e w3 ⟨v2, rfl, z2, o2, b_⟩; have HB2 : Hid (Below w.heap.size w w3) := HB1.out.trans (Below.mono (Below.trans (by repeat (first | apply bl1 | apply bl2 | apply bl3 | apply bl4)) b_) HB1.out.size); have vA2 : VarA w3 w.heap.size 26 #[.i kd, .i p, .i q, .bool d, x, .i p2, .i q2_, .bool d2, y, .i vl] := VarA.step vA1 (Below.trans (by repeat (first | apply bl1 | apply bl2 | apply bl3 | apply bl4)) b_); clear b_; obtain ⟨c2_0, c2_1, c2_2, c2_3, c2_4, c2_5, c2_6, c2_7, c2_8, c2_9⟩ := vA2.l10)
  | (go_at_call 262; (with_reducible refine Calls.mono (specTextR v2 _ (xs ++ putB kd ++ hdB (p, q, d)) nm _ S2 _ ((Owns.step o2 (by repeat (first | apply bl1 | apply bl2 | apply bl3 | apply bl4))).rdT z2) (HX.out _ (HB2.out.trans (Below.mono (by repeat (first | apply bl1 | apply bl2 | apply bl3 | apply bl4)) HB2.out.size))) (by simp only [List.length_append]; omega) (by omega)) ?_); rintro e w4 ⟨v3, rfl, z3, o3, b_⟩; have HB3 : Hid (Below w.heap.size w w4) := HB2.out.trans (Below.mono (Below.trans (by repeat (first | apply bl1 | apply bl2 | apply bl3 | apply bl4)) b_) HB2.out.size); have vA3 : VarA w4 w.heap.size 26 #[.i kd, .i p, .i q, .bool d, x, .i p2, .i q2_, .bool d2, y, .i vl] := VarA.step vA2 (Below.trans (by repeat (first | apply bl1 | apply bl2 | apply bl3 | apply bl4)) b_); clear b_; obtain ⟨c3_0, c3_1, c3_2, c3_3, c3_4, c3_5, c3_6, c3_7, c3_8, c3_9⟩ := vA3.l10))
 go_wp2
 go_region_held3 (fun w' => w'.cell? ⟨w.heap.size, 0, none⟩ = some (.i kd) ∧ w'.cell? ⟨w.heap.size, 1, none⟩ = some (.i p) ∧ w'.cell? ⟨w.heap.size, 2, none⟩ = some (.i q) ∧ w'.cell? ⟨w.heap.size, 3, none⟩ = some (.bool d) ∧ w'.cell? ⟨w.heap.size, 4, none⟩ = some (x) ∧ w'.cell? ⟨w.heap.size, 5, none⟩ = some (.i p2) ∧ w'.cell? ⟨w.heap.size, 6, none⟩ = some (.i q2_) ∧ w'.cell? ⟨w.heap.size, 7, none⟩ = some (.bool d2) ∧ w'.cell? ⟨w.heap.size, 8, none⟩ = some (y) ∧ w'.cell? ⟨w.heap.size, 9, none⟩ = some (.i vl)) (first | go_keep | (refine ⟨?_, ?_, ?_, ?_, ?_, ?_, ?_, ?_, ?_, ?_⟩ <;> assumption)) (first
  | (go_at_call 224; (with_reducible refine Calls.mono (specHandX v3 (xs ++ putB kd ++ hdB (p, q, d) ++ textB nm) p2 q2_ d2 _ _ ((Owns.step o3 (by repeat (first | apply bl1 | apply bl2 | apply bl3 | apply bl4))).rdT z3) (by simp only [List.length_append]; omega)) ?_); rintro e w5 ⟨v4, rfl, z4, o4, b_⟩; have HB4 : Hid (Below w.heap.size w w5) := HB3.out.trans (Below.mono (Below.trans (by repeat (first | apply bl1 | apply bl2 | apply bl3 | apply bl4)) b_) HB3.out.size); have vA4 : VarA w5 w.heap.size 26 #[.i kd, .i p, .i q, .bool d, x, .i p2, .i q2_, .bool d2, y, .i vl] := VarA.step vA3 (Below.trans (by repeat (first | apply bl1 | apply bl2 | apply bl3 | apply bl4)) b_); clear b_; obtain ⟨c4_0, c4_1, c4_2, c4_3, c4_4, c4_5, c4_6, c4_7, c4_8, c4_9⟩ := vA4.l10)
  | (go_at_call 262; (with_reducible refine Calls.mono (specTextR v4 _ (xs ++ putB kd ++ hdB (p, q, d) ++ textB nm ++ hdB (p2, q2_, d2)) asn _ S2 _ ((Owns.step o4 (by repeat (first | apply bl1 | apply bl2 | apply bl3 | apply bl4))).rdT z4) (HY.out _ (HB4.out.trans (Below.mono (by repeat (first | apply bl1 | apply bl2 | apply bl3 | apply bl4)) HB4.out.size))) (by simp only [List.length_append]; omega) (by omega)) ?_); rintro e w6 ⟨v5, rfl, z5, o5, b_⟩; have HB5 : Hid (Below w.heap.size w w6) := HB4.out.trans (Below.mono (Below.trans (by repeat (first | apply bl1 | apply bl2 | apply bl3 | apply bl4)) b_) HB4.out.size); have vA5 : VarA w6 w.heap.size 26 #[.i kd, .i p, .i q, .bool d, x, .i p2, .i q2_, .bool d2, y, .i vl] := VarA.step vA4 (Below.trans (by repeat (first | apply bl1 | apply bl2 | apply bl3 | apply bl4)) b_); clear b_; obtain ⟨c5_0, c5_1, c5_2, c5_3, c5_4, c5_5, c5_6, c5_7, c5_8, c5_9⟩ := vA5.l10)
  | (go_at_call 219; (with_reducible refine Calls.mono (specPutR v5 (xs ++ putB kd ++ hdB (p, q, d) ++ textB nm ++ hdB (p2, q2_, d2) ++ textB asn) vl _ _ ((Owns.step o5 (by repeat (first | apply bl1 | apply bl2 | apply bl3 | apply bl4))).rdT z5) (by simp only [List.length_append]; omega)) ?_); rintro e w7 ⟨v6, rfl, z6, o6, b_⟩; have HB6 : Hid (Below w.heap.size w w7) := HB5.out.trans (Below.mono (Below.trans (by repeat (first | apply bl1 | apply bl2 | apply bl3 | apply bl4)) b_) HB5.out.size); have vA6 : VarA w7 w.heap.size 26 #[.i kd, .i p, .i q, .bool d, x, .i p2, .i q2_, .bool d2, y, .i vl] := VarA.step vA5 (Below.trans (by repeat (first | apply bl1 | apply bl2 | apply bl3 | apply bl4)) b_); clear b_; obtain ⟨c6_0, c6_1, c6_2, c6_3, c6_4, c6_5, c6_6, c6_7, c6_8, c6_9⟩ := vA6.l10))
 all_goals
  go_wp2
  go_ret
  refine ⟨_, rfl, ?_, ?_, HB6.out⟩
  ·simpa [opB, List.append_assoc] using z6
  ·have o_ := o6.base (b' := w.heap.size) (by first | exact HB5.out.size | omega)
   simpa [opB, List.append_assoc] using o_
set_option maxHeartbeats 8000000 in
theorem specPartR (v : Value) (xs : List Int) (o : PtD) (x : Value) (S S2 : Nat → Prop) (w : World) (r : RdV w S v (.bytes xs)) (hl : xs.length ≤ 1800000) (q1 : RdV w S2 x (.bytes o.asn)) (hn : o.asn.length ≤ 1048576) : Ap 223 #[v, ptV o x] w (xs ++ ptB o) := by
 obtain ⟨kd, ⟨p, q, d⟩, nm, ⟨p2, q2_, d2⟩⟩ := o
 dsimp only at q1 hn ⊢
 have h1 := putB_len kd
 have h2 := hdB_len (p, q, d)
 have h3 := textB_len nm
 have h4 := hdB_len (p2, q2_, d2)
 have HX : Hid (∀ W, Below w.heap.size w W → _) := q1.old
 clear q1
 have HR : Hid (∀ W, Below w.heap.size w W → _) := r.old
 clear r
 go_enter Tryz.func223, Tryz.ntmps223
 go_wp2
 go_region_held3 (fun w' => w'.cell? ⟨w.heap.size, 0, none⟩ = some (.i kd) ∧ w'.cell? ⟨w.heap.size, 1, none⟩ = some (.i p) ∧ w'.cell? ⟨w.heap.size, 2, none⟩ = some (.i q) ∧ w'.cell? ⟨w.heap.size, 3, none⟩ = some (.bool d) ∧ w'.cell? ⟨w.heap.size, 4, none⟩ = some (x) ∧ w'.cell? ⟨w.heap.size, 5, none⟩ = some (.i p2) ∧ w'.cell? ⟨w.heap.size, 6, none⟩ = some (.i q2_) ∧ w'.cell? ⟨w.heap.size, 7, none⟩ = some (.bool d2)) (first | go_keep | (refine ⟨?_, ?_, ?_, ?_, ?_, ?_, ?_, ?_⟩ <;> assumption)) (first
  | (go_at_call 219; (with_reducible refine Calls.mono (specPutR v xs kd _ _ (HR.out _ (by repeat (first | apply bl1 | apply bl2 | apply bl3 | apply bl4))) (by omega)) ?_); rintro e w2 ⟨v1, rfl, z1, o1, b_⟩; have HB1 : Hid (Below w.heap.size w w2) := Below.trans (by repeat (first | apply bl1 | apply bl2 | apply bl3 | apply bl4)) (b_.mono (by simp [World.drew] <;> omega)); have vA1 : VarA w2 w.heap.size 33 #[.i kd, .i p, .i q, .bool d, x, .i p2, .i q2_, .bool d2] := VarA.step (VarA.dr (VarA.new w _ _)) b_; clear b_; obtain ⟨c1_0, c1_1, c1_2, c1_3, c1_4, c1_5, c1_6, c1_7⟩ := vA1.l8)
  | (go_at_call 224; (with_reducible refine Calls.mono (specHandX v1 (xs ++ putB kd) p q d _ _ ((Owns.step o1 (by repeat (first | apply bl1 | apply bl2 | apply bl3 | apply bl4))).rdT z1) (by simp only [List.length_append]; omega)) ?_); rintro e w3 ⟨v2, rfl, z2, o2, b_⟩; have HB2 : Hid (Below w.heap.size w w3) := HB1.out.trans (Below.mono (Below.trans (by repeat (first | apply bl1 | apply bl2 | apply bl3 | apply bl4)) b_) HB1.out.size); have vA2 : VarA w3 w.heap.size 33 #[.i kd, .i p, .i q, .bool d, x, .i p2, .i q2_, .bool d2] := VarA.step vA1 (Below.trans (by repeat (first | apply bl1 | apply bl2 | apply bl3 | apply bl4)) b_); clear b_; obtain ⟨c2_0, c2_1, c2_2, c2_3, c2_4, c2_5, c2_6, c2_7⟩ := vA2.l8)
  | (go_at_call 262; (with_reducible refine Calls.mono (specTextR v2 _ (xs ++ putB kd ++ hdB (p, q, d)) nm _ S2 _ ((Owns.step o2 (by repeat (first | apply bl1 | apply bl2 | apply bl3 | apply bl4))).rdT z2) (HX.out _ (HB2.out.trans (Below.mono (by repeat (first | apply bl1 | apply bl2 | apply bl3 | apply bl4)) HB2.out.size))) (by simp only [List.length_append]; omega) (by omega)) ?_); rintro e w4 ⟨v3, rfl, z3, o3, b_⟩; have HB3 : Hid (Below w.heap.size w w4) := HB2.out.trans (Below.mono (Below.trans (by repeat (first | apply bl1 | apply bl2 | apply bl3 | apply bl4)) b_) HB2.out.size); have vA3 : VarA w4 w.heap.size 33 #[.i kd, .i p, .i q, .bool d, x, .i p2, .i q2_, .bool d2] := VarA.step vA2 (Below.trans (by repeat (first | apply bl1 | apply bl2 | apply bl3 | apply bl4)) b_); clear b_; obtain ⟨c3_0, c3_1, c3_2, c3_3, c3_4, c3_5, c3_6, c3_7⟩ := vA3.l8)
  | (go_at_call 224; (with_reducible refine Calls.mono (specHandX v3 (xs ++ putB kd ++ hdB (p, q, d) ++ textB nm) p2 q2_ d2 _ _ ((Owns.step o3 (by repeat (first | apply bl1 | apply bl2 | apply bl3 | apply bl4))).rdT z3) (by simp only [List.length_append]; omega)) ?_); rintro e w5 ⟨v4, rfl, z4, o4, b_⟩; have HB4 : Hid (Below w.heap.size w w5) := HB3.out.trans (Below.mono (Below.trans (by repeat (first | apply bl1 | apply bl2 | apply bl3 | apply bl4)) b_) HB3.out.size); have vA4 : VarA w5 w.heap.size 33 #[.i kd, .i p, .i q, .bool d, x, .i p2, .i q2_, .bool d2] := VarA.step vA3 (Below.trans (by repeat (first | apply bl1 | apply bl2 | apply bl3 | apply bl4)) b_); clear b_; obtain ⟨c4_0, c4_1, c4_2, c4_3, c4_4, c4_5, c4_6, c4_7⟩ := vA4.l8))
 all_goals
  go_wp2
  go_ret
  refine ⟨_, rfl, ?_, ?_, HB4.out⟩
  ·simpa [ptB, List.append_assoc] using z4
  ·have o_ := o4.base (b' := w.heap.size) (by first | exact HB3.out.size | omega)
   simpa [ptB, List.append_assoc] using o_
end
section
theorem ensB_next (l : List En) (k : Nat) (h : k < l.length) : ensB (l.take (k + 1)) = ensB (l.take k) ++ enB (l[k]?.getD en0) := by
 unfold ensB
 rw [← List.take_append_getElem h, List.flatMap_append, List.getElem?_eq_getElem h]; simp
set_option maxHeartbeats 8000000 in
theorem specReplyR (v : Value) (xs : List Int) (o : RpD) (x : Value) (S S2 : Nat → Prop) (w : World) (r : RdV w S v (.bytes xs)) (hl : xs.length ≤ 1700000) (q1 : RdV w S2 x (ensDt o.list)) (hn : szEns o.list ≤ 1048576) (h12 : o.list.length ≤ 12) : Ap 221 #[v, rpV o x] w (xs ++ rpB o) := by
 obtain ⟨a, cap, rfl, _⟩ := RdV.sliced q1
 obtain ⟨kd, ⟨p, q, d⟩, vl, es⟩ := o
 dsimp only at q1 hn h12 ⊢
 have HR2 : Hid (∀ W, Below w.heap.size w W → RdV W S2 (.slice a es.length cap) (.rows 139 4 es.length (fun i j => enCell (es[i]?.getD en0) j))) := RdV.old q1
 have HL : Hid _ := hn
 have HN : Hid (∀ k, k < es.length → ensB (es.take (k + 1)) = ensB (es.take k) ++ enB (es[k]?.getD en0)) := fun k hk => ensB_next es k hk
 have HEL : Hid (∀ k, k ≤ es.length → (ensB (es.take k)).length ≤ 56 * 12) := fun k hk => by have := ensB_len (es.take k); rw [List.length_take] at this; omega
 have HEA : Hid (ensB (es.take es.length) = ensB es) := by show _ = _; rw [List.take_length]
 obtain ⟨m, hm⟩ : ∃ m, es.length = m := ⟨_, rfl⟩
 have HF : Hid (rpB ⟨kd, (p, q, d), vl, es⟩ = putB kd ++ (hdB (p, q, d) ++ (putB vl ++ (putB (m : Int) ++ ensB es)))) := by show _ = _; rw [← hm]; rfl
 rw [HF.out]
 rw [hm] at HR2 HN HEL HEA h12 ⊢
 clear q1 hn hm HF
 have h1 := putB_len kd
 have h2 := hdB_len (p, q, d)
 have h3 := putB_len vl
 have h4 := putB_len (m : Int)
 have HR : Hid (∀ W, Below w.heap.size w W → _) := r.old
 clear r
 go_enter Tryz.func221, Tryz.ntmps221
 go_wp2
 go_region_held3 (fun w' => w'.cell? ⟨w.heap.size, 0, none⟩ = some (.i kd) ∧ w'.cell? ⟨w.heap.size, 1, none⟩ = some (.i p) ∧ w'.cell? ⟨w.heap.size, 2, none⟩ = some (.i q) ∧ w'.cell? ⟨w.heap.size, 3, none⟩ = some (.bool d) ∧ w'.cell? ⟨w.heap.size, 4, none⟩ = some (.i vl) ∧ w'.cell? ⟨w.heap.size, 5, none⟩ = some (.slice a m cap)) (first | go_keep | (refine ⟨?_, ?_, ?_, ?_, ?_, ?_⟩ <;> assumption)) (first
  | (go_at_call 219; (with_reducible refine Calls.mono (specPutR v xs kd _ _ (HR.out _ (by repeat (first | apply bl1 | apply bl2 | apply bl3 | apply bl4))) (by omega)) ?_); rintro e w2 ⟨v1, rfl, z1, o1, b_⟩; have HB1 : Hid (Below w.heap.size w w2) := Below.trans (by repeat (first | apply bl1 | apply bl2 | apply bl3 | apply bl4)) (b_.mono (by simp [World.drew] <;> omega)); have vA1 : VarA w2 w.heap.size 29 #[.i kd, .i p, .i q, .bool d, .i vl, .slice a m cap] := VarA.step (VarA.dr (VarA.new w _ _)) b_; clear b_; obtain ⟨c1_0, c1_1, c1_2, c1_3, c1_4, c1_5⟩ := vA1.l6)
  | (go_at_call 224; (with_reducible refine Calls.mono (specHandX v1 (xs ++ putB kd) p q d _ _ ((Owns.step o1 (by repeat (first | apply bl1 | apply bl2 | apply bl3 | apply bl4))).rdT z1) (by simp only [List.length_append]; omega)) ?_); rintro e w3 ⟨v2, rfl, z2, o2, b_⟩; have HB2 : Hid (Below w.heap.size w w3) := HB1.out.trans (Below.mono (Below.trans (by repeat (first | apply bl1 | apply bl2 | apply bl3 | apply bl4)) b_) HB1.out.size); have vA2 : VarA w3 w.heap.size 29 #[.i kd, .i p, .i q, .bool d, .i vl, .slice a m cap] := VarA.step vA1 (Below.trans (by repeat (first | apply bl1 | apply bl2 | apply bl3 | apply bl4)) b_); clear b_; obtain ⟨c2_0, c2_1, c2_2, c2_3, c2_4, c2_5⟩ := vA2.l6)
  | (go_at_call 219; (with_reducible refine Calls.mono (specPutR v2 (xs ++ putB kd ++ hdB (p, q, d)) vl _ _ ((Owns.step o2 (by repeat (first | apply bl1 | apply bl2 | apply bl3 | apply bl4))).rdT z2) (by simp only [List.length_append]; omega)) ?_); rintro e w4 ⟨v3, rfl, z3, o3, b_⟩; have HB3 : Hid (Below w.heap.size w w4) := HB2.out.trans (Below.mono (Below.trans (by repeat (first | apply bl1 | apply bl2 | apply bl3 | apply bl4)) b_) HB2.out.size); have vA3 : VarA w4 w.heap.size 29 #[.i kd, .i p, .i q, .bool d, .i vl, .slice a m cap] := VarA.step vA2 (Below.trans (by repeat (first | apply bl1 | apply bl2 | apply bl3 | apply bl4)) b_); clear b_; obtain ⟨c3_0, c3_1, c3_2, c3_3, c3_4, c3_5⟩ := vA3.l6)
  | (go_at_call 219; (with_reducible refine Calls.mono (specPutR v3 (xs ++ putB kd ++ hdB (p, q, d) ++ putB vl) (m : Int) _ _ ((Owns.step o3 (by repeat (first | apply bl1 | apply bl2 | apply bl3 | apply bl4))).rdT z3) (by simp only [List.length_append]; omega)) ?_); rintro e w5 ⟨v4, rfl, z4, o4, b_⟩; have HB4 : Hid (Below w.heap.size w w5) := HB3.out.trans (Below.mono (Below.trans (by repeat (first | apply bl1 | apply bl2 | apply bl3 | apply bl4)) b_) HB3.out.size); have vA4 : VarA w5 w.heap.size 29 #[.i kd, .i p, .i q, .bool d, .i vl, .slice a m cap] := VarA.step vA3 (Below.trans (by repeat (first | apply bl1 | apply bl2 | apply bl3 | apply bl4)) b_); clear b_; obtain ⟨c4_0, c4_1, c4_2, c4_3, c4_4, c4_5⟩ := vA4.l6))
 all_goals
  have hsz := HB3.out.size
  have HO0 : Hid (Owns w5 w.heap.size v4 (xs ++ putB kd ++ hdB (p, q, d) ++ putB vl ++ putB (m : Int))) := o4.base (b' := w.heap.size) hsz
  have HZ0 : Hid _ := z4
  have HBB := HB4
  have vA := vA4
  clear o1 o2 o3 o4 z1 z2 z3 z4 vA1 vA2 vA3 vA4 c1_0 c1_1 c1_2 c1_3 c1_4 c1_5 c2_0 c2_1 c2_2 c2_3 c2_4 c2_5 c3_0 c3_1 c3_2 c3_3 c3_4 c3_5 c4_0 c4_1 c4_2 c4_3 c4_4 c4_5 HB1 HB2 HB3 HB4
  obtain ⟨ys, hys⟩ : ∃ ys, xs ++ putB kd ++ hdB (p, q, d) ++ putB vl ++ putB (m : Int) = ys := ⟨_, rfl⟩
  have hyl : ys.length ≤ 1700100 := by rw [← hys]; simp only [List.length_append]; omega
  have HGO : Hid (xs ++ (putB kd ++ (hdB (p, q, d) ++ (putB vl ++ (putB (m : Int) ++ ensB es)))) = ys ++ ensB es) := by show _ = _; rw [← hys]; simp [List.append_assoc]
  rw [hys] at HO0 HZ0
  clear hys h1 h2 h3 h4 hsz hl HR
  obtain ⟨a0_, a1_, a2_, a3_, a4_, a5_⟩ := vA.l6
  go_wp2
  go_loopw [0, 5] (fun q' i wr => ∃ (k : Nat) (u : Value), k ≤ m ∧ i = .i k ∧ u = q' ∧ Hid (isBytes (ys ++ ensB (es.take k))) ∧ Hid (Owns wr w.heap.size u (ys ++ ensB (es.take k))) ∧ Hid (Below w.heap.size w wr) ∧ VarA wr w.heap.size 29 #[.i kd, .i p, .i q, .bool d, .i vl, .slice a m cap]) (fun _ i _ => m - (intOf i).toNat)
  case atStart => exact ⟨0, v4, Nat.zero_le _, rfl, rfl, by show isBytes _; rw [List.take_zero]; simp only [ensB, List.flatMap_nil, List.append_nil]; exact HZ0.out, by show Owns _ _ _ _; simpa [ensB] using HO0.out, HBB, vA⟩
  case round =>
   clear HO0 HZ0 HBB vA a0_ a1_ a2_ a3_ a4_ a5_
   obtain ⟨k, u, hk, rfl, rfl, HZ, HO, hbel, vA⟩ := hrel
   obtain ⟨a0_, a1_, a2_, a3_, a4_, a5_⟩ := vA.l6
   have hvl_ := vA.lt
   by_cases hlt : k < m
   case neg =>
    have he : k = m := by omega
    subst he
    go_wp2
    go_ret
    exact ⟨_, rfl, by rw [HGO.out, ← HEA.out]; exact HZ.out, by rw [HGO.out, ← HEA.out]; exact HO.out, hbel.out⟩
   obtain ⟨b, off, rfl, hbl, _, hx⟩ := RdV.at (HR2.out wr hbel.out) hlt
   obtain ⟨e, he⟩ : ∃ e, es[k]?.getD en0 = e := ⟨_, rfl⟩
   obtain ⟨x0, c0, r0⟩ := hx 0 (by omega)
   obtain ⟨x1, c1, r1⟩ := hx 1 (by omega)
   obtain ⟨x2, c2, r2⟩ := hx 2 (by omega)
   obtain ⟨x3, c3, r3⟩ := hx 3 (by omega)
   rw [he] at r0 r1 r2 r3
   have HNX : Hid (ensB (es.take (k + 1)) = ensB (es.take k) ++ enB e) := by rw [HN.out k hlt, he]; rfl
   have hnz : e.nm.length ≤ 1048576 := by have h1 := szEns_at es k; rw [he] at h1; have h2 := HL.out; omega
   clear hx he
   obtain ⟨nm, ⟨s, ino, dd⟩⟩ := e
   obtain rfl : x1 = .i s := r1
   obtain rfl : x2 = .i ino := r2
   obtain rfl : x3 = .bool dd := r3
   simp only [Nat.add_zero] at c0
   dsimp only at hnz HNX
   have RB : Hid (∀ W, Below wr.heap.size wr W → RdV W S2 x0 (.bytes nm)) := fun W hW => RdV.step (show RdV wr S2 x0 (.bytes nm) from r0) hW
   clear r0
   have hkl := HEL.out k hk
   have h5 := textB_len nm
   have hws := hbel.out.size
   go_wp2
   go_region_held3 (fun w' => w'.cell? ⟨w.heap.size, 5, none⟩ = some (.slice (some ⟨b, off, none⟩) m cap) ∧ w'.cell? ⟨b, off + k * 4, none⟩ = some x0 ∧ w'.cell? ⟨b, off + k * 4 + 1, none⟩ = some (.i s) ∧ w'.cell? ⟨b, off + k * 4 + 2, none⟩ = some (.i ino) ∧ w'.cell? ⟨b, off + k * 4 + 3, none⟩ = some (.bool dd)) (first | go_keep | (refine ⟨?_, ?_, ?_, ?_, ?_⟩ <;> assumption)) (first
    | (go_at_call 262; (with_reducible refine Calls.mono (specTextR u x0 (ys ++ ensB (es.take k)) nm _ S2 _ ((Owns.step HO.out (by repeat (first | apply bl1 | apply bl2 | apply bl3 | apply bl4))).rdT HZ.out) (RB.out _ (by repeat (first | apply bl1 | apply bl2 | apply bl3 | apply bl4))) (by simp only [List.length_append]; omega) (by omega)) ?_); rintro e w2 ⟨v1, rfl, z1, o1, b_⟩; have b1 : Below wr.heap.size wr w2 := Below.trans (by repeat (first | apply bl1 | apply bl2 | apply bl3 | apply bl4)) b_; clear b_; have d5 := (b1.cell (p := ⟨w.heap.size, 5, none⟩) hvl_).trans a5_; have e0 := (b1.cell (p := ⟨b, off + k * 4, none⟩) hbl).trans c0; have e1 := (b1.cell (p := ⟨b, off + k * 4 + 1, none⟩) hbl).trans c1; have e2 := (b1.cell (p := ⟨b, off + k * 4 + 2, none⟩) hbl).trans c2; have e3 := (b1.cell (p := ⟨b, off + k * 4 + 3, none⟩) hbl).trans c3)
    | (go_at_call 224; (with_reducible refine Calls.mono (specHandX v1 (ys ++ ensB (es.take k) ++ textB nm) s ino dd _ _ ((Owns.step o1 (by repeat (first | apply bl1 | apply bl2 | apply bl3 | apply bl4))).rdT z1) (by simp only [List.length_append]; omega)) ?_); rintro e w3 ⟨v2, rfl, z2, o2, b_⟩; have b2 : Below wr.heap.size wr w3 := b1.trans (b_.mono b1.size); clear b_; have f5 := (b2.cell (p := ⟨w.heap.size, 5, none⟩) hvl_).trans a5_; have g0 := (b2.cell (p := ⟨b, off + k * 4, none⟩) hbl).trans c0; have g1 := (b2.cell (p := ⟨b, off + k * 4 + 1, none⟩) hbl).trans c1; have g2 := (b2.cell (p := ⟨b, off + k * 4 + 2, none⟩) hbl).trans c2; have g3 := (b2.cell (p := ⟨b, off + k * 4 + 3, none⟩) hbl).trans c3))
   all_goals
    have HZ2 : Hid (isBytes (ys ++ ensB (es.take (k + 1)))) := by show isBytes _; rw [HNX.out]; simpa [enB, List.append_assoc] using z2
    have HO2 : Hid (Owns w3 w.heap.size v2 (ys ++ ensB (es.take (k + 1)))) := by
     have o_ := o2.base (b' := w.heap.size) (Nat.le_trans hws b1.size)
     show Owns _ _ _ _
     rw [HNX.out]; simpa [enB, List.append_assoc] using o_
    have HB2 : Hid (Below w.heap.size w w3) := hbel.out.trans (b2.mono hws)
    have vA2 := vA.step b2
    clear HZ HO hbel z1 z2 o1 o2
    go_wp2
    refine ⟨?_, ?_⟩
    ·exact ⟨k + 1, v2, by omega, by go_num, rfl, HZ2, HO2, HB2, vA2⟩
    ·simp [intOf]; omega
end
section
set_option maxHeartbeats 2000000 in
theorem implFlagC (pb : Nat) (zs : List Int) (v : Value) (p : Int) (w : World) (h : CurV 108 pb zs v p w) (hl : zs.length ≤ 2000000) :
  Calls Tryz.prog 218 #[.pointer (some ⟨pb, 0, none⟩)] w fun e w' => e = .returned (.bool (rdFlag zs p).1) ∧ Gone 108 pb zs v (rdFlag zs p).2 w w' := by
 have hz := RdV.zs h.2.1
 rw [← flag_num p hz]
 have HN : Hid _ := implNumC pb zs v p w h hl
 have HA : Hid _ := getNum_at hz p
 clear h
 generalize getNum zs p = g at HN HA ⊢
 obtain ⟨n, nx⟩ := g
 dsimp only at HN HA ⊢
 have HF : Hid (∀ W, Calls Tryz.prog 164 #[.i n] W fun e w' => e = .returned (.bool (decide (n = 0) || decide (n = 1))) ∧ w' = W) := fun W => by
  go_enter Tryz.func164, Tryz.ntmps164
  go_wp2
  all_goals (go_ret; exact ⟨by first | rfl | (simp_all; done) | (simp_all; omega) | (simp_all; rw [Bool.eq_iff_iff]; simp; done), rfl⟩)
 have hbq : (n == 1) = decide (n = 1) := by simp [BEq.beq]
 by_cases hn : n = 0 ∨ n = 1
 ·have hb : (decide (n = 0) || decide (n = 1)) = true := by simpa using hn
  rw [hb] at HF
  rw [if_pos hn]
  go_enter Tryz.func218, Tryz.ntmps218
  go_wp2_with fail
  refine Calls.mono HN.out ?_
  rintro e w2 ⟨rfl, hc, ht⟩
  have HC : Hid _ := hc
  have HT : Hid _ := ht
  clear hc ht HN
  go_wp2_with (go_at_call 164; refine Calls.mono (HF.out _) ?_; rintro e w' ⟨rfl, rfl⟩)
  all_goals (go_ret; exact ⟨by first | rfl | simp [hbq] | simp_all, HC.out, HT.out⟩)
 ·have hb : (decide (n = 0) || decide (n = 1)) = false := by simp only [Bool.or_eq_false_iff, decide_eq_false_iff_not]; omega
  rw [hb] at HF
  rw [if_neg hn]
  go_enter Tryz.func218, Tryz.ntmps218
  go_wp2_with fail
  refine Calls.mono HN.out ?_
  rintro e w2 ⟨rfl, hc, ht⟩
  obtain ⟨c0, c1⟩ := VarA.l2 hc.1
  have hf := VarA.fz hc.1
  have HC : Hid (CurV 108 pb zs v (-1) (w2.setCell ⟨pb, 1, none⟩ (.i (-1)))) := CurV.put hc (-1) (by omega) (by omega)
  have HT : Hid (Turned (fun b => b = pb) w (w2.setCell ⟨pb, 1, none⟩ (.i (-1)))) := ht.set _ _ rfl
  clear hc ht HN
  go_wp2_with (go_at_call 164; refine Calls.mono (HF.out _) ?_; rintro e w' ⟨rfl, rfl⟩)
  all_goals (go_ret; exact ⟨by first | rfl | simp [hbq] | simp_all, HC.out, HT.out⟩)
set_option maxHeartbeats 4000000 in
theorem implHandC (pb : Nat) (zs : List Int) (v : Value) (p : Int) (w : World) (h : CurV 108 pb zs v p w) (hl : zs.length ≤ 2000000) :
  Calls Tryz.prog 156 #[.pointer (some ⟨pb, 0, none⟩)] w fun e w' => e = .returned (Hd.v (rdHd zs p).1) ∧ Gone 108 pb zs v (rdHd zs p).2 w w' := by
 have hz := RdV.zs h.2.1
 have hpl := h.lt
 obtain ⟨n0, q0, e0⟩ : ∃ x q, getNum zs p = (x, q) := ⟨_, _, rfl⟩
 have H0 : Hid (∀ W, CurV 108 pb zs v p W → _) := fun W hW => by have h_ := implNumC pb zs v p W hW hl; rw [e0] at h_; exact h_
 obtain ⟨n1, q1, e1⟩ : ∃ x q, getNum zs q0 = (x, q) := ⟨_, _, rfl⟩
 have H1 : Hid (∀ W, CurV 108 pb zs v q0 W → _) := fun W hW => by have h_ := implNumC pb zs v q0 W hW hl; rw [e1] at h_; exact h_
 obtain ⟨b2, q2, e2⟩ : ∃ x q, rdFlag zs q1 = (x, q) := ⟨_, _, rfl⟩
 have H2 : Hid (∀ W, CurV 108 pb zs v q1 W → _) := fun W hW => by have h_ := implFlagC pb zs v q1 W hW hl; rw [e2] at h_; exact h_
 have hR : rdHd zs p = ((n0, n1, b2), q2) := by simp [rdHd, e0, e1, e2]
 rw [hR]
 clear hR e0 e1 e2
 have HC0 : Hid (CurV 108 pb zs v p w) := h
 clear h
 dsimp only
 go_enter Tryz.func156, Tryz.ntmps156
 go_wp2_with fail
 refine Calls.mono (H0.out _ (HC0.out.alloc _)) ?_
 rintro e w1 ⟨rfl, hc_, t_⟩
 have HT : Hid (Turned (fun b => b = pb) w w1) := (Turned.ofBelow (Below.new1 (w := w) _)).trans t_
 have vR : VarA w1 w.heap.size 24 #[.i 0, .i 0, .bool false] := VarA.turn (VarA.new w _ _) t_ (by omega)
 have hx0 := t_.size
 simp at hx0
 have HC1 : Hid (CurV 108 pb zs v q0 w1) := hc_
 clear hc_ t_ H0 HC0
 go_wp2_with fail
 refine Calls.mono (H1.out _ HC1.out) ?_
 rintro e w2 ⟨rfl, hc_, t_⟩
 have HT_ : Hid (Turned (fun b => b = pb) w w2) := HT.out.trans t_
 clear HT
 have HT := HT_
 clear HT_
 have vR_ := vR.turn t_ (by omega)
 clear vR
 have vR := vR_
 clear vR_
 have hx1 := t_.size
 have HC2 : Hid (CurV 108 pb zs v q1 w2) := hc_
 clear hc_ t_ H1 HC1
 go_wp2_with fail
 refine Calls.mono (H2.out _ HC2.out) ?_
 rintro e w3 ⟨rfl, hc_, t_⟩
 have HT_ : Hid (Turned (fun b => b = pb) w w3) := HT.out.trans t_
 clear HT
 have HT := HT_
 clear HT_
 have vR_ := vR.turn t_ (by omega)
 clear vR
 have vR := vR_
 clear vR_
 have hx2 := t_.size
 have HC3 : Hid (CurV 108 pb zs v q2 w3) := hc_
 clear hc_ t_ H2 HC2
 dsimp only
 repeat (first | ((with_reducible refine gS 24 ?_); refine sF vR rfl rfl (by kernel_rfl) rfl rfl ?_; intro w' vR_ t_) | go_values | go_skip | go_guarded | go_step | go_upon)
 have t1 : Turned (fun b => b = w.heap.size) w3 w' := t_
 have hC : CurV 108 pb zs v q2 w' := HC3.out.keep t1 (fun b hb => by omega)
 have hT : Turned (fun b => b = pb) w w' := HT.out.then t1 (fun i hi hs => by omega)
 have hsz := t1.size
 refine bpR Tryz.results156 vR_ Tryz.underlying24 rfl rfl (by kernel_rfl) rfl ?_
 exact ⟨rfl, hC, hT⟩
set_option maxHeartbeats 4000000 in
theorem implTxC (pb : Nat) (zs : List Int) (v : Value) (p : Int) (w : World) (h : CurV 108 pb zs v p w) (hl : zs.length ≤ 2000000) :
  Calls Tryz.prog 154 #[.pointer (some ⟨pb, 0, none⟩)] w fun e w' => e = .returned (txV (rdTx zs p).1) ∧ Gone 108 pb zs v (rdTx zs p).2 w w' := by
 have hz := RdV.zs h.2.1
 have hpl := h.lt
 obtain ⟨n0, q0, e0⟩ : ∃ x q, getNum zs p = (x, q) := ⟨_, _, rfl⟩
 have H0 : Hid (∀ W, CurV 108 pb zs v p W → _) := fun W hW => by have h_ := implNumC pb zs v p W hW hl; rw [e0] at h_; exact h_
 obtain ⟨n1, q1, e1⟩ : ∃ x q, getNum zs q0 = (x, q) := ⟨_, _, rfl⟩
 have H1 : Hid (∀ W, CurV 108 pb zs v q0 W → _) := fun W hW => by have h_ := implNumC pb zs v q0 W hW hl; rw [e1] at h_; exact h_
 obtain ⟨n2, q2, e2⟩ : ∃ x q, getNum zs q1 = (x, q) := ⟨_, _, rfl⟩
 have H2 : Hid (∀ W, CurV 108 pb zs v q1 W → _) := fun W hW => by have h_ := implNumC pb zs v q1 W hW hl; rw [e2] at h_; exact h_
 have hR : rdTx zs p = ((n0, n1, n2), q2) := by simp [rdTx, e0, e1, e2]
 rw [hR]
 clear hR e0 e1 e2
 have HC0 : Hid (CurV 108 pb zs v p w) := h
 clear h
 dsimp only
 go_enter Tryz.func154, Tryz.ntmps154
 go_wp2_with fail
 refine Calls.mono (H0.out _ (HC0.out.alloc _)) ?_
 rintro e w1 ⟨rfl, hc_, t_⟩
 have HT : Hid (Turned (fun b => b = pb) w w1) := (Turned.ofBelow (Below.new1 (w := w) _)).trans t_
 have vR : VarA w1 w.heap.size 31 #[.i 0, .i 0, .i 0] := VarA.turn (VarA.new w _ _) t_ (by omega)
 have hx0 := t_.size
 simp at hx0
 have HC1 : Hid (CurV 108 pb zs v q0 w1) := hc_
 clear hc_ t_ H0 HC0
 go_wp2_with fail
 refine Calls.mono (H1.out _ HC1.out) ?_
 rintro e w2 ⟨rfl, hc_, t_⟩
 have HT_ : Hid (Turned (fun b => b = pb) w w2) := HT.out.trans t_
 clear HT
 have HT := HT_
 clear HT_
 have vR_ := vR.turn t_ (by omega)
 clear vR
 have vR := vR_
 clear vR_
 have hx1 := t_.size
 have HC2 : Hid (CurV 108 pb zs v q1 w2) := hc_
 clear hc_ t_ H1 HC1
 go_wp2_with fail
 refine Calls.mono (H2.out _ HC2.out) ?_
 rintro e w3 ⟨rfl, hc_, t_⟩
 have HT_ : Hid (Turned (fun b => b = pb) w w3) := HT.out.trans t_
 clear HT
 have HT := HT_
 clear HT_
 have vR_ := vR.turn t_ (by omega)
 clear vR
 have vR := vR_
 clear vR_
 have hx2 := t_.size
 have HC3 : Hid (CurV 108 pb zs v q2 w3) := hc_
 clear hc_ t_ H2 HC2
 dsimp only
 repeat (first | ((with_reducible refine gS 31 ?_); refine sF vR rfl rfl (by kernel_rfl) rfl rfl ?_; intro w' vR_ t_) | go_values | go_skip | go_guarded | go_step | go_upon)
 have t1 : Turned (fun b => b = w.heap.size) w3 w' := t_
 have hC : CurV 108 pb zs v q2 w' := HC3.out.keep t1 (fun b hb => by omega)
 have hT : Turned (fun b => b = pb) w w' := HT.out.then t1 (fun i hi hs => by omega)
 have hsz := t1.size
 refine bpR Tryz.results154 vR_ Tryz.underlying31 rfl rfl (by kernel_rfl) rfl ?_
 exact ⟨rfl, hC, hT⟩
set_option maxHeartbeats 4000000 in
theorem implOpC (pb : Nat) (zs : List Int) (v : Value) (p : Int) (w : World) (h : CurV 108 pb zs v p w) (hl : zs.length ≤ 2000000) :
  Calls Tryz.prog 152 #[.pointer (some ⟨pb, 0, none⟩)] w fun e w' => ∃ a n c a2 n2 c2 M, e = .returned (opV (rdOp zs p).1 (.slice a n c) (.slice a2 n2 c2)) ∧ OwV w' (fun b => w.heap.size ≤ b ∧ b < M) (.slice a n c) (.bytes (rdOp zs p).1.nm) ∧ OwV w' (fun b => M ≤ b ∧ b < w'.heap.size) (.slice a2 n2 c2) (.bytes (rdOp zs p).1.asn) ∧ w.heap.size ≤ M ∧ M ≤ w'.heap.size ∧ Gone 108 pb zs v (rdOp zs p).2 w w' := by
 have hz := RdV.zs h.2.1
 have hpl := h.lt
 obtain ⟨n0, q0, e0⟩ : ∃ x q, getNum zs p = (x, q) := ⟨_, _, rfl⟩
 have H0 : Hid (∀ W, CurV 108 pb zs v p W → _) := fun W hW => by have h_ := implNumC pb zs v p W hW hl; rw [e0] at h_; exact h_
 obtain ⟨⟨hs1, hi1, hd1⟩, q1, e1⟩ : ∃ x q, rdHd zs q0 = (x, q) := ⟨_, _, rfl⟩
 have H1 : Hid (∀ W, CurV 108 pb zs v q0 W → _) := fun W hW => by have h_ := implHandC pb zs v q0 W hW hl; rw [e1] at h_; exact h_
 obtain ⟨ts2, q2, e2⟩ : ∃ x q, getText zs q1 = (x, q) := ⟨_, _, rfl⟩
 have H2 : Hid (∀ W, CurV 108 pb zs v q1 W → _) := fun W hW => by have h_ := implTextC pb zs v q1 W hW hl; rw [e2] at h_; exact h_
 obtain ⟨⟨hs3, hi3, hd3⟩, q3, e3⟩ : ∃ x q, rdHd zs q2 = (x, q) := ⟨_, _, rfl⟩
 have H3 : Hid (∀ W, CurV 108 pb zs v q2 W → _) := fun W hW => by have h_ := implHandC pb zs v q2 W hW hl; rw [e3] at h_; exact h_
 obtain ⟨ts4, q4, e4⟩ : ∃ x q, getText zs q3 = (x, q) := ⟨_, _, rfl⟩
 have H4 : Hid (∀ W, CurV 108 pb zs v q3 W → _) := fun W hW => by have h_ := implTextC pb zs v q3 W hW hl; rw [e4] at h_; exact h_
 obtain ⟨n5, q5, e5⟩ : ∃ x q, getNum zs q4 = (x, q) := ⟨_, _, rfl⟩
 have H5 : Hid (∀ W, CurV 108 pb zs v q4 W → _) := fun W hW => by have h_ := implNumC pb zs v q4 W hW hl; rw [e5] at h_; exact h_
 have hR : rdOp zs p = (⟨n0, (hs1, hi1, hd1), ts2, (hs3, hi3, hd3), ts4, n5⟩, q5) := by simp [rdOp, e0, e1, e2, e3, e4, e5]
 rw [hR]
 clear hR e0 e1 e2 e3 e4 e5
 have HC0 : Hid (CurV 108 pb zs v p w) := h
 clear h
 dsimp only
 go_enter Tryz.func152, Tryz.ntmps152
 go_wp2_with fail
 refine Calls.mono (H0.out _ (HC0.out.alloc _)) ?_
 rintro e w1 ⟨rfl, hc_, t_⟩
 have HT : Hid (Turned (fun b => b = pb) w w1) := (Turned.ofBelow (Below.new1 (w := w) _)).trans t_
 have vR : VarA w1 w.heap.size 26 #[.i 0, .i 0, .i 0, .bool false, .slice none 0 0, .i 0, .i 0, .bool false, .slice none 0 0, .i 0] := VarA.turn (VarA.new w _ _) t_ (by omega)
 have hx0 := t_.size
 simp at hx0
 have HC1 : Hid (CurV 108 pb zs v q0 w1) := hc_
 clear hc_ t_ H0 HC0
 go_wp2_with fail
 refine Calls.mono (H1.out _ HC1.out) ?_
 rintro e w2 ⟨rfl, hc_, t_⟩
 have HT_ : Hid (Turned (fun b => b = pb) w w2) := HT.out.trans t_
 clear HT
 have HT := HT_
 clear HT_
 have vR_ := vR.turn t_ (by omega)
 clear vR
 have vR := vR_
 clear vR_
 have hx1 := t_.size
 have HC2 : Hid (CurV 108 pb zs v q1 w2) := hc_
 clear hc_ t_ H1 HC1
 go_wp2_with fail
 refine Calls.mono (H2.out _ HC2.out) ?_
 rintro e w3 ⟨a2, l2, c2, rfl, o2, hc_, t_⟩
 have HT_ : Hid (Turned (fun b => b = pb) w w3) := HT.out.trans t_
 clear HT
 have HT := HT_
 clear HT_
 have vR_ := vR.turn t_ (by omega)
 clear vR
 have vR := vR_
 clear vR_
 have hx2 := t_.size
 have HO2 : Hid (OwV w3 (fun b => w2.heap.size ≤ b ∧ b < w3.heap.size) (.slice a2 l2 c2) (.bytes ts2)) := o2
 clear o2
 have HC3 : Hid (CurV 108 pb zs v q2 w3) := hc_
 clear hc_ t_ H2 HC2
 go_wp2_with fail
 refine Calls.mono (H3.out _ HC3.out) ?_
 rintro e w4 ⟨rfl, hc_, t_⟩
 have HT_ : Hid (Turned (fun b => b = pb) w w4) := HT.out.trans t_
 clear HT
 have HT := HT_
 clear HT_
 have vR_ := vR.turn t_ (by omega)
 clear vR
 have vR := vR_
 clear vR_
 have hx3 := t_.size
 have HO2_ : Hid (OwV w4 (fun b => w2.heap.size ≤ b ∧ b < w3.heap.size) (.slice a2 l2 c2) (.bytes ts2)) := HO2.out.keep (t_.keeps (fun b hb hs => by omega))
 clear HO2
 have HO2 := HO2_
 clear HO2_
 have HC4 : Hid (CurV 108 pb zs v q3 w4) := hc_
 clear hc_ t_ H3 HC3
 go_wp2_with fail
 refine Calls.mono (H4.out _ HC4.out) ?_
 rintro e w5 ⟨a4, l4, c4, rfl, o4, hc_, t_⟩
 have HT_ : Hid (Turned (fun b => b = pb) w w5) := HT.out.trans t_
 clear HT
 have HT := HT_
 clear HT_
 have vR_ := vR.turn t_ (by omega)
 clear vR
 have vR := vR_
 clear vR_
 have hx4 := t_.size
 have HO2_ : Hid (OwV w5 (fun b => w2.heap.size ≤ b ∧ b < w3.heap.size) (.slice a2 l2 c2) (.bytes ts2)) := HO2.out.keep (t_.keeps (fun b hb hs => by omega))
 clear HO2
 have HO2 := HO2_
 clear HO2_
 have HO4 : Hid (OwV w5 (fun b => w4.heap.size ≤ b ∧ b < w5.heap.size) (.slice a4 l4 c4) (.bytes ts4)) := o4
 clear o4
 have HC5 : Hid (CurV 108 pb zs v q4 w5) := hc_
 clear hc_ t_ H4 HC4
 go_wp2_with fail
 refine Calls.mono (H5.out _ HC5.out) ?_
 rintro e w6 ⟨rfl, hc_, t_⟩
 have HT_ : Hid (Turned (fun b => b = pb) w w6) := HT.out.trans t_
 clear HT
 have HT := HT_
 clear HT_
 have vR_ := vR.turn t_ (by omega)
 clear vR
 have vR := vR_
 clear vR_
 have hx5 := t_.size
 have HO2_ : Hid (OwV w6 (fun b => w2.heap.size ≤ b ∧ b < w3.heap.size) (.slice a2 l2 c2) (.bytes ts2)) := HO2.out.keep (t_.keeps (fun b hb hs => by omega))
 clear HO2
 have HO2 := HO2_
 clear HO2_
 have HO4_ : Hid (OwV w6 (fun b => w4.heap.size ≤ b ∧ b < w5.heap.size) (.slice a4 l4 c4) (.bytes ts4)) := HO4.out.keep (t_.keeps (fun b hb hs => by omega))
 clear HO4
 have HO4 := HO4_
 clear HO4_
 have HC6 : Hid (CurV 108 pb zs v q5 w6) := hc_
 clear hc_ t_ H5 HC5
 dsimp only
 repeat (first | ((with_reducible refine gS 26 ?_); refine sF vR rfl rfl (by kernel_rfl) rfl rfl ?_; intro w' vR_ t_) | go_values | go_skip | go_guarded | go_step | go_upon)
 have t1 : Turned (fun b => b = w.heap.size) w6 w' := t_
 have hC : CurV 108 pb zs v q5 w' := HC6.out.keep t1 (fun b hb => by omega)
 have hT : Turned (fun b => b = pb) w w' := HT.out.then t1 (fun i hi hs => by omega)
 have hsz := t1.size
 have HO2_ : OwV w' (fun b => w2.heap.size ≤ b ∧ b < w3.heap.size) (.slice a2 l2 c2) (.bytes ts2) := HO2.out.keep (t1.keeps (fun b hb hs => by omega))
 have HO4_ : OwV w' (fun b => w4.heap.size ≤ b ∧ b < w5.heap.size) (.slice a4 l4 c4) (.bytes ts4) := HO4.out.keep (t1.keeps (fun b hb hs => by omega))
 refine bpR Tryz.results152 vR_ Tryz.underlying26 rfl rfl (by kernel_rfl) rfl ?_
 exact ⟨_, _, _, _, _, _, w3.heap.size, rfl, HO2_.mono (fun b hb => ⟨by omega, hb.2⟩), HO4_.mono (fun b hb => ⟨by omega, by omega⟩), by omega, by omega, hC, hT⟩
set_option maxHeartbeats 4000000 in
theorem implPartC (pb : Nat) (zs : List Int) (v : Value) (p : Int) (w : World) (h : CurV 108 pb zs v p w) (hl : zs.length ≤ 2000000) :
  Calls Tryz.prog 155 #[.pointer (some ⟨pb, 0, none⟩)] w fun e w' => ∃ a n c, e = .returned (ptV (rdPt zs p).1 (.slice a n c)) ∧ OwV w' (fun b => w.heap.size ≤ b ∧ b < w'.heap.size) (.slice a n c) (.bytes (rdPt zs p).1.asn) ∧ Gone 108 pb zs v (rdPt zs p).2 w w' := by
 have hz := RdV.zs h.2.1
 have hpl := h.lt
 obtain ⟨n0, q0, e0⟩ : ∃ x q, getNum zs p = (x, q) := ⟨_, _, rfl⟩
 have H0 : Hid (∀ W, CurV 108 pb zs v p W → _) := fun W hW => by have h_ := implNumC pb zs v p W hW hl; rw [e0] at h_; exact h_
 obtain ⟨⟨hs1, hi1, hd1⟩, q1, e1⟩ : ∃ x q, rdHd zs q0 = (x, q) := ⟨_, _, rfl⟩
 have H1 : Hid (∀ W, CurV 108 pb zs v q0 W → _) := fun W hW => by have h_ := implHandC pb zs v q0 W hW hl; rw [e1] at h_; exact h_
 obtain ⟨ts2, q2, e2⟩ : ∃ x q, getText zs q1 = (x, q) := ⟨_, _, rfl⟩
 have H2 : Hid (∀ W, CurV 108 pb zs v q1 W → _) := fun W hW => by have h_ := implTextC pb zs v q1 W hW hl; rw [e2] at h_; exact h_
 obtain ⟨⟨hs3, hi3, hd3⟩, q3, e3⟩ : ∃ x q, rdHd zs q2 = (x, q) := ⟨_, _, rfl⟩
 have H3 : Hid (∀ W, CurV 108 pb zs v q2 W → _) := fun W hW => by have h_ := implHandC pb zs v q2 W hW hl; rw [e3] at h_; exact h_
 have hR : rdPt zs p = (⟨n0, (hs1, hi1, hd1), ts2, (hs3, hi3, hd3)⟩, q3) := by simp [rdPt, e0, e1, e2, e3]
 rw [hR]
 clear hR e0 e1 e2 e3
 have HC0 : Hid (CurV 108 pb zs v p w) := h
 clear h
 dsimp only
 go_enter Tryz.func155, Tryz.ntmps155
 go_wp2_with fail
 refine Calls.mono (H0.out _ (HC0.out.alloc _)) ?_
 rintro e w1 ⟨rfl, hc_, t_⟩
 have HT : Hid (Turned (fun b => b = pb) w w1) := (Turned.ofBelow (Below.new1 (w := w) _)).trans t_
 have vR : VarA w1 w.heap.size 33 #[.i 0, .i 0, .i 0, .bool false, .slice none 0 0, .i 0, .i 0, .bool false] := VarA.turn (VarA.new w _ _) t_ (by omega)
 have hx0 := t_.size
 simp at hx0
 have HC1 : Hid (CurV 108 pb zs v q0 w1) := hc_
 clear hc_ t_ H0 HC0
 go_wp2_with fail
 refine Calls.mono (H1.out _ HC1.out) ?_
 rintro e w2 ⟨rfl, hc_, t_⟩
 have HT_ : Hid (Turned (fun b => b = pb) w w2) := HT.out.trans t_
 clear HT
 have HT := HT_
 clear HT_
 have vR_ := vR.turn t_ (by omega)
 clear vR
 have vR := vR_
 clear vR_
 have hx1 := t_.size
 have HC2 : Hid (CurV 108 pb zs v q1 w2) := hc_
 clear hc_ t_ H1 HC1
 go_wp2_with fail
 refine Calls.mono (H2.out _ HC2.out) ?_
 rintro e w3 ⟨a2, l2, c2, rfl, o2, hc_, t_⟩
 have HT_ : Hid (Turned (fun b => b = pb) w w3) := HT.out.trans t_
 clear HT
 have HT := HT_
 clear HT_
 have vR_ := vR.turn t_ (by omega)
 clear vR
 have vR := vR_
 clear vR_
 have hx2 := t_.size
 have HO2 : Hid (OwV w3 (fun b => w2.heap.size ≤ b ∧ b < w3.heap.size) (.slice a2 l2 c2) (.bytes ts2)) := o2
 clear o2
 have HC3 : Hid (CurV 108 pb zs v q2 w3) := hc_
 clear hc_ t_ H2 HC2
 go_wp2_with fail
 refine Calls.mono (H3.out _ HC3.out) ?_
 rintro e w4 ⟨rfl, hc_, t_⟩
 have HT_ : Hid (Turned (fun b => b = pb) w w4) := HT.out.trans t_
 clear HT
 have HT := HT_
 clear HT_
 have vR_ := vR.turn t_ (by omega)
 clear vR
 have vR := vR_
 clear vR_
 have hx3 := t_.size
 have HO2_ : Hid (OwV w4 (fun b => w2.heap.size ≤ b ∧ b < w3.heap.size) (.slice a2 l2 c2) (.bytes ts2)) := HO2.out.keep (t_.keeps (fun b hb hs => by omega))
 clear HO2
 have HO2 := HO2_
 clear HO2_
 have HC4 : Hid (CurV 108 pb zs v q3 w4) := hc_
 clear hc_ t_ H3 HC3
 dsimp only
 repeat (first | ((with_reducible refine gS 33 ?_); refine sF vR rfl rfl (by kernel_rfl) rfl rfl ?_; intro w' vR_ t_) | go_values | go_skip | go_guarded | go_step | go_upon)
 have t1 : Turned (fun b => b = w.heap.size) w4 w' := t_
 have hC : CurV 108 pb zs v q3 w' := HC4.out.keep t1 (fun b hb => by omega)
 have hT : Turned (fun b => b = pb) w w' := HT.out.then t1 (fun i hi hs => by omega)
 have hsz := t1.size
 have HO2_ : OwV w' (fun b => w2.heap.size ≤ b ∧ b < w3.heap.size) (.slice a2 l2 c2) (.bytes ts2) := HO2.out.keep (t1.keeps (fun b hb hs => by omega))
 refine bpR Tryz.results155 vR_ Tryz.underlying33 rfl rfl (by kernel_rfl) rfl ?_
 exact ⟨_, _, _, rfl, HO2_.mono (fun b hb => ⟨by omega, by omega⟩), hC, hT⟩
end
section
set_option maxHeartbeats 4000000 in
theorem implEntsC (pb : Nat) (zs : List Int) (v : Value) (p : Int) (w : World) (h : CurV 108 pb zs v p w) (hl : zs.length ≤ 2000000) :
  Calls Tryz.prog 217 #[.pointer (some ⟨pb, 0, none⟩)] w fun e w' => ∃ a n c, e = .returned (.slice a n c) ∧ OwV w' (fun b => w.heap.size ≤ b ∧ b < w'.heap.size) (.slice a n c) (ensDt (rdEnP zs p).1) ∧ Gone 108 pb zs v (rdEnP zs p).2 w w' := by
 have hz := RdV.zs h.2.1
 have hpl := h.lt
 obtain ⟨n, nx, e0⟩ : ∃ n nx, getNum zs p = (n, nx) := ⟨_, _, rfl⟩
 have hf := getNum_fits hz e0
 have h_ := implNumC pb zs v p w h hl
 rw [e0] at h_
 have HN : Hid _ := h_
 clear h_
 have hn0 : 0 ≤ n := by omega
 by_cases h12 : 12 < n
 ·have hR : rdEnP zs p = ([], -1) := by unfold rdEnP; rw [e0]; exact if_pos h12
  rw [hR]
  clear hf hR e0 h
  go_enter Tryz.func217, Tryz.ntmps217
  go_wp2_with fail
  refine Calls.mono HN.out ?_
  rintro e w2 ⟨rfl, hc, ht⟩
  obtain ⟨c0, c1⟩ := VarA.l2 hc.1
  have hfz := VarA.fz hc.1
  have HC : Hid (CurV 108 pb zs v (-1) (w2.setCell ⟨pb, 1, none⟩ (.i (-1)))) := CurV.put hc (-1) (by omega) (by omega)
  have HT : Hid (Turned (fun b => b = pb) w (w2.setCell ⟨pb, 1, none⟩ (.i (-1)))) := ht.set _ _ rfl
  clear hc ht HN
  go_wp2
  go_ret
  exact ⟨_, _, _, rfl, OwV.nilR _ _ _ _ _, HC.out, HT.out⟩
 obtain ⟨N, rfl⟩ : ∃ N : Nat, n = (N : Int) := ⟨n.toNat, by omega⟩
 have hR : rdEnP zs p = rdEnsP zs N nx := by unfold rdEnP; rw [e0]; dsimp only; rw [if_neg h12]; simp
 rw [hR]
 have HTX : Hid (∀ P W, CurV 108 pb zs v P W → _) := fun P W hW => implTextC pb zs v P W hW hl
 have HHD : Hid (∀ P W, CurV 108 pb zs v P W → _) := fun P W hW => implHandC pb zs v P W hW hl
 clear hf hR e0 h
 go_enter Tryz.func217, Tryz.ntmps217
 go_wp2_with fail
 refine Calls.mono HN.out ?_
 rintro e w2 ⟨rfl, hc, ht⟩
 have HC : Hid (CurV 108 pb zs v nx w2) := hc
 have HT : Hid (Turned (fun b => b = pb) w w2) := ht
 have hsz2 := ht.size
 clear hc ht HN
 go_wp2
 go_loopw [4, 13] (fun q' i wr => ∃ (k : Nat) (ua : Option Addr) (un uc : Nat), k ≤ N ∧ i = .i k ∧ q' = .slice ua un uc ∧ Hid (OwV wr (fun b => w.heap.size ≤ b ∧ b < wr.heap.size) (.slice ua un uc) (ensDt (rdEnsP zs k nx).1)) ∧ Hid (CurV 108 pb zs v (rdEnsP zs k nx).2 wr) ∧ Hid (Turned (fun b => b = pb) w wr)) (fun _ i _ => N - (intOf i).toNat)
 case atStart => exact ⟨0, none, 0, 0, Nat.zero_le _, rfl, rfl, OwV.nilR _ _ _ _ _, HC, HT⟩
 case round =>
  clear HC HT hsz2
  obtain ⟨k, ua, un, uc, hk, rfl, rfl, HO, HC, HT⟩ := hrel
  have hszr := HT.out.size
  by_cases hlt : k < N
  case neg =>
   have he : k = N := by omega
   subst he
   go_wp2
   go_ret
   exact ⟨_, _, _, rfl, HO.out, HC.out, HT.out⟩
  obtain ⟨ts, q1, e1⟩ : ∃ x q, getText zs (rdEnsP zs k nx).2 = (x, q) := ⟨_, _, rfl⟩
  obtain ⟨⟨hs, hi, hd⟩, q2, e2⟩ : ∃ x q, rdHd zs q1 = (x, q) := ⟨_, _, rfl⟩
  have hS : rdEnsP zs (k + 1) nx = ((rdEnsP zs k nx).1 ++ [⟨ts, (hs, hi, hd)⟩], q2) := by rw [ensP_snoc, e1]; dsimp only; rw [e2]
  have HSN : Hid _ := hS
  have HLN : Hid _ := ensP_len zs k nx
  have h_ := HTX.out _ wr HC.out
  rw [e1] at h_
  have H1 : Hid _ := h_
  clear h_
  have H2 : Hid (∀ W, CurV 108 pb zs v q1 W → _) := fun W hW => by have h_ := HHD.out q1 W hW; rw [e2] at h_; exact h_
  clear e1 e2 hS HTX HHD
  generalize rdEnsP zs k nx = r0 at HSN HLN HC HO H1
  obtain ⟨l0, p0⟩ := r0
  dsimp only at HSN HLN HC HO H1
  go_wp2_with fail
  refine Calls.mono H1.out ?_
  rintro e w3 ⟨ta, tl, tc, rfl, o1, hc, t1⟩
  have hs3 := t1.size
  have HO3 : Hid (OwV w3 (fun b => w.heap.size ≤ b ∧ b < wr.heap.size) (.slice ua un uc) (ensDt l0)) := HO.out.keep (t1.keeps (fun b hb hs => by omega))
  have HU3 : Hid (OwV w3 (fun b => wr.heap.size ≤ b ∧ b < w3.heap.size) (.slice ta tl tc) (.bytes ts)) := o1
  have HC3 : Hid (CurV 108 pb zs v q1 w3) := hc
  have HT3 : Hid (Turned (fun b => b = pb) w w3) := HT.out.trans t1
  clear HO HC HT o1 hc t1 H1
  go_wp2_with fail
  refine Calls.mono (H2.out _ HC3.out) ?_
  rintro e w4 ⟨rfl, hc, t1⟩
  have hs4 := t1.size
  have HO4 : Hid (OwV w4 (fun b => w.heap.size ≤ b ∧ b < wr.heap.size) (.slice ua un uc) (ensDt l0)) := HO3.out.keep (t1.keeps (fun b hb hs => by omega))
  have HU4 : Hid (OwV w4 (fun b => wr.heap.size ≤ b ∧ b < w3.heap.size) (.slice ta tl tc) (.bytes ts)) := HU3.out.keep (t1.keeps (fun b hb hs => by omega))
  have HC4 : Hid (CurV 108 pb zs v q2 w4) := hc
  have HT4 : Hid (Turned (fun b => b = pb) w w4) := HT3.out.trans t1
  clear HO3 HU3 HC3 HT3 hc t1 H2
  go_wp2_with (at_builtin; go_must (refine wpList_appEn _ rfl (.tmp 15) (.tmp 21) rfl _ rfl l0 ⟨ts, (hs, hi, hd)⟩ (.slice ta tl tc) w.heap.size wr.heap.size w3.heap.size w4.heap.size rfl rfl (0, 0) (heap_alloc_new _ _) (OwV.step HO4.out (Below.new1 _)) (OwV.step HU4.out (Below.new1 _)) (by simp; omega) hs3 hszr (by rw [HLN.out]; omega) ?_; intro ga gn gc w5 ho5 t5))
  have HO5 : Hid (OwV w5 (fun b => w.heap.size ≤ b ∧ b < w5.heap.size) (.slice ga gn gc) (ensDt (rdEnsP zs (k + 1) nx).1)) := by rw [HSN.out]; exact ho5
  have HC5 : Hid (CurV 108 pb zs v (rdEnsP zs (k + 1) nx).2 w5) := by rw [HSN.out]; exact (HC4.out.alloc _).keep t5 (fun b hb => by omega)
  have HT5 : Hid (Turned (fun b => b = pb) w w5) := (HT4.out.alloc _).then t5 (fun i hi hs => by omega)
  clear HO4 HU4 HC4 HT4 ho5 t5 HSN
  go_wp2
  refine ⟨?_, ?_⟩
  ·exact ⟨k + 1, ga, gn, gc, by omega, by go_num, rfl, HO5, HC5, HT5⟩
  ·simp [intOf]; omega
set_option maxHeartbeats 4000000 in
theorem implReplyC (pb : Nat) (zs : List Int) (v : Value) (p : Int) (w : World) (h : CurV 108 pb zs v p w) (hl : zs.length ≤ 2000000) :
  Calls Tryz.prog 153 #[.pointer (some ⟨pb, 0, none⟩)] w fun e w' => ∃ a n c, e = .returned (rpV (rdRp (rdEnP zs) zs p).1 (.slice a n c)) ∧ OwV w' (fun b => w.heap.size ≤ b ∧ b < w'.heap.size) (.slice a n c) (ensDt (rdRp (rdEnP zs) zs p).1.list) ∧ Gone 108 pb zs v (rdRp (rdEnP zs) zs p).2 w w' := by
 have hz := RdV.zs h.2.1
 have hpl := h.lt
 obtain ⟨n0, q0, e0⟩ : ∃ x q, getNum zs p = (x, q) := ⟨_, _, rfl⟩
 have H0 : Hid (∀ W, CurV 108 pb zs v p W → _) := fun W hW => by have h_ := implNumC pb zs v p W hW hl; rw [e0] at h_; exact h_
 obtain ⟨⟨hs1, hi1, hd1⟩, q1, e1⟩ : ∃ x q, rdHd zs q0 = (x, q) := ⟨_, _, rfl⟩
 have H1 : Hid (∀ W, CurV 108 pb zs v q0 W → _) := fun W hW => by have h_ := implHandC pb zs v q0 W hW hl; rw [e1] at h_; exact h_
 obtain ⟨n2, q2, e2⟩ : ∃ x q, getNum zs q1 = (x, q) := ⟨_, _, rfl⟩
 have H2 : Hid (∀ W, CurV 108 pb zs v q1 W → _) := fun W hW => by have h_ := implNumC pb zs v q1 W hW hl; rw [e2] at h_; exact h_
 obtain ⟨es3, q3, e3⟩ : ∃ x q, rdEnP zs q2 = (x, q) := ⟨_, _, rfl⟩
 have H3 : Hid (∀ W, CurV 108 pb zs v q2 W → _) := fun W hW => by have h_ := implEntsC pb zs v q2 W hW hl; rw [e3] at h_; exact h_
 have hR : rdRp (rdEnP zs) zs p = (⟨n0, (hs1, hi1, hd1), n2, es3⟩, q3) := by simp [rdRp, e0, e1, e2, e3]
 rw [hR]
 clear hR e0 e1 e2 e3
 have HC0 : Hid (CurV 108 pb zs v p w) := h
 clear h
 dsimp only
 go_enter Tryz.func153, Tryz.ntmps153
 go_wp2_with fail
 refine Calls.mono (H0.out _ (HC0.out.alloc _)) ?_
 rintro e w1 ⟨rfl, hc_, t_⟩
 have HT : Hid (Turned (fun b => b = pb) w w1) := (Turned.ofBelow (Below.new1 (w := w) _)).trans t_
 have vR : VarA w1 w.heap.size 29 #[.i 0, .i 0, .i 0, .bool false, .i 0, .slice none 0 0] := VarA.turn (VarA.new w _ _) t_ (by omega)
 have hx0 := t_.size
 simp at hx0
 have HC1 : Hid (CurV 108 pb zs v q0 w1) := hc_
 clear hc_ t_ H0 HC0
 go_wp2_with fail
 refine Calls.mono (H1.out _ HC1.out) ?_
 rintro e w2 ⟨rfl, hc_, t_⟩
 have HT_ : Hid (Turned (fun b => b = pb) w w2) := HT.out.trans t_
 clear HT
 have HT := HT_
 clear HT_
 have vR_ := vR.turn t_ (by omega)
 clear vR
 have vR := vR_
 clear vR_
 have hx1 := t_.size
 have HC2 : Hid (CurV 108 pb zs v q1 w2) := hc_
 clear hc_ t_ H1 HC1
 go_wp2_with fail
 refine Calls.mono (H2.out _ HC2.out) ?_
 rintro e w3 ⟨rfl, hc_, t_⟩
 have HT_ : Hid (Turned (fun b => b = pb) w w3) := HT.out.trans t_
 clear HT
 have HT := HT_
 clear HT_
 have vR_ := vR.turn t_ (by omega)
 clear vR
 have vR := vR_
 clear vR_
 have hx2 := t_.size
 have HC3 : Hid (CurV 108 pb zs v q2 w3) := hc_
 clear hc_ t_ H2 HC2
 go_wp2_with fail
 refine Calls.mono (H3.out _ HC3.out) ?_
 rintro e w4 ⟨a3, l3, c3, rfl, o3, hc_, t_⟩
 have HT_ : Hid (Turned (fun b => b = pb) w w4) := HT.out.trans t_
 clear HT
 have HT := HT_
 clear HT_
 have vR_ := vR.turn t_ (by omega)
 clear vR
 have vR := vR_
 clear vR_
 have hx3 := t_.size
 have HO3 : Hid (OwV w4 (fun b => w3.heap.size ≤ b ∧ b < w4.heap.size) (.slice a3 l3 c3) (ensDt es3)) := o3
 clear o3
 have HC4 : Hid (CurV 108 pb zs v q3 w4) := hc_
 clear hc_ t_ H3 HC3
 dsimp only
 repeat (first | ((with_reducible refine gS 29 ?_); refine sF vR rfl rfl (by kernel_rfl) rfl rfl ?_; intro w' vR_ t_) | go_values | go_skip | go_guarded | go_step | go_upon)
 have t1 : Turned (fun b => b = w.heap.size) w4 w' := t_
 have hC : CurV 108 pb zs v q3 w' := HC4.out.keep t1 (fun b hb => by omega)
 have hT : Turned (fun b => b = pb) w w' := HT.out.then t1 (fun i hi hs => by omega)
 have hsz := t1.size
 have HO3_ : OwV w' (fun b => w3.heap.size ≤ b ∧ b < w4.heap.size) (.slice a3 l3 c3) (ensDt es3) := HO3.out.keep (t1.keeps (fun b hb hs => by omega))
 refine bpR Tryz.results153 vR_ Tryz.underlying29 rfl rfl (by kernel_rfl) rfl ?_
 exact ⟨_, _, _, rfl, HO3_.mono (fun b hb => ⟨by omega, by omega⟩), hC, hT⟩
end
section
set_option maxRecDepth 100000
end
section
set_option maxRecDepth 100000
end
section
def Stands (zs : List Int) (p : Int) (B : List Int) : Prop := ∃ A r, zs = A ++ (B ++ r) ∧ p = (A.length : Int)
theorem Stands.all (zs : List Int) : Stands zs 0 zs := ⟨[], [], by simp, rfl⟩
def NumR (n : Int) : Prop := 0 ≤ n ∧ n ≤ 2147483647
def HdN (h : Hd) : Prop := NumR h.sh ∧ NumR h.ino
theorem Stands.num {zs R : List Int} {p n : Int} (h : Stands zs p (putB n ++ R)) (hn : NumR n) : (getNum zs p).1 = n ∧ (getNum zs p).2 = p + (putB n).length ∧ Stands zs (getNum zs p).2 R := by
 obtain ⟨A, r, rfl, rfl⟩ := h
 have e : A ++ ((putB n ++ R) ++ r) = A ++ putB n ++ (R ++ r) := by simp [List.append_assoc]
 rw [e, getNum_put A (R ++ r) n hn.1 hn.2]
 exact ⟨rfl, rfl, A ++ putB n, r, rfl, by rw [List.length_append]; simp⟩
theorem Stands.text {zs R t : List Int} {p : Int} (h : Stands zs p (textB t ++ R)) (ht : t.length ≤ 40) : (getText zs p).1 = t ∧ (getText zs p).2 = p + (textB t).length ∧ Stands zs (getText zs p).2 R := by
 have hb : textB t = putB (t.length : Int) ++ t := by unfold textB; rw [if_neg (by omega)]
 rw [hb] at h ⊢
 rw [List.append_assoc] at h
 obtain ⟨h1, h2, h3⟩ := h.num ⟨by omega, by omega⟩
 obtain ⟨A, r, rfl, hp⟩ := h3
 have hA : (getNum (A ++ (t ++ R ++ r)) p).2 = (A.length : Int) := hp
 unfold getText
 rw [h1, hA]
 rw [if_neg (by simp only [List.length_append]; omega)]
 have e : ((A.length : Int)).toNat = A.length := by omega
 simp only [e, List.drop_left, Int.toNat_natCast, List.append_assoc, List.take_left]
 refine ⟨trivial, ?_, A ++ t, r, by simp, by rw [List.length_append]; simp⟩
 rw [List.length_append, ← hA, h2]
 omega
theorem Stands.flag {zs R : List Int} {p : Int} {b : Bool} (h : Stands zs p (flagB b ++ R)) : (rdFlag zs p).1 = b ∧ (rdFlag zs p).2 = p + (flagB b).length ∧ Stands zs (rdFlag zs p).2 R := by
 obtain ⟨A, r, rfl, rfl⟩ := h
 unfold rdFlag
 have e : ((A.length : Int)).toNat = A.length := by omega
 have hv : (A ++ (flagB b ++ R ++ r))[A.length]?.getD 0 = if b then 1 else 0 := by
  rw [List.getElem?_append_right (Nat.le_refl _)]
  cases b <;> simp [flagB]
 have hl : A.length < (A ++ (flagB b ++ R ++ r)).length := by cases b <;> simp [flagB]
 have hno : ¬ ((A.length : Int) < 0 ∨ ((A ++ (flagB b ++ R ++ r)).length : Int) ≤ (A.length : Int) ∨ (1 : Int) < if b = true then 1 else 0) := by
  rintro (hh | hh | hh)
  ·omega
  ·omega
  ·cases b <;> simp at hh
 rw [e, hv, if_neg hno]
 refine ⟨by cases b <;> rfl, by rw [flagB_len]; rfl, A ++ flagB b, r, by simp, by rw [List.length_append, flagB_len]; simp⟩
theorem Stands.hd {zs R : List Int} {p : Int} {h : Hd} (q : Stands zs p (hdB h ++ R)) (hn : HdN h) : (rdHd zs p).1 = h ∧ Stands zs (rdHd zs p).2 R := by
 unfold hdB at q
 simp only [List.append_assoc] at q
 obtain ⟨a1, _, q1⟩ := q.num hn.1
 obtain ⟨a2, _, q2⟩ := q1.num hn.2
 obtain ⟨a3, _, q3⟩ := q2.flag
 unfold rdHd
 dsimp only
 refine ⟨?_, q3⟩
 rw [a1, a2, a3]
structure OpN (o : OpD) : Prop where
 k : NumR o.kind
 d : HdN o.dir
 n : o.nm.length ≤ 40
 t : HdN o.to
 a : o.asn.length ≤ 40
 v : NumR o.val
theorem Stands.op {zs R : List Int} {p : Int} {o : OpD} (q : Stands zs p (opB o ++ R)) (hn : OpN o) : (rdOp zs p).1 = o ∧ Stands zs (rdOp zs p).2 R := by
 unfold opB at q
 simp only [List.append_assoc] at q
 obtain ⟨a1, _, q1⟩ := q.num hn.k
 obtain ⟨a2, q2⟩ := q1.hd hn.d
 obtain ⟨a3, _, q3⟩ := q2.text hn.n
 obtain ⟨a4, q4⟩ := q3.hd hn.t
 obtain ⟨a5, _, q5⟩ := q4.text hn.a
 obtain ⟨a6, _, q6⟩ := q5.num hn.v
 unfold rdOp
 dsimp only
 refine ⟨?_, q6⟩
 rw [a1, a2, a3, a4, a5, a6]
def TxN (t : TxD) : Prop := NumR t.1 ∧ NumR t.2.1 ∧ NumR t.2.2
theorem Stands.tx {zs R : List Int} {p : Int} {t : TxD} (q : Stands zs p (txB t ++ R)) (hn : TxN t) : (rdTx zs p).1 = t ∧ Stands zs (rdTx zs p).2 R := by
 unfold txB at q
 simp only [List.append_assoc] at q
 obtain ⟨a1, _, q1⟩ := q.num hn.1
 obtain ⟨a2, _, q2⟩ := q1.num hn.2.1
 obtain ⟨a3, _, q3⟩ := q2.num hn.2.2
 unfold rdTx
 dsimp only
 refine ⟨?_, q3⟩
 rw [a1, a2, a3]
structure PtN (p : PtD) : Prop where
 k : NumR p.kind
 h : HdN p.h
 a : p.asn.length ≤ 40
 t : HdN p.to
theorem Stands.pt {zs R : List Int} {p : Int} {o : PtD} (q : Stands zs p (ptB o ++ R)) (hn : PtN o) : (rdPt zs p).1 = o ∧ Stands zs (rdPt zs p).2 R := by
 unfold ptB at q
 simp only [List.append_assoc] at q
 obtain ⟨a1, _, q1⟩ := q.num hn.k
 obtain ⟨a2, q2⟩ := q1.hd hn.h
 obtain ⟨a3, _, q3⟩ := q2.text hn.a
 obtain ⟨a4, q4⟩ := q3.hd hn.t
 unfold rdPt
 dsimp only
 refine ⟨?_, q4⟩
 rw [a1, a2, a3, a4]
def EnsN (l : List En) : Prop := ∀ e ∈ l, e.nm.length ≤ 40 ∧ HdN e.h
theorem Stands.ens {zs : List Int} : ∀ (l : List En) (R : List Int) {p : Int}, Stands zs p (ensB l ++ R) → EnsN l → (rdEnsP zs l.length p).1 = l ∧ Stands zs (rdEnsP zs l.length p).2 R
 | [], R, p, q, hn => ⟨rfl, by simpa [ensB, rdEnsP] using q⟩
 | e :: l, R, p, q, hn => by
  have q' : Stands zs p (textB e.nm ++ (hdB e.h ++ (ensB l ++ R))) := by simpa [ensB, enB, List.append_assoc] using q
  have he := hn e (List.mem_cons_self ..)
  obtain ⟨a1, _, q1⟩ := q'.text he.1
  obtain ⟨a2, q2⟩ := q1.hd he.2
  obtain ⟨a3, q3⟩ := Stands.ens l R q2 (fun x hx => hn x (List.mem_cons_of_mem _ hx))
  refine ⟨?_, q3⟩
  show _ :: _ = _
  rw [a1, a2, a3]
structure RpN (r : RpD) : Prop where
 c : NumR r.code
 h : HdN r.h
 v : NumR r.val
 l : r.list.length ≤ 12
 e : EnsN r.list
theorem Stands.rp {zs R : List Int} {p : Int} {o : RpD} (q : Stands zs p (rpB o ++ R)) (hn : RpN o) : (rdRp (rdEnP zs) zs p).1 = o ∧ Stands zs (rdRp (rdEnP zs) zs p).2 R := by
 unfold rpB at q
 simp only [List.append_assoc] at q
 obtain ⟨a1, _, q1⟩ := q.num hn.c
 obtain ⟨a2, q2⟩ := q1.hd hn.h
 obtain ⟨a3, _, q3⟩ := q2.num hn.v
 obtain ⟨a4, _, q4⟩ := q3.num ⟨by omega, by have := hn.l; omega⟩
 obtain ⟨a5, q5⟩ := q4.ens _ _ hn.e
 have hl := hn.l
 have e : ∀ x, (getNum zs x).1 = (o.list.length : Int) → rdEnP zs x = rdEnsP zs o.list.length (getNum zs x).2 := by
  intro x hx
  unfold rdEnP
  rw [if_neg (by omega), hx]
  simp
 unfold rdRp
 dsimp only
 rw [e _ a4]
 refine ⟨?_, q5⟩
 rw [a1, a2, a3, a5]
end
end Go.Proofs.YtklhikadhohjbaaGreat
