/- Joined: Puts PutNum Steps Texts Pure Wires WBy0 PRead. -/
import Derived.Test.YtbnjhjgjmckedaaGreatJ02
import Derived.Test.YtbnjhjgjmckedaaGreatJ01

section
/- What the program's joined and numBytes answer, as plain functions on lists of bytes. Conditions: at most 2^20 bytes come in (what they are called with here). -/
namespace Go.Proofs.YtbnjhjgjmckedaaGreat
open Go.RowKit
set_option linter.unusedVariables false
set_option maxRecDepth 100000

set_option maxHeartbeats 1000000 in
theorem joined_any (a b : Option Addr) (xs ys : List Int) (ca cb : Nat) (w : World) (hx : Reads w a xs) (hy : Reads w b ys) (hl : xs.length ≤ 2097152) (hm : ys.length ≤ 2097152) :
    Calls Tryz.prog 108 #[.slice a xs.length ca, .slice b ys.length cb] w fun e w' => e = .returned (.slice (some ⟨w.heap.size, 0, none⟩) (xs ++ ys).length (xs ++ ys).length) ∧
      Owns w' w.heap.size (.slice (some ⟨w.heap.size, 0, none⟩) (xs ++ ys).length (xs ++ ys).length) (xs ++ ys) ∧ Below w.heap.size w w' ∧ w.heap.size < w'.heap.size := by
  obtain ⟨i0, hi, hz0, hz1, hz2⟩ := info_parts Tryz.infoB
  obtain ⟨m, hm'⟩ : ∃ m, xs.length = m := ⟨_, rfl⟩
  obtain ⟨n, hn'⟩ : ∃ n, ys.length = n := ⟨_, rfl⟩
  have HM : Hid (xs.length = m) := hm'
  have HN : Hid (ys.length = n) := hn'
  rw [List.length_append, hm', hn']
  rw [hm'] at hl
  rw [hn'] at hm
  obtain ⟨X, HX⟩ : ∃ X, Hid (X = bcells xs) := ⟨_, rfl⟩
  obtain ⟨Y, HY⟩ : ∃ Y, Hid (Y = bcells ys) := ⟨_, rfl⟩
  have hXl : X.length = m := by rw [HX.out, bcells_length]; exact hm'
  have hYl : Y.length = n := by rw [HY.out, bcells_length]; exact hn'
  obtain ⟨Z, HZ⟩ : ∃ Z, Hid (Z = bcells (List.replicate (m + n) 0)) := ⟨_, rfl⟩
  have hZl : Z.length = m + n := by rw [HZ.out]; simp
  have hsl : (splice Z 0 X).length = m + n := by rw [length_splice _ _ _ (by omega), hZl]
  have HFIN : Hid (splice (splice Z 0 X) m Y = bcells (xs ++ ys)) := by
    show _ = _
    rw [splice_two Z X Y m hXl (by omega), HX.out, HY.out]; simp [bcells]
  have HX1 : Hid (∀ v ∈ X, v.oneCell' = true) := by show ∀ v ∈ X, v.oneCell' = true; rw [HX.out]; exact bcells_one xs
  have HY1 : Hid (∀ v ∈ Y, v.oneCell' = true) := by show ∀ v ∈ Y, v.oneCell' = true; rw [HY.out]; exact bcells_one ys
  have hXm : X.length = Nat.min m (m + n) := by rw [hXl]; exact (Nat.min_eq_left (by omega)).symm
  have hYm : Y.length = Nat.min n n := by rw [hYl]; exact (Nat.min_self n).symm
  clear hm' hn'
  go_enter Tryz.func108, Tryz.ntmps108
  go_wp2_with (first
    | (at_make; refine wpList_make_full _ rfl _ _ 22 rfl w.heap.size 5 i0 (.int .u8 0) 1 Tryz.underlying22 hi hz0 hz1 .i64 .i64 _ _ (m + n) rfl rfl (by omega) (by omega) (by rw [hz2]; omega) (by unfold maxLen; omega) (Nat.le_refl _) ?_; intro w1 hown hgrow; have hb1 : Below w.heap.size w w1 := (Below.refl _ _).grown hgrow (Nat.le_refl _) (fun k h => by cases h); have hs1 : w.heap.size < w1.heap.size := (hown.lt _ rfl).2; rw [madeCells_bytes, ← HZ.out] at hown; have HG1 : Hid _ := full_heap hown; clear hown hgrow)
    | (refine wpList_copy_splice rfl (.tmp 12) (.tmp 13) 22 22 rfl 5 Tryz.underlying22 Tryz.sizeB _ _ _ _ _ _ rfl rfl w.heap.size 0 Z 5 HG1.out X hXm (fun h0 => ⟨rfl, by rw [HX.out] at h0 ⊢; exact (hx.below hb1).src h0⟩) (by omega) HX1.out w.heap.size w hb1 (Nat.le_refl _) ?_; intro w2 HG2 hb2)
    | (refine wpList_copy_splice rfl (.tmp 18) (.tmp 19) 22 22 rfl 5 Tryz.underlying22 Tryz.sizeB _ _ _ _ _ _ rfl rfl w.heap.size m (splice Z 0 X) 5 HG2.out Y (by rw [hYl]; simp <;> omega) (fun h0 => ⟨by simp <;> omega, by rw [HY.out] at h0 ⊢; exact (hy.below hb2).src h0⟩) (by omega) HY1.out w.heap.size w hb2 (Nat.le_refl _) ?_; intro w3 HG3 hb3))
  all_goals
    go_ret
    have hg3 := HG3.out
    rw [HFIN.out] at hg3
    exact ⟨rfl, full_owns (by have := HM.out; have := HN.out; rw [List.length_append]; omega) (Nat.le_refl _) (by rw [List.length_append, HM.out, HN.out]; omega) hg3, hb3, lt_of_block hg3⟩

/-- The bytes of a number below 128^(f+1). -/
def numB : Nat → Int → List Int
  | 0, n => [n]
  | f + 1, n => if n < 128 then [n] else (n % 128 + 128) :: numB f (n / 128)

def putB (n : Int) : List Int := if n < 0 ∨ 2147483647 < n then [] else numB 4 n

theorem numB_small (f : Nat) (n : Int) (h : n < 128) : numB f n = [n] := by cases f <;> simp [numB, h]

theorem numB_more (f : Nat) (n : Int) (h : ¬ n < 128) : numB (f + 1) n = (n % 128 + 128) :: numB f (n / 128) := by rw [numB, if_neg h]

theorem numB_len (f : Nat) (n : Int) : 1 ≤ (numB f n).length ∧ (numB f n).length ≤ f + 1 := by
  induction f generalizing n with
  | zero => simp [numB]
  | succ f ih =>
    have := ih (n / 128)
    by_cases h : n < 128
    · rw [numB_small _ _ h]; simp
    · rw [numB_more _ _ h]; simp only [List.length_cons]; omega

theorem numB_bytes (f : Nat) (n : Int) (h0 : 0 ≤ n) (h : n < wt (f + 1)) (hf : f ≤ 4) : isBytes (numB f n) := by
  induction f generalizing n with
  | zero => exact isBytes_cons h0 (by have h2 : n < 128 := h; omega) isBytes_nil
  | succ f ih =>
    by_cases h1 : n < 128
    · rw [numB_small _ _ h1]; exact isBytes_cons h0 (by omega) isBytes_nil
    · rw [numB_more _ _ h1]
      have := wt_succ (f + 1) (by omega)
      exact isBytes_cons (by omega) (by omega) (ih (n / 128) (by omega) (by omega) (by omega))

theorem putB_bytes (n : Int) : isBytes (putB n) := by
  unfold putB
  split
  · exact isBytes_nil
  · exact numB_bytes 4 n (by omega) (by show n < 34359738368; omega) (by omega)

theorem putB_len (n : Int) : (putB n).length ≤ 5 := by
  unfold putB
  split
  · simp
  · exact (numB_len 4 n).2

set_option maxHeartbeats 1000000 in
theorem numBytes_any (n : Int) (w : World) (h0 : 0 ≤ n) (h1 : n ≤ 2147483647) :
    Calls Tryz.prog 109 #[.int .i64 n] w fun e w' => ∃ (d0 d1 d2 d3 d4 : Int) (c : Nat), e = .returned (.tuple #[.agg #[.int .u8 d0, .int .u8 d1, .int .u8 d2, .int .u8 d3, .int .u8 d4], .int .i64 c]) ∧ 1 ≤ c ∧ c ≤ 5 ∧ [d0, d1, d2, d3, d4].take c = numB 4 n ∧ Below w.heap.size w w' := by
  by_cases s1 : n < 128
  · have HN : Hid (numB 4 n = [n]) := numB_small 4 n s1
    go_enter Tryz.func109, Tryz.ntmps109
    go_wp2
    refine wp_loop_rounds 1 ?_
    rw [rounds_succ]
    go_wp2
    exact bodyPost_ret (v := .tuple #[.agg #[.int .u8 n, .int .u8 0, .int .u8 0, .int .u8 0, .int .u8 0], .int .i64 1]) (by simp [results, Tryz.results109, go_sem]) rfl ⟨n, 0, 0, 0, 0, 1, rfl, by omega, by omega, by rw [HN.out]; rfl, ((Below.refl _ _).alloc (Nat.le_refl _) _).alloc (by simp) _⟩
  by_cases s2 : n / 128 < 128
  · have HN : Hid (numB 4 n = [n % 128 + 128, n / 128]) := by
      show _ = _
      rw [numB_more _ _ s1, numB_small _ _ s2]
    go_enter Tryz.func109, Tryz.ntmps109
    go_wp2
    refine wp_loop_rounds 2 ?_
    rw [rounds_succ]
    go_wp2
    rw [rounds_succ]
    go_wp2
    exact bodyPost_ret (v := .tuple #[.agg #[.int .u8 (n % 128 + 128), .int .u8 (n / 128), .int .u8 (0), .int .u8 (0), .int .u8 (0)], .int .i64 2]) (by simp [results, Tryz.results109, go_sem]) rfl ⟨n % 128 + 128, n / 128, 0, 0, 0, 2, rfl, by omega, by omega, by rw [HN.out]; rfl, ((Below.refl _ _).alloc (Nat.le_refl _) _).alloc (by simp) _⟩
  by_cases s3 : n / 128 / 128 < 128
  · have HN : Hid (numB 4 n = [n % 128 + 128, n / 128 % 128 + 128, n / 128 / 128]) := by
      show _ = _
      rw [numB_more _ _ s1, numB_more _ _ s2, numB_small _ _ s3]
    go_enter Tryz.func109, Tryz.ntmps109
    go_wp2
    refine wp_loop_rounds 3 ?_
    rw [rounds_succ]
    go_wp2
    rw [rounds_succ]
    go_wp2
    rw [rounds_succ]
    go_wp2
    exact bodyPost_ret (v := .tuple #[.agg #[.int .u8 (n % 128 + 128), .int .u8 (n / 128 % 128 + 128), .int .u8 (n / 128 / 128), .int .u8 (0), .int .u8 (0)], .int .i64 3]) (by simp [results, Tryz.results109, go_sem]) rfl ⟨n % 128 + 128, n / 128 % 128 + 128, n / 128 / 128, 0, 0, 3, rfl, by omega, by omega, by rw [HN.out]; rfl, ((Below.refl _ _).alloc (Nat.le_refl _) _).alloc (by simp) _⟩
  by_cases s4 : n / 128 / 128 / 128 < 128
  · have HN : Hid (numB 4 n = [n % 128 + 128, n / 128 % 128 + 128, n / 128 / 128 % 128 + 128, n / 128 / 128 / 128]) := by
      show _ = _
      rw [numB_more _ _ s1, numB_more _ _ s2, numB_more _ _ s3, numB_small _ _ s4]
    go_enter Tryz.func109, Tryz.ntmps109
    go_wp2
    refine wp_loop_rounds 4 ?_
    rw [rounds_succ]
    go_wp2
    rw [rounds_succ]
    go_wp2
    rw [rounds_succ]
    go_wp2
    rw [rounds_succ]
    go_wp2
    exact bodyPost_ret (v := .tuple #[.agg #[.int .u8 (n % 128 + 128), .int .u8 (n / 128 % 128 + 128), .int .u8 (n / 128 / 128 % 128 + 128), .int .u8 (n / 128 / 128 / 128), .int .u8 (0)], .int .i64 4]) (by simp [results, Tryz.results109, go_sem]) rfl ⟨n % 128 + 128, n / 128 % 128 + 128, n / 128 / 128 % 128 + 128, n / 128 / 128 / 128, 0, 4, rfl, by omega, by omega, by rw [HN.out]; rfl, ((Below.refl _ _).alloc (Nat.le_refl _) _).alloc (by simp) _⟩
  · have s5 : n / 128 / 128 / 128 / 128 < 128 := by omega
    have HN : Hid (numB 4 n = [n % 128 + 128, n / 128 % 128 + 128, n / 128 / 128 % 128 + 128, n / 128 / 128 / 128 % 128 + 128, n / 128 / 128 / 128 / 128]) := by
      show _ = _
      rw [numB_more _ _ s1, numB_more _ _ s2, numB_more _ _ s3, numB_more _ _ s4, numB_small _ _ s5]
    go_enter Tryz.func109, Tryz.ntmps109
    go_wp2
    refine wp_loop_rounds 5 ?_
    rw [rounds_succ]
    go_wp2
    rw [rounds_succ]
    go_wp2
    rw [rounds_succ]
    go_wp2
    rw [rounds_succ]
    go_wp2
    rw [rounds_succ]
    go_wp2
    exact bodyPost_ret (v := .tuple #[.agg #[.int .u8 (n % 128 + 128), .int .u8 (n / 128 % 128 + 128), .int .u8 (n / 128 / 128 % 128 + 128), .int .u8 (n / 128 / 128 / 128 % 128 + 128), .int .u8 (n / 128 / 128 / 128 / 128)], .int .i64 5]) (by simp [results, Tryz.results109, go_sem]) rfl ⟨n % 128 + 128, n / 128 % 128 + 128, n / 128 / 128 % 128 + 128, n / 128 / 128 / 128 % 128 + 128, n / 128 / 128 / 128 / 128, 5, rfl, by omega, by omega, by rw [HN.out]; rfl, ((Below.refl _ _).alloc (Nat.le_refl _) _).alloc (by simp) _⟩
end Go.Proofs.YtbnjhjgjmckedaaGreat
end

section
/- The program's PutNum and the specification's PutNum answer the bytes that came in and the number's bytes behind them, in memory of their own. Conditions: at most 2^20 + 100 bytes come in. -/
namespace Go.Proofs.YtbnjhjgjmckedaaGreat
open Go.RowKit
set_option linter.unusedVariables false
set_option maxRecDepth 100000

theorem slice5 (b c : Nat) (W : World) (h : c ≤ 5) : (Instr.sliceAt 154 (.pointer (some ⟨b, 0, none⟩)) none (some (.int .i64 (c : Int))) none).run Tryz.prog W = .ok (.slice (some ⟨b, 0, none⟩) c 5) W := by
  have hal : Tryz.prog.arrayLen 154 = 5 := by simp [Program.arrayLen, Tryz.underlying154]
  rw [run_sliceAt_array_h W 154 ⟨b, 0, none⟩ (by simp [Program.arrayLen, Program.elem, Tryz.underlying154]) .i64 (c : Int) (by omega) (by rw [hal]; omega)]
  go_simp

theorem take5 {d0 d1 d2 d3 d4 : Int} {c : Nat} {ys : List Int} (hc : c ≤ 5) (h : [d0, d1, d2, d3, d4].take c = ys) : ys.length = c ∧ ∀ i, i < c → ys[i]?.getD 0 = [d0, d1, d2, d3, d4][i]?.getD 0 := by
  subst h
  refine ⟨by simp; omega, fun i hi => ?_⟩
  rw [List.getElem?_take, if_pos hi]

theorem reads_array (w : World) (d0 d1 d2 d3 d4 : Int) (c : Nat) (t : TypeId) (ys : List Int) (hb : isBytes ys) (hc : c ≤ 5) (h : [d0, d1, d2, d3, d4].take c = ys) :
    Reads (w.alloc (.cells #[.int .u8 d0, .int .u8 d1, .int .u8 d2, .int .u8 d3, .int .u8 d4] t)) (some ⟨w.heap.size, 0, none⟩) ys := by
  obtain ⟨hl, hi⟩ := take5 hc h
  refine ⟨hb, .inr ⟨w.heap.size, 0, rfl, by simp, fun i hlt => ?_⟩⟩
  rw [World.cell?_alloc_at _ _ _ _ rfl, hi i (by omega), Nat.zero_add]
  have h5 : i < 5 := by omega
  rcases (show i = 0 ∨ i = 1 ∨ i = 2 ∨ i = 3 ∨ i = 4 from by omega) with rfl | rfl | rfl | rfl | rfl <;> rfl

theorem joined_v (a b : Option Addr) (xs ys : List Int) (m n ca cb : Nat) (w : World) (hx : Reads w a xs) (hy : Reads w b ys) (hm : m = xs.length) (hn : n = ys.length) (hl : xs.length ≤ 2097152) (hl' : ys.length ≤ 2097152) :
    Calls Tryz.prog 108 #[.slice a m ca, .slice b n cb] w fun e w' => ∃ v, e = .returned v ∧ Owns w' w.heap.size v (xs ++ ys) ∧ Below w.heap.size w w' := by
  subst hm; subst hn
  exact (joined_any a b xs ys ca cb w hx hy hl hl').mono fun e w' ⟨he, ho, hb, _⟩ => ⟨_, he, ho, hb⟩

set_option maxHeartbeats 1000000 in
theorem implPut_any (a : Option Addr) (xs : List Int) (len cap : Nat) (n : Int) (w : World) (hx : Reads w a xs) (hlen : len = xs.length) (hl : xs.length ≤ 2097152) :
    Calls Tryz.prog 76 #[.slice a len cap, .int .i64 n] w fun e w' => ∃ v, e = .returned v ∧ Owns w' w.heap.size v (xs ++ putB n) ∧ Below w.heap.size w w' := by
  by_cases hn : n < 0 ∨ 2147483647 < n
  · have hp : putB n = [] := by unfold putB; rw [if_pos hn]
    rw [hp]
    clear hp
    have HE : Hid _ := hlen
    clear hlen
    rcases hn with hn | hn
    all_goals
      go_enter Tryz.func76, Tryz.ntmps76
      go_wp2_with fail
      refine (joined_v a none xs [] _ _ _ _ w hx (reads_none _ _) HE.out rfl hl (by simp)).mono ?_
      rintro e w1 ⟨v, rfl, ho, hb⟩
      go_wp2
      go_ret
      exact ⟨v, rfl, ho, hb⟩
  · have h0 : 0 ≤ n := by omega
    have h1 : n ≤ 2147483647 := by omega
    have hp : putB n = numB 4 n := by unfold putB; rw [if_neg hn]
    have hbB := putB_bytes n
    rw [hp] at hbB ⊢
    have HE : Hid _ := hlen
    clear hp hn hlen
    go_enter Tryz.func76, Tryz.ntmps76
    go_wp2_with fail
    refine (numBytes_any n w h0 h1).mono ?_
    rintro e w1 ⟨d0, d1, d2, d3, d4, c, rfl, hc1, hc5, htake, hb1⟩
    have hlen := (take5 hc5 htake).1
    have hrY := reads_array w1 d0 d1 d2 d3 d4 _ 154 _ hbB hc5 htake
    have hb2 : Below w1.heap.size w1 (w1.alloc (.cells #[.int .u8 d0, .int .u8 d1, .int .u8 d2, .int .u8 d3, .int .u8 d4] 154)) := (Below.refl _ _).alloc (Nat.le_refl _) _
    have hsl := fun W => slice5 w1.heap.size c W hc5
    have HB2 : Hid _ := hb2
    have HRY : Hid _ := hrY
    have HC : Hid _ := hlen
    clear htake hb2 hrY hlen
    go_wp2_with fail
    refine (joined_v a (some ⟨w1.heap.size, 0, none⟩) xs (numB 4 n) _ _ _ _ _ ((hx.below hb1).below HB2.out) HRY.out HE.out HC.out.symm hl (by rw [HC.out]; omega)).mono ?_
    rintro e w3 ⟨v, rfl, ho, hb3⟩
    have hs1 := hb1.size
    have HF : Hid (Owns w3 w.heap.size v (xs ++ numB 4 n) ∧ Below w.heap.size w w3) := ⟨ho.base (by simp; omega), (hb1.trans (HB2.out.mono hs1)).trans (hb3.mono (by simp; omega))⟩
    clear ho hb3 HB2 HRY hsl
    go_wp2
    go_ret
    exact ⟨v, rfl, HF.out.1, HF.out.2⟩

/-- What holds at the head of each round of the specification's loop. -/
def SRel (xs : List Int) (n : Int) (w : World) (o q : Value) (wr : World) : Prop :=
  ∃ (f : Nat) (m : Int) (pre : List Int), f ≤ 4 ∧ 0 ≤ m ∧ m < wt (f + 1) ∧ q = .int .i64 m ∧ pre.length + f = 4 ∧ numB 4 n = pre ++ numB f m ∧ Owns wr w.heap.size o (xs ++ pre) ∧ Below w.heap.size w wr

set_option maxHeartbeats 1000000 in
theorem specPut_any (a : Option Addr) (xs : List Int) (len cap : Nat) (n : Int) (w : World) (hx : Reads w a xs) (hlen : len = xs.length) (hl : xs.length ≤ 2097152) (hnil : a = none → len = 0 ∧ cap = 0) :
    Calls Tryz.prog 94 #[.slice a len cap, .int .i64 n] w fun e w' => ∃ v, e = .returned v ∧ Owns w' w.heap.size v (xs ++ putB n) ∧ Below w.heap.size w w' := by
  have HE : Hid _ := hlen
  have HX : Hid (Reads (w.alloc (.cells #[] 5)) a xs) := hx.below ((Below.refl _ _).alloc (Nat.le_refl _) _)
  have HNIL : Hid _ := hnil
  have HL : Hid _ := hl
  have HB1 : Hid (Below w.heap.size w (w.alloc (.cells #[] 5))) := (Below.refl _ _).alloc (Nat.le_refl _) _
  clear hlen hx hnil hl
  by_cases hn : n < 0 ∨ 2147483647 < n
  · have hp : putB n = [] := by unfold putB; rw [if_pos hn]
    rw [hp, List.append_nil]
    clear hp
    rcases hn with hn | hn
    all_goals
      go_enter Tryz.func94, Tryz.ntmps94
      go_wp2_with (at_builtin; go_must (refine wpList_app _ rfl (.tmp 6) (.tmp 7) rfl w.heap.size _ [] xs rfl (owns_empty w) a len cap rfl HE.out HX.out (by simp) (by have := HL.out; omega) (by simp) HNIL.out ?_; intro v w1 ho hg))
      go_ret
      exact ⟨v, rfl, by simpa using ho, HB1.out.grown hg (by simp) (fun k hk => ((owns_empty w).lt k hk).1)⟩
  · have h0 : 0 ≤ n := by omega
    have h1 : n ≤ 2147483647 := by omega
    have hp : putB n = numB 4 n := by unfold putB; rw [if_neg hn]
    rw [hp]
    clear hp hn
    go_enter Tryz.func94, Tryz.ntmps94
    go_wp2_with (at_builtin; go_must (refine wpList_app _ rfl (.tmp 6) (.tmp 7) rfl w.heap.size _ [] xs rfl (owns_empty w) a len cap rfl HE.out HX.out (by simp) (by have := HL.out; omega) (by simp) HNIL.out ?_; intro v w1 ho hg))
    go_loopw [5, 1] (fun o q wr => SRel xs n w o q wr) (fun _ q _ => (intOf q).toNat)
    case atStart => exact ⟨4, n, [], by omega, h0, by show n < 34359738368; omega, rfl, rfl, rfl, by simpa using ho, HB1.out.grown hg (by simp) (fun k hk => ((owns_empty w).lt k hk).1)⟩
    case round =>
      clear ho hg
      obtain ⟨f, m, pre, hf, hm0, hm1, rfl, hpf, hpre, hown, hbel⟩ := hrel
      have hsz := hbel.size
      have HO : Hid _ := hown
      have HP : Hid _ := hpre
      have HBE : Hid _ := hbel
      have HM1 : Hid _ := hm1
      have hmt : m ≤ 34359738368 := by
        have : wt (f + 1) ≤ 34359738368 := by
          rcases (show f = 0 ∨ f = 1 ∨ f = 2 ∨ f = 3 ∨ f = 4 from by omega) with rfl | rfl | rfl | rfl | rfl <;> decide
        omega
      clear hown hpre hbel hm1
      by_cases hge : 127 < m
      · go_wp2_with (at_builtin; go_must (refine wpList_app _ rfl (.tmp 18) (.tmp 23) rfl w.heap.size _ (xs ++ pre) [m % 128 + 128] rfl (HO.out.alloc _) _ 1 1 rfl rfl (one_new _ (m % 128 + 128) (by omega) (by omega)) (by have := HL.out; simp; omega) (by simp) (by simp; omega) (fun h => by cases h) ?_; intro v2 w2 ho2 hg2))
        have HR : SRel xs n w v2 (.int .i64 (m / 128)) w2 := by
          have hm1 := HM1.out
          obtain ⟨f, rfl⟩ : ∃ g, f = g + 1 := by
            cases f with
            | zero => exact absurd hm1 (by show ¬ m < 128; omega)
            | succ g => exact ⟨g, rfl⟩
          have hw := wt_succ (f + 1) (by omega)
          refine ⟨f, m / 128, pre ++ [m % 128 + 128], by omega, by omega, by omega, rfl, by simp; omega, ?_, ?_, (HBE.out.alloc hsz _).grown hg2 (by simp; omega) (fun k hk => (HO.out.lt k hk).1)⟩
          · rw [HP.out, numB_more f m (by omega), List.append_assoc]; rfl
          · rw [← List.append_assoc]; exact ho2
        refine ⟨?_, by simp [intOf]; omega⟩
        first | exact HR | exact ⟨_, _, HR, rfl, rfl⟩
      · have hm1 := HM1.out
        go_wp2_with (at_builtin; go_must (refine wpList_app _ rfl (.tmp 27) (.tmp 30) rfl w.heap.size _ (xs ++ pre) [m] rfl (HO.out.alloc _) _ 1 1 rfl rfl (one_new _ m (by omega) (by omega)) (by have := HL.out; simp; omega) (by simp) (by simp; omega) (fun h => by cases h) ?_; intro v2 w2 ho2 hg2))
        go_ret
        refine ⟨v2, rfl, ?_, ?_⟩
        · rw [HP.out, numB_small f m (by omega), ← List.append_assoc]; exact ho2
        · exact (HBE.out.alloc hsz _).grown hg2 (by simp; omega) (fun k hk => (HO.out.lt k hk).1)
end Go.Proofs.YtbnjhjgjmckedaaGreat
end

section
/- PutNum over byte slices of the call's own; at most 2^20 + 100 bytes come in. -/
namespace Go.Proofs.YtbnjhjgjmckedaaGreat
open Go.RowKit
set_option linter.unusedVariables false
set_option maxRecDepth 100000

end Go.Proofs.YtbnjhjgjmckedaaGreat
end

section
/- The program's and the specification's PutText and GetText answer the same plain functions on lists of bytes, in memory of their own. Conditions: at most 2,000,000 bytes come in. -/
namespace Go.Proofs.YtbnjhjgjmckedaaGreat
open Go.RowKit
set_option linter.unusedVariables false
set_option maxRecDepth 100000

def textB (t : List Int) : List Int := if 40 < t.length then [] else putB t.length ++ t
def getText (zs : List Int) (p : Int) : List Int × Int :=
  if (getNum zs p).2 < 0 ∨ 40 < (getNum zs p).1 ∨ (zs.length : Int) - (getNum zs p).2 < (getNum zs p).1 then ([], -1)
  else ((zs.drop (getNum zs p).2.toNat).take (getNum zs p).1.toNat, (getNum zs p).2 + (getNum zs p).1)

theorem textB_bytes {t : List Int} (h : isBytes t) : isBytes (textB t) := by
  unfold textB
  split
  · exact isBytes_nil
  · exact isBytes_append (putB_bytes _) h
theorem textB_len (t : List Int) : (textB t).length ≤ 45 := by
  unfold textB
  split
  · simp
  · have := putB_len (t.length : Int); rw [List.length_append]; omega
theorem isBytes_drop {zs : List Int} (h : isBytes zs) (k : Nat) : isBytes (zs.drop k) := fun j => by rw [List.getElem?_drop]; exact h _
theorem isBytes_take {zs : List Int} (h : isBytes zs) (k : Nat) : isBytes (zs.take k) := fun j => by
  rw [List.getElem?_take]
  split
  · exact h j
  · simp
theorem getText_bytes {zs : List Int} (h : isBytes zs) (p : Int) : isBytes (getText zs p).1 := by
  unfold getText
  split
  · exact isBytes_nil
  · exact isBytes_take (isBytes_drop h _) _
theorem getText_len (zs : List Int) (p : Int) : (getText zs p).1.length ≤ 40 := by
  unfold getText
  split
  · simp
  · simp only [List.length_take]; omega

theorem getLoop_fits {f : Nat} {r : List Int} {i : Nat} {n sc : Int} {m : Int} {c : Nat} (hr : isBytes r) (hn : 0 ≤ n) (hs : 0 ≤ sc) (h : getLoop f r i n sc = some (m, c)) : 0 ≤ m ∧ m ≤ 2147483647 ∧ i < c ∧ c ≤ i + r.length := by
  induction f generalizing r i n sc with
  | zero => cases h
  | succ f ih =>
    cases r with
    | nil => cases h
    | cons x r =>
      have hx : 0 ≤ x ∧ x ≤ 255 := by simpa using hr 0
      have hr' : isBytes r := fun j => by simpa using hr (j + 1)
      by_cases h1 : 128 ≤ x
      · rw [getLoop_more h1] at h
        have := ih hr' (by have := Int.mul_nonneg (show 0 ≤ x - 128 by omega) hs; omega) (by omega) h
        simp only [List.length_cons]; omega
      · by_cases h2 : (0 < i ∧ x = 0) ∨ 2147483647 < n + x * sc
        · rw [getLoop_bad h1 h2] at h; cases h
        · rw [getLoop_end h1 h2] at h
          simp only [Option.some.injEq, Prod.mk.injEq] at h
          obtain ⟨rfl, rfl⟩ := h
          have := Int.mul_nonneg hx.1 hs
          simp only [List.length_cons]; omega
theorem getNum_fits {zs : List Int} {p n nx : Int} (hz : isBytes zs) (h : getNum zs p = (n, nx)) : (n = 0 ∧ nx = -1) ∨ (0 ≤ n ∧ n ≤ 2147483647 ∧ 0 ≤ p ∧ p < nx ∧ nx ≤ zs.length) := by
  unfold getNum at h
  split at h
  · simp only [Prod.mk.injEq] at h; exact .inl ⟨h.1.symm, h.2.symm⟩
  · split at h
    · simp only [Prod.mk.injEq] at h; exact .inl ⟨h.1.symm, h.2.symm⟩
    · rename_i m c hg
      simp only [Prod.mk.injEq] at h
      obtain ⟨rfl, rfl⟩ := h
      have := getLoop_fits (isBytes_drop hz _) (by omega) (by omega) hg
      rw [List.length_drop] at this
      right; omega

theorem joined_ov (v : Value) (b : Option Addr) (xs ys : List Int) (base n cb : Nat) (w : World) (hx : Owns w base v xs) (bx : isBytes xs) (hy : Reads w b ys) (hn : n = ys.length) (hl : xs.length ≤ 2097152) (hl' : ys.length ≤ 2097152) :
    Calls Tryz.prog 108 #[v, .slice b n cb] w fun e w' => ∃ v, e = .returned v ∧ Owns w' w.heap.size v (xs ++ ys) ∧ Below w.heap.size w w' := by
  obtain ⟨a, ca, rfl, _, _, ra⟩ := hx.open bx
  exact joined_v a b xs ys _ n ca cb w ra hy rfl hn hl hl'

set_option maxHeartbeats 1000000 in
theorem implPutText_any (a b : Option Addr) (xs ts : List Int) (la ca lb cb : Nat) (w : World) (hx : Reads w a xs) (hy : Reads w b ts) (hla : la = xs.length) (hlb : lb = ts.length) (hl : xs.length ≤ 2000000) (hm : ts.length ≤ 2000000) :
    Calls Tryz.prog 77 #[.slice a la ca, .slice b lb cb] w fun e w' => ∃ v, e = .returned v ∧ Owns w' w.heap.size v (xs ++ textB ts) ∧ Below w.heap.size w w' := by
  have HLA : Hid _ := hla
  have HLB : Hid _ := hlb
  have hlb' : lb ≤ 2000000 := by omega
  clear hla hlb
  by_cases h40 : 40 < lb
  · have HT : Hid (textB ts = []) := by show _ = _; unfold textB; rw [if_pos (by rw [← HLB.out]; exact h40)]
    go_enter Tryz.func77, Tryz.ntmps77
    go_wp2_with fail
    refine (joined_v a none xs [] _ _ _ _ w hx (reads_none _ _) HLA.out rfl (by omega) (by simp)).mono ?_
    rintro e w1 ⟨v, rfl, ho, hb⟩
    go_wp2
    go_ret
    exact ⟨v, rfl, by rw [HT.out]; exact ho, hb⟩
  · have HT : Hid (textB ts = putB (lb : Int) ++ ts) := by show _ = _; unfold textB; rw [if_neg (by rw [← HLB.out]; exact h40), HLB.out]
    go_enter Tryz.func77, Tryz.ntmps77
    go_wp2_with fail
    refine (implPut_any a xs _ _ _ _ hx HLA.out (by omega)).mono ?_
    rintro e w1 ⟨v1, rfl, o1, b1⟩
    have hp := putB_len (lb : Int)
    go_wp2_with fail
    refine (joined_ov v1 b (xs ++ putB (lb : Int)) ts _ _ _ _ o1 (isBytes_append hx.1 (putB_bytes _)) (hy.below b1) HLB.out (by rw [List.length_append]; omega) (by omega)).mono ?_
    rintro e w2 ⟨v2, rfl, o2, b2⟩
    go_wp2
    go_ret
    exact ⟨v2, rfl, by rw [HT.out, ← List.append_assoc]; exact o2.base b1.size, b1.trans (b2.mono b1.size)⟩

set_option maxHeartbeats 1000000 in
theorem specPutText_any (a b : Option Addr) (xs ts : List Int) (la ca lb cb : Nat) (w : World) (hx : Reads w a xs) (hy : Reads w b ts) (hla : la = xs.length) (hlb : lb = ts.length) (hl : xs.length ≤ 2000000) (hm : ts.length ≤ 2000000)
    (na : a = none → la = 0 ∧ ca = 0) (nb : b = none → lb = 0 ∧ cb = 0) :
    Calls Tryz.prog 117 #[.slice a la ca, .slice b lb cb] w fun e w' => ∃ v, e = .returned v ∧ Owns w' w.heap.size v (xs ++ textB ts) ∧ Below w.heap.size w w' := by
  have HLA : Hid _ := hla
  have HLB : Hid _ := hlb
  have NA : Hid _ := na
  have NB : Hid _ := nb
  have hlb' : lb ≤ 2000000 := by omega
  have HX : Hid (Reads (w.alloc (.cells #[] 5)) a xs) := hx.below ((Below.refl _ _).alloc (Nat.le_refl _) _)
  have HB1 : Hid (Below w.heap.size w (w.alloc (.cells #[] 5))) := (Below.refl _ _).alloc (Nat.le_refl _) _
  clear hla hlb na nb
  by_cases h40 : 40 < lb
  · have HT : Hid (textB ts = []) := by show _ = _; unfold textB; rw [if_pos (by rw [← HLB.out]; exact h40)]
    go_enter Tryz.func117, Tryz.ntmps117
    go_wp2_with (at_builtin; go_must (refine wpList_app _ rfl (.tmp 8) (.tmp 9) rfl w.heap.size _ [] xs rfl (owns_empty w) a la ca rfl HLA.out HX.out (by simp) (by omega) (by simp) NA.out ?_; intro v w1 ho hg))
    go_ret
    exact ⟨v, rfl, by rw [HT.out]; simpa using ho, HB1.out.grown hg (by simp) (fun k hk => ((owns_empty w).lt k hk).1)⟩
  · have HT : Hid (textB ts = putB (lb : Int) ++ ts) := by show _ = _; unfold textB; rw [if_neg (by rw [← HLB.out]; exact h40), HLB.out]
    clear HX HB1
    go_enter Tryz.func117, Tryz.ntmps117
    go_wp2_with fail
    refine (specPut_any a xs _ _ _ _ hx HLA.out (by omega) NA.out).mono ?_
    rintro e w1 ⟨v1, rfl, o1, b1⟩
    have hp := putB_len (lb : Int)
    go_wp2_with (at_builtin; go_must (refine wpList_app _ rfl (.tmp 14) (.tmp 15) rfl w.heap.size v1 (xs ++ putB (lb : Int)) ts rfl o1 b lb cb rfl HLB.out (hy.below b1) (by rw [List.length_append]; omega) (by omega) b1.size NB.out ?_; intro v2 w2 ho hg))
    go_ret
    exact ⟨v2, rfl, by rw [HT.out, ← List.append_assoc]; exact ho, b1.grown hg b1.size (fun k hk => (o1.lt k hk).1)⟩
end Go.Proofs.YtbnjhjgjmckedaaGreat
end

section
/- Plain facts on numbers and texts as bytes: what was put is got; what is got is just the bytes of it. -/
namespace Go.Proofs.YtbnjhjgjmckedaaGreat
set_option linter.unusedVariables false

theorem getLoop_only (f : Nat) (r : List Int) (i : Nat) (m sc v : Int) (c : Nat) (hr : isBytes r) (h : getLoop (f + 1) r i m sc = some (v, c)) :
    ∃ q, 0 ≤ q ∧ v = m + q * sc ∧ i < c ∧ r.take (c - i) = numB f q ∧ (0 < i → 0 < q) := by
  induction f generalizing r i m sc with
  | zero =>
    cases r with
    | nil => cases h
    | cons x r =>
      have hx : 0 ≤ x ∧ x ≤ 255 := by simpa using hr 0
      by_cases h1 : 128 ≤ x
      · rw [getLoop_more h1] at h; cases h
      · by_cases h2 : (0 < i ∧ x = 0) ∨ 2147483647 < m + x * sc
        · rw [getLoop_bad h1 h2] at h; cases h
        · rw [getLoop_end h1 h2] at h
          simp only [Option.some.injEq, Prod.mk.injEq] at h
          obtain ⟨rfl, rfl⟩ := h
          exact ⟨x, hx.1, rfl, by omega, by rw [show i + 1 - i = 1 by omega]; rfl, fun hi => by omega⟩
  | succ f ih =>
    cases r with
    | nil => cases h
    | cons x r =>
      have hx : 0 ≤ x ∧ x ≤ 255 := by simpa using hr 0
      have hr' : isBytes r := fun j => by simpa using hr (j + 1)
      by_cases h1 : 128 ≤ x
      · rw [getLoop_more h1] at h
        obtain ⟨q, hq0, hv, hic, htk, hpos⟩ := ih r (i + 1) _ _ hr' h
        have hq := hpos (by omega)
        refine ⟨(x - 128) + 128 * q, by omega, ?_, by omega, ?_, fun _ => by omega⟩
        · rw [hv]; grind
        · rw [show c - i = (c - (i + 1)) + 1 by omega, List.take_succ_cons, htk, numB_more _ _ (by omega)]
          have e1 : (x - 128 + 128 * q) % 128 + 128 = x := by omega
          have e2 : (x - 128 + 128 * q) / 128 = q := by omega
          rw [e1, e2]
      · by_cases h2 : (0 < i ∧ x = 0) ∨ 2147483647 < m + x * sc
        · rw [getLoop_bad h1 h2] at h; cases h
        · rw [getLoop_end h1 h2] at h
          simp only [Option.some.injEq, Prod.mk.injEq] at h
          obtain ⟨rfl, rfl⟩ := h
          exact ⟨x, hx.1, rfl, by omega, by rw [show i + 1 - i = 1 by omega, numB_small _ _ (by omega)]; rfl, fun hi => by omega⟩
theorem getNum_only (zs : List Int) (p n : Int) (s : Nat) (hz : isBytes zs) (h : getNum zs p = (n, (s : Int))) : 0 ≤ p ∧ p.toNat ≤ s ∧ s ≤ zs.length ∧ zs.take p.toNat ++ putB n = zs.take s := by
  have hfit := getNum_fits hz h
  obtain ⟨hn0, hn1, hp0, hps, hsl⟩ : 0 ≤ n ∧ n ≤ 2147483647 ∧ 0 ≤ p ∧ p < (s : Int) ∧ (s : Int) ≤ zs.length := by omega
  refine ⟨hp0, by omega, by omega, ?_⟩
  unfold getNum at h
  rw [if_neg (by omega)] at h
  split at h
  · simp only [Prod.mk.injEq] at h; omega
  · rename_i m c hg
    simp only [Prod.mk.injEq] at h
    obtain ⟨rfl, hs⟩ := h
    obtain ⟨q, hq0, hv, hic, htk, _⟩ := getLoop_only 4 _ 0 0 1 _ _ (isBytes_drop hz _) hg
    obtain rfl : m = q := by omega
    have hpb : putB m = numB 4 m := by unfold putB; rw [if_neg (by omega)]
    rw [hpb, ← htk, Nat.sub_zero, ← List.take_add]
    congr 1
    omega
end Go.Proofs.YtbnjhjgjmckedaaGreat
end

section
/- Transactions' numbers, parts, replies and messages as data; no condition. -/
namespace Go.Proofs.YtbnjhjgjmckedaaGreat
open Go.RowKit
set_option linter.unusedVariables false
set_option maxRecDepth 100000

abbrev TxD := Int × Int × Int
structure PtD where
  kind : Int
  h : Hd
  asn : List Int
  to : Hd
structure RpD where
  code : Int
  h : Hd
  val : Int
  list : List En
structure MsD where
  kind : Int
  fr : Int
  to : Int
  req : Int
  op : OpD
  rp : RpD
  tx : TxD
  pt : PtD
  code : Int
  h : Hd
def tx0 : TxD := (0, 0, 0)
def op0 : OpD := ⟨0, hd0, [], hd0, [], 0⟩
def rp0 : RpD := ⟨0, hd0, 0, []⟩
def pt0 : PtD := ⟨0, hd0, [], hd0⟩
def ms0 : MsD := ⟨0, 0, 0, 0, op0, rp0, tx0, pt0, 0, hd0⟩
abbrev txV (t : TxD) : Value := .agg #[.int .i64 t.1, .int .i64 t.2.1, .int .i64 t.2.2]
abbrev ptV (p : PtD) (u : Value) : Value := .agg #[.int .i64 p.kind, .int .i64 p.h.sh, .int .i64 p.h.ino, .bool p.h.dir, u, .int .i64 p.to.sh, .int .i64 p.to.ino, .bool p.to.dir]
abbrev rpV (r : RpD) (z : Value) : Value := .agg #[.int .i64 r.code, .int .i64 r.h.sh, .int .i64 r.h.ino, .bool r.h.dir, .int .i64 r.val, z]
abbrev msV (m : MsD) (x y z u : Value) : Value := .agg #[.int .i64 m.kind, .int .i64 m.fr, .int .i64 m.to, .int .i64 m.req, .int .i64 m.op.kind, .int .i64 m.op.dir.sh, .int .i64 m.op.dir.ino, .bool m.op.dir.dir, x, .int .i64 m.op.to.sh, .int .i64 m.op.to.ino, .bool m.op.to.dir, y, .int .i64 m.op.val, .int .i64 m.rp.code, .int .i64 m.rp.h.sh, .int .i64 m.rp.h.ino, .bool m.rp.h.dir, .int .i64 m.rp.val, z, .int .i64 m.tx.1, .int .i64 m.tx.2.1, .int .i64 m.tx.2.2, .int .i64 m.pt.kind, .int .i64 m.pt.h.sh, .int .i64 m.pt.h.ino, .bool m.pt.h.dir, u, .int .i64 m.pt.to.sh, .int .i64 m.pt.to.ino, .bool m.pt.to.dir, .int .i64 m.code, .int .i64 m.h.sh, .int .i64 m.h.ino, .bool m.h.dir]
theorem VarA.l5 {w : World} {b : Nat} {T : TypeId} {x0 x1 x2 x3 x4 : Value} (h : VarA w b T #[x0, x1, x2, x3, x4]) : w.cell? ⟨b, 0, none⟩ = some x0 ∧ w.cell? ⟨b, 1, none⟩ = some x1 ∧ w.cell? ⟨b, 2, none⟩ = some x2 ∧ w.cell? ⟨b, 3, none⟩ = some x3 ∧ w.cell? ⟨b, 4, none⟩ = some x4 := ⟨h.c 0 rfl, h.c 1 rfl, h.c 2 rfl, h.c 3 rfl, h.c 4 rfl⟩
theorem VarA.l6 {w : World} {b : Nat} {T : TypeId} {x0 x1 x2 x3 x4 x5 : Value} (h : VarA w b T #[x0, x1, x2, x3, x4, x5]) : w.cell? ⟨b, 0, none⟩ = some x0 ∧ w.cell? ⟨b, 1, none⟩ = some x1 ∧ w.cell? ⟨b, 2, none⟩ = some x2 ∧ w.cell? ⟨b, 3, none⟩ = some x3 ∧ w.cell? ⟨b, 4, none⟩ = some x4 ∧ w.cell? ⟨b, 5, none⟩ = some x5 := ⟨h.c 0 rfl, h.c 1 rfl, h.c 2 rfl, h.c 3 rfl, h.c 4 rfl, h.c 5 rfl⟩
theorem VarA.l8 {w : World} {b : Nat} {T : TypeId} {x0 x1 x2 x3 x4 x5 x6 x7 : Value} (h : VarA w b T #[x0, x1, x2, x3, x4, x5, x6, x7]) : w.cell? ⟨b, 0, none⟩ = some x0 ∧ w.cell? ⟨b, 1, none⟩ = some x1 ∧ w.cell? ⟨b, 2, none⟩ = some x2 ∧ w.cell? ⟨b, 3, none⟩ = some x3 ∧ w.cell? ⟨b, 4, none⟩ = some x4 ∧ w.cell? ⟨b, 5, none⟩ = some x5 ∧ w.cell? ⟨b, 6, none⟩ = some x6 ∧ w.cell? ⟨b, 7, none⟩ = some x7 := ⟨h.c 0 rfl, h.c 1 rfl, h.c 2 rfl, h.c 3 rfl, h.c 4 rfl, h.c 5 rfl, h.c 6 rfl, h.c 7 rfl⟩
theorem VarA.l35 {w : World} {b : Nat} {T : TypeId} {x0 x1 x2 x3 x4 x5 x6 x7 x8 x9 x10 x11 x12 x13 x14 x15 x16 x17 x18 x19 x20 x21 x22 x23 x24 x25 x26 x27 x28 x29 x30 x31 x32 x33 x34 : Value} (h : VarA w b T #[x0, x1, x2, x3, x4, x5, x6, x7, x8, x9, x10, x11, x12, x13, x14, x15, x16, x17, x18, x19, x20, x21, x22, x23, x24, x25, x26, x27, x28, x29, x30, x31, x32, x33, x34]) : w.cell? ⟨b, 0, none⟩ = some x0 ∧ w.cell? ⟨b, 1, none⟩ = some x1 ∧ w.cell? ⟨b, 2, none⟩ = some x2 ∧ w.cell? ⟨b, 3, none⟩ = some x3 ∧ w.cell? ⟨b, 4, none⟩ = some x4 ∧ w.cell? ⟨b, 5, none⟩ = some x5 ∧ w.cell? ⟨b, 6, none⟩ = some x6 ∧ w.cell? ⟨b, 7, none⟩ = some x7 ∧ w.cell? ⟨b, 8, none⟩ = some x8 ∧ w.cell? ⟨b, 9, none⟩ = some x9 ∧ w.cell? ⟨b, 10, none⟩ = some x10 ∧ w.cell? ⟨b, 11, none⟩ = some x11 ∧ w.cell? ⟨b, 12, none⟩ = some x12 ∧ w.cell? ⟨b, 13, none⟩ = some x13 ∧ w.cell? ⟨b, 14, none⟩ = some x14 ∧ w.cell? ⟨b, 15, none⟩ = some x15 ∧ w.cell? ⟨b, 16, none⟩ = some x16 ∧ w.cell? ⟨b, 17, none⟩ = some x17 ∧ w.cell? ⟨b, 18, none⟩ = some x18 ∧ w.cell? ⟨b, 19, none⟩ = some x19 ∧ w.cell? ⟨b, 20, none⟩ = some x20 ∧ w.cell? ⟨b, 21, none⟩ = some x21 ∧ w.cell? ⟨b, 22, none⟩ = some x22 ∧ w.cell? ⟨b, 23, none⟩ = some x23 ∧ w.cell? ⟨b, 24, none⟩ = some x24 ∧ w.cell? ⟨b, 25, none⟩ = some x25 ∧ w.cell? ⟨b, 26, none⟩ = some x26 ∧ w.cell? ⟨b, 27, none⟩ = some x27 ∧ w.cell? ⟨b, 28, none⟩ = some x28 ∧ w.cell? ⟨b, 29, none⟩ = some x29 ∧ w.cell? ⟨b, 30, none⟩ = some x30 ∧ w.cell? ⟨b, 31, none⟩ = some x31 ∧ w.cell? ⟨b, 32, none⟩ = some x32 ∧ w.cell? ⟨b, 33, none⟩ = some x33 ∧ w.cell? ⟨b, 34, none⟩ = some x34 := ⟨h.c 0 rfl, h.c 1 rfl, h.c 2 rfl, h.c 3 rfl, h.c 4 rfl, h.c 5 rfl, h.c 6 rfl, h.c 7 rfl, h.c 8 rfl, h.c 9 rfl, h.c 10 rfl, h.c 11 rfl, h.c 12 rfl, h.c 13 rfl, h.c 14 rfl, h.c 15 rfl, h.c 16 rfl, h.c 17 rfl, h.c 18 rfl, h.c 19 rfl, h.c 20 rfl, h.c 21 rfl, h.c 22 rfl, h.c 23 rfl, h.c 24 rfl, h.c 25 rfl, h.c 26 rfl, h.c 27 rfl, h.c 28 rfl, h.c 29 rfl, h.c 30 rfl, h.c 31 rfl, h.c 32 rfl, h.c 33 rfl, h.c 34 rfl⟩
/-- A message's four lists, read. -/
def RdM (w : World) (S : Nat → Prop) (m : MsD) (x y z u : Value) : Prop := RdV w S x (.bytes m.op.nm) ∧ RdV w S y (.bytes m.op.asn) ∧ RdV w S z (ensDt m.rp.list) ∧ RdV w S u (.bytes m.pt.asn)
theorem RdM.step {w w' : World} {S : Nat → Prop} {m : MsD} {x y z u : Value} (r : RdM w S m x y z u) (hb : Below w.heap.size w w') : RdM w' S m x y z u := ⟨r.1.step hb, r.2.1.step hb, r.2.2.1.step hb, r.2.2.2.step hb⟩
theorem RdM.keep {w w' : World} {S : Nat → Prop} {m : MsD} {x y z u : Value} (r : RdM w S m x y z u) (hb : Keeps S w w') : RdM w' S m x y z u := ⟨r.1.keep hb, r.2.1.keep hb, r.2.2.1.keep hb, r.2.2.2.keep hb⟩
theorem RdM.mono {w : World} {S S' : Nat → Prop} {m : MsD} {x y z u : Value} (r : RdM w S m x y z u) (hs : ∀ b, S b → S' b) : RdM w S' m x y z u := ⟨r.1.mono hs, r.2.1.mono hs, r.2.2.1.mono hs, r.2.2.2.mono hs⟩
/-- A message's four lists are the call's own, none sharing with another, all in S. -/
def OwM (w : World) (S : Nat → Prop) (m : MsD) (x y z u : Value) : Prop :=
  ∃ Q1 Q2 Q3 Q4 : Nat → Prop, OwV w Q1 x (.bytes m.op.nm) ∧ OwV w Q2 y (.bytes m.op.asn) ∧ OwV w Q3 z (ensDt m.rp.list) ∧ OwV w Q4 u (.bytes m.pt.asn) ∧
    (∀ b, Q1 b ∨ Q2 b ∨ Q3 b ∨ Q4 b → S b) ∧ (∀ b, Q1 b → ¬ Q2 b ∧ ¬ Q3 b ∧ ¬ Q4 b) ∧ (∀ b, Q2 b → ¬ Q3 b ∧ ¬ Q4 b) ∧ (∀ b, Q3 b → ¬ Q4 b)
theorem OwM.rd {w : World} {S : Nat → Prop} {m : MsD} {x y z u : Value} (o : OwM w S m x y z u) : RdM w S m x y z u := by
  obtain ⟨Q1, Q2, Q3, Q4, o1, o2, o3, o4, hs, _⟩ := o
  exact ⟨OwV.rd (o1.mono (fun b h => hs b (.inl h))), OwV.rd (o2.mono (fun b h => hs b (.inr (.inl h)))), OwV.rd (o3.mono (fun b h => hs b (.inr (.inr (.inl h))))), OwV.rd (o4.mono (fun b h => hs b (.inr (.inr (.inr h)))))⟩
theorem OwM.keep {w w' : World} {S : Nat → Prop} {m : MsD} {x y z u : Value} (o : OwM w S m x y z u) (t : Keeps S w w') : OwM w' S m x y z u := by
  obtain ⟨Q1, Q2, Q3, Q4, o1, o2, o3, o4, hs, h⟩ := o
  exact ⟨Q1, Q2, Q3, Q4, o1.keep (t.mono (fun b h => hs b (.inl h))), o2.keep (t.mono (fun b h => hs b (.inr (.inl h)))), o3.keep (t.mono (fun b h => hs b (.inr (.inr (.inl h))))), o4.keep (t.mono (fun b h => hs b (.inr (.inr (.inr h))))), hs, h⟩
theorem OwM.mono {w : World} {S S' : Nat → Prop} {m : MsD} {x y z u : Value} (o : OwM w S m x y z u) (t : ∀ b, S b → S' b) : OwM w S' m x y z u := by
  obtain ⟨Q1, Q2, Q3, Q4, o1, o2, o3, o4, hs, h⟩ := o
  exact ⟨Q1, Q2, Q3, Q4, o1, o2, o3, o4, fun b hb => t b (hs b hb), h⟩
/-- How much there is of a message. -/
def szMs (m : MsD) : Nat := m.op.nm.length + m.op.asn.length + szEns m.rp.list + m.pt.asn.length
end Go.Proofs.YtbnjhjgjmckedaaGreat
end

section
/- The bytes of handles, operations, replies, parts and messages, as data; no condition. -/
namespace Go.Proofs.YtbnjhjgjmckedaaGreat
open Go.RowKit
set_option linter.unusedVariables false
set_option linter.unusedSimpArgs false
set_option maxRecDepth 100000

def flagB (b : Bool) : List Int := if b then [1] else [0]
def hdB (h : Hd) : List Int := putB h.sh ++ (putB h.ino ++ flagB h.dir)
def opB (o : OpD) : List Int := putB o.kind ++ (hdB o.dir ++ (textB o.nm ++ (hdB o.to ++ (textB o.asn ++ putB o.val))))
def enB (e : En) : List Int := textB e.nm ++ hdB e.h
def ensB (l : List En) : List Int := l.flatMap enB
def rpB (r : RpD) : List Int := putB r.code ++ (hdB r.h ++ (putB r.val ++ (putB r.list.length ++ ensB r.list)))
def txB (t : TxD) : List Int := putB t.1 ++ (putB t.2.1 ++ putB t.2.2)
def ptB (p : PtD) : List Int := putB p.kind ++ (hdB p.h ++ (textB p.asn ++ hdB p.to))
def msRest (m : MsD) : List Int :=
  if m.kind = 0 then putB m.req ++ opB m.op
  else if m.kind = 1 then putB m.req ++ rpB m.rp
  else if m.kind = 2 then txB m.tx ++ ptB m.pt
  else if m.kind = 3 then txB m.tx ++ (ptB m.pt ++ (putB m.code ++ hdB m.h))
  else if m.kind = 5 then txB m.tx ++ putB m.code
  else if m.kind = 6 then txB m.tx ++ (putB m.req ++ hdB m.h)
  else if m.kind = 7 then txB m.tx ++ (putB m.req ++ (putB m.code ++ hdB m.h))
  else txB m.tx
def msB (m : MsD) : List Int := putB m.kind ++ (putB m.fr ++ (putB m.to ++ msRest m))
theorem flagB_bytes (b : Bool) : isBytes (flagB b) := by cases b <;> exact isBytes_cons (by decide) (by decide) isBytes_nil
theorem flagB_len (b : Bool) : (flagB b).length = 1 := by cases b <;> rfl
theorem hdB_len (h : Hd) : (hdB h).length ≤ 11 := by
  have h1 := putB_len h.sh; have h2 := putB_len h.ino; have h3 := flagB_len h.dir
  unfold hdB; rw [List.length_append, List.length_append]; omega
theorem enB_len (e : En) : (enB e).length ≤ 56 := by
  have h1 := textB_len e.nm; have h2 := hdB_len e.h
  unfold enB; rw [List.length_append]; omega
theorem ensB_len (l : List En) : (ensB l).length ≤ 56 * l.length := by
  induction l with
  | nil => simp [ensB]
  | cons e l ih => have := enB_len e; unfold ensB at *; rw [List.flatMap_cons, List.length_append, List.length_cons]; omega
theorem txB_len (t : TxD) : (txB t).length ≤ 15 := by
  have h1 := putB_len t.1; have h2 := putB_len t.2.1; have h3 := putB_len t.2.2
  unfold txB; rw [List.length_append, List.length_append]; omega
theorem opB_len (o : OpD) : (opB o).length ≤ 122 := by
  have h1 := putB_len o.kind; have h2 := hdB_len o.dir; have h3 := textB_len o.nm; have h4 := hdB_len o.to; have h5 := textB_len o.asn; have h6 := putB_len o.val
  unfold opB; simp only [List.length_append]; omega
theorem ptB_len (p : PtD) : (ptB p).length ≤ 72 := by
  have h1 := putB_len p.kind; have h2 := hdB_len p.h; have h3 := textB_len p.asn; have h4 := hdB_len p.to
  unfold ptB; simp only [List.length_append]; omega
theorem Below.al2 {a b : World} (h : Below a.heap.size a b) (o : Obj) : Below a.heap.size a (b.alloc o) := h.alloc h.size _
/-- A call that hands back bytes of its own. -/
abbrev Ap (f : FuncId) (args : Array Value) (w : World) (zs : List Int) : Prop :=
  Calls Tryz.prog f args w fun e w' => ∃ v, e = .returned v ∧ isBytes zs ∧ Owns w' w.heap.size v zs ∧ Below w.heap.size w w'
theorem Owns.rdT {w : World} {B : Nat} {v : Value} {zs : List Int} (o : Owns w B v zs) (h : isBytes zs) : RdV w (fun _ => True) v (.bytes zs) := rdS_of_owns h (o.base (Nat.zero_le _)) (fun _ _ => trivial)
theorem specPutR (v : Value) (xs : List Int) (n : Int) (S : Nat → Prop) (w : World) (r : RdV w S v (.bytes xs)) (hl : xs.length ≤ 2000000) : Ap 94 #[v, .int .i64 n] w (xs ++ putB n) := by
  obtain ⟨a, cap, rfl, hh, hr⟩ := r.b.reads
  exact (specPut_any a xs _ cap n w hr rfl (by omega) hh.2.2).mono fun e w' ⟨u, he, ho, hb⟩ => ⟨u, he, isBytes_append hr.1 (putB_bytes n), ho, hb⟩
theorem specTextR (v u : Value) (xs ts : List Int) (S S2 : Nat → Prop) (w : World) (r : RdV w S v (.bytes xs)) (r2 : RdV w S2 u (.bytes ts)) (hl : xs.length ≤ 2000000) (hm : ts.length ≤ 2000000) : Ap 117 #[v, u] w (xs ++ textB ts) := by
  obtain ⟨a, cap, rfl, hh, hr⟩ := r.b.reads
  obtain ⟨b, cbp, rfl, gh, gr⟩ := r2.b.reads
  exact (specPutText_any a b xs ts _ cap _ cbp w hr gr rfl rfl hl hm hh.2.2 gh.2.2).mono fun e w' ⟨u, he, ho, hb⟩ => ⟨u, he, isBytes_append hr.1 (textB_bytes gr.1), ho, hb⟩
end Go.Proofs.YtbnjhjgjmckedaaGreat
end

section
/- Plain facts: a message read at a place; what was read is just the bytes between the places. -/
namespace Go.Proofs.YtbnjhjgjmckedaaGreat
set_option linter.unusedVariables false
set_option linter.unusedSimpArgs false

/-- What lies between two places of zs is just B. -/
def Took (zs : List Int) (p : Int) (B : List Int) (s : Int) : Prop := 0 ≤ p ∧ p ≤ s ∧ s ≤ zs.length ∧ zs.take p.toNat ++ B = zs.take s.toNat
theorem Took.trans {zs B B2 : List Int} {p s t : Int} (h : Took zs p B s) (k : Took zs s B2 t) : Took zs p (B ++ B2) t := by
  obtain ⟨h1, h2, h3, h4⟩ := h
  obtain ⟨k1, k2, k3, k4⟩ := k
  exact ⟨h1, by omega, k3, by rw [← List.append_assoc, h4, k4]⟩
theorem Took.all {zs B : List Int} (h : Took zs 0 B zs.length) : B = zs := by
  have := h.2.2.2
  simpa using this
theorem Took.nil {zs : List Int} {p : Int} (h : 0 ≤ p) (h2 : p ≤ zs.length) : Took zs p [] p := ⟨h, by omega, h2, by simp⟩
theorem num_took {zs : List Int} {p : Int} (hz : isBytes zs) (h : 0 ≤ (getNum zs p).2) : Took zs p (putB (getNum zs p).1) (getNum zs p).2 := by
  obtain ⟨n, nx, hg⟩ : ∃ n nx, getNum zs p = (n, nx) := ⟨_, _, rfl⟩
  rw [hg] at h ⊢
  dsimp only at h ⊢
  obtain ⟨s, rfl⟩ : ∃ s : Nat, nx = (s : Int) := ⟨nx.toNat, by omega⟩
  obtain ⟨h1, h2, h3, h4⟩ := getNum_only zs p n s hz hg
  exact ⟨h1, by omega, by omega, by simpa using h4⟩
theorem text_took {zs : List Int} {p : Int} (hz : isBytes zs) (h : 0 ≤ (getText zs p).2) : Took zs p (textB (getText zs p).1) (getText zs p).2 := by
  obtain ⟨n, nx, hg⟩ : ∃ n nx, getNum zs p = (n, nx) := ⟨_, _, rfl⟩
  have hf := getNum_fits hz hg
  unfold getText at h ⊢
  rw [hg] at h ⊢
  dsimp only at h ⊢
  by_cases hb : nx < 0 ∨ 40 < n ∨ (zs.length : Int) - nx < n
  · rw [if_pos hb] at h; simp at h
  · rw [if_neg hb] at h ⊢
    have h0 := num_took (p := p) hz (by rw [hg]; show (0 : Int) ≤ nx; omega)
    rw [hg] at h0
    dsimp only at h0 ⊢
    have hl : ((zs.drop nx.toNat).take n.toNat).length = n.toNat := by rw [List.length_take, List.length_drop]; omega
    have ht : textB ((zs.drop nx.toNat).take n.toNat) = putB n ++ (zs.drop nx.toNat).take n.toNat := by
      unfold textB
      rw [hl, if_neg (by omega)]
      congr 2; omega
    rw [ht]
    refine h0.trans ⟨by omega, by omega, by omega, ?_⟩
    rw [show (nx + n).toNat = nx.toNat + n.toNat by omega, List.take_add]
/-- A flag, as the specification reads it. -/
def rdFlag (zs : List Int) (p : Int) : Bool × Int := if p < 0 ∨ (zs.length : Int) ≤ p ∨ 1 < zs[p.toNat]?.getD 0 then (false, -1) else (zs[p.toNat]?.getD 0 == 1, p + 1)
theorem take_next (zs : List Int) (k : Nat) (h : k < zs.length) : zs.take (k + 1) = zs.take k ++ [zs[k]?.getD 0] := by
  rw [← List.take_append_getElem h, List.getElem?_eq_getElem h]; rfl
theorem flag_took {zs : List Int} {p : Int} (hz : isBytes zs) (h : 0 ≤ (rdFlag zs p).2) : Took zs p (flagB (rdFlag zs p).1) (rdFlag zs p).2 := by
  unfold rdFlag at h ⊢
  by_cases hb : p < 0 ∨ (zs.length : Int) ≤ p ∨ 1 < zs[p.toNat]?.getD 0
  · rw [if_pos hb] at h; simp at h
  · rw [if_neg hb]
    dsimp only
    have hk : p.toNat < zs.length := by omega
    refine ⟨by omega, by omega, by omega, ?_⟩
    rw [show (p + 1).toNat = p.toNat + 1 by omega, take_next zs _ hk]
    have hc : 0 ≤ zs[p.toNat]?.getD 0 := by
      exact (hz p.toNat).1
    generalize zs[p.toNat]?.getD 0 = c at hb hc
    obtain rfl | rfl : c = 0 ∨ c = 1 := by omega
    · rfl
    · rfl
/-- A flag, as the program reads it, is the same. -/
theorem flag_num {zs : List Int} (p : Int) (hz : isBytes zs) : ((getNum zs p).1 == 1, if (getNum zs p).1 = 0 ∨ (getNum zs p).1 = 1 then (getNum zs p).2 else -1) = rdFlag zs p := by
  obtain ⟨n, nx, hg⟩ : ∃ n nx, getNum zs p = (n, nx) := ⟨_, _, rfl⟩
  have hf := getNum_fits hz hg
  by_cases ho : p < 0 ∨ (zs.length : Int) ≤ p
  · have hr : rdFlag zs p = (false, -1) := by unfold rdFlag; rw [if_pos (by omega)]
    rw [getNum_out zs p ho, hr]
    rfl
  · have hk : p.toNat < zs.length := by omega
    have hc : 0 ≤ zs[p.toNat]?.getD 0 := by
      exact (hz p.toNat).1
    have hd : zs.drop p.toNat = zs[p.toNat]?.getD 0 :: zs.drop (p.toNat + 1) := by rw [List.drop_eq_getElem_cons hk, List.getElem?_eq_getElem hk]; rfl
    by_cases h128 : 128 ≤ zs[p.toNat]?.getD 0
    · have hr : rdFlag zs p = (false, -1) := by unfold rdFlag; rw [if_pos (by omega)]
      rw [hr, hg]
      dsimp only
      rcases hf with ⟨rfl, rfl⟩ | ⟨hn0, _, hp0, hps, hsl⟩
      · rfl
      · have ht := num_took (p := p) hz (by rw [hg]; show (0 : Int) ≤ nx; omega)
        rw [hg] at ht
        have h4 : zs.take p.toNat ++ putB n = zs.take nx.toNat := ht.2.2.2
        have hne : ¬ (n = 0 ∨ n = 1) := by
          intro hn
          have hpb : putB n = [n] := by rcases hn with rfl | rfl <;> rfl
          rw [hpb] at h4
          have hlen := congrArg List.length h4
          rw [List.length_append, List.length_take, List.length_take, List.length_singleton] at hlen
          have hnx : nx.toNat = p.toNat + 1 := by omega
          rw [hnx, take_next zs _ hk] at h4
          have := List.append_cancel_left h4
          simp at this
          omega
        rw [if_neg hne]
        have : (n == 1) = false := by simp; omega
        rw [this]
    · have hgn : getNum zs p = (zs[p.toNat]?.getD 0, p + 1) := by
        unfold getNum
        rw [if_neg (by omega), hd, getLoop_end (f := 4) (by omega) (by omega)]
        simp
      rw [hgn]
      dsimp only
      by_cases h1 : 1 < zs[p.toNat]?.getD 0
      · have hr : rdFlag zs p = (false, -1) := by unfold rdFlag; rw [if_pos (.inr (.inr h1))]
        have ht : (zs[p.toNat]?.getD 0 == 1) = false := by
          generalize zs[p.toNat]?.getD 0 = c at h1
          simp; omega
        rw [hr, ht, if_neg (by omega)]
      · have hr : rdFlag zs p = (zs[p.toNat]?.getD 0 == 1, p + 1) := by unfold rdFlag; rw [if_neg (by omega)]
        rw [hr, if_pos (by omega)]
/-- A handle, an operation, a transaction, a part, read at a place. -/
def rdHd (zs : List Int) (p : Int) : Hd × Int := let a := getNum zs p; let b := getNum zs a.2; let c := rdFlag zs b.2; ((a.1, b.1, c.1), c.2)
def rdOp (zs : List Int) (p : Int) : OpD × Int := let k := getNum zs p; let d := rdHd zs k.2; let n := getText zs d.2; let t := rdHd zs n.2; let s := getText zs t.2; let v := getNum zs s.2; (⟨k.1, d.1, n.1, t.1, s.1, v.1⟩, v.2)
def rdTx (zs : List Int) (p : Int) : TxD × Int := let a := getNum zs p; let b := getNum zs a.2; let c := getNum zs b.2; ((a.1, b.1, c.1), c.2)
def rdPt (zs : List Int) (p : Int) : PtD × Int := let k := getNum zs p; let d := rdHd zs k.2; let n := getText zs d.2; let t := rdHd zs n.2; (⟨k.1, d.1, n.1, t.1⟩, t.2)
theorem num_neg {zs : List Int} {p : Int} (h : 0 ≤ (getNum zs p).2) : 0 ≤ p := by
  by_cases hp : p < 0
  · rw [getNum_out zs p (.inl hp)] at h; simp at h
  · omega
theorem text_neg {zs : List Int} {p : Int} (h : 0 ≤ (getText zs p).2) : 0 ≤ p := by
  by_cases hp : p < 0
  · unfold getText at h; rw [getNum_out zs p (.inl hp)] at h; simp at h
  · omega
theorem flag_neg {zs : List Int} {p : Int} (h : 0 ≤ (rdFlag zs p).2) : 0 ≤ p := by
  by_cases hp : p < 0
  · unfold rdFlag at h; rw [if_pos (.inl hp)] at h; simp at h
  · omega
theorem hd_neg {zs : List Int} {p : Int} (h : 0 ≤ (rdHd zs p).2) : 0 ≤ p := num_neg (num_neg (flag_neg h))
theorem hd_took {zs : List Int} {p : Int} (hz : isBytes zs) (h : 0 ≤ (rdHd zs p).2) : Took zs p (hdB (rdHd zs p).1) (rdHd zs p).2 :=
  (num_took hz (num_neg (flag_neg h))).trans ((num_took hz (flag_neg h)).trans (flag_took hz h))
theorem tx_neg {zs : List Int} {p : Int} (h : 0 ≤ (rdTx zs p).2) : 0 ≤ p := num_neg (num_neg (num_neg h))
theorem tx_took {zs : List Int} {p : Int} (hz : isBytes zs) (h : 0 ≤ (rdTx zs p).2) : Took zs p (txB (rdTx zs p).1) (rdTx zs p).2 :=
  (num_took hz (num_neg (num_neg h))).trans ((num_took hz (num_neg h)).trans (num_took hz h))
theorem op_neg {zs : List Int} {p : Int} (h : 0 ≤ (rdOp zs p).2) : 0 ≤ p := num_neg (hd_neg (text_neg (hd_neg (text_neg (num_neg h)))))
theorem op_took {zs : List Int} {p : Int} (hz : isBytes zs) (h : 0 ≤ (rdOp zs p).2) : Took zs p (opB (rdOp zs p).1) (rdOp zs p).2 :=
  (num_took hz (hd_neg (text_neg (hd_neg (text_neg (num_neg h)))))).trans ((hd_took hz (text_neg (hd_neg (text_neg (num_neg h))))).trans ((text_took hz (hd_neg (text_neg (num_neg h)))).trans ((hd_took hz (text_neg (num_neg h))).trans ((text_took hz (num_neg h)).trans (num_took hz h)))))
theorem pt_neg {zs : List Int} {p : Int} (h : 0 ≤ (rdPt zs p).2) : 0 ≤ p := num_neg (hd_neg (text_neg (hd_neg h)))
theorem pt_took {zs : List Int} {p : Int} (hz : isBytes zs) (h : 0 ≤ (rdPt zs p).2) : Took zs p (ptB (rdPt zs p).1) (rdPt zs p).2 :=
  (num_took hz (hd_neg (text_neg (hd_neg h)))).trans ((hd_took hz (text_neg (hd_neg h))).trans ((text_took hz (hd_neg h)).trans (hd_took hz h)))
/-- Entries: the specification stops where it failed; the program goes on. -/
def rdEns (zs : List Int) : Nat → Int → List En × Int
  | 0, p => ([], p)
  | f + 1, p => if p < 0 then ([], p) else (⟨(getText zs p).1, (rdHd zs (getText zs p).2).1⟩ :: (rdEns zs f (rdHd zs (getText zs p).2).2).1, (rdEns zs f (rdHd zs (getText zs p).2).2).2)
def rdEnsP (zs : List Int) : Nat → Int → List En × Int
  | 0, p => ([], p)
  | f + 1, p => (⟨(getText zs p).1, (rdHd zs (getText zs p).2).1⟩ :: (rdEnsP zs f (rdHd zs (getText zs p).2).2).1, (rdEnsP zs f (rdHd zs (getText zs p).2).2).2)
theorem ens_neg {zs : List Int} (f : Nat) {p : Int} (h : 0 ≤ (rdEns zs f p).2) : 0 ≤ p := by
  cases f with
  | zero => exact h
  | succ f =>
    by_cases hp : p < 0
    · rw [rdEns, if_pos hp] at h; exact h
    · omega
theorem ensP_neg {zs : List Int} (f : Nat) : ∀ {p : Int}, 0 ≤ (rdEnsP zs f p).2 → 0 ≤ p := by
  induction f with
  | zero => intro p h; exact h
  | succ f ih => intro p h; exact text_neg (hd_neg (ih h))
theorem ens_same {zs : List Int} (f : Nat) : ∀ {p : Int}, 0 ≤ (rdEnsP zs f p).2 → rdEns zs f p = rdEnsP zs f p := by
  induction f with
  | zero => intro p h; rfl
  | succ f ih =>
    intro p h
    have h1 : 0 ≤ p := ensP_neg (f + 1) h
    have h2 := ih (p := (rdHd zs (getText zs p).2).2) h
    rw [rdEns, if_neg (by omega), rdEnsP, h2]
theorem ens_same' {zs : List Int} (f : Nat) : ∀ {p : Int}, 0 ≤ (rdEns zs f p).2 → rdEnsP zs f p = rdEns zs f p := by
  induction f with
  | zero => intro p h; rfl
  | succ f ih =>
    intro p h
    have h1 : 0 ≤ p := ens_neg (f + 1) h
    rw [rdEns, if_neg (by omega)] at h ⊢
    rw [rdEnsP, ih h]
theorem ens_took {zs : List Int} (hz : isBytes zs) (f : Nat) : ∀ {p : Int}, p ≤ zs.length → 0 ≤ (rdEns zs f p).2 → Took zs p (ensB (rdEns zs f p).1) (rdEns zs f p).2 ∧ (rdEns zs f p).1.length = f := by
  induction f with
  | zero => intro p hp h; exact ⟨Took.nil h hp, rfl⟩
  | succ f ih =>
    intro p hp h
    have h1 : 0 ≤ p := ens_neg (f + 1) h
    rw [rdEns, if_neg (by omega)] at h ⊢
    dsimp only at h ⊢
    have h2 := ens_neg f h
    have t1 := text_took hz (hd_neg h2)
    have t2 := hd_took hz h2
    obtain ⟨t3, hl⟩ := ih t2.2.2.1 h
    refine ⟨?_, by rw [List.length_cons, hl]⟩
    have : ensB (⟨(getText zs p).1, (rdHd zs (getText zs p).2).1⟩ :: (rdEns zs f (rdHd zs (getText zs p).2).2).1) = textB (getText zs p).1 ++ (hdB (rdHd zs (getText zs p).2).1 ++ ensB (rdEns zs f (rdHd zs (getText zs p).2).2).1) := by
      simp [ensB, enB]
    rw [this]
    exact t1.trans (t2.trans t3)
end Go.Proofs.YtbnjhjgjmckedaaGreat
end
