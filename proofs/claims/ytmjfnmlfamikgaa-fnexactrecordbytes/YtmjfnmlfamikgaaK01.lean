/- Joined: Nums Puts PutNum Steps Texts WBy0 WBy1 WBy2. -/
import Derived.Test.YtmjfnmlfamikgaaBytes
import Derived.Test.YtmjfnmlfamikgaaOwn
import Derived.Test.YtmjfnmlfamikgaaWires
import Derived.Test.YtmjfnmlfamikgaaVarL
import Derived.Test.YtmjfnmlfamikgaaSzs

section
/- The numbers' bytes as a plain function, and that both the program's and the specification's GetNum compute it. Conditions: at most 2^20 bytes (what both are called with here). -/
namespace Go.Proofs.Ytmjfnmlfamikgaa
open Go.RowKit
set_option linter.unusedVariables false

/-- Reads a number from the head of a list of bytes: i bytes were read, n is their sum, sc the next one's weight, f more may come. -/
def getLoop : Nat → List Int → Nat → Int → Int → Option (Int × Nat)
  | 0, _, _, _, _ => none
  | _ + 1, [], _, _, _ => none
  | f + 1, x :: r, i, n, sc =>
    if 128 ≤ x then getLoop f r (i + 1) (n + (x - 128) * sc) (sc * 128)
    else if (0 < i ∧ x = 0) ∨ 2147483647 < n + x * sc then none else some (n + x * sc, i + 1)

def getNum (zs : List Int) (p : Int) : Int × Int :=
  if p < 0 then (0, -1) else match getLoop 5 (zs.drop p.toNat) 0 0 1 with
    | none => (0, -1)
    | some (n, c) => (n, p + c)

theorem getLoop_nil (f i : Nat) (n sc : Int) : getLoop f [] i n sc = none := by cases f <;> rfl
theorem getLoop_more {f : Nat} {x : Int} {r : List Int} {i : Nat} {n sc : Int} (h : 128 ≤ x) : getLoop (f + 1) (x :: r) i n sc = getLoop f r (i + 1) (n + (x - 128) * sc) (sc * 128) := by
  rw [getLoop, if_pos h]
theorem getLoop_bad {f : Nat} {x : Int} {r : List Int} {i : Nat} {n sc : Int} (h : ¬ 128 ≤ x) (h2 : (0 < i ∧ x = 0) ∨ 2147483647 < n + x * sc) : getLoop (f + 1) (x :: r) i n sc = none := by
  rw [getLoop, if_neg h, if_pos h2]
theorem getLoop_end {f : Nat} {x : Int} {r : List Int} {i : Nat} {n sc : Int} (h : ¬ 128 ≤ x) (h2 : ¬ ((0 < i ∧ x = 0) ∨ 2147483647 < n + x * sc)) : getLoop (f + 1) (x :: r) i n sc = some (n + x * sc, i + 1) := by
  rw [getLoop, if_neg h, if_neg h2]
theorem drop_cons (zs : List Int) (k : Nat) (h : k < zs.length) : zs.drop k = zs[k]?.getD 0 :: zs.drop (k + 1) := by
  rw [List.drop_eq_getElem_cons h]; simp [h]
theorem getNum_none {zs : List Int} {p : Nat} (h : getLoop 5 (zs.drop p) 0 0 1 = none) : getNum zs p = (0, -1) := by
  unfold getNum; rw [if_neg (by omega), Int.toNat_natCast, h]
theorem getNum_some {zs : List Int} {p : Nat} {n : Int} {c : Nat} (h : getLoop 5 (zs.drop p) 0 0 1 = some (n, c)) : getNum zs p = (n, (p : Int) + (c : Int)) := by
  unfold getNum; rw [if_neg (by omega), Int.toNat_natCast, h]

/-- The weight behind i bytes. -/
def wt : Nat → Int
  | 0 => 1
  | 1 => 128
  | 2 => 16384
  | 3 => 2097152
  | 4 => 268435456
  | _ => 34359738368
theorem wt_succ (k : Nat) (h : k < 5) : wt k * 128 = wt (k + 1) := by
  rcases (show k = 0 ∨ k = 1 ∨ k = 2 ∨ k = 3 ∨ k = 4 from by omega) with rfl | rfl | rfl | rfl | rfl <;> rfl
theorem wt_bd (k : Nat) (h : k < 5) : 1 ≤ wt k ∧ wt k ≤ 268435456 := by
  rcases (show k = 0 ∨ k = 1 ∨ k = 2 ∨ k = 3 ∨ k = 4 from by omega) with rfl | rfl | rfl | rfl | rfl <;> decide

/-- What holds at the head of round k of both loops. -/
def At (zs : List Int) (p k : Nat) (n : Int) : Prop := 0 ≤ n ∧ n ≤ wt k ∧ getLoop 5 (zs.drop p) 0 0 1 = getLoop (5 - k) (zs.drop (p + k)) k n (wt k)
theorem At.start (zs : List Int) (p : Nat) : At zs p 0 0 := ⟨by decide, by decide, rfl⟩
theorem At.more {zs : List Int} {p k : Nat} {n c : Int} (h : At zs p k n) (hk : k < 5) (hp : p + k < zs.length) (hc : c = zs[p + k]?.getD 0) (h1 : 128 ≤ c) (h2 : c ≤ 255) : At zs p (k + 1) (n + (c - 128) * wt k) := by
  obtain ⟨a, b, e⟩ := h
  have hw := wt_bd k hk
  have hs := wt_succ k hk
  have m0 : 0 ≤ (c - 128) * wt k := Int.mul_nonneg (by omega) (by omega)
  have m1 : (c - 128) * wt k ≤ 127 * wt k := Int.mul_le_mul_of_nonneg_right (by omega) (by omega)
  refine ⟨by omega, by omega, ?_⟩
  rw [e, drop_cons _ _ hp, ← hc, show 5 - k = (5 - (k + 1)) + 1 by omega, getLoop_more h1, hs]
  rfl
theorem At.out {zs : List Int} {p k : Nat} {n : Int} (h : At zs p k n) (hk : ¬ (k < 5 ∧ p + k < zs.length)) : getNum zs p = (0, -1) := by
  obtain ⟨a, b, e⟩ := h
  apply getNum_none
  rw [e]
  by_cases h5 : k < 5
  · rw [List.drop_eq_nil_of_le (by omega), getLoop_nil]
  · rw [show 5 - k = 0 by omega]; rfl
theorem At.bad {zs : List Int} {p k : Nat} {n c : Int} (h : At zs p k n) (hk : k < 5) (hp : p + k < zs.length) (hc : c = zs[p + k]?.getD 0) (h1 : c < 128) (h2 : (0 < k ∧ c = 0) ∨ 2147483647 < n + c * wt k) : getNum zs p = (0, -1) := by
  obtain ⟨a, b, e⟩ := h
  apply getNum_none
  rw [e, drop_cons _ _ hp, ← hc, show 5 - k = (5 - (k + 1)) + 1 by omega, getLoop_bad (by omega) h2]
theorem At.fin {zs : List Int} {p k : Nat} {n c : Int} (h : At zs p k n) (hk : k < 5) (hp : p + k < zs.length) (hc : c = zs[p + k]?.getD 0) (h1 : c < 128) (h2 : ¬ ((0 < k ∧ c = 0) ∨ 2147483647 < n + c * wt k)) : getNum zs p = (n + c * wt k, (p : Int) + k + 1) := by
  obtain ⟨a, b, e⟩ := h
  rw [getNum_some (n := n + c * wt k) (c := k + 1)]
  · simp; omega
  · rw [e, drop_cons _ _ hp, ← hc, show 5 - k = (5 - (k + 1)) + 1 by omega, getLoop_end (by omega) h2]
theorem mul_bd {c s m : Int} (h0 : 0 ≤ c) (h1 : c ≤ m) (h2 : 1 ≤ s) (h3 : s ≤ 268435456) (hm : m ≤ 255) : 0 ≤ c * s ∧ c * s ≤ 68451041280 := by
  have m0 : 0 ≤ c * s := Int.mul_nonneg (by omega) (by omega)
  have m1 : c * s ≤ 255 * s := Int.mul_le_mul_of_nonneg_right (by omega) (by omega)
  omega

/-- The loops' relation: the sum, the weight, the count. -/
def GRel (zs : List Int) (L p : Nat) (q s i : Value) : Prop :=
  ∃ (k : Nat) (n sc : Int), k ≤ 5 ∧ p + k ≤ L ∧ i = .int .i64 k ∧ q = .int .i64 n ∧ s = .int .i64 sc ∧ Hid (sc = wt k) ∧ Hid (At zs p k n)
theorem GRel.next {zs : List Int} {L p k : Nat} {n sc c : Int} (HL : Hid (zs.length = L)) (HS : Hid (sc = wt k)) (HA : Hid (At zs p k n)) (h5 : k < 5) (hpl : p + k < L) (HC : Hid (c = zs[p + k]?.getD 0)) (hge : 128 ≤ c) (h255 : c ≤ 255) :
    GRel zs L p (.int .i64 (n + (c - 128) * sc)) (.int .i64 (sc * 128)) (.int .i64 ((k : Int) + 1)) :=
  ⟨k + 1, _, _, by omega, by omega, by go_num, rfl, rfl, by show _ = _; rw [HS.out, wt_succ k h5], by have := HA.out.more h5 (by rw [HL.out]; exact hpl) HC.out hge h255; rw [← HS.out] at this; exact this⟩

theorem ret_two {a b c d : Int} (h1 : a = c) (h2 : b = d) : Ending.returned (.tuple #[.int .i64 a, .int .i64 b]) = .returned (.tuple #[.int .i64 c, .int .i64 d]) := by rw [h1, h2]

set_option maxHeartbeats 1000000 in
theorem implGet_in (b off : Nat) (zs : List Int) (cap p : Nat) (w : World) (hb : isBytes zs) (hcell : ∀ i, i < zs.length → w.cell? ⟨b, off + i, none⟩ = some (.int .u8 (zs[i]?.getD 0))) (hl : zs.length ≤ 2097152) (hcap : zs.length ≤ cap) (hcm : cap ≤ maxLen) (hp : p < zs.length) :
    Calls Try.prog 116 #[.slice (some ⟨b, off, none⟩) zs.length cap, .int .i64 p] w fun e w' => e = .returned (.tuple #[.int .i64 (getNum zs p).1, .int .i64 (getNum zs p).2]) ∧ w' = w := by
  unfold maxLen at hcm
  obtain ⟨L, hL⟩ : ∃ L, zs.length = L := ⟨_, rfl⟩
  have HL : Hid (zs.length = L) := hL
  rw [hL] at hl hcap hp ⊢
  clear hL
  have HC : Hid (∀ i, i < zs.length → w.cell? ⟨b, off + i, none⟩ = some (.int .u8 (zs[i]?.getD 0))) := hcell
  clear hcell
  go_enter Try.func116, Try.ntmps116
  go_wp2
  go_loop [7, 8, 9] (fun q s i => GRel zs L p q s i) (fun _ _ i => 5 - (intOf i).toNat)
  case atStart => exact ⟨0, 0, 1, by omega, by omega, rfl, rfl, rfl, rfl, At.start _ _⟩
  case round =>
    obtain ⟨k, n, sc, hk, hpk, rfl, rfl, rfl, HS, HA⟩ := hrel
    by_cases hlt : k < 5 ∧ p + k < L
    · obtain ⟨h5, hpl⟩ := hlt
      have hpl' : p + k < zs.length := by rw [HL.out]; exact hpl
      have hc := HC.out (p + k) hpl'
      have hbd := hb (p + k)
      obtain ⟨c, HCc⟩ : ∃ c, Hid (c = zs[p + k]?.getD 0) := ⟨_, rfl⟩
      rw [← HCc.out] at hc hbd
      have hc' : w.cell? ⟨b, off + p + k, none⟩ = some (.int .u8 c) := by rw [Nat.add_assoc]; exact hc
      have hwb := wt_bd k h5
      rw [← HS.out] at hwb
      have hn0 := HA.out.1
      have hn1 := HA.out.2.1
      rw [← HS.out] at hn1
      obtain ⟨hs1, hs2⟩ := hwb
      obtain ⟨hc0, hc255⟩ := hbd
      have HZ : Hid _ := hpl'
      clear hc hpl' hb
      by_cases hge : 128 ≤ c
      · obtain ⟨hm0, hm1⟩ := mul_bd (c := c - 128) (s := sc) (m := 127) (by omega) (by omega) hs1 hs2 (by omega)
        have HR : Hid _ := GRel.next HL HS HA h5 hpl HCc hge hc255
        go_wp2
        refine ⟨?_, by simp [intOf]; omega⟩
        first | exact HR.out | exact ⟨_, _, _, _, _, HR.out, rfl, rfl, rfl, rfl, rfl⟩
      · obtain ⟨hm0, hm1⟩ := mul_bd (c := c) (s := sc) (m := 127) (by omega) (by omega) hs1 hs2 (by omega)
        by_cases hbad : (0 < k ∧ c = 0) ∨ 2147483647 < n + c * sc
        · have HB : Hid (getNum zs p = (0, -1)) := HA.out.bad h5 HZ.out HCc.out (by omega) (by rw [← HS.out]; exact hbad)
          go_wp2
          all_goals go_ret2
          all_goals exact ⟨by rw [HB.out]; rfl, rfl⟩
        · have HB : Hid (getNum zs p = (n + c * sc, (p : Int) + k + 1)) := by
            have := HA.out.fin h5 HZ.out HCc.out (by omega) (by rw [← HS.out]; exact hbad)
            rw [← HS.out] at this; exact this
          have hle : n + c * sc ≤ 2147483647 := by omega
          by_cases hk0 : 0 < k
          · have hcz : (c == 0) = false := beq_eq_false_iff_ne.2 (fun h => hbad (.inl ⟨hk0, h⟩))
            clear hbad
            go_wp2
            go_ret2
            exact ⟨by rw [HB.out]; rfl, rfl⟩
          · clear hbad
            go_wp2
            go_ret2
            exact ⟨by rw [HB.out]; rfl, rfl⟩
    · have HB : Hid (getNum zs p = (0, -1)) := HA.out.out (by rw [HL.out]; exact hlt)
      by_cases h5 : k < 5
      · have : L - p ≤ k := by omega
        go_wp2
        go_ret2
        exact ⟨by rw [HB.out]; rfl, rfl⟩
      · go_wp2
        go_ret2
        exact ⟨by rw [HB.out]; rfl, rfl⟩

set_option maxHeartbeats 400000 in
theorem implGet_out (a : Option Addr) (L cap : Nat) (p : Int) (w : World) (hl : L ≤ 2097152) (hp : p < 0 ∨ (L : Int) ≤ p) :
    Calls Try.prog 116 #[.slice a L cap, .int .i64 p] w fun e w' => e = .returned (.tuple #[.int .i64 0, .int .i64 (-1)]) ∧ w' = w := by
  by_cases h0 : p < 0
  · clear hp
    go_enter Try.func116, Try.ntmps116
    go_wp2
    go_ret2
    exact ⟨rfl, rfl⟩
  · have h1 : (L : Int) ≤ p := by omega
    clear hp
    go_enter Try.func116, Try.ntmps116
    go_wp2
    go_ret2
    exact ⟨rfl, rfl⟩

theorem getNum_out (zs : List Int) (p : Int) (hp : p < 0 ∨ (zs.length : Int) ≤ p) : getNum zs p = (0, -1) := by
  unfold getNum
  by_cases h0 : p < 0
  · rw [if_pos h0]
  · rw [if_neg h0, List.drop_eq_nil_of_le (by omega), getLoop_nil]

theorem implGet_any (a : Option Addr) (zs : List Int) (cap : Nat) (p : Int) (w : World) (h : Reads w a zs) (hl : zs.length ≤ 2097152) (hcap : zs.length ≤ cap) (hcm : cap ≤ maxLen) :
    Calls Try.prog 116 #[.slice a zs.length cap, .int .i64 p] w fun e w' => e = .returned (.tuple #[.int .i64 (getNum zs p).1, .int .i64 (getNum zs p).2]) ∧ w' = w := by
  by_cases hp : p < 0 ∨ (zs.length : Int) ≤ p
  · rw [getNum_out zs p hp]; exact implGet_out a zs.length cap p w hl hp
  · obtain ⟨q, rfl⟩ : ∃ q : Nat, p = (q : Int) := ⟨p.toNat, by omega⟩
    obtain ⟨hb, hc⟩ := h
    rcases hc with rfl | ⟨b, off, rfl, hbl, hcell⟩
    · simp at hp
    · exact implGet_in b off zs cap q w hb hcell hl hcap hcm (by omega)

set_option maxHeartbeats 1000000 in
theorem specGet_any (a : Option Addr) (zs : List Int) (cap : Nat) (p : Int) (w : World) (h : Reads w a zs) (hl : zs.length ≤ 2097152) (hpb : p ≤ 9223372036854775807) :
    Calls Try.prog 91 #[.slice a zs.length cap, .int .i64 p] w fun e w' => e = .returned (.tuple #[.int .i64 (getNum zs p).1, .int .i64 (getNum zs p).2]) ∧ w' = w := by
  obtain ⟨hb, hcc⟩ := h
  by_cases h0 : p < 0
  · rw [getNum_out zs p (.inl h0)]
    clear hcc hb
    go_enter Try.func91, Try.ntmps91
    go_wp2
    go_ret2
    exact ⟨rfl, rfl⟩
  obtain ⟨p, rfl⟩ : ∃ q : Nat, p = (q : Int) := ⟨p.toNat, by omega⟩
  obtain ⟨L, hL⟩ : ∃ L, zs.length = L := ⟨_, rfl⟩
  have HL : Hid (zs.length = L) := hL
  rw [hL] at hl ⊢
  clear hL h0
  by_cases hpL : p ≤ L
  · have HC : Hid (zs = [] ∨ ∃ b off, a = some ⟨b, off, none⟩ ∧ b < w.heap.size ∧ ∀ i, i < zs.length → w.cell? ⟨b, off + i, none⟩ = some (.int .u8 (zs[i]?.getD 0))) := hcc
    clear hcc
    go_enter Try.func91, Try.ntmps91
    go_wp2
    go_loop [6, 7, 8] (fun q s i => GRel zs L p q s i) (fun _ _ i => 5 - (intOf i).toNat)
    case atStart => exact ⟨0, 0, 1, by omega, by omega, rfl, rfl, rfl, rfl, At.start _ _⟩
    case round =>
      obtain ⟨k, n, sc, hk, hpk, rfl, rfl, rfl, HS, HA⟩ := hrel
      by_cases hlt : k < 5 ∧ p + k < L
      · obtain ⟨h5, hpl⟩ := hlt
        have hpl' : p + k < zs.length := by rw [HL.out]; exact hpl
        rcases HC.out with rfl | ⟨b, off, rfl, hbl, hcell⟩
        · simp at hpl'
        have hc := hcell (p + k) hpl'
        have hbd := hb (p + k)
        obtain ⟨c, HCc⟩ : ∃ c, Hid (c = zs[p + k]?.getD 0) := ⟨_, rfl⟩
        rw [← HCc.out] at hc hbd
        have hwb := wt_bd k h5
        rw [← HS.out] at hwb
        have hn0 := HA.out.1
        have hn1 := HA.out.2.1
        rw [← HS.out] at hn1
        obtain ⟨hs1, hs2⟩ := hwb
        obtain ⟨hc0, hc255⟩ := hbd
        have HZ : Hid _ := hpl'
        clear hpl' hb hcell
        by_cases hge : 128 ≤ c
        · obtain ⟨hm0, hm1⟩ := mul_bd (c := c % 128) (s := sc) (m := 127) (by omega) (by omega) hs1 hs2 (by omega)
          have hcm : c % 128 = c - 128 := by omega
          have HR := GRel.next HL HS HA h5 hpl HCc hge hc255
          rw [← hcm] at HR
          have HR' : Hid _ := HR
          clear HR hcm
          go_wp2
          refine ⟨?_, by simp [intOf]; omega⟩
          first | exact HR'.out | exact ⟨_, _, _, _, _, HR'.out, rfl, rfl, rfl, rfl, rfl⟩
        · have hcm : c % 128 = c := by omega
          obtain ⟨hm0, hm1⟩ := mul_bd (c := c) (s := sc) (m := 127) (by omega) (by omega) hs1 hs2 (by omega)
          by_cases hbad : (0 < k ∧ c = 0) ∨ 2147483647 < n + c * sc
          · have HB : Hid (getNum zs p = (0, -1)) := HA.out.bad h5 HZ.out HCc.out (by omega) (by rw [← HS.out]; exact hbad)
            rcases hbad with ⟨hk0, rfl⟩ | hgt
            · go_wp2
              all_goals go_ret2
              all_goals exact ⟨by rw [HB.out]; rfl, rfl⟩
            · have hcz' : (c == 0) = false := by
                apply beq_eq_false_iff_ne.2
                rintro rfl
                rw [Int.zero_mul] at hgt
                omega
              go_wp2
              all_goals go_ret2
              all_goals exact ⟨by rw [HB.out]; rfl, rfl⟩
          · have HB : Hid (getNum zs p = (n + c * sc, (p : Int) + k + 1)) := by
              have := HA.out.fin h5 HZ.out HCc.out (by omega) (by rw [← HS.out]; exact hbad)
              rw [← HS.out] at this; exact this
            have hle : n + c * sc ≤ 2147483647 := by omega
            by_cases hcz : c = 0
            · have hk0 : ¬ 0 < k := fun h => hbad (.inl ⟨h, hcz⟩)
              clear hbad
              have hcz' : (c == 0) = true := by simp [hcz]
              have HCZ : Hid _ := hcz
              clear hcz
              go_wp2
              go_ret2
              exact ⟨by rw [HB.out]; first | rfl | simp, rfl⟩
            · have hcz' : (c == 0) = false := beq_eq_false_iff_ne.2 hcz
              clear hbad hcz
              go_wp2
              go_ret2
              exact ⟨by rw [HB.out]; rfl, rfl⟩
      · have HB : Hid (getNum zs p = (0, -1)) := HA.out.out (by rw [HL.out]; exact hlt)
        by_cases h5 : k < 5
        · have : (L : Int) - (p : Int) ≤ k := by omega
          go_wp2
          go_ret2
          exact ⟨by rw [HB.out]; rfl, rfl⟩
        · go_wp2
          go_ret2
          exact ⟨by rw [HB.out]; rfl, rfl⟩
  · rw [getNum_out zs p (.inr (by rw [HL.out]; omega))]
    clear hcc hb
    have : (L : Int) - (p : Int) ≤ 0 := by omega
    go_enter Try.func91, Try.ntmps91
    go_wp2
    refine wp_loop_rounds 1 ?_
    rw [rounds_succ]
    go_wp2
    go_ret2
    exact ⟨rfl, rfl⟩
end Go.Proofs.Ytmjfnmlfamikgaa
end

section
/- What the program's joined and numBytes answer, as plain functions on lists of bytes. Conditions: at most 2^20 bytes come in (what they are called with here). -/
namespace Go.Proofs.Ytmjfnmlfamikgaa
open Go.RowKit
set_option linter.unusedVariables false
set_option maxRecDepth 100000

set_option maxHeartbeats 1000000 in
theorem joined_any (a b : Option Addr) (xs ys : List Int) (ca cb : Nat) (w : World) (hx : Reads w a xs) (hy : Reads w b ys) (hl : xs.length ≤ 2097152) (hm : ys.length ≤ 2097152) :
    Calls Try.prog 88 #[.slice a xs.length ca, .slice b ys.length cb] w fun e w' => e = .returned (.slice (some ⟨w.heap.size, 0, none⟩) (xs ++ ys).length (xs ++ ys).length) ∧
      Owns w' w.heap.size (.slice (some ⟨w.heap.size, 0, none⟩) (xs ++ ys).length (xs ++ ys).length) (xs ++ ys) ∧ Below w.heap.size w w' ∧ w.heap.size < w'.heap.size := by
  obtain ⟨i0, hi, hz0, hz1, hz2⟩ := info_parts Try.infoB
  obtain ⟨m, hm'⟩ : ∃ m, xs.length = m := ⟨_, rfl⟩
  obtain ⟨n, hn'⟩ : ∃ n, ys.length = n := ⟨_, rfl⟩
  have HM : Hid (xs.length = m) := hm'
  have HN : Hid (ys.length = n) := hn'
  rw [List.length_append, hm', hn']
  rw [hm'] at hl
  rw [hn'] at hm
  obtain ⟨X, HX⟩ : ∃ X, Hid (X = bcells xs) := ⟨_, rfl⟩
  obtain ⟨Y, HY⟩ : ∃ Y, Hid (Y = bcells ys) := ⟨_, rfl⟩
  have hXl : X.length = m := by rw [HX.out, bcells_length]; exact hm'
  have hYl : Y.length = n := by rw [HY.out, bcells_length]; exact hn'
  obtain ⟨Z, HZ⟩ : ∃ Z, Hid (Z = bcells (List.replicate (m + n) 0)) := ⟨_, rfl⟩
  have hZl : Z.length = m + n := by rw [HZ.out]; simp
  have hsl : (splice Z 0 X).length = m + n := by rw [length_splice _ _ _ (by omega), hZl]
  have HFIN : Hid (splice (splice Z 0 X) m Y = bcells (xs ++ ys)) := by
    show _ = _
    rw [splice_two Z X Y m hXl (by omega), HX.out, HY.out]; simp [bcells]
  have HX1 : Hid (∀ v ∈ X, v.oneCell' = true) := by show ∀ v ∈ X, v.oneCell' = true; rw [HX.out]; exact bcells_one xs
  have HY1 : Hid (∀ v ∈ Y, v.oneCell' = true) := by show ∀ v ∈ Y, v.oneCell' = true; rw [HY.out]; exact bcells_one ys
  have hXm : X.length = Nat.min m (m + n) := by rw [hXl]; exact (Nat.min_eq_left (by omega)).symm
  have hYm : Y.length = Nat.min n n := by rw [hYl]; exact (Nat.min_self n).symm
  clear hm' hn'
  go_enter Try.func88, Try.ntmps88
  go_wp2_with (first
    | (at_make; refine wpList_make_full _ rfl _ _ 24 rfl w.heap.size 5 i0 (.int .u8 0) 1 Try.underlying24 hi hz0 hz1 .i64 .i64 _ _ (m + n) rfl rfl (by omega) (by omega) (by rw [hz2]; omega) (by unfold maxLen; omega) (Nat.le_refl _) ?_; intro w1 hown hgrow; have hb1 : Below w.heap.size w w1 := (Below.refl _ _).grown hgrow (Nat.le_refl _) (fun k h => by cases h); have hs1 : w.heap.size < w1.heap.size := (hown.lt _ rfl).2; rw [madeCells_bytes, ← HZ.out] at hown; have HG1 : Hid _ := full_heap hown; clear hown hgrow)
    | (refine wpList_copy_splice rfl (.tmp 12) (.tmp 13) 24 24 rfl 5 Try.underlying24 Try.sizeB _ _ _ _ _ _ rfl rfl w.heap.size 0 Z 5 HG1.out X hXm (fun h0 => ⟨rfl, by rw [HX.out] at h0 ⊢; exact (hx.below hb1).src h0⟩) (by omega) HX1.out w.heap.size w hb1 (Nat.le_refl _) ?_; intro w2 HG2 hb2)
    | (refine wpList_copy_splice rfl (.tmp 18) (.tmp 19) 24 24 rfl 5 Try.underlying24 Try.sizeB _ _ _ _ _ _ rfl rfl w.heap.size m (splice Z 0 X) 5 HG2.out Y (by rw [hYl]; simp <;> omega) (fun h0 => ⟨by simp <;> omega, by rw [HY.out] at h0 ⊢; exact (hy.below hb2).src h0⟩) (by omega) HY1.out w.heap.size w hb2 (Nat.le_refl _) ?_; intro w3 HG3 hb3))
  all_goals
    go_ret
    have hg3 := HG3.out
    rw [HFIN.out] at hg3
    exact ⟨rfl, full_owns (by have := HM.out; have := HN.out; rw [List.length_append]; omega) (Nat.le_refl _) (by rw [List.length_append, HM.out, HN.out]; omega) hg3, hb3, lt_of_block hg3⟩

/-- The bytes of a number below 128^(f+1). -/
def numB : Nat → Int → List Int
  | 0, n => [n]
  | f + 1, n => if n < 128 then [n] else (n % 128 + 128) :: numB f (n / 128)

def putB (n : Int) : List Int := if n < 0 ∨ 2147483647 < n then [] else numB 4 n

theorem numB_small (f : Nat) (n : Int) (h : n < 128) : numB f n = [n] := by cases f <;> simp [numB, h]

theorem numB_more (f : Nat) (n : Int) (h : ¬ n < 128) : numB (f + 1) n = (n % 128 + 128) :: numB f (n / 128) := by rw [numB, if_neg h]

theorem numB_len (f : Nat) (n : Int) : 1 ≤ (numB f n).length ∧ (numB f n).length ≤ f + 1 := by
  induction f generalizing n with
  | zero => simp [numB]
  | succ f ih =>
    have := ih (n / 128)
    by_cases h : n < 128
    · rw [numB_small _ _ h]; simp
    · rw [numB_more _ _ h]; simp only [List.length_cons]; omega

theorem numB_bytes (f : Nat) (n : Int) (h0 : 0 ≤ n) (h : n < wt (f + 1)) (hf : f ≤ 4) : isBytes (numB f n) := by
  induction f generalizing n with
  | zero => exact isBytes_cons h0 (by have h2 : n < 128 := h; omega) isBytes_nil
  | succ f ih =>
    by_cases h1 : n < 128
    · rw [numB_small _ _ h1]; exact isBytes_cons h0 (by omega) isBytes_nil
    · rw [numB_more _ _ h1]
      have := wt_succ (f + 1) (by omega)
      exact isBytes_cons (by omega) (by omega) (ih (n / 128) (by omega) (by omega) (by omega))

theorem putB_bytes (n : Int) : isBytes (putB n) := by
  unfold putB
  split
  · exact isBytes_nil
  · exact numB_bytes 4 n (by omega) (by show n < 34359738368; omega) (by omega)

theorem putB_len (n : Int) : (putB n).length ≤ 5 := by
  unfold putB
  split
  · simp
  · exact (numB_len 4 n).2

set_option maxHeartbeats 1000000 in
theorem numBytes_any (n : Int) (w : World) (h0 : 0 ≤ n) (h1 : n ≤ 2147483647) :
    Calls Try.prog 89 #[.int .i64 n] w fun e w' => ∃ (d0 d1 d2 d3 d4 : Int) (c : Nat), e = .returned (.tuple #[.agg #[.int .u8 d0, .int .u8 d1, .int .u8 d2, .int .u8 d3, .int .u8 d4], .int .i64 c]) ∧ 1 ≤ c ∧ c ≤ 5 ∧ [d0, d1, d2, d3, d4].take c = numB 4 n ∧ Below w.heap.size w w' := by
  by_cases s1 : n < 128
  · have HN : Hid (numB 4 n = [n]) := numB_small 4 n s1
    go_enter Try.func89, Try.ntmps89
    go_wp2
    refine wp_loop_rounds 1 ?_
    rw [rounds_succ]
    go_wp2
    exact bodyPost_ret (v := .tuple #[.agg #[.int .u8 n, .int .u8 0, .int .u8 0, .int .u8 0, .int .u8 0], .int .i64 1]) (by simp [results, Try.results89, go_sem]) rfl ⟨n, 0, 0, 0, 0, 1, rfl, by omega, by omega, by rw [HN.out]; rfl, ((Below.refl _ _).alloc (Nat.le_refl _) _).alloc (by simp) _⟩
  by_cases s2 : n / 128 < 128
  · have HN : Hid (numB 4 n = [n % 128 + 128, n / 128]) := by
      show _ = _
      rw [numB_more _ _ s1, numB_small _ _ s2]
    go_enter Try.func89, Try.ntmps89
    go_wp2
    refine wp_loop_rounds 2 ?_
    rw [rounds_succ]
    go_wp2
    rw [rounds_succ]
    go_wp2
    exact bodyPost_ret (v := .tuple #[.agg #[.int .u8 (n % 128 + 128), .int .u8 (n / 128), .int .u8 (0), .int .u8 (0), .int .u8 (0)], .int .i64 2]) (by simp [results, Try.results89, go_sem]) rfl ⟨n % 128 + 128, n / 128, 0, 0, 0, 2, rfl, by omega, by omega, by rw [HN.out]; rfl, ((Below.refl _ _).alloc (Nat.le_refl _) _).alloc (by simp) _⟩
  by_cases s3 : n / 128 / 128 < 128
  · have HN : Hid (numB 4 n = [n % 128 + 128, n / 128 % 128 + 128, n / 128 / 128]) := by
      show _ = _
      rw [numB_more _ _ s1, numB_more _ _ s2, numB_small _ _ s3]
    go_enter Try.func89, Try.ntmps89
    go_wp2
    refine wp_loop_rounds 3 ?_
    rw [rounds_succ]
    go_wp2
    rw [rounds_succ]
    go_wp2
    rw [rounds_succ]
    go_wp2
    exact bodyPost_ret (v := .tuple #[.agg #[.int .u8 (n % 128 + 128), .int .u8 (n / 128 % 128 + 128), .int .u8 (n / 128 / 128), .int .u8 (0), .int .u8 (0)], .int .i64 3]) (by simp [results, Try.results89, go_sem]) rfl ⟨n % 128 + 128, n / 128 % 128 + 128, n / 128 / 128, 0, 0, 3, rfl, by omega, by omega, by rw [HN.out]; rfl, ((Below.refl _ _).alloc (Nat.le_refl _) _).alloc (by simp) _⟩
  by_cases s4 : n / 128 / 128 / 128 < 128
  · have HN : Hid (numB 4 n = [n % 128 + 128, n / 128 % 128 + 128, n / 128 / 128 % 128 + 128, n / 128 / 128 / 128]) := by
      show _ = _
      rw [numB_more _ _ s1, numB_more _ _ s2, numB_more _ _ s3, numB_small _ _ s4]
    go_enter Try.func89, Try.ntmps89
    go_wp2
    refine wp_loop_rounds 4 ?_
    rw [rounds_succ]
    go_wp2
    rw [rounds_succ]
    go_wp2
    rw [rounds_succ]
    go_wp2
    rw [rounds_succ]
    go_wp2
    exact bodyPost_ret (v := .tuple #[.agg #[.int .u8 (n % 128 + 128), .int .u8 (n / 128 % 128 + 128), .int .u8 (n / 128 / 128 % 128 + 128), .int .u8 (n / 128 / 128 / 128), .int .u8 (0)], .int .i64 4]) (by simp [results, Try.results89, go_sem]) rfl ⟨n % 128 + 128, n / 128 % 128 + 128, n / 128 / 128 % 128 + 128, n / 128 / 128 / 128, 0, 4, rfl, by omega, by omega, by rw [HN.out]; rfl, ((Below.refl _ _).alloc (Nat.le_refl _) _).alloc (by simp) _⟩
  · have s5 : n / 128 / 128 / 128 / 128 < 128 := by omega
    have HN : Hid (numB 4 n = [n % 128 + 128, n / 128 % 128 + 128, n / 128 / 128 % 128 + 128, n / 128 / 128 / 128 % 128 + 128, n / 128 / 128 / 128 / 128]) := by
      show _ = _
      rw [numB_more _ _ s1, numB_more _ _ s2, numB_more _ _ s3, numB_more _ _ s4, numB_small _ _ s5]
    go_enter Try.func89, Try.ntmps89
    go_wp2
    refine wp_loop_rounds 5 ?_
    rw [rounds_succ]
    go_wp2
    rw [rounds_succ]
    go_wp2
    rw [rounds_succ]
    go_wp2
    rw [rounds_succ]
    go_wp2
    rw [rounds_succ]
    go_wp2
    exact bodyPost_ret (v := .tuple #[.agg #[.int .u8 (n % 128 + 128), .int .u8 (n / 128 % 128 + 128), .int .u8 (n / 128 / 128 % 128 + 128), .int .u8 (n / 128 / 128 / 128 % 128 + 128), .int .u8 (n / 128 / 128 / 128 / 128)], .int .i64 5]) (by simp [results, Try.results89, go_sem]) rfl ⟨n % 128 + 128, n / 128 % 128 + 128, n / 128 / 128 % 128 + 128, n / 128 / 128 / 128 % 128 + 128, n / 128 / 128 / 128 / 128, 5, rfl, by omega, by omega, by rw [HN.out]; rfl, ((Below.refl _ _).alloc (Nat.le_refl _) _).alloc (by simp) _⟩
end Go.Proofs.Ytmjfnmlfamikgaa
end

section
/- The program's PutNum and the specification's PutNum answer the bytes that came in and the number's bytes behind them, in memory of their own. Conditions: at most 2^20 + 100 bytes come in. -/
namespace Go.Proofs.Ytmjfnmlfamikgaa
open Go.RowKit
set_option linter.unusedVariables false
set_option maxRecDepth 100000

theorem slice5 (b c : Nat) (W : World) (h : c ≤ 5) : (Instr.sliceAt 118 (.pointer (some ⟨b, 0, none⟩)) none (some (.int .i64 (c : Int))) none).run Try.prog W = .ok (.slice (some ⟨b, 0, none⟩) c 5) W := by
  have hal : Try.prog.arrayLen 118 = 5 := by simp [Program.arrayLen, Try.underlying118]
  rw [run_sliceAt_array_h W 118 ⟨b, 0, none⟩ (by simp [Program.arrayLen, Program.elem, Try.underlying118]) .i64 (c : Int) (by omega) (by rw [hal]; omega)]
  go_simp

theorem take5 {d0 d1 d2 d3 d4 : Int} {c : Nat} {ys : List Int} (hc : c ≤ 5) (h : [d0, d1, d2, d3, d4].take c = ys) : ys.length = c ∧ ∀ i, i < c → ys[i]?.getD 0 = [d0, d1, d2, d3, d4][i]?.getD 0 := by
  subst h
  refine ⟨by simp; omega, fun i hi => ?_⟩
  rw [List.getElem?_take, if_pos hi]

theorem reads_array (w : World) (d0 d1 d2 d3 d4 : Int) (c : Nat) (t : TypeId) (ys : List Int) (hb : isBytes ys) (hc : c ≤ 5) (h : [d0, d1, d2, d3, d4].take c = ys) :
    Reads (w.alloc (.cells #[.int .u8 d0, .int .u8 d1, .int .u8 d2, .int .u8 d3, .int .u8 d4] t)) (some ⟨w.heap.size, 0, none⟩) ys := by
  obtain ⟨hl, hi⟩ := take5 hc h
  refine ⟨hb, .inr ⟨w.heap.size, 0, rfl, by simp, fun i hlt => ?_⟩⟩
  rw [World.cell?_alloc_at _ _ _ _ rfl, hi i (by omega), Nat.zero_add]
  have h5 : i < 5 := by omega
  rcases (show i = 0 ∨ i = 1 ∨ i = 2 ∨ i = 3 ∨ i = 4 from by omega) with rfl | rfl | rfl | rfl | rfl <;> rfl

theorem joined_v (a b : Option Addr) (xs ys : List Int) (m n ca cb : Nat) (w : World) (hx : Reads w a xs) (hy : Reads w b ys) (hm : m = xs.length) (hn : n = ys.length) (hl : xs.length ≤ 2097152) (hl' : ys.length ≤ 2097152) :
    Calls Try.prog 88 #[.slice a m ca, .slice b n cb] w fun e w' => ∃ v, e = .returned v ∧ Owns w' w.heap.size v (xs ++ ys) ∧ Below w.heap.size w w' := by
  subst hm; subst hn
  exact (joined_any a b xs ys ca cb w hx hy hl hl').mono fun e w' ⟨he, ho, hb, _⟩ => ⟨_, he, ho, hb⟩

set_option maxHeartbeats 1000000 in
theorem implPut_any (a : Option Addr) (xs : List Int) (len cap : Nat) (n : Int) (w : World) (hx : Reads w a xs) (hlen : len = xs.length) (hl : xs.length ≤ 2097152) :
    Calls Try.prog 48 #[.slice a len cap, .int .i64 n] w fun e w' => ∃ v, e = .returned v ∧ Owns w' w.heap.size v (xs ++ putB n) ∧ Below w.heap.size w w' := by
  by_cases hn : n < 0 ∨ 2147483647 < n
  · have hp : putB n = [] := by unfold putB; rw [if_pos hn]
    rw [hp]
    clear hp
    have HE : Hid _ := hlen
    clear hlen
    rcases hn with hn | hn
    all_goals
      go_enter Try.func48, Try.ntmps48
      go_wp2_with fail
      refine (joined_v a none xs [] _ _ _ _ w hx (reads_none _ _) HE.out rfl hl (by simp)).mono ?_
      rintro e w1 ⟨v, rfl, ho, hb⟩
      go_wp2
      go_ret
      exact ⟨v, rfl, ho, hb⟩
  · have h0 : 0 ≤ n := by omega
    have h1 : n ≤ 2147483647 := by omega
    have hp : putB n = numB 4 n := by unfold putB; rw [if_neg hn]
    have hbB := putB_bytes n
    rw [hp] at hbB ⊢
    have HE : Hid _ := hlen
    clear hp hn hlen
    go_enter Try.func48, Try.ntmps48
    go_wp2_with fail
    refine (numBytes_any n w h0 h1).mono ?_
    rintro e w1 ⟨d0, d1, d2, d3, d4, c, rfl, hc1, hc5, htake, hb1⟩
    have hlen := (take5 hc5 htake).1
    have hrY := reads_array w1 d0 d1 d2 d3 d4 _ 118 _ hbB hc5 htake
    have hb2 : Below w1.heap.size w1 (w1.alloc (.cells #[.int .u8 d0, .int .u8 d1, .int .u8 d2, .int .u8 d3, .int .u8 d4] 118)) := (Below.refl _ _).alloc (Nat.le_refl _) _
    have hsl := fun W => slice5 w1.heap.size c W hc5
    have HB2 : Hid _ := hb2
    have HRY : Hid _ := hrY
    have HC : Hid _ := hlen
    clear htake hb2 hrY hlen
    go_wp2_with fail
    refine (joined_v a (some ⟨w1.heap.size, 0, none⟩) xs (numB 4 n) _ _ _ _ _ ((hx.below hb1).below HB2.out) HRY.out HE.out HC.out.symm hl (by rw [HC.out]; omega)).mono ?_
    rintro e w3 ⟨v, rfl, ho, hb3⟩
    have hs1 := hb1.size
    have HF : Hid (Owns w3 w.heap.size v (xs ++ numB 4 n) ∧ Below w.heap.size w w3) := ⟨ho.base (by simp; omega), (hb1.trans (HB2.out.mono hs1)).trans (hb3.mono (by simp; omega))⟩
    clear ho hb3 HB2 HRY hsl
    go_wp2
    go_ret
    exact ⟨v, rfl, HF.out.1, HF.out.2⟩

/-- What holds at the head of each round of the specification's loop. -/
def SRel (xs : List Int) (n : Int) (w : World) (o q : Value) (wr : World) : Prop :=
  ∃ (f : Nat) (m : Int) (pre : List Int), f ≤ 4 ∧ 0 ≤ m ∧ m < wt (f + 1) ∧ q = .int .i64 m ∧ pre.length + f = 4 ∧ numB 4 n = pre ++ numB f m ∧ Owns wr w.heap.size o (xs ++ pre) ∧ Below w.heap.size w wr

set_option maxHeartbeats 1000000 in
theorem specPut_any (a : Option Addr) (xs : List Int) (len cap : Nat) (n : Int) (w : World) (hx : Reads w a xs) (hlen : len = xs.length) (hl : xs.length ≤ 2097152) (hnil : a = none → len = 0 ∧ cap = 0) :
    Calls Try.prog 79 #[.slice a len cap, .int .i64 n] w fun e w' => ∃ v, e = .returned v ∧ Owns w' w.heap.size v (xs ++ putB n) ∧ Below w.heap.size w w' := by
  have HE : Hid _ := hlen
  have HX : Hid (Reads (w.alloc (.cells #[] 5)) a xs) := hx.below ((Below.refl _ _).alloc (Nat.le_refl _) _)
  have HNIL : Hid _ := hnil
  have HL : Hid _ := hl
  have HB1 : Hid (Below w.heap.size w (w.alloc (.cells #[] 5))) := (Below.refl _ _).alloc (Nat.le_refl _) _
  clear hlen hx hnil hl
  by_cases hn : n < 0 ∨ 2147483647 < n
  · have hp : putB n = [] := by unfold putB; rw [if_pos hn]
    rw [hp, List.append_nil]
    clear hp
    rcases hn with hn | hn
    all_goals
      go_enter Try.func79, Try.ntmps79
      go_wp2_with (at_builtin; go_must (refine wpList_app _ rfl (.tmp 6) (.tmp 7) rfl w.heap.size _ [] xs rfl (owns_empty w) a len cap rfl HE.out HX.out (by simp) (by have := HL.out; omega) (by simp) HNIL.out ?_; intro v w1 ho hg))
      go_ret
      exact ⟨v, rfl, by simpa using ho, HB1.out.grown hg (by simp) (fun k hk => ((owns_empty w).lt k hk).1)⟩
  · have h0 : 0 ≤ n := by omega
    have h1 : n ≤ 2147483647 := by omega
    have hp : putB n = numB 4 n := by unfold putB; rw [if_neg hn]
    rw [hp]
    clear hp hn
    go_enter Try.func79, Try.ntmps79
    go_wp2_with (at_builtin; go_must (refine wpList_app _ rfl (.tmp 6) (.tmp 7) rfl w.heap.size _ [] xs rfl (owns_empty w) a len cap rfl HE.out HX.out (by simp) (by have := HL.out; omega) (by simp) HNIL.out ?_; intro v w1 ho hg))
    go_loopw [5, 1] (fun o q wr => SRel xs n w o q wr) (fun _ q _ => (intOf q).toNat)
    case atStart => exact ⟨4, n, [], by omega, h0, by show n < 34359738368; omega, rfl, rfl, rfl, by simpa using ho, HB1.out.grown hg (by simp) (fun k hk => ((owns_empty w).lt k hk).1)⟩
    case round =>
      clear ho hg
      obtain ⟨f, m, pre, hf, hm0, hm1, rfl, hpf, hpre, hown, hbel⟩ := hrel
      have hsz := hbel.size
      have HO : Hid _ := hown
      have HP : Hid _ := hpre
      have HBE : Hid _ := hbel
      have HM1 : Hid _ := hm1
      have hmt : m ≤ 34359738368 := by
        have : wt (f + 1) ≤ 34359738368 := by
          rcases (show f = 0 ∨ f = 1 ∨ f = 2 ∨ f = 3 ∨ f = 4 from by omega) with rfl | rfl | rfl | rfl | rfl <;> decide
        omega
      clear hown hpre hbel hm1
      by_cases hge : 127 < m
      · go_wp2_with (at_builtin; go_must (refine wpList_app _ rfl (.tmp 18) (.tmp 23) rfl w.heap.size _ (xs ++ pre) [m % 128 + 128] rfl (HO.out.alloc _) _ 1 1 rfl rfl (one_new _ (m % 128 + 128) (by omega) (by omega)) (by have := HL.out; simp; omega) (by simp) (by simp; omega) (fun h => by cases h) ?_; intro v2 w2 ho2 hg2))
        have HR : SRel xs n w v2 (.int .i64 (m / 128)) w2 := by
          have hm1 := HM1.out
          obtain ⟨f, rfl⟩ : ∃ g, f = g + 1 := by
            cases f with
            | zero => exact absurd hm1 (by show ¬ m < 128; omega)
            | succ g => exact ⟨g, rfl⟩
          have hw := wt_succ (f + 1) (by omega)
          refine ⟨f, m / 128, pre ++ [m % 128 + 128], by omega, by omega, by omega, rfl, by simp; omega, ?_, ?_, (HBE.out.alloc hsz _).grown hg2 (by simp; omega) (fun k hk => (HO.out.lt k hk).1)⟩
          · rw [HP.out, numB_more f m (by omega), List.append_assoc]; rfl
          · rw [← List.append_assoc]; exact ho2
        refine ⟨?_, by simp [intOf]; omega⟩
        first | exact HR | exact ⟨_, _, HR, rfl, rfl⟩
      · have hm1 := HM1.out
        go_wp2_with (at_builtin; go_must (refine wpList_app _ rfl (.tmp 27) (.tmp 30) rfl w.heap.size _ (xs ++ pre) [m] rfl (HO.out.alloc _) _ 1 1 rfl rfl (one_new _ m (by omega) (by omega)) (by have := HL.out; simp; omega) (by simp) (by simp; omega) (fun h => by cases h) ?_; intro v2 w2 ho2 hg2))
        go_ret
        refine ⟨v2, rfl, ?_, ?_⟩
        · rw [HP.out, numB_small f m (by omega), ← List.append_assoc]; exact ho2
        · exact (HBE.out.alloc hsz _).grown hg2 (by simp; omega) (fun k hk => (HO.out.lt k hk).1)
end Go.Proofs.Ytmjfnmlfamikgaa
end

section
/- PutNum over byte slices of the call's own; at most 2^20 + 100 bytes come in. -/
namespace Go.Proofs.Ytmjfnmlfamikgaa
open Go.RowKit
set_option linter.unusedVariables false
set_option maxRecDepth 100000

theorem implPut_v (v : Value) (xs : List Int) (base : Nat) (n : Int) (w : World) (hx : Owns w base v xs) (bx : isBytes xs) (hl : xs.length ≤ 2097152) :
    Calls Try.prog 48 #[v, .int .i64 n] w fun e w' => ∃ v, e = .returned v ∧ Owns w' w.heap.size v (xs ++ putB n) ∧ Below w.heap.size w w' := by
  obtain ⟨a, ca, rfl, _, _, ra⟩ := hx.open bx
  exact implPut_any a xs _ ca n w ra rfl hl

theorem specPut_v (v : Value) (xs : List Int) (base : Nat) (n : Int) (w : World) (hx : Owns w base v xs) (bx : isBytes xs) (hl : xs.length ≤ 2097152) :
    Calls Try.prog 79 #[v, .int .i64 n] w fun e w' => ∃ v, e = .returned v ∧ Owns w' w.heap.size v (xs ++ putB n) ∧ Below w.heap.size w w' := by
  rcases hx.2 with ⟨rfl, h0⟩ | ⟨g, c, cur, rfl, _⟩
  · exact specPut_any none xs 0 0 n w (hx.reads bx).2 h0.symm hl (fun _ => ⟨rfl, rfl⟩)
  · exact specPut_any _ xs _ c n w (hx.reads bx).2 rfl hl (fun h => by cases h)
end Go.Proofs.Ytmjfnmlfamikgaa
end

section
/- The program's and the specification's PutText and GetText answer the same plain functions on lists of bytes, in memory of their own. Conditions: at most 2,000,000 bytes come in. -/
namespace Go.Proofs.Ytmjfnmlfamikgaa
open Go.RowKit
set_option linter.unusedVariables false
set_option maxRecDepth 100000

def textB (t : List Int) : List Int := if 40 < t.length then [] else putB t.length ++ t
def getText (zs : List Int) (p : Int) : List Int × Int :=
  if (getNum zs p).2 < 0 ∨ 40 < (getNum zs p).1 ∨ (zs.length : Int) - (getNum zs p).2 < (getNum zs p).1 then ([], -1)
  else ((zs.drop (getNum zs p).2.toNat).take (getNum zs p).1.toNat, (getNum zs p).2 + (getNum zs p).1)

theorem textB_bytes {t : List Int} (h : isBytes t) : isBytes (textB t) := by
  unfold textB
  split
  · exact isBytes_nil
  · exact isBytes_append (putB_bytes _) h
theorem textB_len (t : List Int) : (textB t).length ≤ 45 := by
  unfold textB
  split
  · simp
  · have := putB_len (t.length : Int); rw [List.length_append]; omega
theorem isBytes_drop {zs : List Int} (h : isBytes zs) (k : Nat) : isBytes (zs.drop k) := fun j => by rw [List.getElem?_drop]; exact h _
theorem isBytes_take {zs : List Int} (h : isBytes zs) (k : Nat) : isBytes (zs.take k) := fun j => by
  rw [List.getElem?_take]
  split
  · exact h j
  · simp
theorem getText_bytes {zs : List Int} (h : isBytes zs) (p : Int) : isBytes (getText zs p).1 := by
  unfold getText
  split
  · exact isBytes_nil
  · exact isBytes_take (isBytes_drop h _) _
theorem getText_len (zs : List Int) (p : Int) : (getText zs p).1.length ≤ 40 := by
  unfold getText
  split
  · simp
  · simp only [List.length_take]; omega

theorem getLoop_fits {f : Nat} {r : List Int} {i : Nat} {n sc : Int} {m : Int} {c : Nat} (hr : isBytes r) (hn : 0 ≤ n) (hs : 0 ≤ sc) (h : getLoop f r i n sc = some (m, c)) : 0 ≤ m ∧ m ≤ 2147483647 ∧ i < c ∧ c ≤ i + r.length := by
  induction f generalizing r i n sc with
  | zero => cases h
  | succ f ih =>
    cases r with
    | nil => cases h
    | cons x r =>
      have hx : 0 ≤ x ∧ x ≤ 255 := by simpa using hr 0
      have hr' : isBytes r := fun j => by simpa using hr (j + 1)
      by_cases h1 : 128 ≤ x
      · rw [getLoop_more h1] at h
        have := ih hr' (by have := Int.mul_nonneg (show 0 ≤ x - 128 by omega) hs; omega) (by omega) h
        simp only [List.length_cons]; omega
      · by_cases h2 : (0 < i ∧ x = 0) ∨ 2147483647 < n + x * sc
        · rw [getLoop_bad h1 h2] at h; cases h
        · rw [getLoop_end h1 h2] at h
          simp only [Option.some.injEq, Prod.mk.injEq] at h
          obtain ⟨rfl, rfl⟩ := h
          have := Int.mul_nonneg hx.1 hs
          simp only [List.length_cons]; omega
theorem getNum_fits {zs : List Int} {p n nx : Int} (hz : isBytes zs) (h : getNum zs p = (n, nx)) : (n = 0 ∧ nx = -1) ∨ (0 ≤ n ∧ n ≤ 2147483647 ∧ 0 ≤ p ∧ p < nx ∧ nx ≤ zs.length) := by
  unfold getNum at h
  split at h
  · simp only [Prod.mk.injEq] at h; exact .inl ⟨h.1.symm, h.2.symm⟩
  · split at h
    · simp only [Prod.mk.injEq] at h; exact .inl ⟨h.1.symm, h.2.symm⟩
    · rename_i m c hg
      simp only [Prod.mk.injEq] at h
      obtain ⟨rfl, rfl⟩ := h
      have := getLoop_fits (isBytes_drop hz _) (by omega) (by omega) hg
      rw [List.length_drop] at this
      right; omega

theorem joined_ov (v : Value) (b : Option Addr) (xs ys : List Int) (base n cb : Nat) (w : World) (hx : Owns w base v xs) (bx : isBytes xs) (hy : Reads w b ys) (hn : n = ys.length) (hl : xs.length ≤ 2097152) (hl' : ys.length ≤ 2097152) :
    Calls Try.prog 88 #[v, .slice b n cb] w fun e w' => ∃ v, e = .returned v ∧ Owns w' w.heap.size v (xs ++ ys) ∧ Below w.heap.size w w' := by
  obtain ⟨a, ca, rfl, _, _, ra⟩ := hx.open bx
  exact joined_v a b xs ys _ n ca cb w ra hy rfl hn hl hl'

set_option maxHeartbeats 1000000 in
theorem implPutText_any (a b : Option Addr) (xs ts : List Int) (la ca lb cb : Nat) (w : World) (hx : Reads w a xs) (hy : Reads w b ts) (hla : la = xs.length) (hlb : lb = ts.length) (hl : xs.length ≤ 2000000) (hm : ts.length ≤ 2000000) :
    Calls Try.prog 85 #[.slice a la ca, .slice b lb cb] w fun e w' => ∃ v, e = .returned v ∧ Owns w' w.heap.size v (xs ++ textB ts) ∧ Below w.heap.size w w' := by
  have HLA : Hid _ := hla
  have HLB : Hid _ := hlb
  have hlb' : lb ≤ 2000000 := by omega
  clear hla hlb
  by_cases h40 : 40 < lb
  · have HT : Hid (textB ts = []) := by show _ = _; unfold textB; rw [if_pos (by rw [← HLB.out]; exact h40)]
    go_enter Try.func85, Try.ntmps85
    go_wp2_with fail
    refine (joined_v a none xs [] _ _ _ _ w hx (reads_none _ _) HLA.out rfl (by omega) (by simp)).mono ?_
    rintro e w1 ⟨v, rfl, ho, hb⟩
    go_wp2
    go_ret
    exact ⟨v, rfl, by rw [HT.out]; exact ho, hb⟩
  · have HT : Hid (textB ts = putB (lb : Int) ++ ts) := by show _ = _; unfold textB; rw [if_neg (by rw [← HLB.out]; exact h40), HLB.out]
    go_enter Try.func85, Try.ntmps85
    go_wp2_with fail
    refine (implPut_any a xs _ _ _ _ hx HLA.out (by omega)).mono ?_
    rintro e w1 ⟨v1, rfl, o1, b1⟩
    have hp := putB_len (lb : Int)
    go_wp2_with fail
    refine (joined_ov v1 b (xs ++ putB (lb : Int)) ts _ _ _ _ o1 (isBytes_append hx.1 (putB_bytes _)) (hy.below b1) HLB.out (by rw [List.length_append]; omega) (by omega)).mono ?_
    rintro e w2 ⟨v2, rfl, o2, b2⟩
    go_wp2
    go_ret
    exact ⟨v2, rfl, by rw [HT.out, ← List.append_assoc]; exact o2.base b1.size, b1.trans (b2.mono b1.size)⟩

set_option maxHeartbeats 1000000 in
theorem specPutText_any (a b : Option Addr) (xs ts : List Int) (la ca lb cb : Nat) (w : World) (hx : Reads w a xs) (hy : Reads w b ts) (hla : la = xs.length) (hlb : lb = ts.length) (hl : xs.length ≤ 2000000) (hm : ts.length ≤ 2000000)
    (na : a = none → la = 0 ∧ ca = 0) (nb : b = none → lb = 0 ∧ cb = 0) :
    Calls Try.prog 114 #[.slice a la ca, .slice b lb cb] w fun e w' => ∃ v, e = .returned v ∧ Owns w' w.heap.size v (xs ++ textB ts) ∧ Below w.heap.size w w' := by
  have HLA : Hid _ := hla
  have HLB : Hid _ := hlb
  have NA : Hid _ := na
  have NB : Hid _ := nb
  have hlb' : lb ≤ 2000000 := by omega
  have HX : Hid (Reads (w.alloc (.cells #[] 5)) a xs) := hx.below ((Below.refl _ _).alloc (Nat.le_refl _) _)
  have HB1 : Hid (Below w.heap.size w (w.alloc (.cells #[] 5))) := (Below.refl _ _).alloc (Nat.le_refl _) _
  clear hla hlb na nb
  by_cases h40 : 40 < lb
  · have HT : Hid (textB ts = []) := by show _ = _; unfold textB; rw [if_pos (by rw [← HLB.out]; exact h40)]
    go_enter Try.func114, Try.ntmps114
    go_wp2_with (at_builtin; go_must (refine wpList_app _ rfl (.tmp 8) (.tmp 9) rfl w.heap.size _ [] xs rfl (owns_empty w) a la ca rfl HLA.out HX.out (by simp) (by omega) (by simp) NA.out ?_; intro v w1 ho hg))
    go_ret
    exact ⟨v, rfl, by rw [HT.out]; simpa using ho, HB1.out.grown hg (by simp) (fun k hk => ((owns_empty w).lt k hk).1)⟩
  · have HT : Hid (textB ts = putB (lb : Int) ++ ts) := by show _ = _; unfold textB; rw [if_neg (by rw [← HLB.out]; exact h40), HLB.out]
    clear HX HB1
    go_enter Try.func114, Try.ntmps114
    go_wp2_with fail
    refine (specPut_any a xs _ _ _ _ hx HLA.out (by omega) NA.out).mono ?_
    rintro e w1 ⟨v1, rfl, o1, b1⟩
    have hp := putB_len (lb : Int)
    go_wp2_with (at_builtin; go_must (refine wpList_app _ rfl (.tmp 14) (.tmp 15) rfl w.heap.size v1 (xs ++ putB (lb : Int)) ts rfl o1 b lb cb rfl HLB.out (hy.below b1) (by rw [List.length_append]; omega) (by omega) b1.size NB.out ?_; intro v2 w2 ho hg))
    go_ret
    exact ⟨v2, rfl, by rw [HT.out, ← List.append_assoc]; exact ho, b1.grown hg b1.size (fun k hk => (o1.lt k hk).1)⟩
end Go.Proofs.Ytmjfnmlfamikgaa
end

section
/- The bytes of handles, operations, replies, parts and messages, as data; no condition. -/
namespace Go.Proofs.Ytmjfnmlfamikgaa
open Go.RowKit
set_option linter.unusedVariables false
set_option linter.unusedSimpArgs false
set_option maxRecDepth 100000

def flagB (b : Bool) : List Int := if b then [1] else [0]
def hdB (h : Hd) : List Int := putB h.sh ++ (putB h.ino ++ flagB h.dir)
def opB (o : OpD) : List Int := putB o.kind ++ (hdB o.dir ++ (textB o.nm ++ (hdB o.to ++ (textB o.asn ++ putB o.val))))
def enB (e : En) : List Int := textB e.nm ++ hdB e.h
def ensB (l : List En) : List Int := l.flatMap enB
def rpB (r : RpD) : List Int := putB r.code ++ (hdB r.h ++ (putB r.val ++ (putB r.list.length ++ ensB r.list)))
def txB (t : TxD) : List Int := putB t.1 ++ (putB t.2.1 ++ putB t.2.2)
def ptB (p : PtD) : List Int := putB p.kind ++ (hdB p.h ++ (textB p.asn ++ hdB p.to))
def msRest (m : MsD) : List Int :=
  if m.kind = 0 then putB m.req ++ opB m.op
  else if m.kind = 1 then putB m.req ++ rpB m.rp
  else if m.kind = 2 then txB m.tx ++ ptB m.pt
  else if m.kind = 3 then txB m.tx ++ (ptB m.pt ++ (putB m.code ++ hdB m.h))
  else if m.kind = 5 then txB m.tx ++ putB m.code
  else if m.kind = 6 then txB m.tx ++ (putB m.req ++ hdB m.h)
  else if m.kind = 7 then txB m.tx ++ (putB m.req ++ (putB m.code ++ hdB m.h))
  else txB m.tx
def msB (m : MsD) : List Int := putB m.kind ++ (putB m.fr ++ (putB m.to ++ msRest m))
theorem flagB_bytes (b : Bool) : isBytes (flagB b) := by cases b <;> exact isBytes_cons (by decide) (by decide) isBytes_nil
theorem flagB_len (b : Bool) : (flagB b).length = 1 := by cases b <;> rfl
theorem flagB_put (b : Bool) : putB (if b then 1 else 0) = flagB b := by cases b <;> rfl
theorem hdB_bytes (h : Hd) : isBytes (hdB h) := isBytes_append (putB_bytes _) (isBytes_append (putB_bytes _) (flagB_bytes _))
theorem hdB_len (h : Hd) : (hdB h).length ≤ 11 := by
  have h1 := putB_len h.sh; have h2 := putB_len h.ino; have h3 := flagB_len h.dir
  unfold hdB; rw [List.length_append, List.length_append]; omega
theorem enB_bytes (e : En) (h : isBytes e.nm) : isBytes (enB e) := isBytes_append (textB_bytes h) (hdB_bytes _)
theorem enB_len (e : En) : (enB e).length ≤ 56 := by
  have h1 := textB_len e.nm; have h2 := hdB_len e.h
  unfold enB; rw [List.length_append]; omega
theorem ensB_len (l : List En) : (ensB l).length ≤ 56 * l.length := by
  induction l with
  | nil => simp [ensB]
  | cons e l ih => have := enB_len e; unfold ensB at *; rw [List.flatMap_cons, List.length_append, List.length_cons]; omega
theorem txB_bytes (t : TxD) : isBytes (txB t) := isBytes_append (putB_bytes _) (isBytes_append (putB_bytes _) (putB_bytes _))
theorem txB_len (t : TxD) : (txB t).length ≤ 15 := by
  have h1 := putB_len t.1; have h2 := putB_len t.2.1; have h3 := putB_len t.2.2
  unfold txB; rw [List.length_append, List.length_append]; omega
theorem opB_bytes (o : OpD) (h : isBytes o.nm) (g : isBytes o.asn) : isBytes (opB o) := isBytes_append (putB_bytes _) (isBytes_append (hdB_bytes _) (isBytes_append (textB_bytes h) (isBytes_append (hdB_bytes _) (isBytes_append (textB_bytes g) (putB_bytes _)))))
theorem opB_len (o : OpD) : (opB o).length ≤ 122 := by
  have h1 := putB_len o.kind; have h2 := hdB_len o.dir; have h3 := textB_len o.nm; have h4 := hdB_len o.to; have h5 := textB_len o.asn; have h6 := putB_len o.val
  unfold opB; simp only [List.length_append]; omega
theorem ptB_bytes (p : PtD) (h : isBytes p.asn) : isBytes (ptB p) := isBytes_append (putB_bytes _) (isBytes_append (hdB_bytes _) (isBytes_append (textB_bytes h) (hdB_bytes _)))
theorem ptB_len (p : PtD) : (ptB p).length ≤ 72 := by
  have h1 := putB_len p.kind; have h2 := hdB_len p.h; have h3 := textB_len p.asn; have h4 := hdB_len p.to
  unfold ptB; simp only [List.length_append]; omega
theorem Below.al2 {a b : World} (h : Below a.heap.size a b) (o : Obj) : Below a.heap.size a (b.alloc o) := h.alloc h.size _
/-- A call that hands back bytes of its own. -/
abbrev Ap (f : FuncId) (args : Array Value) (w : World) (zs : List Int) : Prop :=
  Calls Try.prog f args w fun e w' => ∃ v, e = .returned v ∧ isBytes zs ∧ Owns w' w.heap.size v zs ∧ Below w.heap.size w w'
theorem Owns.rdT {w : World} {B : Nat} {v : Value} {zs : List Int} (o : Owns w B v zs) (h : isBytes zs) : RdV w (fun _ => True) v (.bytes zs) := rdS_of_owns h (o.base (Nat.zero_le _)) (fun _ _ => trivial)
theorem specPutR (v : Value) (xs : List Int) (n : Int) (S : Nat → Prop) (w : World) (r : RdV w S v (.bytes xs)) (hl : xs.length ≤ 2000000) : Ap 79 #[v, .int .i64 n] w (xs ++ putB n) := by
  obtain ⟨a, cap, rfl, hh, hr⟩ := r.b.reads
  exact (specPut_any a xs _ cap n w hr rfl (by omega) hh.2.2).mono fun e w' ⟨u, he, ho, hb⟩ => ⟨u, he, isBytes_append hr.1 (putB_bytes n), ho, hb⟩
theorem implPutR (v : Value) (xs : List Int) (n : Int) (S : Nat → Prop) (w : World) (r : RdV w S v (.bytes xs)) (hl : xs.length ≤ 2000000) : Ap 48 #[v, .int .i64 n] w (xs ++ putB n) := by
  obtain ⟨a, cap, rfl, hh, hr⟩ := r.b.reads
  exact (implPut_any a xs _ cap n w hr rfl (by omega)).mono fun e w' ⟨u, he, ho, hb⟩ => ⟨u, he, isBytes_append hr.1 (putB_bytes n), ho, hb⟩
theorem specTextR (v u : Value) (xs ts : List Int) (S S2 : Nat → Prop) (w : World) (r : RdV w S v (.bytes xs)) (r2 : RdV w S2 u (.bytes ts)) (hl : xs.length ≤ 2000000) (hm : ts.length ≤ 2000000) : Ap 114 #[v, u] w (xs ++ textB ts) := by
  obtain ⟨a, cap, rfl, hh, hr⟩ := r.b.reads
  obtain ⟨b, cbp, rfl, gh, gr⟩ := r2.b.reads
  exact (specPutText_any a b xs ts _ cap _ cbp w hr gr rfl rfl hl hm hh.2.2 gh.2.2).mono fun e w' ⟨u, he, ho, hb⟩ => ⟨u, he, isBytes_append hr.1 (textB_bytes gr.1), ho, hb⟩
theorem implTextR (v u : Value) (xs ts : List Int) (S S2 : Nat → Prop) (w : World) (r : RdV w S v (.bytes xs)) (r2 : RdV w S2 u (.bytes ts)) (hl : xs.length ≤ 2000000) (hm : ts.length ≤ 2000000) : Ap 85 #[v, u] w (xs ++ textB ts) := by
  obtain ⟨a, cap, rfl, hh, hr⟩ := r.b.reads
  obtain ⟨b, cbp, rfl, gh, gr⟩ := r2.b.reads
  exact (implPutText_any a b xs ts _ cap _ cbp w hr gr rfl rfl hl hm).mono fun e w' ⟨u, he, ho, hb⟩ => ⟨u, he, isBytes_append hr.1 (textB_bytes gr.1), ho, hb⟩
end Go.Proofs.Ytmjfnmlfamikgaa
end

section
/- The specification writes handles, operations, transactions' numbers and parts. Condition: no more than 2^20 bytes ahead of them. -/
namespace Go.Proofs.Ytmjfnmlfamikgaa
open Go.RowKit
set_option linter.unusedVariables false
set_option linter.unusedSimpArgs false
set_option maxRecDepth 100000

set_option maxHeartbeats 8000000 in
theorem specHandF (v : Value) (xs : List Int) (p q : Int) (S S2 : Nat → Prop) (w : World) (r : RdV w S v (.bytes xs)) (hl : xs.length ≤ 1900000) : Ap 81 #[v, Hd.v (p, q, false)] w (xs ++ hdB (p, q, false)) := by
  have h1 := putB_len p
  have h2 := putB_len q
  have HR : Hid (∀ W, Below w.heap.size w W → _) := r.old
  clear r
  go_enter Try.func81, Try.ntmps81
  go_wp2
  go_region_held3 (fun w' => w'.cell? ⟨w.heap.size, 0, none⟩ = some (.int .i64 p) ∧ w'.cell? ⟨w.heap.size, 1, none⟩ = some (.int .i64 q) ∧ w'.cell? ⟨w.heap.size, 2, none⟩ = some (.bool false)) (first | go_keep | (refine ⟨?_, ?_, ?_⟩ <;> assumption)) (first
    | (go_at_call 79; (with_reducible refine Calls.mono (specPutR v xs p _ _ (HR.out _ (by repeat (first | exact Below.refl _ _ | refine Below.al2 ?_ _ | refine Below.drew ?_ | refine below_drewN2 ?_ _))) (by omega)) ?_); rintro e w2 ⟨v1, rfl, z1, o1, b_⟩; have HB1 : Hid (Below w.heap.size w w2) := Below.trans (by repeat (first | exact Below.refl _ _ | refine Below.al2 ?_ _ | refine Below.drew ?_ | refine below_drewN2 ?_ _)) (b_.mono (by simp [World.drew] <;> omega)); have vA1 : VarA w2 w.heap.size 38 #[.int .i64 p, .int .i64 q, .bool false] := VarA.step (VarA.dr (VarA.new w _ _)) b_; clear b_; obtain ⟨c1_0, c1_1, c1_2⟩ := vA1.l3)
    | (go_at_call 79; (with_reducible refine Calls.mono (specPutR v1 (xs ++ putB p) q _ _ ((Owns.step o1 (by repeat (first | exact Below.refl _ _ | refine Below.al2 ?_ _ | refine Below.drew ?_ | refine below_drewN2 ?_ _))).rdT z1) (by simp only [List.length_append]; omega)) ?_); rintro e w3 ⟨v2, rfl, z2, o2, b_⟩; have HB2 : Hid (Below w.heap.size w w3) := HB1.out.trans (Below.mono (Below.trans (by repeat (first | exact Below.refl _ _ | refine Below.al2 ?_ _ | refine Below.drew ?_ | refine below_drewN2 ?_ _)) b_) HB1.out.size); have vA2 : VarA w3 w.heap.size 38 #[.int .i64 p, .int .i64 q, .bool false] := VarA.step vA1 (Below.trans (by repeat (first | exact Below.refl _ _ | refine Below.al2 ?_ _ | refine Below.drew ?_ | refine below_drewN2 ?_ _)) b_); clear b_; obtain ⟨c2_0, c2_1, c2_2⟩ := vA2.l3))
  all_goals
    have hsz := HB1.out.size
    have hs3 := HB2.out.size
    have HO : Hid (Owns w3 w.heap.size v2 (xs ++ putB p ++ putB q)) := o2.base (b' := w.heap.size) (by omega)
    have HZ : Hid _ := z2
    obtain ⟨a0_, a1_, a2_⟩ := vA2.l3
    clear o1 o2 z1 z2 vA1 vA2
    go_wp2_with (at_builtin; go_must (refine wpList_app _ rfl (.tmp 17) (.tmp 18) rfl w.heap.size v2 (xs ++ putB p ++ putB q) [0] rfl (HO.out.alloc _) _ 1 1 rfl rfl (one_new _ 0 (by omega) (by omega)) (by simp only [List.length_append]; omega) (by simp) (by simp; omega) (fun h => by cases h) ?_; intro v3 w4 ho hg))
    go_ret
    exact ⟨v3, rfl, by simpa [hdB, flagB, List.append_assoc] using isBytes_append HZ.out (flagB_bytes false), by simpa [hdB, flagB, List.append_assoc] using ho, (HB2.out.alloc hs3 _).grown hg (by simp; omega) (fun k hk => (HO.out.lt k hk).1)⟩
set_option maxHeartbeats 8000000 in
theorem specHandD (v : Value) (xs : List Int) (p q : Int) (S S2 : Nat → Prop) (w : World) (r : RdV w S v (.bytes xs)) (hl : xs.length ≤ 1900000) : Ap 81 #[v, Hd.v (p, q, true)] w (xs ++ hdB (p, q, true)) := by
  have h1 := putB_len p
  have h2 := putB_len q
  have HR : Hid (∀ W, Below w.heap.size w W → _) := r.old
  clear r
  go_enter Try.func81, Try.ntmps81
  go_wp2
  go_region_held3 (fun w' => w'.cell? ⟨w.heap.size, 0, none⟩ = some (.int .i64 p) ∧ w'.cell? ⟨w.heap.size, 1, none⟩ = some (.int .i64 q) ∧ w'.cell? ⟨w.heap.size, 2, none⟩ = some (.bool true)) (first | go_keep | (refine ⟨?_, ?_, ?_⟩ <;> assumption)) (first
    | (go_at_call 79; (with_reducible refine Calls.mono (specPutR v xs p _ _ (HR.out _ (by repeat (first | exact Below.refl _ _ | refine Below.al2 ?_ _ | refine Below.drew ?_ | refine below_drewN2 ?_ _))) (by omega)) ?_); rintro e w2 ⟨v1, rfl, z1, o1, b_⟩; have HB1 : Hid (Below w.heap.size w w2) := Below.trans (by repeat (first | exact Below.refl _ _ | refine Below.al2 ?_ _ | refine Below.drew ?_ | refine below_drewN2 ?_ _)) (b_.mono (by simp [World.drew] <;> omega)); have vA1 : VarA w2 w.heap.size 38 #[.int .i64 p, .int .i64 q, .bool true] := VarA.step (VarA.dr (VarA.new w _ _)) b_; clear b_; obtain ⟨c1_0, c1_1, c1_2⟩ := vA1.l3)
    | (go_at_call 79; (with_reducible refine Calls.mono (specPutR v1 (xs ++ putB p) q _ _ ((Owns.step o1 (by repeat (first | exact Below.refl _ _ | refine Below.al2 ?_ _ | refine Below.drew ?_ | refine below_drewN2 ?_ _))).rdT z1) (by simp only [List.length_append]; omega)) ?_); rintro e w3 ⟨v2, rfl, z2, o2, b_⟩; have HB2 : Hid (Below w.heap.size w w3) := HB1.out.trans (Below.mono (Below.trans (by repeat (first | exact Below.refl _ _ | refine Below.al2 ?_ _ | refine Below.drew ?_ | refine below_drewN2 ?_ _)) b_) HB1.out.size); have vA2 : VarA w3 w.heap.size 38 #[.int .i64 p, .int .i64 q, .bool true] := VarA.step vA1 (Below.trans (by repeat (first | exact Below.refl _ _ | refine Below.al2 ?_ _ | refine Below.drew ?_ | refine below_drewN2 ?_ _)) b_); clear b_; obtain ⟨c2_0, c2_1, c2_2⟩ := vA2.l3))
  all_goals
    have hsz := HB1.out.size
    have hs3 := HB2.out.size
    have HO : Hid (Owns w3 w.heap.size v2 (xs ++ putB p ++ putB q)) := o2.base (b' := w.heap.size) (by omega)
    have HZ : Hid _ := z2
    obtain ⟨a0_, a1_, a2_⟩ := vA2.l3
    clear o1 o2 z1 z2 vA1 vA2
    go_wp2_with (at_builtin; go_must (refine wpList_app _ rfl (.tmp 14) (.tmp 15) rfl w.heap.size v2 (xs ++ putB p ++ putB q) [1] rfl (HO.out.alloc _) _ 1 1 rfl rfl (one_new _ 1 (by omega) (by omega)) (by simp only [List.length_append]; omega) (by simp) (by simp; omega) (fun h => by cases h) ?_; intro v3 w4 ho hg))
    go_ret
    exact ⟨v3, rfl, by simpa [hdB, flagB, List.append_assoc] using isBytes_append HZ.out (flagB_bytes true), by simpa [hdB, flagB, List.append_assoc] using ho, (HB2.out.alloc hs3 _).grown hg (by simp; omega) (fun k hk => (HO.out.lt k hk).1)⟩
theorem specHandR (v : Value) (xs : List Int) (h : Hd) (S : Nat → Prop) (w : World) (r : RdV w S v (.bytes xs)) (hl : xs.length ≤ 1900000) : Ap 81 #[v, h.v] w (xs ++ hdB h) := by
  obtain ⟨p, q, d⟩ := h
  cases d
  · exact specHandF v xs p q S S w r hl
  · exact specHandD v xs p q S S w r hl
theorem specHandX (v : Value) (xs : List Int) (p q : Int) (d : Bool) (S : Nat → Prop) (w : World) (r : RdV w S v (.bytes xs)) (hl : xs.length ≤ 1900000) : Ap 81 #[v, .agg #[.int .i64 p, .int .i64 q, .bool d]] w (xs ++ hdB (p, q, d)) := specHandR v xs (p, q, d) S w r hl
set_option maxHeartbeats 8000000 in
theorem specTxR (v : Value) (xs : List Int) (t : TxD) (S S2 : Nat → Prop) (w : World) (r : RdV w S v (.bytes xs)) (hl : xs.length ≤ 1800000) : Ap 84 #[v, txV t] w (xs ++ txB t) := by
  obtain ⟨p, q, s⟩ := t
  have h1 := putB_len p
  have h2 := putB_len q
  have h3 := putB_len s
  have HR : Hid (∀ W, Below w.heap.size w W → _) := r.old
  clear r
  go_enter Try.func84, Try.ntmps84
  go_wp2
  go_region_held3 (fun w' => w'.cell? ⟨w.heap.size, 0, none⟩ = some (.int .i64 p) ∧ w'.cell? ⟨w.heap.size, 1, none⟩ = some (.int .i64 q) ∧ w'.cell? ⟨w.heap.size, 2, none⟩ = some (.int .i64 s)) (first | go_keep | (refine ⟨?_, ?_, ?_⟩ <;> assumption)) (first
    | (go_at_call 79; (with_reducible refine Calls.mono (specPutR v xs p _ _ (HR.out _ (by repeat (first | exact Below.refl _ _ | refine Below.al2 ?_ _ | refine Below.drew ?_ | refine below_drewN2 ?_ _))) (by omega)) ?_); rintro e w2 ⟨v1, rfl, z1, o1, b_⟩; have HB1 : Hid (Below w.heap.size w w2) := Below.trans (by repeat (first | exact Below.refl _ _ | refine Below.al2 ?_ _ | refine Below.drew ?_ | refine below_drewN2 ?_ _)) (b_.mono (by simp [World.drew] <;> omega)); have vA1 : VarA w2 w.heap.size 44 #[.int .i64 p, .int .i64 q, .int .i64 s] := VarA.step (VarA.dr (VarA.new w _ _)) b_; clear b_; obtain ⟨c1_0, c1_1, c1_2⟩ := vA1.l3)
    | (go_at_call 79; (with_reducible refine Calls.mono (specPutR v1 (xs ++ putB p) q _ _ ((Owns.step o1 (by repeat (first | exact Below.refl _ _ | refine Below.al2 ?_ _ | refine Below.drew ?_ | refine below_drewN2 ?_ _))).rdT z1) (by simp only [List.length_append]; omega)) ?_); rintro e w3 ⟨v2, rfl, z2, o2, b_⟩; have HB2 : Hid (Below w.heap.size w w3) := HB1.out.trans (Below.mono (Below.trans (by repeat (first | exact Below.refl _ _ | refine Below.al2 ?_ _ | refine Below.drew ?_ | refine below_drewN2 ?_ _)) b_) HB1.out.size); have vA2 : VarA w3 w.heap.size 44 #[.int .i64 p, .int .i64 q, .int .i64 s] := VarA.step vA1 (Below.trans (by repeat (first | exact Below.refl _ _ | refine Below.al2 ?_ _ | refine Below.drew ?_ | refine below_drewN2 ?_ _)) b_); clear b_; obtain ⟨c2_0, c2_1, c2_2⟩ := vA2.l3)
    | (go_at_call 79; (with_reducible refine Calls.mono (specPutR v2 (xs ++ putB p ++ putB q) s _ _ ((Owns.step o2 (by repeat (first | exact Below.refl _ _ | refine Below.al2 ?_ _ | refine Below.drew ?_ | refine below_drewN2 ?_ _))).rdT z2) (by simp only [List.length_append]; omega)) ?_); rintro e w4 ⟨v3, rfl, z3, o3, b_⟩; have HB3 : Hid (Below w.heap.size w w4) := HB2.out.trans (Below.mono (Below.trans (by repeat (first | exact Below.refl _ _ | refine Below.al2 ?_ _ | refine Below.drew ?_ | refine below_drewN2 ?_ _)) b_) HB2.out.size); have vA3 : VarA w4 w.heap.size 44 #[.int .i64 p, .int .i64 q, .int .i64 s] := VarA.step vA2 (Below.trans (by repeat (first | exact Below.refl _ _ | refine Below.al2 ?_ _ | refine Below.drew ?_ | refine below_drewN2 ?_ _)) b_); clear b_; obtain ⟨c3_0, c3_1, c3_2⟩ := vA3.l3))
  all_goals
    go_wp2
    go_ret
    refine ⟨_, rfl, ?_, ?_, HB3.out⟩
    · simpa [txB, List.append_assoc] using z3
    · have o_ := o3.base (b' := w.heap.size) (by first | exact HB2.out.size | omega)
      simpa [txB, List.append_assoc] using o_
set_option maxHeartbeats 8000000 in
theorem specOpR (v : Value) (xs : List Int) (o : OpD) (x y : Value) (S S2 : Nat → Prop) (w : World) (r : RdV w S v (.bytes xs)) (hl : xs.length ≤ 1800000) (q1 : RdV w S2 x (.bytes o.nm)) (q2 : RdV w S2 y (.bytes o.asn)) (hn : o.nm.length ≤ 1048576) (hm : o.asn.length ≤ 1048576) : Ap 82 #[v, opV o x y] w (xs ++ opB o) := by
  obtain ⟨kd, ⟨p, q, d⟩, nm, ⟨p2, q2_, d2⟩, asn, vl⟩ := o
  dsimp only at q1 q2 hn hm ⊢
  have h1 := putB_len kd
  have h2 := hdB_len (p, q, d)
  have h3 := textB_len nm
  have h4 := hdB_len (p2, q2_, d2)
  have h5 := textB_len asn
  have h6 := putB_len vl
  have HX : Hid (∀ W, Below w.heap.size w W → _) := q1.old
  have HY : Hid (∀ W, Below w.heap.size w W → _) := q2.old
  clear q1 q2
  have HR : Hid (∀ W, Below w.heap.size w W → _) := r.old
  clear r
  go_enter Try.func82, Try.ntmps82
  go_wp2
  go_region_held3 (fun w' => w'.cell? ⟨w.heap.size, 0, none⟩ = some (.int .i64 kd) ∧ w'.cell? ⟨w.heap.size, 1, none⟩ = some (.int .i64 p) ∧ w'.cell? ⟨w.heap.size, 2, none⟩ = some (.int .i64 q) ∧ w'.cell? ⟨w.heap.size, 3, none⟩ = some (.bool d) ∧ w'.cell? ⟨w.heap.size, 4, none⟩ = some (x) ∧ w'.cell? ⟨w.heap.size, 5, none⟩ = some (.int .i64 p2) ∧ w'.cell? ⟨w.heap.size, 6, none⟩ = some (.int .i64 q2_) ∧ w'.cell? ⟨w.heap.size, 7, none⟩ = some (.bool d2) ∧ w'.cell? ⟨w.heap.size, 8, none⟩ = some (y) ∧ w'.cell? ⟨w.heap.size, 9, none⟩ = some (.int .i64 vl)) (first | go_keep | (refine ⟨?_, ?_, ?_, ?_, ?_, ?_, ?_, ?_, ?_, ?_⟩ <;> assumption)) (first
    | (go_at_call 79; (with_reducible refine Calls.mono (specPutR v xs kd _ _ (HR.out _ (by repeat (first | exact Below.refl _ _ | refine Below.al2 ?_ _ | refine Below.drew ?_ | refine below_drewN2 ?_ _))) (by omega)) ?_); rintro e w2 ⟨v1, rfl, z1, o1, b_⟩; have HB1 : Hid (Below w.heap.size w w2) := Below.trans (by repeat (first | exact Below.refl _ _ | refine Below.al2 ?_ _ | refine Below.drew ?_ | refine below_drewN2 ?_ _)) (b_.mono (by simp [World.drew] <;> omega)); have vA1 : VarA w2 w.heap.size 40 #[.int .i64 kd, .int .i64 p, .int .i64 q, .bool d, x, .int .i64 p2, .int .i64 q2_, .bool d2, y, .int .i64 vl] := VarA.step (VarA.dr (VarA.new w _ _)) b_; clear b_; obtain ⟨c1_0, c1_1, c1_2, c1_3, c1_4, c1_5, c1_6, c1_7, c1_8, c1_9⟩ := vA1.l10)
    | (go_at_call 81; (with_reducible refine Calls.mono (specHandX v1 (xs ++ putB kd) p q d _ _ ((Owns.step o1 (by repeat (first | exact Below.refl _ _ | refine Below.al2 ?_ _ | refine Below.drew ?_ | refine below_drewN2 ?_ _))).rdT z1) (by simp only [List.length_append]; omega)) ?_); rintro e w3 ⟨v2, rfl, z2, o2, b_⟩; have HB2 : Hid (Below w.heap.size w w3) := HB1.out.trans (Below.mono (Below.trans (by repeat (first | exact Below.refl _ _ | refine Below.al2 ?_ _ | refine Below.drew ?_ | refine below_drewN2 ?_ _)) b_) HB1.out.size); have vA2 : VarA w3 w.heap.size 40 #[.int .i64 kd, .int .i64 p, .int .i64 q, .bool d, x, .int .i64 p2, .int .i64 q2_, .bool d2, y, .int .i64 vl] := VarA.step vA1 (Below.trans (by repeat (first | exact Below.refl _ _ | refine Below.al2 ?_ _ | refine Below.drew ?_ | refine below_drewN2 ?_ _)) b_); clear b_; obtain ⟨c2_0, c2_1, c2_2, c2_3, c2_4, c2_5, c2_6, c2_7, c2_8, c2_9⟩ := vA2.l10)
    | (go_at_call 114; (with_reducible refine Calls.mono (specTextR v2 _ (xs ++ putB kd ++ hdB (p, q, d)) nm _ S2 _ ((Owns.step o2 (by repeat (first | exact Below.refl _ _ | refine Below.al2 ?_ _ | refine Below.drew ?_ | refine below_drewN2 ?_ _))).rdT z2) (HX.out _ (HB2.out.trans (Below.mono (by repeat (first | exact Below.refl _ _ | refine Below.al2 ?_ _ | refine Below.drew ?_ | refine below_drewN2 ?_ _)) HB2.out.size))) (by simp only [List.length_append]; omega) (by omega)) ?_); rintro e w4 ⟨v3, rfl, z3, o3, b_⟩; have HB3 : Hid (Below w.heap.size w w4) := HB2.out.trans (Below.mono (Below.trans (by repeat (first | exact Below.refl _ _ | refine Below.al2 ?_ _ | refine Below.drew ?_ | refine below_drewN2 ?_ _)) b_) HB2.out.size); have vA3 : VarA w4 w.heap.size 40 #[.int .i64 kd, .int .i64 p, .int .i64 q, .bool d, x, .int .i64 p2, .int .i64 q2_, .bool d2, y, .int .i64 vl] := VarA.step vA2 (Below.trans (by repeat (first | exact Below.refl _ _ | refine Below.al2 ?_ _ | refine Below.drew ?_ | refine below_drewN2 ?_ _)) b_); clear b_; obtain ⟨c3_0, c3_1, c3_2, c3_3, c3_4, c3_5, c3_6, c3_7, c3_8, c3_9⟩ := vA3.l10))
  go_wp2
  go_region_held3 (fun w' => w'.cell? ⟨w.heap.size, 0, none⟩ = some (.int .i64 kd) ∧ w'.cell? ⟨w.heap.size, 1, none⟩ = some (.int .i64 p) ∧ w'.cell? ⟨w.heap.size, 2, none⟩ = some (.int .i64 q) ∧ w'.cell? ⟨w.heap.size, 3, none⟩ = some (.bool d) ∧ w'.cell? ⟨w.heap.size, 4, none⟩ = some (x) ∧ w'.cell? ⟨w.heap.size, 5, none⟩ = some (.int .i64 p2) ∧ w'.cell? ⟨w.heap.size, 6, none⟩ = some (.int .i64 q2_) ∧ w'.cell? ⟨w.heap.size, 7, none⟩ = some (.bool d2) ∧ w'.cell? ⟨w.heap.size, 8, none⟩ = some (y) ∧ w'.cell? ⟨w.heap.size, 9, none⟩ = some (.int .i64 vl)) (first | go_keep | (refine ⟨?_, ?_, ?_, ?_, ?_, ?_, ?_, ?_, ?_, ?_⟩ <;> assumption)) (first
    | (go_at_call 81; (with_reducible refine Calls.mono (specHandX v3 (xs ++ putB kd ++ hdB (p, q, d) ++ textB nm) p2 q2_ d2 _ _ ((Owns.step o3 (by repeat (first | exact Below.refl _ _ | refine Below.al2 ?_ _ | refine Below.drew ?_ | refine below_drewN2 ?_ _))).rdT z3) (by simp only [List.length_append]; omega)) ?_); rintro e w5 ⟨v4, rfl, z4, o4, b_⟩; have HB4 : Hid (Below w.heap.size w w5) := HB3.out.trans (Below.mono (Below.trans (by repeat (first | exact Below.refl _ _ | refine Below.al2 ?_ _ | refine Below.drew ?_ | refine below_drewN2 ?_ _)) b_) HB3.out.size); have vA4 : VarA w5 w.heap.size 40 #[.int .i64 kd, .int .i64 p, .int .i64 q, .bool d, x, .int .i64 p2, .int .i64 q2_, .bool d2, y, .int .i64 vl] := VarA.step vA3 (Below.trans (by repeat (first | exact Below.refl _ _ | refine Below.al2 ?_ _ | refine Below.drew ?_ | refine below_drewN2 ?_ _)) b_); clear b_; obtain ⟨c4_0, c4_1, c4_2, c4_3, c4_4, c4_5, c4_6, c4_7, c4_8, c4_9⟩ := vA4.l10)
    | (go_at_call 114; (with_reducible refine Calls.mono (specTextR v4 _ (xs ++ putB kd ++ hdB (p, q, d) ++ textB nm ++ hdB (p2, q2_, d2)) asn _ S2 _ ((Owns.step o4 (by repeat (first | exact Below.refl _ _ | refine Below.al2 ?_ _ | refine Below.drew ?_ | refine below_drewN2 ?_ _))).rdT z4) (HY.out _ (HB4.out.trans (Below.mono (by repeat (first | exact Below.refl _ _ | refine Below.al2 ?_ _ | refine Below.drew ?_ | refine below_drewN2 ?_ _)) HB4.out.size))) (by simp only [List.length_append]; omega) (by omega)) ?_); rintro e w6 ⟨v5, rfl, z5, o5, b_⟩; have HB5 : Hid (Below w.heap.size w w6) := HB4.out.trans (Below.mono (Below.trans (by repeat (first | exact Below.refl _ _ | refine Below.al2 ?_ _ | refine Below.drew ?_ | refine below_drewN2 ?_ _)) b_) HB4.out.size); have vA5 : VarA w6 w.heap.size 40 #[.int .i64 kd, .int .i64 p, .int .i64 q, .bool d, x, .int .i64 p2, .int .i64 q2_, .bool d2, y, .int .i64 vl] := VarA.step vA4 (Below.trans (by repeat (first | exact Below.refl _ _ | refine Below.al2 ?_ _ | refine Below.drew ?_ | refine below_drewN2 ?_ _)) b_); clear b_; obtain ⟨c5_0, c5_1, c5_2, c5_3, c5_4, c5_5, c5_6, c5_7, c5_8, c5_9⟩ := vA5.l10)
    | (go_at_call 79; (with_reducible refine Calls.mono (specPutR v5 (xs ++ putB kd ++ hdB (p, q, d) ++ textB nm ++ hdB (p2, q2_, d2) ++ textB asn) vl _ _ ((Owns.step o5 (by repeat (first | exact Below.refl _ _ | refine Below.al2 ?_ _ | refine Below.drew ?_ | refine below_drewN2 ?_ _))).rdT z5) (by simp only [List.length_append]; omega)) ?_); rintro e w7 ⟨v6, rfl, z6, o6, b_⟩; have HB6 : Hid (Below w.heap.size w w7) := HB5.out.trans (Below.mono (Below.trans (by repeat (first | exact Below.refl _ _ | refine Below.al2 ?_ _ | refine Below.drew ?_ | refine below_drewN2 ?_ _)) b_) HB5.out.size); have vA6 : VarA w7 w.heap.size 40 #[.int .i64 kd, .int .i64 p, .int .i64 q, .bool d, x, .int .i64 p2, .int .i64 q2_, .bool d2, y, .int .i64 vl] := VarA.step vA5 (Below.trans (by repeat (first | exact Below.refl _ _ | refine Below.al2 ?_ _ | refine Below.drew ?_ | refine below_drewN2 ?_ _)) b_); clear b_; obtain ⟨c6_0, c6_1, c6_2, c6_3, c6_4, c6_5, c6_6, c6_7, c6_8, c6_9⟩ := vA6.l10))
  all_goals
    go_wp2
    go_ret
    refine ⟨_, rfl, ?_, ?_, HB6.out⟩
    · simpa [opB, List.append_assoc] using z6
    · have o_ := o6.base (b' := w.heap.size) (by first | exact HB5.out.size | omega)
      simpa [opB, List.append_assoc] using o_
set_option maxHeartbeats 8000000 in
theorem specPartR (v : Value) (xs : List Int) (o : PtD) (x : Value) (S S2 : Nat → Prop) (w : World) (r : RdV w S v (.bytes xs)) (hl : xs.length ≤ 1800000) (q1 : RdV w S2 x (.bytes o.asn)) (hn : o.asn.length ≤ 1048576) : Ap 83 #[v, ptV o x] w (xs ++ ptB o) := by
  obtain ⟨kd, ⟨p, q, d⟩, nm, ⟨p2, q2_, d2⟩⟩ := o
  dsimp only at q1 hn ⊢
  have h1 := putB_len kd
  have h2 := hdB_len (p, q, d)
  have h3 := textB_len nm
  have h4 := hdB_len (p2, q2_, d2)
  have HX : Hid (∀ W, Below w.heap.size w W → _) := q1.old
  clear q1
  have HR : Hid (∀ W, Below w.heap.size w W → _) := r.old
  clear r
  go_enter Try.func83, Try.ntmps83
  go_wp2
  go_region_held3 (fun w' => w'.cell? ⟨w.heap.size, 0, none⟩ = some (.int .i64 kd) ∧ w'.cell? ⟨w.heap.size, 1, none⟩ = some (.int .i64 p) ∧ w'.cell? ⟨w.heap.size, 2, none⟩ = some (.int .i64 q) ∧ w'.cell? ⟨w.heap.size, 3, none⟩ = some (.bool d) ∧ w'.cell? ⟨w.heap.size, 4, none⟩ = some (x) ∧ w'.cell? ⟨w.heap.size, 5, none⟩ = some (.int .i64 p2) ∧ w'.cell? ⟨w.heap.size, 6, none⟩ = some (.int .i64 q2_) ∧ w'.cell? ⟨w.heap.size, 7, none⟩ = some (.bool d2)) (first | go_keep | (refine ⟨?_, ?_, ?_, ?_, ?_, ?_, ?_, ?_⟩ <;> assumption)) (first
    | (go_at_call 79; (with_reducible refine Calls.mono (specPutR v xs kd _ _ (HR.out _ (by repeat (first | exact Below.refl _ _ | refine Below.al2 ?_ _ | refine Below.drew ?_ | refine below_drewN2 ?_ _))) (by omega)) ?_); rintro e w2 ⟨v1, rfl, z1, o1, b_⟩; have HB1 : Hid (Below w.heap.size w w2) := Below.trans (by repeat (first | exact Below.refl _ _ | refine Below.al2 ?_ _ | refine Below.drew ?_ | refine below_drewN2 ?_ _)) (b_.mono (by simp [World.drew] <;> omega)); have vA1 : VarA w2 w.heap.size 46 #[.int .i64 kd, .int .i64 p, .int .i64 q, .bool d, x, .int .i64 p2, .int .i64 q2_, .bool d2] := VarA.step (VarA.dr (VarA.new w _ _)) b_; clear b_; obtain ⟨c1_0, c1_1, c1_2, c1_3, c1_4, c1_5, c1_6, c1_7⟩ := vA1.l8)
    | (go_at_call 81; (with_reducible refine Calls.mono (specHandX v1 (xs ++ putB kd) p q d _ _ ((Owns.step o1 (by repeat (first | exact Below.refl _ _ | refine Below.al2 ?_ _ | refine Below.drew ?_ | refine below_drewN2 ?_ _))).rdT z1) (by simp only [List.length_append]; omega)) ?_); rintro e w3 ⟨v2, rfl, z2, o2, b_⟩; have HB2 : Hid (Below w.heap.size w w3) := HB1.out.trans (Below.mono (Below.trans (by repeat (first | exact Below.refl _ _ | refine Below.al2 ?_ _ | refine Below.drew ?_ | refine below_drewN2 ?_ _)) b_) HB1.out.size); have vA2 : VarA w3 w.heap.size 46 #[.int .i64 kd, .int .i64 p, .int .i64 q, .bool d, x, .int .i64 p2, .int .i64 q2_, .bool d2] := VarA.step vA1 (Below.trans (by repeat (first | exact Below.refl _ _ | refine Below.al2 ?_ _ | refine Below.drew ?_ | refine below_drewN2 ?_ _)) b_); clear b_; obtain ⟨c2_0, c2_1, c2_2, c2_3, c2_4, c2_5, c2_6, c2_7⟩ := vA2.l8)
    | (go_at_call 114; (with_reducible refine Calls.mono (specTextR v2 _ (xs ++ putB kd ++ hdB (p, q, d)) nm _ S2 _ ((Owns.step o2 (by repeat (first | exact Below.refl _ _ | refine Below.al2 ?_ _ | refine Below.drew ?_ | refine below_drewN2 ?_ _))).rdT z2) (HX.out _ (HB2.out.trans (Below.mono (by repeat (first | exact Below.refl _ _ | refine Below.al2 ?_ _ | refine Below.drew ?_ | refine below_drewN2 ?_ _)) HB2.out.size))) (by simp only [List.length_append]; omega) (by omega)) ?_); rintro e w4 ⟨v3, rfl, z3, o3, b_⟩; have HB3 : Hid (Below w.heap.size w w4) := HB2.out.trans (Below.mono (Below.trans (by repeat (first | exact Below.refl _ _ | refine Below.al2 ?_ _ | refine Below.drew ?_ | refine below_drewN2 ?_ _)) b_) HB2.out.size); have vA3 : VarA w4 w.heap.size 46 #[.int .i64 kd, .int .i64 p, .int .i64 q, .bool d, x, .int .i64 p2, .int .i64 q2_, .bool d2] := VarA.step vA2 (Below.trans (by repeat (first | exact Below.refl _ _ | refine Below.al2 ?_ _ | refine Below.drew ?_ | refine below_drewN2 ?_ _)) b_); clear b_; obtain ⟨c3_0, c3_1, c3_2, c3_3, c3_4, c3_5, c3_6, c3_7⟩ := vA3.l8)
    | (go_at_call 81; (with_reducible refine Calls.mono (specHandX v3 (xs ++ putB kd ++ hdB (p, q, d) ++ textB nm) p2 q2_ d2 _ _ ((Owns.step o3 (by repeat (first | exact Below.refl _ _ | refine Below.al2 ?_ _ | refine Below.drew ?_ | refine below_drewN2 ?_ _))).rdT z3) (by simp only [List.length_append]; omega)) ?_); rintro e w5 ⟨v4, rfl, z4, o4, b_⟩; have HB4 : Hid (Below w.heap.size w w5) := HB3.out.trans (Below.mono (Below.trans (by repeat (first | exact Below.refl _ _ | refine Below.al2 ?_ _ | refine Below.drew ?_ | refine below_drewN2 ?_ _)) b_) HB3.out.size); have vA4 : VarA w5 w.heap.size 46 #[.int .i64 kd, .int .i64 p, .int .i64 q, .bool d, x, .int .i64 p2, .int .i64 q2_, .bool d2] := VarA.step vA3 (Below.trans (by repeat (first | exact Below.refl _ _ | refine Below.al2 ?_ _ | refine Below.drew ?_ | refine below_drewN2 ?_ _)) b_); clear b_; obtain ⟨c4_0, c4_1, c4_2, c4_3, c4_4, c4_5, c4_6, c4_7⟩ := vA4.l8))
  all_goals
    go_wp2
    go_ret
    refine ⟨_, rfl, ?_, ?_, HB4.out⟩
    · simpa [ptB, List.append_assoc] using z4
    · have o_ := o4.base (b' := w.heap.size) (by first | exact HB3.out.size | omega)
      simpa [ptB, List.append_assoc] using o_
end Go.Proofs.Ytmjfnmlfamikgaa
end

section
/- The specification writes replies. Condition: at most 12 entries, no more than 2^20 bytes ahead of them. -/
namespace Go.Proofs.Ytmjfnmlfamikgaa
open Go.RowKit
set_option linter.unusedVariables false
set_option linter.unusedSimpArgs false
set_option maxRecDepth 100000

theorem ensB_next (l : List En) (k : Nat) (h : k < l.length) : ensB (l.take (k + 1)) = ensB (l.take k) ++ enB (l[k]?.getD en0) := by
  unfold ensB
  rw [← List.take_append_getElem h, List.flatMap_append, List.getElem?_eq_getElem h]; simp
set_option maxHeartbeats 8000000 in
theorem specReplyR (v : Value) (xs : List Int) (o : RpD) (x : Value) (S S2 : Nat → Prop) (w : World) (r : RdV w S v (.bytes xs)) (hl : xs.length ≤ 1700000) (q1 : RdV w S2 x (ensDt o.list)) (hn : szEns o.list ≤ 1048576) (h12 : o.list.length ≤ 12) : Ap 80 #[v, rpV o x] w (xs ++ rpB o) := by
  obtain ⟨a, cap, rfl, _⟩ := RdV.sliced q1
  obtain ⟨kd, ⟨p, q, d⟩, vl, es⟩ := o
  dsimp only at q1 hn h12 ⊢
  have HR2 : Hid (∀ W, Below w.heap.size w W → RdV W S2 (.slice a es.length cap) (.rows 107 4 es.length (fun i j => enCell (es[i]?.getD en0) j))) := RdV.old q1
  have HL : Hid _ := hn
  have HN : Hid (∀ k, k < es.length → ensB (es.take (k + 1)) = ensB (es.take k) ++ enB (es[k]?.getD en0)) := fun k hk => ensB_next es k hk
  have HEL : Hid (∀ k, k ≤ es.length → (ensB (es.take k)).length ≤ 56 * 12) := fun k hk => by have := ensB_len (es.take k); rw [List.length_take] at this; omega
  have HEA : Hid (ensB (es.take es.length) = ensB es) := by show _ = _; rw [List.take_length]
  obtain ⟨m, hm⟩ : ∃ m, es.length = m := ⟨_, rfl⟩
  have HF : Hid (rpB ⟨kd, (p, q, d), vl, es⟩ = putB kd ++ (hdB (p, q, d) ++ (putB vl ++ (putB (m : Int) ++ ensB es)))) := by show _ = _; rw [← hm]; rfl
  rw [HF.out]
  rw [hm] at HR2 HN HEL HEA h12 ⊢
  clear q1 hn hm HF
  have h1 := putB_len kd
  have h2 := hdB_len (p, q, d)
  have h3 := putB_len vl
  have h4 := putB_len (m : Int)
  have HR : Hid (∀ W, Below w.heap.size w W → _) := r.old
  clear r
  go_enter Try.func80, Try.ntmps80
  go_wp2
  go_region_held3 (fun w' => w'.cell? ⟨w.heap.size, 0, none⟩ = some (.int .i64 kd) ∧ w'.cell? ⟨w.heap.size, 1, none⟩ = some (.int .i64 p) ∧ w'.cell? ⟨w.heap.size, 2, none⟩ = some (.int .i64 q) ∧ w'.cell? ⟨w.heap.size, 3, none⟩ = some (.bool d) ∧ w'.cell? ⟨w.heap.size, 4, none⟩ = some (.int .i64 vl) ∧ w'.cell? ⟨w.heap.size, 5, none⟩ = some (.slice a m cap)) (first | go_keep | (refine ⟨?_, ?_, ?_, ?_, ?_, ?_⟩ <;> assumption)) (first
    | (go_at_call 79; (with_reducible refine Calls.mono (specPutR v xs kd _ _ (HR.out _ (by repeat (first | exact Below.refl _ _ | refine Below.al2 ?_ _ | refine Below.drew ?_ | refine below_drewN2 ?_ _))) (by omega)) ?_); rintro e w2 ⟨v1, rfl, z1, o1, b_⟩; have HB1 : Hid (Below w.heap.size w w2) := Below.trans (by repeat (first | exact Below.refl _ _ | refine Below.al2 ?_ _ | refine Below.drew ?_ | refine below_drewN2 ?_ _)) (b_.mono (by simp [World.drew] <;> omega)); have vA1 : VarA w2 w.heap.size 43 #[.int .i64 kd, .int .i64 p, .int .i64 q, .bool d, .int .i64 vl, .slice a m cap] := VarA.step (VarA.dr (VarA.new w _ _)) b_; clear b_; obtain ⟨c1_0, c1_1, c1_2, c1_3, c1_4, c1_5⟩ := vA1.l6)
    | (go_at_call 81; (with_reducible refine Calls.mono (specHandX v1 (xs ++ putB kd) p q d _ _ ((Owns.step o1 (by repeat (first | exact Below.refl _ _ | refine Below.al2 ?_ _ | refine Below.drew ?_ | refine below_drewN2 ?_ _))).rdT z1) (by simp only [List.length_append]; omega)) ?_); rintro e w3 ⟨v2, rfl, z2, o2, b_⟩; have HB2 : Hid (Below w.heap.size w w3) := HB1.out.trans (Below.mono (Below.trans (by repeat (first | exact Below.refl _ _ | refine Below.al2 ?_ _ | refine Below.drew ?_ | refine below_drewN2 ?_ _)) b_) HB1.out.size); have vA2 : VarA w3 w.heap.size 43 #[.int .i64 kd, .int .i64 p, .int .i64 q, .bool d, .int .i64 vl, .slice a m cap] := VarA.step vA1 (Below.trans (by repeat (first | exact Below.refl _ _ | refine Below.al2 ?_ _ | refine Below.drew ?_ | refine below_drewN2 ?_ _)) b_); clear b_; obtain ⟨c2_0, c2_1, c2_2, c2_3, c2_4, c2_5⟩ := vA2.l6)
    | (go_at_call 79; (with_reducible refine Calls.mono (specPutR v2 (xs ++ putB kd ++ hdB (p, q, d)) vl _ _ ((Owns.step o2 (by repeat (first | exact Below.refl _ _ | refine Below.al2 ?_ _ | refine Below.drew ?_ | refine below_drewN2 ?_ _))).rdT z2) (by simp only [List.length_append]; omega)) ?_); rintro e w4 ⟨v3, rfl, z3, o3, b_⟩; have HB3 : Hid (Below w.heap.size w w4) := HB2.out.trans (Below.mono (Below.trans (by repeat (first | exact Below.refl _ _ | refine Below.al2 ?_ _ | refine Below.drew ?_ | refine below_drewN2 ?_ _)) b_) HB2.out.size); have vA3 : VarA w4 w.heap.size 43 #[.int .i64 kd, .int .i64 p, .int .i64 q, .bool d, .int .i64 vl, .slice a m cap] := VarA.step vA2 (Below.trans (by repeat (first | exact Below.refl _ _ | refine Below.al2 ?_ _ | refine Below.drew ?_ | refine below_drewN2 ?_ _)) b_); clear b_; obtain ⟨c3_0, c3_1, c3_2, c3_3, c3_4, c3_5⟩ := vA3.l6)
    | (go_at_call 79; (with_reducible refine Calls.mono (specPutR v3 (xs ++ putB kd ++ hdB (p, q, d) ++ putB vl) (m : Int) _ _ ((Owns.step o3 (by repeat (first | exact Below.refl _ _ | refine Below.al2 ?_ _ | refine Below.drew ?_ | refine below_drewN2 ?_ _))).rdT z3) (by simp only [List.length_append]; omega)) ?_); rintro e w5 ⟨v4, rfl, z4, o4, b_⟩; have HB4 : Hid (Below w.heap.size w w5) := HB3.out.trans (Below.mono (Below.trans (by repeat (first | exact Below.refl _ _ | refine Below.al2 ?_ _ | refine Below.drew ?_ | refine below_drewN2 ?_ _)) b_) HB3.out.size); have vA4 : VarA w5 w.heap.size 43 #[.int .i64 kd, .int .i64 p, .int .i64 q, .bool d, .int .i64 vl, .slice a m cap] := VarA.step vA3 (Below.trans (by repeat (first | exact Below.refl _ _ | refine Below.al2 ?_ _ | refine Below.drew ?_ | refine below_drewN2 ?_ _)) b_); clear b_; obtain ⟨c4_0, c4_1, c4_2, c4_3, c4_4, c4_5⟩ := vA4.l6))
  all_goals
    have hsz := HB3.out.size
    have HO0 : Hid (Owns w5 w.heap.size v4 (xs ++ putB kd ++ hdB (p, q, d) ++ putB vl ++ putB (m : Int))) := o4.base (b' := w.heap.size) hsz
    have HZ0 : Hid _ := z4
    have HBB := HB4
    have vA := vA4
    clear o1 o2 o3 o4 z1 z2 z3 z4 vA1 vA2 vA3 vA4 c1_0 c1_1 c1_2 c1_3 c1_4 c1_5 c2_0 c2_1 c2_2 c2_3 c2_4 c2_5 c3_0 c3_1 c3_2 c3_3 c3_4 c3_5 c4_0 c4_1 c4_2 c4_3 c4_4 c4_5 HB1 HB2 HB3 HB4
    obtain ⟨ys, hys⟩ : ∃ ys, xs ++ putB kd ++ hdB (p, q, d) ++ putB vl ++ putB (m : Int) = ys := ⟨_, rfl⟩
    have hyl : ys.length ≤ 1700100 := by rw [← hys]; simp only [List.length_append]; omega
    have HGO : Hid (xs ++ (putB kd ++ (hdB (p, q, d) ++ (putB vl ++ (putB (m : Int) ++ ensB es)))) = ys ++ ensB es) := by show _ = _; rw [← hys]; simp [List.append_assoc]
    rw [hys] at HO0 HZ0
    clear hys h1 h2 h3 h4 hsz hl HR
    obtain ⟨a0_, a1_, a2_, a3_, a4_, a5_⟩ := vA.l6
    go_wp2
    go_loopw [0, 5] (fun q' i wr => ∃ (k : Nat) (u : Value), k ≤ m ∧ i = .int .i64 k ∧ u = q' ∧ Hid (isBytes (ys ++ ensB (es.take k))) ∧ Hid (Owns wr w.heap.size u (ys ++ ensB (es.take k))) ∧ Hid (Below w.heap.size w wr) ∧ VarA wr w.heap.size 43 #[.int .i64 kd, .int .i64 p, .int .i64 q, .bool d, .int .i64 vl, .slice a m cap]) (fun _ i _ => m - (intOf i).toNat)
    case atStart => exact ⟨0, v4, Nat.zero_le _, rfl, rfl, by show isBytes _; rw [List.take_zero]; simp only [ensB, List.flatMap_nil, List.append_nil]; exact HZ0.out, by show Owns _ _ _ _; simpa [ensB] using HO0.out, HBB, vA⟩
    case round =>
      clear HO0 HZ0 HBB vA a0_ a1_ a2_ a3_ a4_ a5_
      obtain ⟨k, u, hk, rfl, rfl, HZ, HO, hbel, vA⟩ := hrel
      obtain ⟨a0_, a1_, a2_, a3_, a4_, a5_⟩ := vA.l6
      have hvl_ := vA.lt
      by_cases hlt : k < m
      case neg =>
        have he : k = m := by omega
        subst he
        go_wp2
        go_ret
        exact ⟨_, rfl, by rw [HGO.out, ← HEA.out]; exact HZ.out, by rw [HGO.out, ← HEA.out]; exact HO.out, hbel.out⟩
      obtain ⟨b, off, rfl, hbl, _, hx⟩ := RdV.at (HR2.out wr hbel.out) hlt
      obtain ⟨e, he⟩ : ∃ e, es[k]?.getD en0 = e := ⟨_, rfl⟩
      obtain ⟨x0, c0, r0⟩ := hx 0 (by omega)
      obtain ⟨x1, c1, r1⟩ := hx 1 (by omega)
      obtain ⟨x2, c2, r2⟩ := hx 2 (by omega)
      obtain ⟨x3, c3, r3⟩ := hx 3 (by omega)
      rw [he] at r0 r1 r2 r3
      have HNX : Hid (ensB (es.take (k + 1)) = ensB (es.take k) ++ enB e) := by rw [HN.out k hlt, he]; rfl
      have hnz : e.nm.length ≤ 1048576 := by have h1 := szEns_at es k; rw [he] at h1; have h2 := HL.out; omega
      clear hx he
      obtain ⟨nm, ⟨s, ino, dd⟩⟩ := e
      obtain rfl : x1 = .int .i64 s := r1
      obtain rfl : x2 = .int .i64 ino := r2
      obtain rfl : x3 = .bool dd := r3
      simp only [Nat.add_zero] at c0
      dsimp only at hnz HNX
      have RB : Hid (∀ W, Below wr.heap.size wr W → RdV W S2 x0 (.bytes nm)) := fun W hW => RdV.step (show RdV wr S2 x0 (.bytes nm) from r0) hW
      clear r0
      have hkl := HEL.out k hk
      have h5 := textB_len nm
      have hws := hbel.out.size
      go_wp2
      go_region_held3 (fun w' => w'.cell? ⟨w.heap.size, 5, none⟩ = some (.slice (some ⟨b, off, none⟩) m cap) ∧ w'.cell? ⟨b, off + k * 4, none⟩ = some x0 ∧ w'.cell? ⟨b, off + k * 4 + 1, none⟩ = some (.int .i64 s) ∧ w'.cell? ⟨b, off + k * 4 + 2, none⟩ = some (.int .i64 ino) ∧ w'.cell? ⟨b, off + k * 4 + 3, none⟩ = some (.bool dd)) (first | go_keep | (refine ⟨?_, ?_, ?_, ?_, ?_⟩ <;> assumption)) (first
        | (go_at_call 114; (with_reducible refine Calls.mono (specTextR u x0 (ys ++ ensB (es.take k)) nm _ S2 _ ((Owns.step HO.out (by repeat (first | exact Below.refl _ _ | refine Below.al2 ?_ _ | refine Below.drew ?_ | refine below_drewN2 ?_ _))).rdT HZ.out) (RB.out _ (by repeat (first | exact Below.refl _ _ | refine Below.al2 ?_ _ | refine Below.drew ?_ | refine below_drewN2 ?_ _))) (by simp only [List.length_append]; omega) (by omega)) ?_); rintro e w2 ⟨v1, rfl, z1, o1, b_⟩; have b1 : Below wr.heap.size wr w2 := Below.trans (by repeat (first | exact Below.refl _ _ | refine Below.al2 ?_ _ | refine Below.drew ?_ | refine below_drewN2 ?_ _)) b_; clear b_; have d5 := (b1.cell (p := ⟨w.heap.size, 5, none⟩) hvl_).trans a5_; have e0 := (b1.cell (p := ⟨b, off + k * 4, none⟩) hbl).trans c0; have e1 := (b1.cell (p := ⟨b, off + k * 4 + 1, none⟩) hbl).trans c1; have e2 := (b1.cell (p := ⟨b, off + k * 4 + 2, none⟩) hbl).trans c2; have e3 := (b1.cell (p := ⟨b, off + k * 4 + 3, none⟩) hbl).trans c3)
        | (go_at_call 81; (with_reducible refine Calls.mono (specHandX v1 (ys ++ ensB (es.take k) ++ textB nm) s ino dd _ _ ((Owns.step o1 (by repeat (first | exact Below.refl _ _ | refine Below.al2 ?_ _ | refine Below.drew ?_ | refine below_drewN2 ?_ _))).rdT z1) (by simp only [List.length_append]; omega)) ?_); rintro e w3 ⟨v2, rfl, z2, o2, b_⟩; have b2 : Below wr.heap.size wr w3 := b1.trans (b_.mono b1.size); clear b_; have f5 := (b2.cell (p := ⟨w.heap.size, 5, none⟩) hvl_).trans a5_; have g0 := (b2.cell (p := ⟨b, off + k * 4, none⟩) hbl).trans c0; have g1 := (b2.cell (p := ⟨b, off + k * 4 + 1, none⟩) hbl).trans c1; have g2 := (b2.cell (p := ⟨b, off + k * 4 + 2, none⟩) hbl).trans c2; have g3 := (b2.cell (p := ⟨b, off + k * 4 + 3, none⟩) hbl).trans c3))
      all_goals
        have HZ2 : Hid (isBytes (ys ++ ensB (es.take (k + 1)))) := by show isBytes _; rw [HNX.out]; simpa [enB, List.append_assoc] using z2
        have HO2 : Hid (Owns w3 w.heap.size v2 (ys ++ ensB (es.take (k + 1)))) := by
          have o_ := o2.base (b' := w.heap.size) (Nat.le_trans hws b1.size)
          show Owns _ _ _ _
          rw [HNX.out]; simpa [enB, List.append_assoc] using o_
        have HB2 : Hid (Below w.heap.size w w3) := hbel.out.trans (b2.mono hws)
        have vA2 := vA.step b2
        clear HZ HO hbel z1 z2 o1 o2
        go_wp2
        refine ⟨?_, ?_⟩
        · exact ⟨k + 1, v2, by omega, by go_num, rfl, HZ2, HO2, HB2, vA2⟩
        · simp [intOf]; omega
end Go.Proofs.Ytmjfnmlfamikgaa
end
