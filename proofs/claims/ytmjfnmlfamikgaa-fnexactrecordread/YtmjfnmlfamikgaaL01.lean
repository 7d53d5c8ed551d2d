/- Joined: Nums Puts PutNum Steps Texts Pure WBy0 PRead PRead2 GetTexts RdC. -/
import Derived.Test.YtmjfnmlfamikgaaBytes
import Derived.Test.YtmjfnmlfamikgaaOwn
import Derived.Test.YtmjfnmlfamikgaaWires
import Derived.Test.YtmjfnmlfamikgaaVarL
import Derived.Deep.RegionHeld3

section
/- The numbers' bytes as a plain function, and that both the program's and the specification's GetNum compute it. Conditions: at most 2^20 bytes (what both are called with here). -/
namespace Go.Proofs.Ytmjfnmlfamikgaa
open Go.RowKit
set_option linter.unusedVariables false

/-- Reads a number from the head of a list of bytes: i bytes were read, n is their sum, sc the next one's weight, f more may come. -/
def getLoop : Nat → List Int → Nat → Int → Int → Option (Int × Nat)
  | 0, _, _, _, _ => none
  | _ + 1, [], _, _, _ => none
  | f + 1, x :: r, i, n, sc =>
    if 128 ≤ x then getLoop f r (i + 1) (n + (x - 128) * sc) (sc * 128)
    else if (0 < i ∧ x = 0) ∨ 2147483647 < n + x * sc then none else some (n + x * sc, i + 1)

def getNum (zs : List Int) (p : Int) : Int × Int :=
  if p < 0 then (0, -1) else match getLoop 5 (zs.drop p.toNat) 0 0 1 with
    | none => (0, -1)
    | some (n, c) => (n, p + c)

theorem getLoop_nil (f i : Nat) (n sc : Int) : getLoop f [] i n sc = none := by cases f <;> rfl
theorem getLoop_more {f : Nat} {x : Int} {r : List Int} {i : Nat} {n sc : Int} (h : 128 ≤ x) : getLoop (f + 1) (x :: r) i n sc = getLoop f r (i + 1) (n + (x - 128) * sc) (sc * 128) := by
  rw [getLoop, if_pos h]
theorem getLoop_bad {f : Nat} {x : Int} {r : List Int} {i : Nat} {n sc : Int} (h : ¬ 128 ≤ x) (h2 : (0 < i ∧ x = 0) ∨ 2147483647 < n + x * sc) : getLoop (f + 1) (x :: r) i n sc = none := by
  rw [getLoop, if_neg h, if_pos h2]
theorem getLoop_end {f : Nat} {x : Int} {r : List Int} {i : Nat} {n sc : Int} (h : ¬ 128 ≤ x) (h2 : ¬ ((0 < i ∧ x = 0) ∨ 2147483647 < n + x * sc)) : getLoop (f + 1) (x :: r) i n sc = some (n + x * sc, i + 1) := by
  rw [getLoop, if_neg h, if_neg h2]
theorem drop_cons (zs : List Int) (k : Nat) (h : k < zs.length) : zs.drop k = zs[k]?.getD 0 :: zs.drop (k + 1) := by
  rw [List.drop_eq_getElem_cons h]; simp [h]
theorem getNum_none {zs : List Int} {p : Nat} (h : getLoop 5 (zs.drop p) 0 0 1 = none) : getNum zs p = (0, -1) := by
  unfold getNum; rw [if_neg (by omega), Int.toNat_natCast, h]
theorem getNum_some {zs : List Int} {p : Nat} {n : Int} {c : Nat} (h : getLoop 5 (zs.drop p) 0 0 1 = some (n, c)) : getNum zs p = (n, (p : Int) + (c : Int)) := by
  unfold getNum; rw [if_neg (by omega), Int.toNat_natCast, h]

/-- The weight behind i bytes. -/
def wt : Nat → Int
  | 0 => 1
  | 1 => 128
  | 2 => 16384
  | 3 => 2097152
  | 4 => 268435456
  | _ => 34359738368
theorem wt_succ (k : Nat) (h : k < 5) : wt k * 128 = wt (k + 1) := by
  rcases (show k = 0 ∨ k = 1 ∨ k = 2 ∨ k = 3 ∨ k = 4 from by omega) with rfl | rfl | rfl | rfl | rfl <;> rfl
theorem wt_bd (k : Nat) (h : k < 5) : 1 ≤ wt k ∧ wt k ≤ 268435456 := by
  rcases (show k = 0 ∨ k = 1 ∨ k = 2 ∨ k = 3 ∨ k = 4 from by omega) with rfl | rfl | rfl | rfl | rfl <;> decide

/-- What holds at the head of round k of both loops. -/
def At (zs : List Int) (p k : Nat) (n : Int) : Prop := 0 ≤ n ∧ n ≤ wt k ∧ getLoop 5 (zs.drop p) 0 0 1 = getLoop (5 - k) (zs.drop (p + k)) k n (wt k)
theorem At.start (zs : List Int) (p : Nat) : At zs p 0 0 := ⟨by decide, by decide, rfl⟩
theorem At.more {zs : List Int} {p k : Nat} {n c : Int} (h : At zs p k n) (hk : k < 5) (hp : p + k < zs.length) (hc : c = zs[p + k]?.getD 0) (h1 : 128 ≤ c) (h2 : c ≤ 255) : At zs p (k + 1) (n + (c - 128) * wt k) := by
  obtain ⟨a, b, e⟩ := h
  have hw := wt_bd k hk
  have hs := wt_succ k hk
  have m0 : 0 ≤ (c - 128) * wt k := Int.mul_nonneg (by omega) (by omega)
  have m1 : (c - 128) * wt k ≤ 127 * wt k := Int.mul_le_mul_of_nonneg_right (by omega) (by omega)
  refine ⟨by omega, by omega, ?_⟩
  rw [e, drop_cons _ _ hp, ← hc, show 5 - k = (5 - (k + 1)) + 1 by omega, getLoop_more h1, hs]
  rfl
theorem At.out {zs : List Int} {p k : Nat} {n : Int} (h : At zs p k n) (hk : ¬ (k < 5 ∧ p + k < zs.length)) : getNum zs p = (0, -1) := by
  obtain ⟨a, b, e⟩ := h
  apply getNum_none
  rw [e]
  by_cases h5 : k < 5
  · rw [List.drop_eq_nil_of_le (by omega), getLoop_nil]
  · rw [show 5 - k = 0 by omega]; rfl
theorem At.bad {zs : List Int} {p k : Nat} {n c : Int} (h : At zs p k n) (hk : k < 5) (hp : p + k < zs.length) (hc : c = zs[p + k]?.getD 0) (h1 : c < 128) (h2 : (0 < k ∧ c = 0) ∨ 2147483647 < n + c * wt k) : getNum zs p = (0, -1) := by
  obtain ⟨a, b, e⟩ := h
  apply getNum_none
  rw [e, drop_cons _ _ hp, ← hc, show 5 - k = (5 - (k + 1)) + 1 by omega, getLoop_bad (by omega) h2]
theorem At.fin {zs : List Int} {p k : Nat} {n c : Int} (h : At zs p k n) (hk : k < 5) (hp : p + k < zs.length) (hc : c = zs[p + k]?.getD 0) (h1 : c < 128) (h2 : ¬ ((0 < k ∧ c = 0) ∨ 2147483647 < n + c * wt k)) : getNum zs p = (n + c * wt k, (p : Int) + k + 1) := by
  obtain ⟨a, b, e⟩ := h
  rw [getNum_some (n := n + c * wt k) (c := k + 1)]
  · simp; omega
  · rw [e, drop_cons _ _ hp, ← hc, show 5 - k = (5 - (k + 1)) + 1 by omega, getLoop_end (by omega) h2]
theorem mul_bd {c s m : Int} (h0 : 0 ≤ c) (h1 : c ≤ m) (h2 : 1 ≤ s) (h3 : s ≤ 268435456) (hm : m ≤ 255) : 0 ≤ c * s ∧ c * s ≤ 68451041280 := by
  have m0 : 0 ≤ c * s := Int.mul_nonneg (by omega) (by omega)
  have m1 : c * s ≤ 255 * s := Int.mul_le_mul_of_nonneg_right (by omega) (by omega)
  omega

/-- The loops' relation: the sum, the weight, the count. -/
def GRel (zs : List Int) (L p : Nat) (q s i : Value) : Prop :=
  ∃ (k : Nat) (n sc : Int), k ≤ 5 ∧ p + k ≤ L ∧ i = .int .i64 k ∧ q = .int .i64 n ∧ s = .int .i64 sc ∧ Hid (sc = wt k) ∧ Hid (At zs p k n)
theorem GRel.next {zs : List Int} {L p k : Nat} {n sc c : Int} (HL : Hid (zs.length = L)) (HS : Hid (sc = wt k)) (HA : Hid (At zs p k n)) (h5 : k < 5) (hpl : p + k < L) (HC : Hid (c = zs[p + k]?.getD 0)) (hge : 128 ≤ c) (h255 : c ≤ 255) :
    GRel zs L p (.int .i64 (n + (c - 128) * sc)) (.int .i64 (sc * 128)) (.int .i64 ((k : Int) + 1)) :=
  ⟨k + 1, _, _, by omega, by omega, by go_num, rfl, rfl, by show _ = _; rw [HS.out, wt_succ k h5], by have := HA.out.more h5 (by rw [HL.out]; exact hpl) HC.out hge h255; rw [← HS.out] at this; exact this⟩

theorem ret_two {a b c d : Int} (h1 : a = c) (h2 : b = d) : Ending.returned (.tuple #[.int .i64 a, .int .i64 b]) = .returned (.tuple #[.int .i64 c, .int .i64 d]) := by rw [h1, h2]

set_option maxHeartbeats 1000000 in
theorem implGet_in (b off : Nat) (zs : List Int) (cap p : Nat) (w : World) (hb : isBytes zs) (hcell : ∀ i, i < zs.length → w.cell? ⟨b, off + i, none⟩ = some (.int .u8 (zs[i]?.getD 0))) (hl : zs.length ≤ 2097152) (hcap : zs.length ≤ cap) (hcm : cap ≤ maxLen) (hp : p < zs.length) :
    Calls Try.prog 116 #[.slice (some ⟨b, off, none⟩) zs.length cap, .int .i64 p] w fun e w' => e = .returned (.tuple #[.int .i64 (getNum zs p).1, .int .i64 (getNum zs p).2]) ∧ w' = w := by
  unfold maxLen at hcm
  obtain ⟨L, hL⟩ : ∃ L, zs.length = L := ⟨_, rfl⟩
  have HL : Hid (zs.length = L) := hL
  rw [hL] at hl hcap hp ⊢
  clear hL
  have HC : Hid (∀ i, i < zs.length → w.cell? ⟨b, off + i, none⟩ = some (.int .u8 (zs[i]?.getD 0))) := hcell
  clear hcell
  go_enter Try.func116, Try.ntmps116
  go_wp2
  go_loop [7, 8, 9] (fun q s i => GRel zs L p q s i) (fun _ _ i => 5 - (intOf i).toNat)
  case atStart => exact ⟨0, 0, 1, by omega, by omega, rfl, rfl, rfl, rfl, At.start _ _⟩
  case round =>
    obtain ⟨k, n, sc, hk, hpk, rfl, rfl, rfl, HS, HA⟩ := hrel
    by_cases hlt : k < 5 ∧ p + k < L
    · obtain ⟨h5, hpl⟩ := hlt
      have hpl' : p + k < zs.length := by rw [HL.out]; exact hpl
      have hc := HC.out (p + k) hpl'
      have hbd := hb (p + k)
      obtain ⟨c, HCc⟩ : ∃ c, Hid (c = zs[p + k]?.getD 0) := ⟨_, rfl⟩
      rw [← HCc.out] at hc hbd
      have hc' : w.cell? ⟨b, off + p + k, none⟩ = some (.int .u8 c) := by rw [Nat.add_assoc]; exact hc
      have hwb := wt_bd k h5
      rw [← HS.out] at hwb
      have hn0 := HA.out.1
      have hn1 := HA.out.2.1
      rw [← HS.out] at hn1
      obtain ⟨hs1, hs2⟩ := hwb
      obtain ⟨hc0, hc255⟩ := hbd
      have HZ : Hid _ := hpl'
      clear hc hpl' hb
      by_cases hge : 128 ≤ c
      · obtain ⟨hm0, hm1⟩ := mul_bd (c := c - 128) (s := sc) (m := 127) (by omega) (by omega) hs1 hs2 (by omega)
        have HR : Hid _ := GRel.next HL HS HA h5 hpl HCc hge hc255
        go_wp2
        refine ⟨?_, by simp [intOf]; omega⟩
        first | exact HR.out | exact ⟨_, _, _, _, _, HR.out, rfl, rfl, rfl, rfl, rfl⟩
      · obtain ⟨hm0, hm1⟩ := mul_bd (c := c) (s := sc) (m := 127) (by omega) (by omega) hs1 hs2 (by omega)
        by_cases hbad : (0 < k ∧ c = 0) ∨ 2147483647 < n + c * sc
        · have HB : Hid (getNum zs p = (0, -1)) := HA.out.bad h5 HZ.out HCc.out (by omega) (by rw [← HS.out]; exact hbad)
          go_wp2
          all_goals go_ret2
          all_goals exact ⟨by rw [HB.out]; rfl, rfl⟩
        · have HB : Hid (getNum zs p = (n + c * sc, (p : Int) + k + 1)) := by
            have := HA.out.fin h5 HZ.out HCc.out (by omega) (by rw [← HS.out]; exact hbad)
            rw [← HS.out] at this; exact this
          have hle : n + c * sc ≤ 2147483647 := by omega
          by_cases hk0 : 0 < k
          · have hcz : (c == 0) = false := beq_eq_false_iff_ne.2 (fun h => hbad (.inl ⟨hk0, h⟩))
            clear hbad
            go_wp2
            go_ret2
            exact ⟨by rw [HB.out]; rfl, rfl⟩
          · clear hbad
            go_wp2
            go_ret2
            exact ⟨by rw [HB.out]; rfl, rfl⟩
    · have HB : Hid (getNum zs p = (0, -1)) := HA.out.out (by rw [HL.out]; exact hlt)
      by_cases h5 : k < 5
      · have : L - p ≤ k := by omega
        go_wp2
        go_ret2
        exact ⟨by rw [HB.out]; rfl, rfl⟩
      · go_wp2
        go_ret2
        exact ⟨by rw [HB.out]; rfl, rfl⟩

set_option maxHeartbeats 400000 in
theorem implGet_out (a : Option Addr) (L cap : Nat) (p : Int) (w : World) (hl : L ≤ 2097152) (hp : p < 0 ∨ (L : Int) ≤ p) :
    Calls Try.prog 116 #[.slice a L cap, .int .i64 p] w fun e w' => e = .returned (.tuple #[.int .i64 0, .int .i64 (-1)]) ∧ w' = w := by
  by_cases h0 : p < 0
  · clear hp
    go_enter Try.func116, Try.ntmps116
    go_wp2
    go_ret2
    exact ⟨rfl, rfl⟩
  · have h1 : (L : Int) ≤ p := by omega
    clear hp
    go_enter Try.func116, Try.ntmps116
    go_wp2
    go_ret2
    exact ⟨rfl, rfl⟩

theorem getNum_out (zs : List Int) (p : Int) (hp : p < 0 ∨ (zs.length : Int) ≤ p) : getNum zs p = (0, -1) := by
  unfold getNum
  by_cases h0 : p < 0
  · rw [if_pos h0]
  · rw [if_neg h0, List.drop_eq_nil_of_le (by omega), getLoop_nil]

theorem implGet_any (a : Option Addr) (zs : List Int) (cap : Nat) (p : Int) (w : World) (h : Reads w a zs) (hl : zs.length ≤ 2097152) (hcap : zs.length ≤ cap) (hcm : cap ≤ maxLen) :
    Calls Try.prog 116 #[.slice a zs.length cap, .int .i64 p] w fun e w' => e = .returned (.tuple #[.int .i64 (getNum zs p).1, .int .i64 (getNum zs p).2]) ∧ w' = w := by
  by_cases hp : p < 0 ∨ (zs.length : Int) ≤ p
  · rw [getNum_out zs p hp]; exact implGet_out a zs.length cap p w hl hp
  · obtain ⟨q, rfl⟩ : ∃ q : Nat, p = (q : Int) := ⟨p.toNat, by omega⟩
    obtain ⟨hb, hc⟩ := h
    rcases hc with rfl | ⟨b, off, rfl, hbl, hcell⟩
    · simp at hp
    · exact implGet_in b off zs cap q w hb hcell hl hcap hcm (by omega)

set_option maxHeartbeats 1000000 in
theorem specGet_any (a : Option Addr) (zs : List Int) (cap : Nat) (p : Int) (w : World) (h : Reads w a zs) (hl : zs.length ≤ 2097152) (hpb : p ≤ 9223372036854775807) :
    Calls Try.prog 91 #[.slice a zs.length cap, .int .i64 p] w fun e w' => e = .returned (.tuple #[.int .i64 (getNum zs p).1, .int .i64 (getNum zs p).2]) ∧ w' = w := by
  obtain ⟨hb, hcc⟩ := h
  by_cases h0 : p < 0
  · rw [getNum_out zs p (.inl h0)]
    clear hcc hb
    go_enter Try.func91, Try.ntmps91
    go_wp2
    go_ret2
    exact ⟨rfl, rfl⟩
  obtain ⟨p, rfl⟩ : ∃ q : Nat, p = (q : Int) := ⟨p.toNat, by omega⟩
  obtain ⟨L, hL⟩ : ∃ L, zs.length = L := ⟨_, rfl⟩
  have HL : Hid (zs.length = L) := hL
  rw [hL] at hl ⊢
  clear hL h0
  by_cases hpL : p ≤ L
  · have HC : Hid (zs = [] ∨ ∃ b off, a = some ⟨b, off, none⟩ ∧ b < w.heap.size ∧ ∀ i, i < zs.length → w.cell? ⟨b, off + i, none⟩ = some (.int .u8 (zs[i]?.getD 0))) := hcc
    clear hcc
    go_enter Try.func91, Try.ntmps91
    go_wp2
    go_loop [6, 7, 8] (fun q s i => GRel zs L p q s i) (fun _ _ i => 5 - (intOf i).toNat)
    case atStart => exact ⟨0, 0, 1, by omega, by omega, rfl, rfl, rfl, rfl, At.start _ _⟩
    case round =>
      obtain ⟨k, n, sc, hk, hpk, rfl, rfl, rfl, HS, HA⟩ := hrel
      by_cases hlt : k < 5 ∧ p + k < L
      · obtain ⟨h5, hpl⟩ := hlt
        have hpl' : p + k < zs.length := by rw [HL.out]; exact hpl
        rcases HC.out with rfl | ⟨b, off, rfl, hbl, hcell⟩
        · simp at hpl'
        have hc := hcell (p + k) hpl'
        have hbd := hb (p + k)
        obtain ⟨c, HCc⟩ : ∃ c, Hid (c = zs[p + k]?.getD 0) := ⟨_, rfl⟩
        rw [← HCc.out] at hc hbd
        have hwb := wt_bd k h5
        rw [← HS.out] at hwb
        have hn0 := HA.out.1
        have hn1 := HA.out.2.1
        rw [← HS.out] at hn1
        obtain ⟨hs1, hs2⟩ := hwb
        obtain ⟨hc0, hc255⟩ := hbd
        have HZ : Hid _ := hpl'
        clear hpl' hb hcell
        by_cases hge : 128 ≤ c
        · obtain ⟨hm0, hm1⟩ := mul_bd (c := c % 128) (s := sc) (m := 127) (by omega) (by omega) hs1 hs2 (by omega)
          have hcm : c % 128 = c - 128 := by omega
          have HR := GRel.next HL HS HA h5 hpl HCc hge hc255
          rw [← hcm] at HR
          have HR' : Hid _ := HR
          clear HR hcm
          go_wp2
          refine ⟨?_, by simp [intOf]; omega⟩
          first | exact HR'.out | exact ⟨_, _, _, _, _, HR'.out, rfl, rfl, rfl, rfl, rfl⟩
        · have hcm : c % 128 = c := by omega
          obtain ⟨hm0, hm1⟩ := mul_bd (c := c) (s := sc) (m := 127) (by omega) (by omega) hs1 hs2 (by omega)
          by_cases hbad : (0 < k ∧ c = 0) ∨ 2147483647 < n + c * sc
          · have HB : Hid (getNum zs p = (0, -1)) := HA.out.bad h5 HZ.out HCc.out (by omega) (by rw [← HS.out]; exact hbad)
            rcases hbad with ⟨hk0, rfl⟩ | hgt
            · go_wp2
              all_goals go_ret2
              all_goals exact ⟨by rw [HB.out]; rfl, rfl⟩
            · have hcz' : (c == 0) = false := by
                apply beq_eq_false_iff_ne.2
                rintro rfl
                rw [Int.zero_mul] at hgt
                omega
              go_wp2
              all_goals go_ret2
              all_goals exact ⟨by rw [HB.out]; rfl, rfl⟩
          · have HB : Hid (getNum zs p = (n + c * sc, (p : Int) + k + 1)) := by
              have := HA.out.fin h5 HZ.out HCc.out (by omega) (by rw [← HS.out]; exact hbad)
              rw [← HS.out] at this; exact this
            have hle : n + c * sc ≤ 2147483647 := by omega
            by_cases hcz : c = 0
            · have hk0 : ¬ 0 < k := fun h => hbad (.inl ⟨h, hcz⟩)
              clear hbad
              have hcz' : (c == 0) = true := by simp [hcz]
              have HCZ : Hid _ := hcz
              clear hcz
              go_wp2
              go_ret2
              exact ⟨by rw [HB.out]; first | rfl | simp, rfl⟩
            · have hcz' : (c == 0) = false := beq_eq_false_iff_ne.2 hcz
              clear hbad hcz
              go_wp2
              go_ret2
              exact ⟨by rw [HB.out]; rfl, rfl⟩
      · have HB : Hid (getNum zs p = (0, -1)) := HA.out.out (by rw [HL.out]; exact hlt)
        by_cases h5 : k < 5
        · have : (L : Int) - (p : Int) ≤ k := by omega
          go_wp2
          go_ret2
          exact ⟨by rw [HB.out]; rfl, rfl⟩
        · go_wp2
          go_ret2
          exact ⟨by rw [HB.out]; rfl, rfl⟩
  · rw [getNum_out zs p (.inr (by rw [HL.out]; omega))]
    clear hcc hb
    have : (L : Int) - (p : Int) ≤ 0 := by omega
    go_enter Try.func91, Try.ntmps91
    go_wp2
    refine wp_loop_rounds 1 ?_
    rw [rounds_succ]
    go_wp2
    go_ret2
    exact ⟨rfl, rfl⟩
end Go.Proofs.Ytmjfnmlfamikgaa
end

section
/- What the program's joined and numBytes answer, as plain functions on lists of bytes. Conditions: at most 2^20 bytes come in (what they are called with here). -/
namespace Go.Proofs.Ytmjfnmlfamikgaa
open Go.RowKit
set_option linter.unusedVariables false
set_option maxRecDepth 100000

set_option maxHeartbeats 1000000 in
theorem joined_any (a b : Option Addr) (xs ys : List Int) (ca cb : Nat) (w : World) (hx : Reads w a xs) (hy : Reads w b ys) (hl : xs.length ≤ 2097152) (hm : ys.length ≤ 2097152) :
    Calls Try.prog 88 #[.slice a xs.length ca, .slice b ys.length cb] w fun e w' => e = .returned (.slice (some ⟨w.heap.size, 0, none⟩) (xs ++ ys).length (xs ++ ys).length) ∧
      Owns w' w.heap.size (.slice (some ⟨w.heap.size, 0, none⟩) (xs ++ ys).length (xs ++ ys).length) (xs ++ ys) ∧ Below w.heap.size w w' ∧ w.heap.size < w'.heap.size := by
  obtain ⟨i0, hi, hz0, hz1, hz2⟩ := info_parts Try.infoB
  obtain ⟨m, hm'⟩ : ∃ m, xs.length = m := ⟨_, rfl⟩
  obtain ⟨n, hn'⟩ : ∃ n, ys.length = n := ⟨_, rfl⟩
  have HM : Hid (xs.length = m) := hm'
  have HN : Hid (ys.length = n) := hn'
  rw [List.length_append, hm', hn']
  rw [hm'] at hl
  rw [hn'] at hm
  obtain ⟨X, HX⟩ : ∃ X, Hid (X = bcells xs) := ⟨_, rfl⟩
  obtain ⟨Y, HY⟩ : ∃ Y, Hid (Y = bcells ys) := ⟨_, rfl⟩
  have hXl : X.length = m := by rw [HX.out, bcells_length]; exact hm'
  have hYl : Y.length = n := by rw [HY.out, bcells_length]; exact hn'
  obtain ⟨Z, HZ⟩ : ∃ Z, Hid (Z = bcells (List.replicate (m + n) 0)) := ⟨_, rfl⟩
  have hZl : Z.length = m + n := by rw [HZ.out]; simp
  have hsl : (splice Z 0 X).length = m + n := by rw [length_splice _ _ _ (by omega), hZl]
  have HFIN : Hid (splice (splice Z 0 X) m Y = bcells (xs ++ ys)) := by
    show _ = _
    rw [splice_two Z X Y m hXl (by omega), HX.out, HY.out]; simp [bcells]
  have HX1 : Hid (∀ v ∈ X, v.oneCell' = true) := by show ∀ v ∈ X, v.oneCell' = true; rw [HX.out]; exact bcells_one xs
  have HY1 : Hid (∀ v ∈ Y, v.oneCell' = true) := by show ∀ v ∈ Y, v.oneCell' = true; rw [HY.out]; exact bcells_one ys
  have hXm : X.length = Nat.min m (m + n) := by rw [hXl]; exact (Nat.min_eq_left (by omega)).symm
  have hYm : Y.length = Nat.min n n := by rw [hYl]; exact (Nat.min_self n).symm
  clear hm' hn'
  go_enter Try.func88, Try.ntmps88
  go_wp2_with (first
    | (at_make; refine wpList_make_full _ rfl _ _ 24 rfl w.heap.size 5 i0 (.int .u8 0) 1 Try.underlying24 hi hz0 hz1 .i64 .i64 _ _ (m + n) rfl rfl (by omega) (by omega) (by rw [hz2]; omega) (by unfold maxLen; omega) (Nat.le_refl _) ?_; intro w1 hown hgrow; have hb1 : Below w.heap.size w w1 := (Below.refl _ _).grown hgrow (Nat.le_refl _) (fun k h => by cases h); have hs1 : w.heap.size < w1.heap.size := (hown.lt _ rfl).2; rw [madeCells_bytes, ← HZ.out] at hown; have HG1 : Hid _ := full_heap hown; clear hown hgrow)
    | (refine wpList_copy_splice rfl (.tmp 12) (.tmp 13) 24 24 rfl 5 Try.underlying24 Try.sizeB _ _ _ _ _ _ rfl rfl w.heap.size 0 Z 5 HG1.out X hXm (fun h0 => ⟨rfl, by rw [HX.out] at h0 ⊢; exact (hx.below hb1).src h0⟩) (by omega) HX1.out w.heap.size w hb1 (Nat.le_refl _) ?_; intro w2 HG2 hb2)
    | (refine wpList_copy_splice rfl (.tmp 18) (.tmp 19) 24 24 rfl 5 Try.underlying24 Try.sizeB _ _ _ _ _ _ rfl rfl w.heap.size m (splice Z 0 X) 5 HG2.out Y (by rw [hYl]; simp <;> omega) (fun h0 => ⟨by simp <;> omega, by rw [HY.out] at h0 ⊢; exact (hy.below hb2).src h0⟩) (by omega) HY1.out w.heap.size w hb2 (Nat.le_refl _) ?_; intro w3 HG3 hb3))
  all_goals
    go_ret
    have hg3 := HG3.out
    rw [HFIN.out] at hg3
    exact ⟨rfl, full_owns (by have := HM.out; have := HN.out; rw [List.length_append]; omega) (Nat.le_refl _) (by rw [List.length_append, HM.out, HN.out]; omega) hg3, hb3, lt_of_block hg3⟩

/-- The bytes of a number below 128^(f+1). -/
def numB : Nat → Int → List Int
  | 0, n => [n]
  | f + 1, n => if n < 128 then [n] else (n % 128 + 128) :: numB f (n / 128)

def putB (n : Int) : List Int := if n < 0 ∨ 2147483647 < n then [] else numB 4 n

theorem numB_small (f : Nat) (n : Int) (h : n < 128) : numB f n = [n] := by cases f <;> simp [numB, h]

theorem numB_more (f : Nat) (n : Int) (h : ¬ n < 128) : numB (f + 1) n = (n % 128 + 128) :: numB f (n / 128) := by rw [numB, if_neg h]

theorem numB_len (f : Nat) (n : Int) : 1 ≤ (numB f n).length ∧ (numB f n).length ≤ f + 1 := by
  induction f generalizing n with
  | zero => simp [numB]
  | succ f ih =>
    have := ih (n / 128)
    by_cases h : n < 128
    · rw [numB_small _ _ h]; simp
    · rw [numB_more _ _ h]; simp only [List.length_cons]; omega

theorem numB_bytes (f : Nat) (n : Int) (h0 : 0 ≤ n) (h : n < wt (f + 1)) (hf : f ≤ 4) : isBytes (numB f n) := by
  induction f generalizing n with
  | zero => exact isBytes_cons h0 (by have h2 : n < 128 := h; omega) isBytes_nil
  | succ f ih =>
    by_cases h1 : n < 128
    · rw [numB_small _ _ h1]; exact isBytes_cons h0 (by omega) isBytes_nil
    · rw [numB_more _ _ h1]
      have := wt_succ (f + 1) (by omega)
      exact isBytes_cons (by omega) (by omega) (ih (n / 128) (by omega) (by omega) (by omega))

theorem putB_bytes (n : Int) : isBytes (putB n) := by
  unfold putB
  split
  · exact isBytes_nil
  · exact numB_bytes 4 n (by omega) (by show n < 34359738368; omega) (by omega)

theorem putB_len (n : Int) : (putB n).length ≤ 5 := by
  unfold putB
  split
  · simp
  · exact (numB_len 4 n).2

set_option maxHeartbeats 1000000 in
theorem numBytes_any (n : Int) (w : World) (h0 : 0 ≤ n) (h1 : n ≤ 2147483647) :
    Calls Try.prog 89 #[.int .i64 n] w fun e w' => ∃ (d0 d1 d2 d3 d4 : Int) (c : Nat), e = .returned (.tuple #[.agg #[.int .u8 d0, .int .u8 d1, .int .u8 d2, .int .u8 d3, .int .u8 d4], .int .i64 c]) ∧ 1 ≤ c ∧ c ≤ 5 ∧ [d0, d1, d2, d3, d4].take c = numB 4 n ∧ Below w.heap.size w w' := by
  by_cases s1 : n < 128
  · have HN : Hid (numB 4 n = [n]) := numB_small 4 n s1
    go_enter Try.func89, Try.ntmps89
    go_wp2
    refine wp_loop_rounds 1 ?_
    rw [rounds_succ]
    go_wp2
    exact bodyPost_ret (v := .tuple #[.agg #[.int .u8 n, .int .u8 0, .int .u8 0, .int .u8 0, .int .u8 0], .int .i64 1]) (by simp [results, Try.results89, go_sem]) rfl ⟨n, 0, 0, 0, 0, 1, rfl, by omega, by omega, by rw [HN.out]; rfl, ((Below.refl _ _).alloc (Nat.le_refl _) _).alloc (by simp) _⟩
  by_cases s2 : n / 128 < 128
  · have HN : Hid (numB 4 n = [n % 128 + 128, n / 128]) := by
      show _ = _
      rw [numB_more _ _ s1, numB_small _ _ s2]
    go_enter Try.func89, Try.ntmps89
    go_wp2
    refine wp_loop_rounds 2 ?_
    rw [rounds_succ]
    go_wp2
    rw [rounds_succ]
    go_wp2
    exact bodyPost_ret (v := .tuple #[.agg #[.int .u8 (n % 128 + 128), .int .u8 (n / 128), .int .u8 (0), .int .u8 (0), .int .u8 (0)], .int .i64 2]) (by simp [results, Try.results89, go_sem]) rfl ⟨n % 128 + 128, n / 128, 0, 0, 0, 2, rfl, by omega, by omega, by rw [HN.out]; rfl, ((Below.refl _ _).alloc (Nat.le_refl _) _).alloc (by simp) _⟩
  by_cases s3 : n / 128 / 128 < 128
  · have HN : Hid (numB 4 n = [n % 128 + 128, n / 128 % 128 + 128, n / 128 / 128]) := by
      show _ = _
      rw [numB_more _ _ s1, numB_more _ _ s2, numB_small _ _ s3]
    go_enter Try.func89, Try.ntmps89
    go_wp2
    refine wp_loop_rounds 3 ?_
    rw [rounds_succ]
    go_wp2
    rw [rounds_succ]
    go_wp2
    rw [rounds_succ]
    go_wp2
    exact bodyPost_ret (v := .tuple #[.agg #[.int .u8 (n % 128 + 128), .int .u8 (n / 128 % 128 + 128), .int .u8 (n / 128 / 128), .int .u8 (0), .int .u8 (0)], .int .i64 3]) (by simp [results, Try.results89, go_sem]) rfl ⟨n % 128 + 128, n / 128 % 128 + 128, n / 128 / 128, 0, 0, 3, rfl, by omega, by omega, by rw [HN.out]; rfl, ((Below.refl _ _).alloc (Nat.le_refl _) _).alloc (by simp) _⟩
  by_cases s4 : n / 128 / 128 / 128 < 128
  · have HN : Hid (numB 4 n = [n % 128 + 128, n / 128 % 128 + 128, n / 128 / 128 % 128 + 128, n / 128 / 128 / 128]) := by
      show _ = _
      rw [numB_more _ _ s1, numB_more _ _ s2, numB_more _ _ s3, numB_small _ _ s4]
    go_enter Try.func89, Try.ntmps89
    go_wp2
    refine wp_loop_rounds 4 ?_
    rw [rounds_succ]
    go_wp2
    rw [rounds_succ]
    go_wp2
    rw [rounds_succ]
    go_wp2
    rw [rounds_succ]
    go_wp2
    exact bodyPost_ret (v := .tuple #[.agg #[.int .u8 (n % 128 + 128), .int .u8 (n / 128 % 128 + 128), .int .u8 (n / 128 / 128 % 128 + 128), .int .u8 (n / 128 / 128 / 128), .int .u8 (0)], .int .i64 4]) (by simp [results, Try.results89, go_sem]) rfl ⟨n % 128 + 128, n / 128 % 128 + 128, n / 128 / 128 % 128 + 128, n / 128 / 128 / 128, 0, 4, rfl, by omega, by omega, by rw [HN.out]; rfl, ((Below.refl _ _).alloc (Nat.le_refl _) _).alloc (by simp) _⟩
  · have s5 : n / 128 / 128 / 128 / 128 < 128 := by omega
    have HN : Hid (numB 4 n = [n % 128 + 128, n / 128 % 128 + 128, n / 128 / 128 % 128 + 128, n / 128 / 128 / 128 % 128 + 128, n / 128 / 128 / 128 / 128]) := by
      show _ = _
      rw [numB_more _ _ s1, numB_more _ _ s2, numB_more _ _ s3, numB_more _ _ s4, numB_small _ _ s5]
    go_enter Try.func89, Try.ntmps89
    go_wp2
    refine wp_loop_rounds 5 ?_
    rw [rounds_succ]
    go_wp2
    rw [rounds_succ]
    go_wp2
    rw [rounds_succ]
    go_wp2
    rw [rounds_succ]
    go_wp2
    rw [rounds_succ]
    go_wp2
    exact bodyPost_ret (v := .tuple #[.agg #[.int .u8 (n % 128 + 128), .int .u8 (n / 128 % 128 + 128), .int .u8 (n / 128 / 128 % 128 + 128), .int .u8 (n / 128 / 128 / 128 % 128 + 128), .int .u8 (n / 128 / 128 / 128 / 128)], .int .i64 5]) (by simp [results, Try.results89, go_sem]) rfl ⟨n % 128 + 128, n / 128 % 128 + 128, n / 128 / 128 % 128 + 128, n / 128 / 128 / 128 % 128 + 128, n / 128 / 128 / 128 / 128, 5, rfl, by omega, by omega, by rw [HN.out]; rfl, ((Below.refl _ _).alloc (Nat.le_refl _) _).alloc (by simp) _⟩
end Go.Proofs.Ytmjfnmlfamikgaa
end

section
/- The program's PutNum and the specification's PutNum answer the bytes that came in and the number's bytes behind them, in memory of their own. Conditions: at most 2^20 + 100 bytes come in. -/
namespace Go.Proofs.Ytmjfnmlfamikgaa
open Go.RowKit
set_option linter.unusedVariables false
set_option maxRecDepth 100000

theorem slice5 (b c : Nat) (W : World) (h : c ≤ 5) : (Instr.sliceAt 118 (.pointer (some ⟨b, 0, none⟩)) none (some (.int .i64 (c : Int))) none).run Try.prog W = .ok (.slice (some ⟨b, 0, none⟩) c 5) W := by
  have hal : Try.prog.arrayLen 118 = 5 := by simp [Program.arrayLen, Try.underlying118]
  rw [run_sliceAt_array_h W 118 ⟨b, 0, none⟩ (by simp [Program.arrayLen, Program.elem, Try.underlying118]) .i64 (c : Int) (by omega) (by rw [hal]; omega)]
  go_simp

theorem take5 {d0 d1 d2 d3 d4 : Int} {c : Nat} {ys : List Int} (hc : c ≤ 5) (h : [d0, d1, d2, d3, d4].take c = ys) : ys.length = c ∧ ∀ i, i < c → ys[i]?.getD 0 = [d0, d1, d2, d3, d4][i]?.getD 0 := by
  subst h
  refine ⟨by simp; omega, fun i hi => ?_⟩
  rw [List.getElem?_take, if_pos hi]

theorem reads_array (w : World) (d0 d1 d2 d3 d4 : Int) (c : Nat) (t : TypeId) (ys : List Int) (hb : isBytes ys) (hc : c ≤ 5) (h : [d0, d1, d2, d3, d4].take c = ys) :
    Reads (w.alloc (.cells #[.int .u8 d0, .int .u8 d1, .int .u8 d2, .int .u8 d3, .int .u8 d4] t)) (some ⟨w.heap.size, 0, none⟩) ys := by
  obtain ⟨hl, hi⟩ := take5 hc h
  refine ⟨hb, .inr ⟨w.heap.size, 0, rfl, by simp, fun i hlt => ?_⟩⟩
  rw [World.cell?_alloc_at _ _ _ _ rfl, hi i (by omega), Nat.zero_add]
  have h5 : i < 5 := by omega
  rcases (show i = 0 ∨ i = 1 ∨ i = 2 ∨ i = 3 ∨ i = 4 from by omega) with rfl | rfl | rfl | rfl | rfl <;> rfl

theorem joined_v (a b : Option Addr) (xs ys : List Int) (m n ca cb : Nat) (w : World) (hx : Reads w a xs) (hy : Reads w b ys) (hm : m = xs.length) (hn : n = ys.length) (hl : xs.length ≤ 2097152) (hl' : ys.length ≤ 2097152) :
    Calls Try.prog 88 #[.slice a m ca, .slice b n cb] w fun e w' => ∃ v, e = .returned v ∧ Owns w' w.heap.size v (xs ++ ys) ∧ Below w.heap.size w w' := by
  subst hm; subst hn
  exact (joined_any a b xs ys ca cb w hx hy hl hl').mono fun e w' ⟨he, ho, hb, _⟩ => ⟨_, he, ho, hb⟩

set_option maxHeartbeats 1000000 in
theorem implPut_any (a : Option Addr) (xs : List Int) (len cap : Nat) (n : Int) (w : World) (hx : Reads w a xs) (hlen : len = xs.length) (hl : xs.length ≤ 2097152) :
    Calls Try.prog 48 #[.slice a len cap, .int .i64 n] w fun e w' => ∃ v, e = .returned v ∧ Owns w' w.heap.size v (xs ++ putB n) ∧ Below w.heap.size w w' := by
  by_cases hn : n < 0 ∨ 2147483647 < n
  · have hp : putB n = [] := by unfold putB; rw [if_pos hn]
    rw [hp]
    clear hp
    have HE : Hid _ := hlen
    clear hlen
    rcases hn with hn | hn
    all_goals
      go_enter Try.func48, Try.ntmps48
      go_wp2_with fail
      refine (joined_v a none xs [] _ _ _ _ w hx (reads_none _ _) HE.out rfl hl (by simp)).mono ?_
      rintro e w1 ⟨v, rfl, ho, hb⟩
      go_wp2
      go_ret
      exact ⟨v, rfl, ho, hb⟩
  · have h0 : 0 ≤ n := by omega
    have h1 : n ≤ 2147483647 := by omega
    have hp : putB n = numB 4 n := by unfold putB; rw [if_neg hn]
    have hbB := putB_bytes n
    rw [hp] at hbB ⊢
    have HE : Hid _ := hlen
    clear hp hn hlen
    go_enter Try.func48, Try.ntmps48
    go_wp2_with fail
    refine (numBytes_any n w h0 h1).mono ?_
    rintro e w1 ⟨d0, d1, d2, d3, d4, c, rfl, hc1, hc5, htake, hb1⟩
    have hlen := (take5 hc5 htake).1
    have hrY := reads_array w1 d0 d1 d2 d3 d4 _ 118 _ hbB hc5 htake
    have hb2 : Below w1.heap.size w1 (w1.alloc (.cells #[.int .u8 d0, .int .u8 d1, .int .u8 d2, .int .u8 d3, .int .u8 d4] 118)) := (Below.refl _ _).alloc (Nat.le_refl _) _
    have hsl := fun W => slice5 w1.heap.size c W hc5
    have HB2 : Hid _ := hb2
    have HRY : Hid _ := hrY
    have HC : Hid _ := hlen
    clear htake hb2 hrY hlen
    go_wp2_with fail
    refine (joined_v a (some ⟨w1.heap.size, 0, none⟩) xs (numB 4 n) _ _ _ _ _ ((hx.below hb1).below HB2.out) HRY.out HE.out HC.out.symm hl (by rw [HC.out]; omega)).mono ?_
    rintro e w3 ⟨v, rfl, ho, hb3⟩
    have hs1 := hb1.size
    have HF : Hid (Owns w3 w.heap.size v (xs ++ numB 4 n) ∧ Below w.heap.size w w3) := ⟨ho.base (by simp; omega), (hb1.trans (HB2.out.mono hs1)).trans (hb3.mono (by simp; omega))⟩
    clear ho hb3 HB2 HRY hsl
    go_wp2
    go_ret
    exact ⟨v, rfl, HF.out.1, HF.out.2⟩

/-- What holds at the head of each round of the specification's loop. -/
def SRel (xs : List Int) (n : Int) (w : World) (o q : Value) (wr : World) : Prop :=
  ∃ (f : Nat) (m : Int) (pre : List Int), f ≤ 4 ∧ 0 ≤ m ∧ m < wt (f + 1) ∧ q = .int .i64 m ∧ pre.length + f = 4 ∧ numB 4 n = pre ++ numB f m ∧ Owns wr w.heap.size o (xs ++ pre) ∧ Below w.heap.size w wr

set_option maxHeartbeats 1000000 in
theorem specPut_any (a : Option Addr) (xs : List Int) (len cap : Nat) (n : Int) (w : World) (hx : Reads w a xs) (hlen : len = xs.length) (hl : xs.length ≤ 2097152) (hnil : a = none → len = 0 ∧ cap = 0) :
    Calls Try.prog 79 #[.slice a len cap, .int .i64 n] w fun e w' => ∃ v, e = .returned v ∧ Owns w' w.heap.size v (xs ++ putB n) ∧ Below w.heap.size w w' := by
  have HE : Hid _ := hlen
  have HX : Hid (Reads (w.alloc (.cells #[] 5)) a xs) := hx.below ((Below.refl _ _).alloc (Nat.le_refl _) _)
  have HNIL : Hid _ := hnil
  have HL : Hid _ := hl
  have HB1 : Hid (Below w.heap.size w (w.alloc (.cells #[] 5))) := (Below.refl _ _).alloc (Nat.le_refl _) _
  clear hlen hx hnil hl
  by_cases hn : n < 0 ∨ 2147483647 < n
  · have hp : putB n = [] := by unfold putB; rw [if_pos hn]
    rw [hp, List.append_nil]
    clear hp
    rcases hn with hn | hn
    all_goals
      go_enter Try.func79, Try.ntmps79
      go_wp2_with (at_builtin; go_must (refine wpList_app _ rfl (.tmp 6) (.tmp 7) rfl w.heap.size _ [] xs rfl (owns_empty w) a len cap rfl HE.out HX.out (by simp) (by have := HL.out; omega) (by simp) HNIL.out ?_; intro v w1 ho hg))
      go_ret
      exact ⟨v, rfl, by simpa using ho, HB1.out.grown hg (by simp) (fun k hk => ((owns_empty w).lt k hk).1)⟩
  · have h0 : 0 ≤ n := by omega
    have h1 : n ≤ 2147483647 := by omega
    have hp : putB n = numB 4 n := by unfold putB; rw [if_neg hn]
    rw [hp]
    clear hp hn
    go_enter Try.func79, Try.ntmps79
    go_wp2_with (at_builtin; go_must (refine wpList_app _ rfl (.tmp 6) (.tmp 7) rfl w.heap.size _ [] xs rfl (owns_empty w) a len cap rfl HE.out HX.out (by simp) (by have := HL.out; omega) (by simp) HNIL.out ?_; intro v w1 ho hg))
    go_loopw [5, 1] (fun o q wr => SRel xs n w o q wr) (fun _ q _ => (intOf q).toNat)
    case atStart => exact ⟨4, n, [], by omega, h0, by show n < 34359738368; omega, rfl, rfl, rfl, by simpa using ho, HB1.out.grown hg (by simp) (fun k hk => ((owns_empty w).lt k hk).1)⟩
    case round =>
      clear ho hg
      obtain ⟨f, m, pre, hf, hm0, hm1, rfl, hpf, hpre, hown, hbel⟩ := hrel
      have hsz := hbel.size
      have HO : Hid _ := hown
      have HP : Hid _ := hpre
      have HBE : Hid _ := hbel
      have HM1 : Hid _ := hm1
      have hmt : m ≤ 34359738368 := by
        have : wt (f + 1) ≤ 34359738368 := by
          rcases (show f = 0 ∨ f = 1 ∨ f = 2 ∨ f = 3 ∨ f = 4 from by omega) with rfl | rfl | rfl | rfl | rfl <;> decide
        omega
      clear hown hpre hbel hm1
      by_cases hge : 127 < m
      · go_wp2_with (at_builtin; go_must (refine wpList_app _ rfl (.tmp 18) (.tmp 23) rfl w.heap.size _ (xs ++ pre) [m % 128 + 128] rfl (HO.out.alloc _) _ 1 1 rfl rfl (one_new _ (m % 128 + 128) (by omega) (by omega)) (by have := HL.out; simp; omega) (by simp) (by simp; omega) (fun h => by cases h) ?_; intro v2 w2 ho2 hg2))
        have HR : SRel xs n w v2 (.int .i64 (m / 128)) w2 := by
          have hm1 := HM1.out
          obtain ⟨f, rfl⟩ : ∃ g, f = g + 1 := by
            cases f with
            | zero => exact absurd hm1 (by show ¬ m < 128; omega)
            | succ g => exact ⟨g, rfl⟩
          have hw := wt_succ (f + 1) (by omega)
          refine ⟨f, m / 128, pre ++ [m % 128 + 128], by omega, by omega, by omega, rfl, by simp; omega, ?_, ?_, (HBE.out.alloc hsz _).grown hg2 (by simp; omega) (fun k hk => (HO.out.lt k hk).1)⟩
          · rw [HP.out, numB_more f m (by omega), List.append_assoc]; rfl
          · rw [← List.append_assoc]; exact ho2
        refine ⟨?_, by simp [intOf]; omega⟩
        first | exact HR | exact ⟨_, _, HR, rfl, rfl⟩
      · have hm1 := HM1.out
        go_wp2_with (at_builtin; go_must (refine wpList_app _ rfl (.tmp 27) (.tmp 30) rfl w.heap.size _ (xs ++ pre) [m] rfl (HO.out.alloc _) _ 1 1 rfl rfl (one_new _ m (by omega) (by omega)) (by have := HL.out; simp; omega) (by simp) (by simp; omega) (fun h => by cases h) ?_; intro v2 w2 ho2 hg2))
        go_ret
        refine ⟨v2, rfl, ?_, ?_⟩
        · rw [HP.out, numB_small f m (by omega), ← List.append_assoc]; exact ho2
        · exact (HBE.out.alloc hsz _).grown hg2 (by simp; omega) (fun k hk => (HO.out.lt k hk).1)
end Go.Proofs.Ytmjfnmlfamikgaa
end

section
/- PutNum over byte slices of the call's own; at most 2^20 + 100 bytes come in. -/
namespace Go.Proofs.Ytmjfnmlfamikgaa
open Go.RowKit
set_option linter.unusedVariables false
set_option maxRecDepth 100000

theorem implPut_v (v : Value) (xs : List Int) (base : Nat) (n : Int) (w : World) (hx : Owns w base v xs) (bx : isBytes xs) (hl : xs.length ≤ 2097152) :
    Calls Try.prog 48 #[v, .int .i64 n] w fun e w' => ∃ v, e = .returned v ∧ Owns w' w.heap.size v (xs ++ putB n) ∧ Below w.heap.size w w' := by
  obtain ⟨a, ca, rfl, _, _, ra⟩ := hx.open bx
  exact implPut_any a xs _ ca n w ra rfl hl

theorem specPut_v (v : Value) (xs : List Int) (base : Nat) (n : Int) (w : World) (hx : Owns w base v xs) (bx : isBytes xs) (hl : xs.length ≤ 2097152) :
    Calls Try.prog 79 #[v, .int .i64 n] w fun e w' => ∃ v, e = .returned v ∧ Owns w' w.heap.size v (xs ++ putB n) ∧ Below w.heap.size w w' := by
  rcases hx.2 with ⟨rfl, h0⟩ | ⟨g, c, cur, rfl, _⟩
  · exact specPut_any none xs 0 0 n w (hx.reads bx).2 h0.symm hl (fun _ => ⟨rfl, rfl⟩)
  · exact specPut_any _ xs _ c n w (hx.reads bx).2 rfl hl (fun h => by cases h)
end Go.Proofs.Ytmjfnmlfamikgaa
end

section
/- The program's and the specification's PutText and GetText answer the same plain functions on lists of bytes, in memory of their own. Conditions: at most 2,000,000 bytes come in. -/
namespace Go.Proofs.Ytmjfnmlfamikgaa
open Go.RowKit
set_option linter.unusedVariables false
set_option maxRecDepth 100000

def textB (t : List Int) : List Int := if 40 < t.length then [] else putB t.length ++ t
def getText (zs : List Int) (p : Int) : List Int × Int :=
  if (getNum zs p).2 < 0 ∨ 40 < (getNum zs p).1 ∨ (zs.length : Int) - (getNum zs p).2 < (getNum zs p).1 then ([], -1)
  else ((zs.drop (getNum zs p).2.toNat).take (getNum zs p).1.toNat, (getNum zs p).2 + (getNum zs p).1)

theorem textB_bytes {t : List Int} (h : isBytes t) : isBytes (textB t) := by
  unfold textB
  split
  · exact isBytes_nil
  · exact isBytes_append (putB_bytes _) h
theorem textB_len (t : List Int) : (textB t).length ≤ 45 := by
  unfold textB
  split
  · simp
  · have := putB_len (t.length : Int); rw [List.length_append]; omega
theorem isBytes_drop {zs : List Int} (h : isBytes zs) (k : Nat) : isBytes (zs.drop k) := fun j => by rw [List.getElem?_drop]; exact h _
theorem isBytes_take {zs : List Int} (h : isBytes zs) (k : Nat) : isBytes (zs.take k) := fun j => by
  rw [List.getElem?_take]
  split
  · exact h j
  · simp
theorem getText_bytes {zs : List Int} (h : isBytes zs) (p : Int) : isBytes (getText zs p).1 := by
  unfold getText
  split
  · exact isBytes_nil
  · exact isBytes_take (isBytes_drop h _) _
theorem getText_len (zs : List Int) (p : Int) : (getText zs p).1.length ≤ 40 := by
  unfold getText
  split
  · simp
  · simp only [List.length_take]; omega

theorem getLoop_fits {f : Nat} {r : List Int} {i : Nat} {n sc : Int} {m : Int} {c : Nat} (hr : isBytes r) (hn : 0 ≤ n) (hs : 0 ≤ sc) (h : getLoop f r i n sc = some (m, c)) : 0 ≤ m ∧ m ≤ 2147483647 ∧ i < c ∧ c ≤ i + r.length := by
  induction f generalizing r i n sc with
  | zero => cases h
  | succ f ih =>
    cases r with
    | nil => cases h
    | cons x r =>
      have hx : 0 ≤ x ∧ x ≤ 255 := by simpa using hr 0
      have hr' : isBytes r := fun j => by simpa using hr (j + 1)
      by_cases h1 : 128 ≤ x
      · rw [getLoop_more h1] at h
        have := ih hr' (by have := Int.mul_nonneg (show 0 ≤ x - 128 by omega) hs; omega) (by omega) h
        simp only [List.length_cons]; omega
      · by_cases h2 : (0 < i ∧ x = 0) ∨ 2147483647 < n + x * sc
        · rw [getLoop_bad h1 h2] at h; cases h
        · rw [getLoop_end h1 h2] at h
          simp only [Option.some.injEq, Prod.mk.injEq] at h
          obtain ⟨rfl, rfl⟩ := h
          have := Int.mul_nonneg hx.1 hs
          simp only [List.length_cons]; omega
theorem getNum_fits {zs : List Int} {p n nx : Int} (hz : isBytes zs) (h : getNum zs p = (n, nx)) : (n = 0 ∧ nx = -1) ∨ (0 ≤ n ∧ n ≤ 2147483647 ∧ 0 ≤ p ∧ p < nx ∧ nx ≤ zs.length) := by
  unfold getNum at h
  split at h
  · simp only [Prod.mk.injEq] at h; exact .inl ⟨h.1.symm, h.2.symm⟩
  · split at h
    · simp only [Prod.mk.injEq] at h; exact .inl ⟨h.1.symm, h.2.symm⟩
    · rename_i m c hg
      simp only [Prod.mk.injEq] at h
      obtain ⟨rfl, rfl⟩ := h
      have := getLoop_fits (isBytes_drop hz _) (by omega) (by omega) hg
      rw [List.length_drop] at this
      right; omega

theorem joined_ov (v : Value) (b : Option Addr) (xs ys : List Int) (base n cb : Nat) (w : World) (hx : Owns w base v xs) (bx : isBytes xs) (hy : Reads w b ys) (hn : n = ys.length) (hl : xs.length ≤ 2097152) (hl' : ys.length ≤ 2097152) :
    Calls Try.prog 88 #[v, .slice b n cb] w fun e w' => ∃ v, e = .returned v ∧ Owns w' w.heap.size v (xs ++ ys) ∧ Below w.heap.size w w' := by
  obtain ⟨a, ca, rfl, _, _, ra⟩ := hx.open bx
  exact joined_v a b xs ys _ n ca cb w ra hy rfl hn hl hl'

set_option maxHeartbeats 1000000 in
theorem implPutText_any (a b : Option Addr) (xs ts : List Int) (la ca lb cb : Nat) (w : World) (hx : Reads w a xs) (hy : Reads w b ts) (hla : la = xs.length) (hlb : lb = ts.length) (hl : xs.length ≤ 2000000) (hm : ts.length ≤ 2000000) :
    Calls Try.prog 85 #[.slice a la ca, .slice b lb cb] w fun e w' => ∃ v, e = .returned v ∧ Owns w' w.heap.size v (xs ++ textB ts) ∧ Below w.heap.size w w' := by
  have HLA : Hid _ := hla
  have HLB : Hid _ := hlb
  have hlb' : lb ≤ 2000000 := by omega
  clear hla hlb
  by_cases h40 : 40 < lb
  · have HT : Hid (textB ts = []) := by show _ = _; unfold textB; rw [if_pos (by rw [← HLB.out]; exact h40)]
    go_enter Try.func85, Try.ntmps85
    go_wp2_with fail
    refine (joined_v a none xs [] _ _ _ _ w hx (reads_none _ _) HLA.out rfl (by omega) (by simp)).mono ?_
    rintro e w1 ⟨v, rfl, ho, hb⟩
    go_wp2
    go_ret
    exact ⟨v, rfl, by rw [HT.out]; exact ho, hb⟩
  · have HT : Hid (textB ts = putB (lb : Int) ++ ts) := by show _ = _; unfold textB; rw [if_neg (by rw [← HLB.out]; exact h40), HLB.out]
    go_enter Try.func85, Try.ntmps85
    go_wp2_with fail
    refine (implPut_any a xs _ _ _ _ hx HLA.out (by omega)).mono ?_
    rintro e w1 ⟨v1, rfl, o1, b1⟩
    have hp := putB_len (lb : Int)
    go_wp2_with fail
    refine (joined_ov v1 b (xs ++ putB (lb : Int)) ts _ _ _ _ o1 (isBytes_append hx.1 (putB_bytes _)) (hy.below b1) HLB.out (by rw [List.length_append]; omega) (by omega)).mono ?_
    rintro e w2 ⟨v2, rfl, o2, b2⟩
    go_wp2
    go_ret
    exact ⟨v2, rfl, by rw [HT.out, ← List.append_assoc]; exact o2.base b1.size, b1.trans (b2.mono b1.size)⟩

set_option maxHeartbeats 1000000 in
theorem specPutText_any (a b : Option Addr) (xs ts : List Int) (la ca lb cb : Nat) (w : World) (hx : Reads w a xs) (hy : Reads w b ts) (hla : la = xs.length) (hlb : lb = ts.length) (hl : xs.length ≤ 2000000) (hm : ts.length ≤ 2000000)
    (na : a = none → la = 0 ∧ ca = 0) (nb : b = none → lb = 0 ∧ cb = 0) :
    Calls Try.prog 114 #[.slice a la ca, .slice b lb cb] w fun e w' => ∃ v, e = .returned v ∧ Owns w' w.heap.size v (xs ++ textB ts) ∧ Below w.heap.size w w' := by
  have HLA : Hid _ := hla
  have HLB : Hid _ := hlb
  have NA : Hid _ := na
  have NB : Hid _ := nb
  have hlb' : lb ≤ 2000000 := by omega
  have HX : Hid (Reads (w.alloc (.cells #[] 5)) a xs) := hx.below ((Below.refl _ _).alloc (Nat.le_refl _) _)
  have HB1 : Hid (Below w.heap.size w (w.alloc (.cells #[] 5))) := (Below.refl _ _).alloc (Nat.le_refl _) _
  clear hla hlb na nb
  by_cases h40 : 40 < lb
  · have HT : Hid (textB ts = []) := by show _ = _; unfold textB; rw [if_pos (by rw [← HLB.out]; exact h40)]
    go_enter Try.func114, Try.ntmps114
    go_wp2_with (at_builtin; go_must (refine wpList_app _ rfl (.tmp 8) (.tmp 9) rfl w.heap.size _ [] xs rfl (owns_empty w) a la ca rfl HLA.out HX.out (by simp) (by omega) (by simp) NA.out ?_; intro v w1 ho hg))
    go_ret
    exact ⟨v, rfl, by rw [HT.out]; simpa using ho, HB1.out.grown hg (by simp) (fun k hk => ((owns_empty w).lt k hk).1)⟩
  · have HT : Hid (textB ts = putB (lb : Int) ++ ts) := by show _ = _; unfold textB; rw [if_neg (by rw [← HLB.out]; exact h40), HLB.out]
    clear HX HB1
    go_enter Try.func114, Try.ntmps114
    go_wp2_with fail
    refine (specPut_any a xs _ _ _ _ hx HLA.out (by omega) NA.out).mono ?_
    rintro e w1 ⟨v1, rfl, o1, b1⟩
    have hp := putB_len (lb : Int)
    go_wp2_with (at_builtin; go_must (refine wpList_app _ rfl (.tmp 14) (.tmp 15) rfl w.heap.size v1 (xs ++ putB (lb : Int)) ts rfl o1 b lb cb rfl HLB.out (hy.below b1) (by rw [List.length_append]; omega) (by omega) b1.size NB.out ?_; intro v2 w2 ho hg))
    go_ret
    exact ⟨v2, rfl, by rw [HT.out, ← List.append_assoc]; exact ho, b1.grown hg b1.size (fun k hk => (o1.lt k hk).1)⟩
end Go.Proofs.Ytmjfnmlfamikgaa
end

section
/- Plain facts on numbers and texts as bytes: what was put is got; what is got is just the bytes of it. -/
namespace Go.Proofs.Ytmjfnmlfamikgaa
set_option linter.unusedVariables false

theorem getLoop_put (f : Nat) (n : Int) (r : List Int) (i : Nat) (m sc : Int) (h0 : 0 ≤ n) (h1 : n < wt (f + 1)) (hf : f ≤ 4) (hi : i = 0 ∨ 0 < n) (hs : 0 ≤ sc) (hm : m + n * sc ≤ 2147483647) :
    getLoop (f + 1) (numB f n ++ r) i m sc = some (m + n * sc, i + (numB f n).length) := by
  induction f generalizing n i m sc with
  | zero =>
    have h2 : n < 128 := h1
    show getLoop 1 (n :: r) i m sc = _
    rw [getLoop_end (by omega) (by omega)]; rfl
  | succ f ih =>
    by_cases h2 : n < 128
    · rw [numB_small _ _ h2]
      show getLoop (f + 1 + 1) (n :: r) i m sc = _
      rw [getLoop_end (by omega) (by omega)]; rfl
    · rw [numB_more _ _ h2]
      show getLoop (f + 1 + 1) ((n % 128 + 128) :: (numB f (n / 128) ++ r)) i m sc = _
      rw [getLoop_more (by omega)]
      have hw := wt_succ (f + 1) (by omega)
      have e : m + (n % 128 + 128 - 128) * sc + n / 128 * (sc * 128) = m + n * sc := by
        have hn : n = 128 * (n / 128) + n % 128 := by omega
        generalize n / 128 = q at hn
        generalize n % 128 = t at hn
        subst hn
        grind
      rw [ih (n / 128) (i + 1) _ _ (by omega) (by omega) (by omega) (.inr (by omega)) (by omega) (by rw [e]; exact hm), e]
      simp only [List.length_cons]
      congr 2
      omega
theorem getNum_put (ys r : List Int) (n : Int) (h0 : 0 ≤ n) (h1 : n ≤ 2147483647) : getNum (ys ++ putB n ++ r) (ys.length : Int) = (n, (ys.length : Int) + ((putB n).length : Int)) := by
  have hp : putB n = numB 4 n := by unfold putB; rw [if_neg (by omega)]
  rw [hp, getNum_some (n := n) (c := (numB 4 n).length)]
  rw [List.append_assoc, List.drop_left]
  have := getLoop_put 4 n r 0 0 1 h0 (by show n < 34359738368; omega) (by omega) (.inl rfl) (by omega) (by omega)
  rw [this]
  simp
theorem getText_put (cs ts : List Int) (h : ts.length ≤ 40) : getText (cs ++ textB ts) (cs.length : Int) = (ts, ((cs ++ textB ts).length : Int)) := by
  have ht : textB ts = putB (ts.length : Int) ++ ts := by unfold textB; rw [if_neg (by omega)]
  rw [ht, ← List.append_assoc]
  have hg := getNum_put cs ts (ts.length : Int) (by omega) (by omega)
  unfold getText
  rw [hg]
  rw [if_neg (by simp only [List.length_append]; omega)]
  have e : ((cs.length : Int) + ((putB (ts.length : Int)).length : Int)).toNat = (cs ++ putB (ts.length : Int)).length := by rw [List.length_append]; omega
  simp only [e, List.drop_left, Int.toNat_natCast, List.take_length]
  simp only [List.length_append]
  congr 1
theorem getLoop_only (f : Nat) (r : List Int) (i : Nat) (m sc v : Int) (c : Nat) (hr : isBytes r) (h : getLoop (f + 1) r i m sc = some (v, c)) :
    ∃ q, 0 ≤ q ∧ v = m + q * sc ∧ i < c ∧ r.take (c - i) = numB f q ∧ (0 < i → 0 < q) := by
  induction f generalizing r i m sc with
  | zero =>
    cases r with
    | nil => cases h
    | cons x r =>
      have hx : 0 ≤ x ∧ x ≤ 255 := by simpa using hr 0
      by_cases h1 : 128 ≤ x
      · rw [getLoop_more h1] at h; cases h
      · by_cases h2 : (0 < i ∧ x = 0) ∨ 2147483647 < m + x * sc
        · rw [getLoop_bad h1 h2] at h; cases h
        · rw [getLoop_end h1 h2] at h
          simp only [Option.some.injEq, Prod.mk.injEq] at h
          obtain ⟨rfl, rfl⟩ := h
          exact ⟨x, hx.1, rfl, by omega, by rw [show i + 1 - i = 1 by omega]; rfl, fun hi => by omega⟩
  | succ f ih =>
    cases r with
    | nil => cases h
    | cons x r =>
      have hx : 0 ≤ x ∧ x ≤ 255 := by simpa using hr 0
      have hr' : isBytes r := fun j => by simpa using hr (j + 1)
      by_cases h1 : 128 ≤ x
      · rw [getLoop_more h1] at h
        obtain ⟨q, hq0, hv, hic, htk, hpos⟩ := ih r (i + 1) _ _ hr' h
        have hq := hpos (by omega)
        refine ⟨(x - 128) + 128 * q, by omega, ?_, by omega, ?_, fun _ => by omega⟩
        · rw [hv]; grind
        · rw [show c - i = (c - (i + 1)) + 1 by omega, List.take_succ_cons, htk, numB_more _ _ (by omega)]
          have e1 : (x - 128 + 128 * q) % 128 + 128 = x := by omega
          have e2 : (x - 128 + 128 * q) / 128 = q := by omega
          rw [e1, e2]
      · by_cases h2 : (0 < i ∧ x = 0) ∨ 2147483647 < m + x * sc
        · rw [getLoop_bad h1 h2] at h; cases h
        · rw [getLoop_end h1 h2] at h
          simp only [Option.some.injEq, Prod.mk.injEq] at h
          obtain ⟨rfl, rfl⟩ := h
          exact ⟨x, hx.1, rfl, by omega, by rw [show i + 1 - i = 1 by omega, numB_small _ _ (by omega)]; rfl, fun hi => by omega⟩
theorem getNum_only (zs : List Int) (p n : Int) (s : Nat) (hz : isBytes zs) (h : getNum zs p = (n, (s : Int))) : 0 ≤ p ∧ p.toNat ≤ s ∧ s ≤ zs.length ∧ zs.take p.toNat ++ putB n = zs.take s := by
  have hfit := getNum_fits hz h
  obtain ⟨hn0, hn1, hp0, hps, hsl⟩ : 0 ≤ n ∧ n ≤ 2147483647 ∧ 0 ≤ p ∧ p < (s : Int) ∧ (s : Int) ≤ zs.length := by omega
  refine ⟨hp0, by omega, by omega, ?_⟩
  unfold getNum at h
  rw [if_neg (by omega)] at h
  split at h
  · simp only [Prod.mk.injEq] at h; omega
  · rename_i m c hg
    simp only [Prod.mk.injEq] at h
    obtain ⟨rfl, hs⟩ := h
    obtain ⟨q, hq0, hv, hic, htk, _⟩ := getLoop_only 4 _ 0 0 1 _ _ (isBytes_drop hz _) hg
    obtain rfl : m = q := by omega
    have hpb : putB m = numB 4 m := by unfold putB; rw [if_neg (by omega)]
    rw [hpb, ← htk, Nat.sub_zero, ← List.take_add]
    congr 1
    omega
end Go.Proofs.Ytmjfnmlfamikgaa
end

section
/- The bytes of handles, operations, replies, parts and messages, as data; no condition. -/
namespace Go.Proofs.Ytmjfnmlfamikgaa
open Go.RowKit
set_option linter.unusedVariables false
set_option linter.unusedSimpArgs false
set_option maxRecDepth 100000

def flagB (b : Bool) : List Int := if b then [1] else [0]
def hdB (h : Hd) : List Int := putB h.sh ++ (putB h.ino ++ flagB h.dir)
def opB (o : OpD) : List Int := putB o.kind ++ (hdB o.dir ++ (textB o.nm ++ (hdB o.to ++ (textB o.asn ++ putB o.val))))
def enB (e : En) : List Int := textB e.nm ++ hdB e.h
def ensB (l : List En) : List Int := l.flatMap enB
def rpB (r : RpD) : List Int := putB r.code ++ (hdB r.h ++ (putB r.val ++ (putB r.list.length ++ ensB r.list)))
def txB (t : TxD) : List Int := putB t.1 ++ (putB t.2.1 ++ putB t.2.2)
def ptB (p : PtD) : List Int := putB p.kind ++ (hdB p.h ++ (textB p.asn ++ hdB p.to))
def msRest (m : MsD) : List Int :=
  if m.kind = 0 then putB m.req ++ opB m.op
  else if m.kind = 1 then putB m.req ++ rpB m.rp
  else if m.kind = 2 then txB m.tx ++ ptB m.pt
  else if m.kind = 3 then txB m.tx ++ (ptB m.pt ++ (putB m.code ++ hdB m.h))
  else if m.kind = 5 then txB m.tx ++ putB m.code
  else if m.kind = 6 then txB m.tx ++ (putB m.req ++ hdB m.h)
  else if m.kind = 7 then txB m.tx ++ (putB m.req ++ (putB m.code ++ hdB m.h))
  else txB m.tx
def msB (m : MsD) : List Int := putB m.kind ++ (putB m.fr ++ (putB m.to ++ msRest m))
theorem flagB_bytes (b : Bool) : isBytes (flagB b) := by cases b <;> exact isBytes_cons (by decide) (by decide) isBytes_nil
theorem flagB_len (b : Bool) : (flagB b).length = 1 := by cases b <;> rfl
theorem flagB_put (b : Bool) : putB (if b then 1 else 0) = flagB b := by cases b <;> rfl
theorem hdB_bytes (h : Hd) : isBytes (hdB h) := isBytes_append (putB_bytes _) (isBytes_append (putB_bytes _) (flagB_bytes _))
theorem hdB_len (h : Hd) : (hdB h).length ≤ 11 := by
  have h1 := putB_len h.sh; have h2 := putB_len h.ino; have h3 := flagB_len h.dir
  unfold hdB; rw [List.length_append, List.length_append]; omega
theorem enB_bytes (e : En) (h : isBytes e.nm) : isBytes (enB e) := isBytes_append (textB_bytes h) (hdB_bytes _)
theorem enB_len (e : En) : (enB e).length ≤ 56 := by
  have h1 := textB_len e.nm; have h2 := hdB_len e.h
  unfold enB; rw [List.length_append]; omega
theorem ensB_len (l : List En) : (ensB l).length ≤ 56 * l.length := by
  induction l with
  | nil => simp [ensB]
  | cons e l ih => have := enB_len e; unfold ensB at *; rw [List.flatMap_cons, List.length_append, List.length_cons]; omega
theorem txB_bytes (t : TxD) : isBytes (txB t) := isBytes_append (putB_bytes _) (isBytes_append (putB_bytes _) (putB_bytes _))
theorem txB_len (t : TxD) : (txB t).length ≤ 15 := by
  have h1 := putB_len t.1; have h2 := putB_len t.2.1; have h3 := putB_len t.2.2
  unfold txB; rw [List.length_append, List.length_append]; omega
theorem opB_bytes (o : OpD) (h : isBytes o.nm) (g : isBytes o.asn) : isBytes (opB o) := isBytes_append (putB_bytes _) (isBytes_append (hdB_bytes _) (isBytes_append (textB_bytes h) (isBytes_append (hdB_bytes _) (isBytes_append (textB_bytes g) (putB_bytes _)))))
theorem opB_len (o : OpD) : (opB o).length ≤ 122 := by
  have h1 := putB_len o.kind; have h2 := hdB_len o.dir; have h3 := textB_len o.nm; have h4 := hdB_len o.to; have h5 := textB_len o.asn; have h6 := putB_len o.val
  unfold opB; simp only [List.length_append]; omega
theorem ptB_bytes (p : PtD) (h : isBytes p.asn) : isBytes (ptB p) := isBytes_append (putB_bytes _) (isBytes_append (hdB_bytes _) (isBytes_append (textB_bytes h) (hdB_bytes _)))
theorem ptB_len (p : PtD) : (ptB p).length ≤ 72 := by
  have h1 := putB_len p.kind; have h2 := hdB_len p.h; have h3 := textB_len p.asn; have h4 := hdB_len p.to
  unfold ptB; simp only [List.length_append]; omega
theorem Below.al2 {a b : World} (h : Below a.heap.size a b) (o : Obj) : Below a.heap.size a (b.alloc o) := h.alloc h.size _
/-- A call that hands back bytes of its own. -/
abbrev Ap (f : FuncId) (args : Array Value) (w : World) (zs : List Int) : Prop :=
  Calls Try.prog f args w fun e w' => ∃ v, e = .returned v ∧ isBytes zs ∧ Owns w' w.heap.size v zs ∧ Below w.heap.size w w'
theorem Owns.rdT {w : World} {B : Nat} {v : Value} {zs : List Int} (o : Owns w B v zs) (h : isBytes zs) : RdV w (fun _ => True) v (.bytes zs) := rdS_of_owns h (o.base (Nat.zero_le _)) (fun _ _ => trivial)
theorem specPutR (v : Value) (xs : List Int) (n : Int) (S : Nat → Prop) (w : World) (r : RdV w S v (.bytes xs)) (hl : xs.length ≤ 2000000) : Ap 79 #[v, .int .i64 n] w (xs ++ putB n) := by
  obtain ⟨a, cap, rfl, hh, hr⟩ := r.b.reads
  exact (specPut_any a xs _ cap n w hr rfl (by omega) hh.2.2).mono fun e w' ⟨u, he, ho, hb⟩ => ⟨u, he, isBytes_append hr.1 (putB_bytes n), ho, hb⟩
theorem implPutR (v : Value) (xs : List Int) (n : Int) (S : Nat → Prop) (w : World) (r : RdV w S v (.bytes xs)) (hl : xs.length ≤ 2000000) : Ap 48 #[v, .int .i64 n] w (xs ++ putB n) := by
  obtain ⟨a, cap, rfl, hh, hr⟩ := r.b.reads
  exact (implPut_any a xs _ cap n w hr rfl (by omega)).mono fun e w' ⟨u, he, ho, hb⟩ => ⟨u, he, isBytes_append hr.1 (putB_bytes n), ho, hb⟩
theorem specTextR (v u : Value) (xs ts : List Int) (S S2 : Nat → Prop) (w : World) (r : RdV w S v (.bytes xs)) (r2 : RdV w S2 u (.bytes ts)) (hl : xs.length ≤ 2000000) (hm : ts.length ≤ 2000000) : Ap 114 #[v, u] w (xs ++ textB ts) := by
  obtain ⟨a, cap, rfl, hh, hr⟩ := r.b.reads
  obtain ⟨b, cbp, rfl, gh, gr⟩ := r2.b.reads
  exact (specPutText_any a b xs ts _ cap _ cbp w hr gr rfl rfl hl hm hh.2.2 gh.2.2).mono fun e w' ⟨u, he, ho, hb⟩ => ⟨u, he, isBytes_append hr.1 (textB_bytes gr.1), ho, hb⟩
theorem implTextR (v u : Value) (xs ts : List Int) (S S2 : Nat → Prop) (w : World) (r : RdV w S v (.bytes xs)) (r2 : RdV w S2 u (.bytes ts)) (hl : xs.length ≤ 2000000) (hm : ts.length ≤ 2000000) : Ap 85 #[v, u] w (xs ++ textB ts) := by
  obtain ⟨a, cap, rfl, hh, hr⟩ := r.b.reads
  obtain ⟨b, cbp, rfl, gh, gr⟩ := r2.b.reads
  exact (implPutText_any a b xs ts _ cap _ cbp w hr gr rfl rfl hl hm).mono fun e w' ⟨u, he, ho, hb⟩ => ⟨u, he, isBytes_append hr.1 (textB_bytes gr.1), ho, hb⟩
end Go.Proofs.Ytmjfnmlfamikgaa
end

section
/- Plain facts: a message read at a place; what was read is just the bytes between the places. -/
namespace Go.Proofs.Ytmjfnmlfamikgaa
set_option linter.unusedVariables false
set_option linter.unusedSimpArgs false

/-- What lies between two places of zs is just B. -/
def Took (zs : List Int) (p : Int) (B : List Int) (s : Int) : Prop := 0 ≤ p ∧ p ≤ s ∧ s ≤ zs.length ∧ zs.take p.toNat ++ B = zs.take s.toNat
theorem Took.trans {zs B B2 : List Int} {p s t : Int} (h : Took zs p B s) (k : Took zs s B2 t) : Took zs p (B ++ B2) t := by
  obtain ⟨h1, h2, h3, h4⟩ := h
  obtain ⟨k1, k2, k3, k4⟩ := k
  exact ⟨h1, by omega, k3, by rw [← List.append_assoc, h4, k4]⟩
theorem Took.all {zs B : List Int} (h : Took zs 0 B zs.length) : B = zs := by
  have := h.2.2.2
  simpa using this
theorem Took.nil {zs : List Int} {p : Int} (h : 0 ≤ p) (h2 : p ≤ zs.length) : Took zs p [] p := ⟨h, by omega, h2, by simp⟩
theorem num_took {zs : List Int} {p : Int} (hz : isBytes zs) (h : 0 ≤ (getNum zs p).2) : Took zs p (putB (getNum zs p).1) (getNum zs p).2 := by
  obtain ⟨n, nx, hg⟩ : ∃ n nx, getNum zs p = (n, nx) := ⟨_, _, rfl⟩
  rw [hg] at h ⊢
  dsimp only at h ⊢
  obtain ⟨s, rfl⟩ : ∃ s : Nat, nx = (s : Int) := ⟨nx.toNat, by omega⟩
  obtain ⟨h1, h2, h3, h4⟩ := getNum_only zs p n s hz hg
  exact ⟨h1, by omega, by omega, by simpa using h4⟩
theorem text_took {zs : List Int} {p : Int} (hz : isBytes zs) (h : 0 ≤ (getText zs p).2) : Took zs p (textB (getText zs p).1) (getText zs p).2 := by
  obtain ⟨n, nx, hg⟩ : ∃ n nx, getNum zs p = (n, nx) := ⟨_, _, rfl⟩
  have hf := getNum_fits hz hg
  unfold getText at h ⊢
  rw [hg] at h ⊢
  dsimp only at h ⊢
  by_cases hb : nx < 0 ∨ 40 < n ∨ (zs.length : Int) - nx < n
  · rw [if_pos hb] at h; simp at h
  · rw [if_neg hb] at h ⊢
    have h0 := num_took (p := p) hz (by rw [hg]; show (0 : Int) ≤ nx; omega)
    rw [hg] at h0
    dsimp only at h0 ⊢
    have hl : ((zs.drop nx.toNat).take n.toNat).length = n.toNat := by rw [List.length_take, List.length_drop]; omega
    have ht : textB ((zs.drop nx.toNat).take n.toNat) = putB n ++ (zs.drop nx.toNat).take n.toNat := by
      unfold textB
      rw [hl, if_neg (by omega)]
      congr 2; omega
    rw [ht]
    refine h0.trans ⟨by omega, by omega, by omega, ?_⟩
    rw [show (nx + n).toNat = nx.toNat + n.toNat by omega, List.take_add]
/-- A flag, as the specification reads it. -/
def rdFlag (zs : List Int) (p : Int) : Bool × Int := if p < 0 ∨ (zs.length : Int) ≤ p ∨ 1 < zs[p.toNat]?.getD 0 then (false, -1) else (zs[p.toNat]?.getD 0 == 1, p + 1)
theorem take_next (zs : List Int) (k : Nat) (h : k < zs.length) : zs.take (k + 1) = zs.take k ++ [zs[k]?.getD 0] := by
  rw [← List.take_append_getElem h, List.getElem?_eq_getElem h]; rfl
theorem flag_took {zs : List Int} {p : Int} (hz : isBytes zs) (h : 0 ≤ (rdFlag zs p).2) : Took zs p (flagB (rdFlag zs p).1) (rdFlag zs p).2 := by
  unfold rdFlag at h ⊢
  by_cases hb : p < 0 ∨ (zs.length : Int) ≤ p ∨ 1 < zs[p.toNat]?.getD 0
  · rw [if_pos hb] at h; simp at h
  · rw [if_neg hb]
    dsimp only
    have hk : p.toNat < zs.length := by omega
    refine ⟨by omega, by omega, by omega, ?_⟩
    rw [show (p + 1).toNat = p.toNat + 1 by omega, take_next zs _ hk]
    have hc : 0 ≤ zs[p.toNat]?.getD 0 := by
      exact (hz p.toNat).1
    generalize zs[p.toNat]?.getD 0 = c at hb hc
    obtain rfl | rfl : c = 0 ∨ c = 1 := by omega
    · rfl
    · rfl
/-- A flag, as the program reads it, is the same. -/
theorem flag_num {zs : List Int} (p : Int) (hz : isBytes zs) : ((getNum zs p).1 == 1, if (getNum zs p).1 = 0 ∨ (getNum zs p).1 = 1 then (getNum zs p).2 else -1) = rdFlag zs p := by
  obtain ⟨n, nx, hg⟩ : ∃ n nx, getNum zs p = (n, nx) := ⟨_, _, rfl⟩
  have hf := getNum_fits hz hg
  by_cases ho : p < 0 ∨ (zs.length : Int) ≤ p
  · have hr : rdFlag zs p = (false, -1) := by unfold rdFlag; rw [if_pos (by omega)]
    rw [getNum_out zs p ho, hr]
    rfl
  · have hk : p.toNat < zs.length := by omega
    have hc : 0 ≤ zs[p.toNat]?.getD 0 := by
      exact (hz p.toNat).1
    have hd : zs.drop p.toNat = zs[p.toNat]?.getD 0 :: zs.drop (p.toNat + 1) := by rw [List.drop_eq_getElem_cons hk, List.getElem?_eq_getElem hk]; rfl
    by_cases h128 : 128 ≤ zs[p.toNat]?.getD 0
    · have hr : rdFlag zs p = (false, -1) := by unfold rdFlag; rw [if_pos (by omega)]
      rw [hr, hg]
      dsimp only
      rcases hf with ⟨rfl, rfl⟩ | ⟨hn0, _, hp0, hps, hsl⟩
      · rfl
      · have ht := num_took (p := p) hz (by rw [hg]; show (0 : Int) ≤ nx; omega)
        rw [hg] at ht
        have h4 : zs.take p.toNat ++ putB n = zs.take nx.toNat := ht.2.2.2
        have hne : ¬ (n = 0 ∨ n = 1) := by
          intro hn
          have hpb : putB n = [n] := by rcases hn with rfl | rfl <;> rfl
          rw [hpb] at h4
          have hlen := congrArg List.length h4
          rw [List.length_append, List.length_take, List.length_take, List.length_singleton] at hlen
          have hnx : nx.toNat = p.toNat + 1 := by omega
          rw [hnx, take_next zs _ hk] at h4
          have := List.append_cancel_left h4
          simp at this
          omega
        rw [if_neg hne]
        have : (n == 1) = false := by simp; omega
        rw [this]
    · have hgn : getNum zs p = (zs[p.toNat]?.getD 0, p + 1) := by
        unfold getNum
        rw [if_neg (by omega), hd, getLoop_end (f := 4) (by omega) (by omega)]
        simp
      rw [hgn]
      dsimp only
      by_cases h1 : 1 < zs[p.toNat]?.getD 0
      · have hr : rdFlag zs p = (false, -1) := by unfold rdFlag; rw [if_pos (.inr (.inr h1))]
        have ht : (zs[p.toNat]?.getD 0 == 1) = false := by
          generalize zs[p.toNat]?.getD 0 = c at h1
          simp; omega
        rw [hr, ht, if_neg (by omega)]
      · have hr : rdFlag zs p = (zs[p.toNat]?.getD 0 == 1, p + 1) := by unfold rdFlag; rw [if_neg (by omega)]
        rw [hr, if_pos (by omega)]
/-- A handle, an operation, a transaction, a part, read at a place. -/
def rdHd (zs : List Int) (p : Int) : Hd × Int := let a := getNum zs p; let b := getNum zs a.2; let c := rdFlag zs b.2; ((a.1, b.1, c.1), c.2)
def rdOp (zs : List Int) (p : Int) : OpD × Int := let k := getNum zs p; let d := rdHd zs k.2; let n := getText zs d.2; let t := rdHd zs n.2; let s := getText zs t.2; let v := getNum zs s.2; (⟨k.1, d.1, n.1, t.1, s.1, v.1⟩, v.2)
def rdTx (zs : List Int) (p : Int) : TxD × Int := let a := getNum zs p; let b := getNum zs a.2; let c := getNum zs b.2; ((a.1, b.1, c.1), c.2)
def rdPt (zs : List Int) (p : Int) : PtD × Int := let k := getNum zs p; let d := rdHd zs k.2; let n := getText zs d.2; let t := rdHd zs n.2; (⟨k.1, d.1, n.1, t.1⟩, t.2)
theorem num_neg {zs : List Int} {p : Int} (h : 0 ≤ (getNum zs p).2) : 0 ≤ p := by
  by_cases hp : p < 0
  · rw [getNum_out zs p (.inl hp)] at h; simp at h
  · omega
theorem text_neg {zs : List Int} {p : Int} (h : 0 ≤ (getText zs p).2) : 0 ≤ p := by
  by_cases hp : p < 0
  · unfold getText at h; rw [getNum_out zs p (.inl hp)] at h; simp at h
  · omega
theorem flag_neg {zs : List Int} {p : Int} (h : 0 ≤ (rdFlag zs p).2) : 0 ≤ p := by
  by_cases hp : p < 0
  · unfold rdFlag at h; rw [if_pos (.inl hp)] at h; simp at h
  · omega
theorem hd_neg {zs : List Int} {p : Int} (h : 0 ≤ (rdHd zs p).2) : 0 ≤ p := num_neg (num_neg (flag_neg h))
theorem hd_took {zs : List Int} {p : Int} (hz : isBytes zs) (h : 0 ≤ (rdHd zs p).2) : Took zs p (hdB (rdHd zs p).1) (rdHd zs p).2 :=
  (num_took hz (num_neg (flag_neg h))).trans ((num_took hz (flag_neg h)).trans (flag_took hz h))
theorem tx_neg {zs : List Int} {p : Int} (h : 0 ≤ (rdTx zs p).2) : 0 ≤ p := num_neg (num_neg (num_neg h))
theorem tx_took {zs : List Int} {p : Int} (hz : isBytes zs) (h : 0 ≤ (rdTx zs p).2) : Took zs p (txB (rdTx zs p).1) (rdTx zs p).2 :=
  (num_took hz (num_neg (num_neg h))).trans ((num_took hz (num_neg h)).trans (num_took hz h))
theorem op_neg {zs : List Int} {p : Int} (h : 0 ≤ (rdOp zs p).2) : 0 ≤ p := num_neg (hd_neg (text_neg (hd_neg (text_neg (num_neg h)))))
theorem op_took {zs : List Int} {p : Int} (hz : isBytes zs) (h : 0 ≤ (rdOp zs p).2) : Took zs p (opB (rdOp zs p).1) (rdOp zs p).2 :=
  (num_took hz (hd_neg (text_neg (hd_neg (text_neg (num_neg h)))))).trans ((hd_took hz (text_neg (hd_neg (text_neg (num_neg h))))).trans ((text_took hz (hd_neg (text_neg (num_neg h)))).trans ((hd_took hz (text_neg (num_neg h))).trans ((text_took hz (num_neg h)).trans (num_took hz h)))))
theorem pt_neg {zs : List Int} {p : Int} (h : 0 ≤ (rdPt zs p).2) : 0 ≤ p := num_neg (hd_neg (text_neg (hd_neg h)))
theorem pt_took {zs : List Int} {p : Int} (hz : isBytes zs) (h : 0 ≤ (rdPt zs p).2) : Took zs p (ptB (rdPt zs p).1) (rdPt zs p).2 :=
  (num_took hz (hd_neg (text_neg (hd_neg h)))).trans ((hd_took hz (text_neg (hd_neg h))).trans ((text_took hz (hd_neg h)).trans (hd_took hz h)))
/-- Entries: the specification stops where it failed; the program goes on. -/
def rdEns (zs : List Int) : Nat → Int → List En × Int
  | 0, p => ([], p)
  | f + 1, p => if p < 0 then ([], p) else (⟨(getText zs p).1, (rdHd zs (getText zs p).2).1⟩ :: (rdEns zs f (rdHd zs (getText zs p).2).2).1, (rdEns zs f (rdHd zs (getText zs p).2).2).2)
def rdEnsP (zs : List Int) : Nat → Int → List En × Int
  | 0, p => ([], p)
  | f + 1, p => (⟨(getText zs p).1, (rdHd zs (getText zs p).2).1⟩ :: (rdEnsP zs f (rdHd zs (getText zs p).2).2).1, (rdEnsP zs f (rdHd zs (getText zs p).2).2).2)
theorem ens_neg {zs : List Int} (f : Nat) {p : Int} (h : 0 ≤ (rdEns zs f p).2) : 0 ≤ p := by
  cases f with
  | zero => exact h
  | succ f =>
    by_cases hp : p < 0
    · rw [rdEns, if_pos hp] at h; exact h
    · omega
theorem ensP_neg {zs : List Int} (f : Nat) : ∀ {p : Int}, 0 ≤ (rdEnsP zs f p).2 → 0 ≤ p := by
  induction f with
  | zero => intro p h; exact h
  | succ f ih => intro p h; exact text_neg (hd_neg (ih h))
theorem ens_same {zs : List Int} (f : Nat) : ∀ {p : Int}, 0 ≤ (rdEnsP zs f p).2 → rdEns zs f p = rdEnsP zs f p := by
  induction f with
  | zero => intro p h; rfl
  | succ f ih =>
    intro p h
    have h1 : 0 ≤ p := ensP_neg (f + 1) h
    have h2 := ih (p := (rdHd zs (getText zs p).2).2) h
    rw [rdEns, if_neg (by omega), rdEnsP, h2]
theorem ens_same' {zs : List Int} (f : Nat) : ∀ {p : Int}, 0 ≤ (rdEns zs f p).2 → rdEnsP zs f p = rdEns zs f p := by
  induction f with
  | zero => intro p h; rfl
  | succ f ih =>
    intro p h
    have h1 : 0 ≤ p := ens_neg (f + 1) h
    rw [rdEns, if_neg (by omega)] at h ⊢
    rw [rdEnsP, ih h]
theorem ens_took {zs : List Int} (hz : isBytes zs) (f : Nat) : ∀ {p : Int}, p ≤ zs.length → 0 ≤ (rdEns zs f p).2 → Took zs p (ensB (rdEns zs f p).1) (rdEns zs f p).2 ∧ (rdEns zs f p).1.length = f := by
  induction f with
  | zero => intro p hp h; exact ⟨Took.nil h hp, rfl⟩
  | succ f ih =>
    intro p hp h
    have h1 : 0 ≤ p := ens_neg (f + 1) h
    rw [rdEns, if_neg (by omega)] at h ⊢
    dsimp only at h ⊢
    have h2 := ens_neg f h
    have t1 := text_took hz (hd_neg h2)
    have t2 := hd_took hz h2
    obtain ⟨t3, hl⟩ := ih t2.2.2.1 h
    refine ⟨?_, by rw [List.length_cons, hl]⟩
    have : ensB (⟨(getText zs p).1, (rdHd zs (getText zs p).2).1⟩ :: (rdEns zs f (rdHd zs (getText zs p).2).2).1) = textB (getText zs p).1 ++ (hdB (rdHd zs (getText zs p).2).1 ++ ensB (rdEns zs f (rdHd zs (getText zs p).2).2).1) := by
      simp [ensB, enB]
    rw [this]
    exact t1.trans (t2.trans t3)
end Go.Proofs.Ytmjfnmlfamikgaa
end

section
/- Plain facts: a message read out of bytes, as the specification and as the program do: they agree wherever either takes it. -/
namespace Go.Proofs.Ytmjfnmlfamikgaa
set_option linter.unusedVariables false
set_option linter.unusedSimpArgs false

def rdEnS (zs : List Int) (p : Int) : List En × Int := rdEns zs (min (getNum zs p).1.toNat 13) (getNum zs p).2
def rdEnP (zs : List Int) (p : Int) : List En × Int := if 12 < (getNum zs p).1 then ([], -1) else rdEnsP zs (getNum zs p).1.toNat (getNum zs p).2
def rdRp (e : Int → List En × Int) (zs : List Int) (p : Int) : RpD × Int := let k := getNum zs p; let h := rdHd zs k.2; let v := getNum zs h.2; let l := e v.2; (⟨k.1, h.1, v.1, l.1⟩, l.2)
def rdMs (e : Int → List En × Int) (zs : List Int) : MsD × Int :=
  let k := getNum zs 0; let f := getNum zs k.2; let t := getNum zs f.2
  if k.1 = 0 then let r := getNum zs t.2; let o := rdOp zs r.2; (⟨k.1, f.1, t.1, r.1, o.1, rp0, tx0, pt0, 0, hd0⟩, o.2)
  else if k.1 = 1 then let r := getNum zs t.2; let o := rdRp e zs r.2; (⟨k.1, f.1, t.1, r.1, op0, o.1, tx0, pt0, 0, hd0⟩, o.2)
  else let x := rdTx zs t.2
    if k.1 = 2 then let o := rdPt zs x.2; (⟨k.1, f.1, t.1, 0, op0, rp0, x.1, o.1, 0, hd0⟩, o.2)
    else if k.1 = 3 then let o := rdPt zs x.2; let c := getNum zs o.2; let h := rdHd zs c.2; (⟨k.1, f.1, t.1, 0, op0, rp0, x.1, o.1, c.1, h.1⟩, h.2)
    else if k.1 = 5 then let c := getNum zs x.2; (⟨k.1, f.1, t.1, 0, op0, rp0, x.1, pt0, c.1, hd0⟩, c.2)
    else if k.1 = 6 then let r := getNum zs x.2; let h := rdHd zs r.2; (⟨k.1, f.1, t.1, r.1, op0, rp0, x.1, pt0, 0, h.1⟩, h.2)
    else if k.1 = 7 then let r := getNum zs x.2; let c := getNum zs r.2; let h := rdHd zs c.2; (⟨k.1, f.1, t.1, r.1, op0, rp0, x.1, pt0, c.1, h.1⟩, h.2)
    else (⟨k.1, f.1, t.1, 0, op0, rp0, x.1, pt0, 0, hd0⟩, x.2)
theorem enP_neg {zs : List Int} {p : Int} (h : 0 ≤ (rdEnP zs p).2) : 0 ≤ p := by
  unfold rdEnP at h
  split at h
  · simp at h
  · exact num_neg (ensP_neg _ h)
theorem enP_same {zs : List Int} {p : Int} (h : 0 ≤ (rdEnP zs p).2) : rdEnS zs p = rdEnP zs p := by
  unfold rdEnP at h ⊢
  split at h
  · simp at h
  · rename_i hn
    rw [if_neg hn]
    unfold rdEnS
    rw [show min (getNum zs p).1.toNat 13 = (getNum zs p).1.toNat by omega]
    exact ens_same _ h
theorem enP_took {zs : List Int} {p : Int} (hz : isBytes zs) (h : 0 ≤ (rdEnP zs p).2) : Took zs p (putB ((rdEnP zs p).1.length : Int) ++ ensB (rdEnP zs p).1) (rdEnP zs p).2 := by
  unfold rdEnP at h ⊢
  split at h
  · simp at h
  · rename_i hn
    rw [if_neg hn]
    have h1 := ensP_neg _ h
    have t1 := num_took hz h1
    have hs := ens_same _ h
    rw [← hs] at h ⊢
    obtain ⟨t2, hl⟩ := ens_took hz _ t1.2.2.1 h
    have hf : 0 ≤ (getNum zs p).1 := by
      obtain ⟨n, nx, hg⟩ : ∃ n nx, getNum zs p = (n, nx) := ⟨_, _, rfl⟩
      have := getNum_fits hz hg
      rw [hg]; show 0 ≤ n; omega
    rw [hl, show (((getNum zs p).1.toNat : Nat) : Int) = (getNum zs p).1 by omega]
    exact t1.trans t2
theorem enS_same {zs : List Int} {p : Int} (hz : isBytes zs) (h : 0 ≤ (rdEnS zs p).2) (h12 : (rdEnS zs p).1.length ≤ 12) : rdEnP zs p = rdEnS zs p := by
  unfold rdEnS at h h12 ⊢
  have h1 := ens_neg _ h
  have t1 := num_took hz h1
  obtain ⟨t2, hl⟩ := ens_took hz _ t1.2.2.1 h
  have hm : min (getNum zs p).1.toNat 13 = (getNum zs p).1.toNat := by omega
  unfold rdEnP
  rw [if_neg (by omega)]
  rw [hm] at h ⊢
  exact ens_same' _ h
theorem rp_neg {zs : List Int} {p : Int} (h : 0 ≤ (rdRp (rdEnP zs) zs p).2) : 0 ≤ p := num_neg (hd_neg (num_neg (enP_neg h)))
theorem rp_took {zs : List Int} {p : Int} (hz : isBytes zs) (h : 0 ≤ (rdRp (rdEnP zs) zs p).2) : Took zs p (rpB (rdRp (rdEnP zs) zs p).1) (rdRp (rdEnP zs) zs p).2 :=
  (num_took hz (hd_neg (num_neg (enP_neg h)))).trans ((hd_took hz (num_neg (enP_neg h))).trans ((num_took hz (enP_neg h)).trans (enP_took hz h)))
/-- What the program read to the end is just the bytes. -/
theorem ms_took {zs : List Int} (hz : isBytes zs) (h : 0 ≤ (rdMs (rdEnP zs) zs).2) : Took zs 0 (msB (rdMs (rdEnP zs) zs).1) (rdMs (rdEnP zs) zs).2 := by
  have head : ∀ (B : List Int) (s : Int), 0 ≤ (getNum zs (getNum zs (getNum zs 0).2).2).2 → Took zs (getNum zs (getNum zs (getNum zs 0).2).2).2 B s → Took zs 0 (putB (getNum zs 0).1 ++ (putB (getNum zs (getNum zs 0).2).1 ++ (putB (getNum zs (getNum zs (getNum zs 0).2).2).1 ++ B))) s :=
    fun B s h0 t => (num_took hz (num_neg (num_neg h0))).trans ((num_took hz (num_neg h0)).trans ((num_took hz h0).trans t))
  unfold rdMs at h ⊢
  dsimp only at h ⊢
  by_cases k0 : (getNum zs 0).1 = 0
  · simp only [k0, if_true] at h ⊢
    have hh := head _ _ (num_neg (op_neg h)) ((num_took hz (op_neg h)).trans (op_took hz h))
    rw [k0] at hh
    simpa [msB, msRest] using hh
  by_cases k1 : (getNum zs 0).1 = 1
  · simp only [k1, if_true] at h ⊢
    simp only [show ¬ ((1 : Int) = 0) by omega, if_false] at h ⊢
    have hh := head _ _ (num_neg (rp_neg h)) ((num_took hz (rp_neg h)).trans (rp_took hz h))
    rw [k1] at hh
    simpa [msB, msRest] using hh
  simp only [k0, k1, if_false] at h ⊢
  by_cases k2 : (getNum zs 0).1 = 2
  · simp only [k2, if_true] at h ⊢
    have hh := head _ _ (tx_neg (pt_neg h)) ((tx_took hz (pt_neg h)).trans (pt_took hz h))
    rw [k2] at hh
    simpa [msB, msRest] using hh
  by_cases k3 : (getNum zs 0).1 = 3
  · simp only [k3, if_true] at h ⊢
    simp only [show ¬ ((3 : Int) = 2) by omega, if_false] at h ⊢
    have h1 := num_neg (hd_neg h)
    have hh := head _ _ (tx_neg (pt_neg h1)) ((tx_took hz (pt_neg h1)).trans ((pt_took hz h1).trans ((num_took hz (hd_neg h)).trans (hd_took hz h))))
    rw [k3] at hh
    simpa [msB, msRest] using hh
  simp only [k2, k3, if_false] at h ⊢
  by_cases k5 : (getNum zs 0).1 = 5
  · simp only [k5, if_true] at h ⊢
    have hh := head _ _ (tx_neg (num_neg h)) ((tx_took hz (num_neg h)).trans (num_took hz h))
    rw [k5] at hh
    simpa [msB, msRest] using hh
  by_cases k6 : (getNum zs 0).1 = 6
  · simp only [k6, if_true] at h ⊢
    simp only [show ¬ ((6 : Int) = 5) by omega, if_false] at h ⊢
    have h1 := num_neg (hd_neg h)
    have hh := head _ _ (tx_neg h1) ((tx_took hz h1).trans ((num_took hz (hd_neg h)).trans (hd_took hz h)))
    rw [k6] at hh
    simpa [msB, msRest] using hh
  by_cases k7 : (getNum zs 0).1 = 7
  · simp only [k7, if_true] at h ⊢
    simp only [show ¬ ((7 : Int) = 5) by omega, show ¬ ((7 : Int) = 6) by omega, if_false] at h ⊢
    have h1 := num_neg (hd_neg h)
    have hh := head _ _ (tx_neg (num_neg h1)) ((tx_took hz (num_neg h1)).trans ((num_took hz h1).trans ((num_took hz (hd_neg h)).trans (hd_took hz h))))
    rw [k7] at hh
    simpa [msB, msRest] using hh
  simp only [k5, k6, k7, if_false] at h ⊢
  have hh := head _ _ (tx_neg h) (tx_took hz h)
  simpa [msB, msRest, k0, k1, k2, k3, k5, k6, k7] using hh
/-- What the program takes, the specification reads the same. -/
theorem ms_same {zs : List Int} (h : 0 ≤ (rdMs (rdEnP zs) zs).2) : rdMs (rdEnS zs) zs = rdMs (rdEnP zs) zs := by
  by_cases k1 : (getNum zs 0).1 = 1
  · unfold rdMs at h ⊢
    simp only [k1, show ¬ ((1 : Int) = 0) by omega, if_false, if_true] at h ⊢
    unfold rdRp at h ⊢
    dsimp only at h ⊢
    rw [enP_same h]
  · unfold rdMs
    simp only [k1, if_false]
/-- What the specification takes, the program reads the same. -/
theorem ms_same' {zs : List Int} (hz : isBytes zs) (h : 0 ≤ (rdMs (rdEnS zs) zs).2) (h12 : (rdMs (rdEnS zs) zs).1.rp.list.length ≤ 12) : rdMs (rdEnP zs) zs = rdMs (rdEnS zs) zs := by
  by_cases k1 : (getNum zs 0).1 = 1
  · unfold rdMs at h h12 ⊢
    simp only [k1, show ¬ ((1 : Int) = 0) by omega, if_false, if_true] at h h12 ⊢
    unfold rdRp at h h12 ⊢
    dsimp only at h h12 ⊢
    rw [enS_same hz h h12]
  · unfold rdMs
    simp only [k1, if_false]
end Go.Proofs.Ytmjfnmlfamikgaa
end

section
/- The program's and the specification's GetText answer the same plain function on lists of bytes, in memory of their own. Conditions: at most 2,000,000 bytes come in. -/
namespace Go.Proofs.Ytmjfnmlfamikgaa
open Go.RowKit
set_option linter.unusedVariables false

theorem getText_no {zs : List Int} {p n nx : Int} (hg : getNum zs p = (n, nx)) (h : nx < 0 ∨ 40 < n ∨ (zs.length : Int) - nx < n) : getText zs p = ([], -1) := by
  unfold getText; rw [hg]; exact if_pos h
theorem getText_yes {zs : List Int} {p : Int} {n nx : Nat} (hg : getNum zs p = ((n : Int), (nx : Int))) (h : ¬ ((nx : Int) < 0 ∨ 40 < (n : Int) ∨ (zs.length : Int) - nx < n)) : getText zs p = ((zs.drop nx).take n, (nx : Int) + n) := by
  unfold getText; rw [hg]; rw [if_neg h]; simp
theorem Reads.part {w : World} {b off : Nat} {zs : List Int} (h : Reads w (some ⟨b, off, none⟩) zs) (nx n : Nat) (hn : nx + n ≤ zs.length) : Reads w (some ⟨b, off + nx, none⟩) ((zs.drop nx).take n) := by
  refine ⟨isBytes_take (isBytes_drop h.1 _) _, ?_⟩
  rcases h.2 with h0 | ⟨b', off', ha, hb, hc⟩
  · left; subst h0; simp
  · simp only [Option.some.injEq, Addr.mk.injEq] at ha
    obtain ⟨rfl, rfl, _⟩ := ha
    refine .inr ⟨b, off + nx, rfl, hb, fun i hi => ?_⟩
    have hi' : i < n := by simp at hi; omega
    have := hc (nx + i) (by omega)
    rw [Nat.add_assoc, this, List.getElem?_take, if_pos hi', List.getElem?_drop]

set_option maxHeartbeats 1000000 in
theorem implGetText_any (a : Option Addr) (zs : List Int) (len cap : Nat) (p : Int) (w : World) (h : Reads w a zs) (hlen : len = zs.length) (hl : zs.length ≤ 2000000) (hcap : zs.length ≤ cap) (hcm : cap ≤ maxLen) :
    Calls Try.prog 124 #[.slice a len cap, .int .i64 p] w fun e w' => ∃ v, e = .returned (.tuple #[v, .int .i64 (getText zs p).2]) ∧ Owns w' w.heap.size v (getText zs p).1 ∧ Below w.heap.size w w' := by
  obtain ⟨n, nx, hg⟩ : ∃ n nx, getNum zs p = (n, nx) := ⟨_, _, rfl⟩
  have hget := implGet_any a zs cap p w h (by omega) hcap hcm
  rw [hg, ← hlen] at hget
  have HGET : Hid _ := hget
  have fits := getNum_fits h.1 hg
  have hll : len ≤ 2000000 := by omega
  have hlc : len ≤ cap := by omega
  unfold maxLen at hcm
  clear hget
  by_cases hno : nx < 0 ∨ 40 < n ∨ (zs.length : Int) - nx < n
  · have HT : Hid _ := getText_no hg hno
    rw [← hlen] at hno
    have hn1 : -1 ≤ nx ∧ nx ≤ 2000000 ∧ 0 ≤ n ∧ n ≤ 2147483647 := by omega
    clear hg fits hlen hcap hl
    by_cases h1 : nx < 0
    · clear hno
      go_enter Try.func124, Try.ntmps124
      go_wp2_with fail
      refine Calls.mono HGET.out ?_
      rintro e w1 ⟨rfl, rfl⟩
      go_wp2
      go_ret2
      exact ⟨.slice none 0 0, by rw [HT.out]; rfl, by rw [HT.out]; exact World.ownsRow_nil _ _ _ _, Below.refl _ _⟩
    · by_cases h2 : 40 < n
      · clear hno
        go_enter Try.func124, Try.ntmps124
        go_wp2_with fail
        refine Calls.mono HGET.out ?_
        rintro e w1 ⟨rfl, rfl⟩
        go_wp2
        go_ret2
        exact ⟨.slice none 0 0, by rw [HT.out]; rfl, by rw [HT.out]; exact World.ownsRow_nil _ _ _ _, Below.refl _ _⟩
      · have h3 : (len : Int) - nx < n := by omega
        clear hno
        go_enter Try.func124, Try.ntmps124
        go_wp2_with fail
        refine Calls.mono HGET.out ?_
        rintro e w1 ⟨rfl, rfl⟩
        go_wp2
        go_ret2
        exact ⟨.slice none 0 0, by rw [HT.out]; rfl, by rw [HT.out]; exact World.ownsRow_nil _ _ _ _, Below.refl _ _⟩
  · obtain ⟨N, rfl⟩ : ∃ N : Nat, n = (N : Int) := ⟨n.toNat, by omega⟩
    obtain ⟨X, rfl⟩ : ∃ X : Nat, nx = (X : Int) := ⟨nx.toNat, by omega⟩
    have HT : Hid _ := getText_yes hg hno
    obtain ⟨b, off, rfl⟩ : ∃ b off, a = some ⟨b, off, none⟩ := by
      rcases h.2 with rfl | ⟨b, off, ha, _⟩
      · simp at fits; omega
      · exact ⟨b, off, ha⟩
    have HP : Hid _ := h.part X N (by omega)
    have HN : Hid (N = ((zs.drop X).take N).length) := by show _ = _; simp; omega
    have hXN : X + N ≤ len := by omega
    have hN : N ≤ 40 := by omega
    have hX : 1 ≤ X := by omega
    have HEM : Hid (N = 0 → (zs.drop X).take N = []) := fun e => by rw [e]; simp
    clear hg fits hlen hcap hl hno
    by_cases hN0 : N = 0
    · subst hN0
      have HT2 : Hid (getText zs p = ([], (X : Int))) := by show _ = _; rw [HT.out]; simp
      clear HT HP HN HEM
      go_enter Try.func124, Try.ntmps124
      go_wp2_with fail
      refine Calls.mono HGET.out ?_
      rintro e w1 ⟨rfl, rfl⟩
      go_wp2_with fail
      all_goals
        refine (joined_v none _ [] [] _ _ _ _ _ (reads_none _ _) (reads_none _ _) rfl rfl (by simp) (by simp)).mono ?_
        rintro e w2 ⟨v, rfl, ho, hb⟩
        go_wp2
        go_ret2
        exact ⟨v, by rw [HT2.out]; rfl, by rw [HT2.out]; exact ho, hb⟩
    · clear HEM
      have hXc : X < cap := by omega
      go_enter Try.func124, Try.ntmps124
      go_wp2_with fail
      refine Calls.mono HGET.out ?_
      rintro e w1 ⟨rfl, rfl⟩
      go_wp2_with fail
      refine (joined_v none _ [] ((zs.drop X).take N) _ _ _ _ _ (reads_none _ _) HP.out rfl HN.out (by simp) (by rw [← HN.out]; omega)).mono ?_
      rintro e w2 ⟨v, rfl, ho, hb⟩
      go_wp2
      go_ret2
      exact ⟨v, by rw [HT.out]; rfl, by rw [HT.out]; exact ho, hb⟩

set_option maxHeartbeats 1000000 in
theorem specGetText_any (a : Option Addr) (zs : List Int) (len cap : Nat) (p : Int) (w : World) (h : Reads w a zs) (hlen : len = zs.length) (hl : zs.length ≤ 2000000) (hcap : zs.length ≤ cap) (hcm : cap ≤ maxLen) (hpb : p ≤ 9223372036854775807) :
    Calls Try.prog 115 #[.slice a len cap, .int .i64 p] w fun e w' => ∃ v, e = .returned (.tuple #[v, .int .i64 (getText zs p).2]) ∧ Owns w' w.heap.size v (getText zs p).1 ∧ Below w.heap.size w w' := by
  obtain ⟨n, nx, hg⟩ : ∃ n nx, getNum zs p = (n, nx) := ⟨_, _, rfl⟩
  have hget := specGet_any a zs cap p w h (by omega) hpb
  rw [hg, ← hlen] at hget
  have HGET : Hid _ := hget
  have fits := getNum_fits h.1 hg
  have hll : len ≤ 2000000 := by omega
  have hlc : len ≤ cap := by omega
  unfold maxLen at hcm
  clear hget hpb
  by_cases hno : nx < 0 ∨ 40 < n ∨ (zs.length : Int) - nx < n
  · have HT : Hid _ := getText_no hg hno
    rw [← hlen] at hno
    have hn1 : -1 ≤ nx ∧ nx ≤ 2000000 ∧ 0 ≤ n ∧ n ≤ 2147483647 := by omega
    clear hg fits hlen hcap hl
    by_cases h1 : nx < 0
    · clear hno
      go_enter Try.func115, Try.ntmps115
      go_wp2_with fail
      refine Calls.mono HGET.out ?_
      rintro e w1 ⟨rfl, rfl⟩
      go_wp2
      go_ret2
      exact ⟨.slice none 0 0, by rw [HT.out]; rfl, by rw [HT.out]; exact World.ownsRow_nil _ _ _ _, Below.refl _ _⟩
    · by_cases h2 : 40 < n
      · clear hno
        go_enter Try.func115, Try.ntmps115
        go_wp2_with fail
        refine Calls.mono HGET.out ?_
        rintro e w1 ⟨rfl, rfl⟩
        go_wp2
        go_ret2
        exact ⟨.slice none 0 0, by rw [HT.out]; rfl, by rw [HT.out]; exact World.ownsRow_nil _ _ _ _, Below.refl _ _⟩
      · have h3 : (len : Int) - nx < n := by omega
        clear hno
        go_enter Try.func115, Try.ntmps115
        go_wp2_with fail
        refine Calls.mono HGET.out ?_
        rintro e w1 ⟨rfl, rfl⟩
        go_wp2
        go_ret2
        exact ⟨.slice none 0 0, by rw [HT.out]; rfl, by rw [HT.out]; exact World.ownsRow_nil _ _ _ _, Below.refl _ _⟩
  · obtain ⟨N, rfl⟩ : ∃ N : Nat, n = (N : Int) := ⟨n.toNat, by omega⟩
    obtain ⟨X, rfl⟩ : ∃ X : Nat, nx = (X : Int) := ⟨nx.toNat, by omega⟩
    have HT : Hid _ := getText_yes hg hno
    obtain ⟨b, off, rfl⟩ : ∃ b off, a = some ⟨b, off, none⟩ := by
      rcases h.2 with rfl | ⟨b, off, ha, _⟩
      · simp at fits; omega
      · exact ⟨b, off, ha⟩
    have HB1 : Hid (Below w.heap.size w (w.alloc (.cells #[] 5))) := (Below.refl _ _).alloc (Nat.le_refl _) _
    have HP : Hid _ := (h.part X N (by omega)).below HB1.out
    have HN : Hid (N = ((zs.drop X).take N).length) := by show _ = _; simp; omega
    have hXN : X + N ≤ len := by omega
    have hN : N ≤ 40 := by omega
    have hX : 1 ≤ X := by omega
    clear hg fits hlen hcap hl hno
    by_cases hN0 : N = 0
    · subst hN0
      have HT2 : Hid (getText zs p = ([], (X : Int))) := by show _ = _; rw [HT.out]; simp
      clear HT HP HN
      rcases (show cap = X ∨ X < cap from by omega) with hXc | hXc
      · subst hXc
        go_enter Try.func115, Try.ntmps115
        go_wp2_with fail
        refine Calls.mono HGET.out ?_
        rintro e w1 ⟨rfl, hw1⟩
        subst hw1
        go_wp2_with (at_builtin; go_must (refine wpList_app _ rfl (.tmp 28) (.tmp 34) rfl _ _ [] [] rfl (owns_empty _) _ _ _ rfl (by first | rfl | simp) (reads_none _ _) (by simp) (by simp) (by simp) (fun h => by cases h) ?_; intro v w2 ho hg))
        go_ret2
        exact ⟨v, by rw [HT2.out]; rfl, by rw [HT2.out]; exact ho, HB1.out.grown hg (by simp) (fun k hk => ((owns_empty _).lt k hk).1)⟩
      · go_enter Try.func115, Try.ntmps115
        go_wp2_with fail
        refine Calls.mono HGET.out ?_
        rintro e w1 ⟨rfl, hw1⟩
        subst hw1
        go_wp2_with (at_builtin; go_must (refine wpList_app _ rfl (.tmp 28) (.tmp 34) rfl _ _ [] [] rfl (owns_empty _) _ _ _ rfl (by first | rfl | simp) (reads_none _ _) (by simp) (by simp) (by simp) (fun h => by cases h) ?_; intro v w2 ho hg))
        go_ret2
        exact ⟨v, by rw [HT2.out]; rfl, by rw [HT2.out]; exact ho, HB1.out.grown hg (by simp) (fun k hk => ((owns_empty _).lt k hk).1)⟩
    · have hXc : X < cap := by omega
      go_enter Try.func115, Try.ntmps115
      go_wp2_with (first
        | (go_at_call 91; refine Calls.mono HGET.out ?_; rintro e w1 ⟨rfl, hw1⟩; subst hw1)
        | (at_builtin; go_must (refine wpList_app _ rfl (.tmp 28) (.tmp 34) rfl _ _ [] ((zs.drop X).take N) rfl (owns_empty _) _ _ _ rfl (by first | exact HN.out | (rw [Nat.add_sub_cancel_left]; exact HN.out)) HP.out (by simp) (by rw [← HN.out]; omega) (by simp) (fun h => by cases h) ?_; intro v w2 ho hg)))
      go_ret2
      exact ⟨v, by rw [HT.out]; rfl, by rw [HT.out]; simpa using ho, HB1.out.grown hg (by simp) (fun k hk => ((owns_empty _).lt k hk).1)⟩

theorem implGetText_v (v : Value) (zs : List Int) (base : Nat) (p : Int) (w : World) (h : Owns w base v zs) (hz : isBytes zs) (hl : zs.length ≤ 2000000) :
    Calls Try.prog 124 #[v, .int .i64 p] w fun e w' => ∃ v, e = .returned (.tuple #[v, .int .i64 (getText zs p).2]) ∧ Owns w' w.heap.size v (getText zs p).1 ∧ Below w.heap.size w w' := by
  obtain ⟨a, ca, rfl, h1, h2, ra⟩ := h.open hz
  exact implGetText_any a zs _ ca p w ra rfl hl h1 h2
theorem specGetText_v (v : Value) (zs : List Int) (base : Nat) (p : Int) (w : World) (h : Owns w base v zs) (hz : isBytes zs) (hl : zs.length ≤ 2000000) (hpb : p ≤ 9223372036854775807) :
    Calls Try.prog 115 #[v, .int .i64 p] w fun e w' => ∃ v, e = .returned (.tuple #[v, .int .i64 (getText zs p).2]) ∧ Owns w' w.heap.size v (getText zs p).1 ∧ Below w.heap.size w w' := by
  obtain ⟨a, ca, rfl, h1, h2, ra⟩ := h.open hz
  exact specGetText_any a zs _ ca p w ra rfl hl h1 h2 hpb
theorem implPutText_v (v u : Value) (xs ts : List Int) (bv bu : Nat) (w : World) (hx : Owns w bv v xs) (hy : Owns w bu u ts) (bx : isBytes xs) (bt : isBytes ts) (hl : xs.length ≤ 2000000) (hm : ts.length ≤ 2000000) :
    Calls Try.prog 85 #[v, u] w fun e w' => ∃ v, e = .returned v ∧ Owns w' w.heap.size v (xs ++ textB ts) ∧ Below w.heap.size w w' := by
  obtain ⟨a, ca, rfl, _, _, ra⟩ := hx.open bx
  obtain ⟨b, cb, rfl, _, _, rb⟩ := hy.open bt
  exact implPutText_any a b xs ts _ ca _ cb w ra rb rfl rfl hl hm
theorem Owns.openNil {w : World} {base : Nat} {v : Value} {zs : List Int} (hz : isBytes zs) (h : Owns w base v zs) : ∃ a len cap, v = .slice a len cap ∧ len = zs.length ∧ Reads w a zs ∧ (a = none → len = 0 ∧ cap = 0) := by
  rcases h.2 with ⟨rfl, h0⟩ | ⟨g, c, cur, rfl, _⟩
  · exact ⟨none, 0, 0, rfl, h0.symm, (h.reads hz).2, fun _ => ⟨rfl, rfl⟩⟩
  · exact ⟨_, _, c, rfl, rfl, (h.reads hz).2, fun h => by cases h⟩
theorem specPutText_v (v u : Value) (xs ts : List Int) (bv bu : Nat) (w : World) (hx : Owns w bv v xs) (hy : Owns w bu u ts) (bx : isBytes xs) (bt : isBytes ts) (hl : xs.length ≤ 2000000) (hm : ts.length ≤ 2000000) :
    Calls Try.prog 114 #[v, u] w fun e w' => ∃ v, e = .returned v ∧ Owns w' w.heap.size v (xs ++ textB ts) ∧ Below w.heap.size w w' := by
  obtain ⟨a, la, ca, rfl, h1, ra, na⟩ := hx.openNil bx
  obtain ⟨b, lb, cb, rfl, h2, rb, nb⟩ := hy.openNil bt
  exact specPutText_any a b xs ts la ca lb cb w ra rb h1 h2 hl hm na nb
theorem implGet_v (v : Value) (zs : List Int) (base : Nat) (p : Int) (w : World) (h : Owns w base v zs) (hz : isBytes zs) (hl : zs.length ≤ 2000000) :
    Calls Try.prog 116 #[v, .int .i64 p] w fun e w' => e = .returned (.tuple #[.int .i64 (getNum zs p).1, .int .i64 (getNum zs p).2]) ∧ w' = w := by
  obtain ⟨a, ca, rfl, h1, h2, ra⟩ := h.open hz
  exact implGet_any a zs ca p w ra (by omega) h1 h2
end Go.Proofs.Ytmjfnmlfamikgaa
end

section
/- Reading by a cursor: numbers, texts, flags, handles, by the specification and by the program. Condition: at most 2,000,000 bytes. -/
namespace Go.Proofs.Ytmjfnmlfamikgaa
open Go.RowKit
set_option linter.unusedVariables false
set_option linter.unusedSimpArgs false
set_option maxRecDepth 100000

/-- A cursor in block pb: it reads zs, which lie in elder blocks, and stands at p. -/
def CurV (T : TypeId) (pb : Nat) (zs : List Int) (v : Value) (p : Int) (w : World) : Prop := VarA w pb T #[v, .int .i64 p] ∧ RdV w (fun b => b < pb) v (.bytes zs) ∧ -1 ≤ p ∧ p ≤ zs.length
section
variable {T : TypeId} {pb : Nat} {zs : List Int} {v : Value} {p : Int} {w w' : World}
theorem CurV.lt (h : CurV T pb zs v p w) : pb < w.heap.size := VarA.lt h.1
theorem CurV.keep {S : Nat → Prop} (h : CurV T pb zs v p w) (t : Turned S w w') (hS : ∀ b, S b → pb < b) : CurV T pb zs v p w' :=
  ⟨VarA.turn h.1 t (fun hs => absurd (hS _ hs) (by omega)), RdV.keep (t.keeps (fun b hb hs => absurd (hS _ hs) (by omega))) h.2.1, h.2.2⟩
theorem CurV.step (h : CurV T pb zs v p w) (hb : Below w.heap.size w w') : CurV T pb zs v p w' := ⟨VarA.step h.1 hb, RdV.step h.2.1 hb, h.2.2⟩
theorem CurV.alloc (h : CurV T pb zs v p w) (o : Obj) : CurV T pb zs v p (w.alloc o) := h.step (Below.new1 o)
theorem CurV.put (h : CurV T pb zs v p w) (q : Int) (h1 : -1 ≤ q) (h2 : q ≤ zs.length) : CurV T pb zs v q (w.setCell ⟨pb, 1, none⟩ (.int .i64 q)) := by
  refine ⟨VarA.set h.1 1 (.int .i64 q), RdV.keep (Turned.keeps (S := fun b => b = pb) ((Turned.refl _ w).set ⟨pb, 1, none⟩ _ rfl) (fun b hb hs => by omega)) h.2.1, h1, h2⟩
end
theorem Turned.then {S S' : Nat → Prop} {a b c : World} (h : Turned S a b) (k : Turned S' b c) (hs : ∀ i, i < a.heap.size → S' i → S i) : Turned S a c :=
  ⟨k.os.trans h.os, k.tape.trans h.tape, k.output.trans h.output, Nat.le_trans h.size k.size, fun i hi hr => (k.block i (Nat.lt_of_lt_of_le hi h.size) (fun e => hr (hs i hi e))).trans (h.block i hi hr)⟩
/-- A value of one or more cells stored into a variable, from the cell off on. -/
theorem storeG_run {P : Program} {w : World} {g off : Nat} {T ty : TypeId} {old vs : Array Value} {u : Value} (hu : u.cells = vs) (hv : VarA w g T old) (hl : off + vs.size ≤ old.size) (hi : (P.info? ty).map (·.size) = some vs.size) (h1 : vs.toList.all (·.oneCell') = true) :
    (storeVar ty ⟨g, off, none⟩ u).run P w = .ok () (w.setRow g (old.toList.take off ++ vs.toList ++ old.toList.drop (off + vs.size)).toArray) := by
  have h := run_storeCells_at (P := P) g off T vs.toList 0 old w hv (by simpa using hl) (fun v hv => (List.all_eq_true.1 h1) v hv)
  cases hq : P.info? ty with
  | none => simp [hq] at hi
  | some i =>
    have hs : vs.size = i.size := by simp [hq] at hi; omega
    simp only [Nat.add_zero, Array.length_toList] at h
    simp [storeVar, sizeOf, typeInfo, hq, hu, hs, h]
theorem wpList_storeG {ty t' : TypeId} {dst : Option Tmp} {x y : Operand} {pos : String} {af : Array Edge} {ops : Array Oper} {rest : List Oper} {a : Act} {Q : Exit → Act → World → Prop} {w : World} {g off : Nat} {T : TypeId} {old vs new : Array Value} {u : Value}
    (hv : VarA w g T old) (hx : a.eval x = .pointer (some ⟨g, off, none⟩)) (hy : a.eval y = u) (hu : u.cells = vs) (hi : (Try.prog.info? ty).map (·.size) = some vs.size) (h1 : vs.toList.all (·.oneCell') = true) (hl : off + vs.size ≤ old.size)
    (hnew : (old.toList.take off ++ vs.toList ++ old.toList.drop (off + vs.size)).toArray = new)
    (hK : ∀ w', VarA w' g T new → Turned (fun b => b = g) w w' → wpList Try.prog ops Q rest (a.put dst undef) w') :
    wpList Try.prog ops Q (⟨dst, .store ty x y, t', pos, af, none⟩ :: rest) a w := by
  refine wpList_plain rfl fun K' hK' => ?_
  unfold Oper.wp execOp
  simp only [hx, hy, Instr.storeAt, Instr.sureAddr, Sem.run_bind, Sem.run_pure, Result.andThen_ok, storeG_run hu hv hl hi h1]
  rw [hnew]
  exact hK' _ _ (hK _ (VarA.row hv) (turned_row w g new))
theorem getNum_at {zs : List Int} (hz : isBytes zs) (p : Int) : -1 ≤ (getNum zs p).2 ∧ (getNum zs p).2 ≤ zs.length := by
  obtain ⟨n, nx, hg⟩ : ∃ n nx, getNum zs p = (n, nx) := ⟨_, _, rfl⟩
  have := getNum_fits hz hg
  rw [hg]; dsimp only; omega
theorem getText_at {zs : List Int} (hz : isBytes zs) (p : Int) : -1 ≤ (getText zs p).2 ∧ (getText zs p).2 ≤ zs.length := by
  obtain ⟨n, nx, hg⟩ : ∃ n nx, getNum zs p = (n, nx) := ⟨_, _, rfl⟩
  have := getNum_fits hz hg
  unfold getText
  rw [hg]; dsimp only
  split
  · exact ⟨by simp, by simp⟩
  · dsimp only; omega
theorem flag_at (zs : List Int) (p : Int) : -1 ≤ (rdFlag zs p).2 ∧ (rdFlag zs p).2 ≤ zs.length := by
  unfold rdFlag
  split
  · exact ⟨by simp, by simp⟩
  · dsimp only; omega
theorem RdV.zs {w : World} {S : Nat → Prop} {v : Value} {zs : List Int} (r : RdV w S v (.bytes zs)) : isBytes zs := r.b.reads.choose_spec.choose_spec.2.2.1
theorem implGetR (v : Value) (zs : List Int) (S : Nat → Prop) (p : Int) (w : World) (r : RdV w S v (.bytes zs)) (hl : zs.length ≤ 2000000) :
    Calls Try.prog 116 #[v, .int .i64 p] w fun e w' => e = .returned (.tuple #[.int .i64 (getNum zs p).1, .int .i64 (getNum zs p).2]) ∧ w' = w := by
  obtain ⟨a, cap, rfl, hh, hr⟩ := r.b.reads
  exact implGet_any a zs cap p w hr (by omega) hh.1 hh.2.1
theorem specGetR (v : Value) (zs : List Int) (S : Nat → Prop) (p : Int) (w : World) (r : RdV w S v (.bytes zs)) (hl : zs.length ≤ 2000000) (hp : p ≤ zs.length) :
    Calls Try.prog 91 #[v, .int .i64 p] w fun e w' => e = .returned (.tuple #[.int .i64 (getNum zs p).1, .int .i64 (getNum zs p).2]) ∧ w' = w := by
  obtain ⟨a, cap, rfl, hh, hr⟩ := r.b.reads
  exact specGet_any a zs cap p w hr (by omega) (by omega)
theorem implGetTextR (v : Value) (zs : List Int) (S : Nat → Prop) (p : Int) (w : World) (r : RdV w S v (.bytes zs)) (hl : zs.length ≤ 2000000) :
    Calls Try.prog 124 #[v, .int .i64 p] w fun e w' => ∃ v, e = .returned (.tuple #[v, .int .i64 (getText zs p).2]) ∧ Owns w' w.heap.size v (getText zs p).1 ∧ Below w.heap.size w w' := by
  obtain ⟨a, cap, rfl, hh, hr⟩ := r.b.reads
  exact implGetText_any a zs _ cap p w hr rfl hl hh.1 hh.2.1
theorem specGetTextR (v : Value) (zs : List Int) (S : Nat → Prop) (p : Int) (w : World) (r : RdV w S v (.bytes zs)) (hl : zs.length ≤ 2000000) (hp : p ≤ zs.length) :
    Calls Try.prog 115 #[v, .int .i64 p] w fun e w' => ∃ v, e = .returned (.tuple #[v, .int .i64 (getText zs p).2]) ∧ Owns w' w.heap.size v (getText zs p).1 ∧ Below w.heap.size w w' := by
  obtain ⟨a, cap, rfl, hh, hr⟩ := r.b.reads
  exact specGetText_any a zs _ cap p w hr rfl hl hh.1 hh.2.1 (by omega)
/-- The cursor has gone from p to q. -/
abbrev Gone (T : TypeId) (pb : Nat) (zs : List Int) (v : Value) (q : Int) (w w' : World) : Prop := CurV T pb zs v q w' ∧ Turned (fun b => b = pb) w w'
theorem Turned.drew1 (S : Nat → Prop) (a : World) : Turned S a a.drew := ⟨rfl, rfl, rfl, Nat.le_refl _, fun _ _ _ => rfl⟩
theorem CurV.dr {T : TypeId} {pb : Nat} {zs : List Int} {v : Value} {p : Int} {w : World} (h : CurV T pb zs v p w) : CurV T pb zs v p w.drew := h.step (Below.drew (Below.refl _ _))
theorem owNilB (w : World) (S : Nat → Prop) : OwV w S (.slice none 0 0) (.bytes []) := ⟨isBytes_nil, ⟨rfl, .inl ⟨rfl, rfl⟩⟩, fun b hb => by cases hb⟩
set_option maxHeartbeats 2000000 in
theorem implNumC (pb : Nat) (zs : List Int) (v : Value) (p : Int) (w : World) (h : CurV 100 pb zs v p w) (hl : zs.length ≤ 2000000) :
    Calls Try.prog 93 #[.pointer (some ⟨pb, 0, none⟩)] w fun e w' => e = .returned (.int .i64 (getNum zs p).1) ∧ Gone 100 pb zs v (getNum zs p).2 w w' := by
  have HG : Hid (∀ W, Below w.heap.size w W → _) := fun W hW => implGetR v zs _ p W (RdV.step h.2.1 hW) hl
  have hz := RdV.zs h.2.1
  have HA : Hid _ := getNum_at hz p
  have HC : Hid (CurV 100 pb zs v p w) := h
  obtain ⟨c0, c1⟩ := VarA.l2 h.1
  have hf := VarA.fz h.1
  clear h hz
  generalize getNum zs p = g at HG HA ⊢
  obtain ⟨n, nx⟩ := g
  dsimp only at HG HA ⊢
  go_enter Try.func93, Try.ntmps93
  go_wp2
  go_region_held3 (fun w' => w'.cell? ⟨pb, 0, none⟩ = some v ∧ w'.cell? ⟨pb, 1, none⟩ = some (.int .i64 p)) (first | go_keep | (refine ⟨?_, ?_⟩ <;> assumption)) (first | (go_at_call 116; refine Calls.mono (HG.out _ (by repeat (first | exact Below.refl _ _ | refine Below.drew ?_ | refine below_drewN2 ?_ _))) ?_; rintro e w' ⟨rfl, rfl⟩))
  go_wp2
  go_ret
  exact ⟨rfl, CurV.put HC.out.dr nx HA.out.1 HA.out.2, (Turned.drew1 _ _).set _ _ rfl⟩
set_option maxHeartbeats 2000000 in
theorem specNumC (pb : Nat) (zs : List Int) (v : Value) (p : Int) (w : World) (h : CurV 91 pb zs v p w) (hl : zs.length ≤ 2000000) :
    Calls Try.prog 53 #[.pointer (some ⟨pb, 0, none⟩)] w fun e w' => e = .returned (.int .i64 (getNum zs p).1) ∧ Gone 91 pb zs v (getNum zs p).2 w w' := by
  by_cases h0 : p < 0
  case pos =>
    have hp : p = -1 := by have := h.2.2.1; omega
    subst hp
    rw [getNum_out zs (-1) (.inl (by omega))]
    obtain ⟨c0, c1⟩ := VarA.l2 h.1
    have HC : Hid (CurV 91 pb zs v (-1) w) := h
    clear h
    go_enter Try.func53, Try.ntmps53
    go_wp2
    go_ret
    exact ⟨rfl, HC.out, Turned.refl _ _⟩
  have HG : Hid (∀ W, Below w.heap.size w W → _) := fun W hW => specGetR v zs _ p W (RdV.step h.2.1 hW) hl h.2.2.2
  have hz := RdV.zs h.2.1
  have HA : Hid _ := getNum_at hz p
  have HC : Hid (CurV 91 pb zs v p w) := h
  obtain ⟨c0, c1⟩ := VarA.l2 h.1
  have hf := VarA.fz h.1
  clear h hz
  generalize getNum zs p = g at HG HA ⊢
  obtain ⟨n, nx⟩ := g
  dsimp only at HG HA ⊢
  go_enter Try.func53, Try.ntmps53
  go_wp2
  go_region_held3 (fun w' => w'.cell? ⟨pb, 0, none⟩ = some v ∧ w'.cell? ⟨pb, 1, none⟩ = some (.int .i64 p)) (first | go_keep | (refine ⟨?_, ?_⟩ <;> assumption)) (first | (go_at_call 91; refine Calls.mono (HG.out _ (by repeat (first | exact Below.refl _ _ | refine Below.drew ?_ | refine below_drewN2 ?_ _))) ?_; rintro e w' ⟨rfl, rfl⟩))
  go_wp2
  go_ret
  exact ⟨rfl, CurV.put HC.out.dr nx HA.out.1 HA.out.2, (Turned.drew1 _ _).set _ _ rfl⟩
set_option maxHeartbeats 2000000 in
theorem implTextC (pb : Nat) (zs : List Int) (v : Value) (p : Int) (w : World) (h : CurV 100 pb zs v p w) (hl : zs.length ≤ 2000000) :
    Calls Try.prog 117 #[.pointer (some ⟨pb, 0, none⟩)] w fun e w' => ∃ a n c, e = .returned (.slice a n c) ∧ OwV w' (fun b => w.heap.size ≤ b ∧ b < w'.heap.size) (.slice a n c) (.bytes (getText zs p).1) ∧ Gone 100 pb zs v (getText zs p).2 w w' := by
  have HG : Hid (∀ W, Below w.heap.size w W → _) := fun W hW => implGetTextR v zs _ p W (RdV.step h.2.1 hW) hl
  have hz := RdV.zs h.2.1
  have HA : Hid _ := getText_at hz p
  have HZ : Hid _ := getText_bytes hz p
  have HC : Hid (CurV 100 pb zs v p w) := h
  have hpl := h.lt
  obtain ⟨c0, c1⟩ := VarA.l2 h.1
  have hf := VarA.fz h.1
  clear h hz
  generalize getText zs p = g at HG HA HZ ⊢
  obtain ⟨ts, nx⟩ := g
  dsimp only at HG HA HZ ⊢
  go_enter Try.func117, Try.ntmps117
  go_wp2
  go_region_held3 (fun w' => w'.cell? ⟨pb, 0, none⟩ = some v ∧ w'.cell? ⟨pb, 1, none⟩ = some (.int .i64 p)) (first | go_keep | (refine ⟨?_, ?_⟩ <;> assumption)) (first | (go_at_call 124; refine Calls.mono (HG.out _ (by repeat (first | exact Below.refl _ _ | refine Below.drew ?_ | refine below_drewN2 ?_ _))) ?_; rintro e w2 ⟨u, rfl, ou, b_⟩; have HB2 : Hid (Below w.heap.size w w2) := (Below.drew (Below.refl _ _)).trans b_; have HOU : Hid (OwV w2 (fun b => w.heap.size ≤ b ∧ b < w2.heap.size) u (.bytes ts)) := OwV.ofOwns HZ.out ou; clear ou b_; have HC2 : Hid (CurV 100 pb zs v p w2) := HC.out.step HB2.out; obtain ⟨d0, d1⟩ := VarA.l2 HC2.out.1; have df := VarA.fz HC2.out.1))
  obtain ⟨ua, uc, un, hu⟩ : ∃ a c n, u = .slice a n c := by
    obtain ⟨a_, c_, h_⟩ := HOU.out.rd.sliceB
    exact ⟨a_, c_, _, h_⟩
  subst hu
  have HCC : Hid (CurV 100 pb zs v nx (w2.setCell ⟨pb, 1, none⟩ (.int .i64 nx))) := CurV.put HC2.out nx HA.out.1 HA.out.2
  have HTT : Hid (Turned (fun b => b = pb) w (w2.setCell ⟨pb, 1, none⟩ (.int .i64 nx))) := (Turned.ofBelow HB2.out).set _ _ rfl
  have HOW : Hid (OwV (w2.setCell ⟨pb, 1, none⟩ (.int .i64 nx)) (fun b => w.heap.size ≤ b ∧ b < (w2.setCell ⟨pb, 1, none⟩ (.int .i64 nx)).heap.size) (.slice ua un uc) (.bytes ts)) := by
    have t_ : Turned (fun b => b = pb) w2 (w2.setCell ⟨pb, 1, none⟩ (.int .i64 nx)) := (Turned.refl _ _).set _ _ rfl
    exact (HOU.out.keep (t_.keeps (fun b hb hs => by omega))).mono (fun b hb => ⟨hb.1, Nat.lt_of_lt_of_le hb.2 t_.size⟩)
  by_cases hn0 : un = 0
  · have HE : Hid (ts = []) := by
      have h1 := HOU.out.rd.b.reads
      obtain ⟨a_, c_, h2, _⟩ := h1
      simp only [Value.slice.injEq] at h2
      exact List.eq_nil_of_length_eq_zero (by omega)
    subst hn0
    go_wp2
    go_ret
    exact ⟨_, _, _, rfl, by rw [HE.out]; exact owNilB _ _, HCC.out, HTT.out⟩
  · go_wp2
    go_ret
    exact ⟨_, _, _, rfl, HOW.out, HCC.out, HTT.out⟩
set_option maxHeartbeats 2000000 in
theorem specTextC (pb : Nat) (zs : List Int) (v : Value) (p : Int) (w : World) (h : CurV 91 pb zs v p w) (hl : zs.length ≤ 2000000) :
    Calls Try.prog 92 #[.pointer (some ⟨pb, 0, none⟩)] w fun e w' => ∃ a n c, e = .returned (.slice a n c) ∧ OwV w' (fun b => w.heap.size ≤ b ∧ b < w'.heap.size) (.slice a n c) (.bytes (getText zs p).1) ∧ Gone 91 pb zs v (getText zs p).2 w w' := by
  by_cases h0 : p < 0
  case pos =>
    have hp : p = -1 := by have := h.2.2.1; omega
    subst hp
    have ht : getText zs (-1) = ([], -1) := by unfold getText; rw [getNum_out zs (-1) (.inl (by omega))]; simp
    rw [ht]
    obtain ⟨c0, c1⟩ := VarA.l2 h.1
    have HC : Hid (CurV 91 pb zs v (-1) w) := h
    clear h ht
    go_enter Try.func92, Try.ntmps92
    go_wp2
    go_ret
    exact ⟨_, _, _, rfl, owNilB _ _, HC.out, Turned.refl _ _⟩
  have HG : Hid (∀ W, Below w.heap.size w W → _) := fun W hW => specGetTextR v zs _ p W (RdV.step h.2.1 hW) hl h.2.2.2
  have hz := RdV.zs h.2.1
  have HA : Hid _ := getText_at hz p
  have HZ : Hid _ := getText_bytes hz p
  have HC : Hid (CurV 91 pb zs v p w) := h
  have hpl := h.lt
  obtain ⟨c0, c1⟩ := VarA.l2 h.1
  have hf := VarA.fz h.1
  clear h hz
  generalize getText zs p = g at HG HA HZ ⊢
  obtain ⟨ts, nx⟩ := g
  dsimp only at HG HA HZ ⊢
  go_enter Try.func92, Try.ntmps92
  go_wp2
  go_region_held3 (fun w' => w'.cell? ⟨pb, 0, none⟩ = some v ∧ w'.cell? ⟨pb, 1, none⟩ = some (.int .i64 p)) (first | go_keep | (refine ⟨?_, ?_⟩ <;> assumption)) (first | (go_at_call 115; refine Calls.mono (HG.out _ (by repeat (first | exact Below.refl _ _ | refine Below.drew ?_ | refine below_drewN2 ?_ _))) ?_; rintro e w2 ⟨u, rfl, ou, b_⟩; have HB2 : Hid (Below w.heap.size w w2) := (Below.drew (Below.refl _ _)).trans b_; have HOU : Hid (OwV w2 (fun b => w.heap.size ≤ b ∧ b < w2.heap.size) u (.bytes ts)) := OwV.ofOwns HZ.out ou; clear ou b_; have HC2 : Hid (CurV 91 pb zs v p w2) := HC.out.step HB2.out; obtain ⟨d0, d1⟩ := VarA.l2 HC2.out.1; have df := VarA.fz HC2.out.1))
  obtain ⟨ua, uc, un, hu⟩ : ∃ a c n, u = .slice a n c := by
    obtain ⟨a_, c_, h_⟩ := HOU.out.rd.sliceB
    exact ⟨a_, c_, _, h_⟩
  subst hu
  have HCC : Hid (CurV 91 pb zs v nx (w2.setCell ⟨pb, 1, none⟩ (.int .i64 nx))) := CurV.put HC2.out nx HA.out.1 HA.out.2
  have HTT : Hid (Turned (fun b => b = pb) w (w2.setCell ⟨pb, 1, none⟩ (.int .i64 nx))) := (Turned.ofBelow HB2.out).set _ _ rfl
  have HOW : Hid (OwV (w2.setCell ⟨pb, 1, none⟩ (.int .i64 nx)) (fun b => w.heap.size ≤ b ∧ b < (w2.setCell ⟨pb, 1, none⟩ (.int .i64 nx)).heap.size) (.slice ua un uc) (.bytes ts)) := by
    have t_ : Turned (fun b => b = pb) w2 (w2.setCell ⟨pb, 1, none⟩ (.int .i64 nx)) := (Turned.refl _ _).set _ _ rfl
    exact (HOU.out.keep (t_.keeps (fun b hb hs => by omega))).mono (fun b hb => ⟨hb.1, Nat.lt_of_lt_of_le hb.2 t_.size⟩)
  go_wp2
  go_ret
  exact ⟨_, _, _, rfl, HOW.out, HCC.out, HTT.out⟩
end Go.Proofs.Ytmjfnmlfamikgaa
end
