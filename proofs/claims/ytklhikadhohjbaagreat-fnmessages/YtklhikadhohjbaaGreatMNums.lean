/- The numbers' bytes as a plain function, and that both the program's and the specification's GetNum compute it. Conditions: at most 2^20 bytes (what both are called with here). -/
import Derived.Test.YtklhikadhohjbaaGreatMA01
namespace Go.Proofs.YtklhikadhohjbaaGreat
open Go.RowKit
set_option linter.unusedVariables false

def getLoop : Nat → List Int → Nat → Int → Int → Option (Int × Nat)
 | 0, _, _, _, _ => none
 | _ + 1, [], _, _, _ => none
 | f + 1, x :: r, i, n, sc =>
  if 128 ≤ x then getLoop f r (i + 1) (n + (x - 128) * sc) (sc * 128)
  else if (0 < i ∧ x = 0) ∨ 2147483647 < n + x * sc then none else some (n + x * sc, i + 1)

def getNum (zs : List Int) (p : Int) : Int × Int :=
 if p < 0 then (0, -1) else match getLoop 5 (zs.drop p.toNat) 0 0 1 with
  | none => (0, -1)
  | some (n, c) => (n, p + c)

theorem getLoop_nil (f i : Nat) (n sc : Int) : getLoop f [] i n sc = none := by cases f <;> rfl
theorem getLoop_more {f : Nat} {x : Int} {r : List Int} {i : Nat} {n sc : Int} (h : 128 ≤ x) : getLoop (f + 1) (x :: r) i n sc = getLoop f r (i + 1) (n + (x - 128) * sc) (sc * 128) := by
 rw [getLoop, if_pos h]
theorem getLoop_bad {f : Nat} {x : Int} {r : List Int} {i : Nat} {n sc : Int} (h : ¬ 128 ≤ x) (h2 : (0 < i ∧ x = 0) ∨ 2147483647 < n + x * sc) : getLoop (f + 1) (x :: r) i n sc = none := by
 rw [getLoop, if_neg h, if_pos h2]
theorem getLoop_end {f : Nat} {x : Int} {r : List Int} {i : Nat} {n sc : Int} (h : ¬ 128 ≤ x) (h2 : ¬ ((0 < i ∧ x = 0) ∨ 2147483647 < n + x * sc)) : getLoop (f + 1) (x :: r) i n sc = some (n + x * sc, i + 1) := by
 rw [getLoop, if_neg h, if_neg h2]
theorem drop_cons (zs : List Int) (k : Nat) (h : k < zs.length) : zs.drop k = zs[k]?.getD 0 :: zs.drop (k + 1) := by
 rw [List.drop_eq_getElem_cons h]; simp [h]
theorem getNum_none {zs : List Int} {p : Nat} (h : getLoop 5 (zs.drop p) 0 0 1 = none) : getNum zs p = (0, -1) := by
 unfold getNum; rw [if_neg (by omega), Int.toNat_natCast, h]
theorem getNum_some {zs : List Int} {p : Nat} {n : Int} {c : Nat} (h : getLoop 5 (zs.drop p) 0 0 1 = some (n, c)) : getNum zs p = (n, (p : Int) + (c : Int)) := by
 unfold getNum; rw [if_neg (by omega), Int.toNat_natCast, h]

def wt : Nat → Int
 | 0 => 1
 | 1 => 128
 | 2 => 16384
 | 3 => 2097152
 | 4 => 268435456
 | _ => 34359738368
theorem wt_succ (k : Nat) (h : k < 5) : wt k * 128 = wt (k + 1) := by
 rcases (show k = 0 ∨ k = 1 ∨ k = 2 ∨ k = 3 ∨ k = 4 from by omega) with rfl | rfl | rfl | rfl | rfl <;> rfl
theorem wt_bd (k : Nat) (h : k < 5) : 1 ≤ wt k ∧ wt k ≤ 268435456 := by
 rcases (show k = 0 ∨ k = 1 ∨ k = 2 ∨ k = 3 ∨ k = 4 from by omega) with rfl | rfl | rfl | rfl | rfl <;> decide

def At (zs : List Int) (p k : Nat) (n : Int) : Prop := 0 ≤ n ∧ n ≤ wt k ∧ getLoop 5 (zs.drop p) 0 0 1 = getLoop (5 - k) (zs.drop (p + k)) k n (wt k)
theorem At.start (zs : List Int) (p : Nat) : At zs p 0 0 := ⟨by decide, by decide, rfl⟩
theorem At.more {zs : List Int} {p k : Nat} {n c : Int} (h : At zs p k n) (hk : k < 5) (hp : p + k < zs.length) (hc : c = zs[p + k]?.getD 0) (h1 : 128 ≤ c) (h2 : c ≤ 255) : At zs p (k + 1) (n + (c - 128) * wt k) := by
 obtain ⟨a, b, e⟩ := h
 have hw := wt_bd k hk
 have hs := wt_succ k hk
 have m0 : 0 ≤ (c - 128) * wt k := Int.mul_nonneg (by omega) (by omega)
 have m1 : (c - 128) * wt k ≤ 127 * wt k := Int.mul_le_mul_of_nonneg_right (by omega) (by omega)
 refine ⟨by omega, by omega, ?_⟩
 rw [e, drop_cons _ _ hp, ← hc, show 5 - k = (5 - (k + 1)) + 1 by omega, getLoop_more h1, hs]
 rfl
theorem At.out {zs : List Int} {p k : Nat} {n : Int} (h : At zs p k n) (hk : ¬ (k < 5 ∧ p + k < zs.length)) : getNum zs p = (0, -1) := by
 obtain ⟨a, b, e⟩ := h
 apply getNum_none
 rw [e]
 by_cases h5 : k < 5
 ·rw [List.drop_eq_nil_of_le (by omega), getLoop_nil]
 ·rw [show 5 - k = 0 by omega]; rfl
theorem At.bad {zs : List Int} {p k : Nat} {n c : Int} (h : At zs p k n) (hk : k < 5) (hp : p + k < zs.length) (hc : c = zs[p + k]?.getD 0) (h1 : c < 128) (h2 : (0 < k ∧ c = 0) ∨ 2147483647 < n + c * wt k) : getNum zs p = (0, -1) := by
 obtain ⟨a, b, e⟩ := h
 apply getNum_none
 rw [e, drop_cons _ _ hp, ← hc, show 5 - k = (5 - (k + 1)) + 1 by omega, getLoop_bad (by omega) h2]
theorem At.fin {zs : List Int} {p k : Nat} {n c : Int} (h : At zs p k n) (hk : k < 5) (hp : p + k < zs.length) (hc : c = zs[p + k]?.getD 0) (h1 : c < 128) (h2 : ¬ ((0 < k ∧ c = 0) ∨ 2147483647 < n + c * wt k)) : getNum zs p = (n + c * wt k, (p : Int) + k + 1) := by
 obtain ⟨a, b, e⟩ := h
 rw [getNum_some (n := n + c * wt k) (c := k + 1)]
 ·simp; omega
 ·rw [e, drop_cons _ _ hp, ← hc, show 5 - k = (5 - (k + 1)) + 1 by omega, getLoop_end (by omega) h2]
theorem mul_bd {c s m : Int} (h0 : 0 ≤ c) (h1 : c ≤ m) (h2 : 1 ≤ s) (h3 : s ≤ 268435456) (hm : m ≤ 255) : 0 ≤ c * s ∧ c * s ≤ 68451041280 := by
 have m0 : 0 ≤ c * s := Int.mul_nonneg (by omega) (by omega)
 have m1 : c * s ≤ 255 * s := Int.mul_le_mul_of_nonneg_right (by omega) (by omega)
 omega

def GRel (zs : List Int) (L p : Nat) (q s i : Value) : Prop :=
 ∃ (k : Nat) (n sc : Int), k ≤ 5 ∧ p + k ≤ L ∧ i = .i k ∧ q = .i n ∧ s = .i sc ∧ Hid (sc = wt k) ∧ Hid (At zs p k n)
theorem GRel.next {zs : List Int} {L p k : Nat} {n sc c : Int} (HL : Hid (zs.length = L)) (HS : Hid (sc = wt k)) (HA : Hid (At zs p k n)) (h5 : k < 5) (hpl : p + k < L) (HC : Hid (c = zs[p + k]?.getD 0)) (hge : 128 ≤ c) (h255 : c ≤ 255) :
  GRel zs L p (.i (n + (c - 128) * sc)) (.i (sc * 128)) (.i ((k : Int) + 1)) :=
 ⟨k + 1, _, _, by omega, by omega, by go_num, rfl, rfl, by show _ = _; rw [HS.out, wt_succ k h5], by have := HA.out.more h5 (by rw [HL.out]; exact hpl) HC.out hge h255; rw [← HS.out] at this; exact this⟩

set_option maxHeartbeats 1000000 in
theorem implGet_in (b off : Nat) (zs : List Int) (cap p : Nat) (w : World) (hb : isBytes zs) (hcell : ∀ i, i < zs.length → w.cell? ⟨b, off + i, none⟩ = some (.int .u8 (zs[i]?.getD 0))) (hl : zs.length ≤ 2097152) (hcap : zs.length ≤ cap) (hcm : cap ≤ maxLen) (hp : p < zs.length) :
  Calls Tryz.prog 151 #[.slice (some ⟨b, off, none⟩) zs.length cap, .i p] w fun e w' => e = .returned (.tuple #[.i (getNum zs p).1, .i (getNum zs p).2]) ∧ w' = w := by
 unfold maxLen at hcm
 obtain ⟨L, hL⟩ : ∃ L, zs.length = L := ⟨_, rfl⟩
 have HL : Hid (zs.length = L) := hL
 rw [hL] at hl hcap hp ⊢
 clear hL
 have HC : Hid (∀ i, i < zs.length → w.cell? ⟨b, off + i, none⟩ = some (.int .u8 (zs[i]?.getD 0))) := hcell
 clear hcell
 go_enter Tryz.func151, Tryz.ntmps151
 go_wp2
 go_loop [7, 8, 9] (fun q s i => GRel zs L p q s i) (fun _ _ i => 5 - (intOf i).toNat)
 case atStart => exact ⟨0, 0, 1, by omega, by omega, rfl, rfl, rfl, rfl, At.start _ _⟩
 case round =>
  obtain ⟨k, n, sc, hk, hpk, rfl, rfl, rfl, HS, HA⟩ := hrel
  by_cases hlt : k < 5 ∧ p + k < L
  ·obtain ⟨h5, hpl⟩ := hlt
   have hpl' : p + k < zs.length := by rw [HL.out]; exact hpl
   have hc := HC.out (p + k) hpl'
   have hbd := hb (p + k)
   obtain ⟨c, HCc⟩ : ∃ c, Hid (c = zs[p + k]?.getD 0) := ⟨_, rfl⟩
   rw [← HCc.out] at hc hbd
   have hc' : w.cell? ⟨b, off + p + k, none⟩ = some (.int .u8 c) := by rw [Nat.add_assoc]; exact hc
   have hwb := wt_bd k h5
   rw [← HS.out] at hwb
   have hn0 := HA.out.1
   have hn1 := HA.out.2.1
   rw [← HS.out] at hn1
   obtain ⟨hs1, hs2⟩ := hwb
   obtain ⟨hc0, hc255⟩ := hbd
   have HZ : Hid _ := hpl'
   clear hc hpl' hb
   by_cases hge : 128 ≤ c
   ·obtain ⟨hm0, hm1⟩ := mul_bd (c := c - 128) (s := sc) (m := 127) (by omega) (by omega) hs1 hs2 (by omega)
    have HR : Hid _ := GRel.next HL HS HA h5 hpl HCc hge hc255
    go_wp2
    refine ⟨?_, by simp [intOf]; omega⟩
    first | exact HR.out | exact ⟨_, _, _, _, _, HR.out, rfl, rfl, rfl, rfl, rfl⟩
   ·obtain ⟨hm0, hm1⟩ := mul_bd (c := c) (s := sc) (m := 127) (by omega) (by omega) hs1 hs2 (by omega)
    by_cases hbad : (0 < k ∧ c = 0) ∨ 2147483647 < n + c * sc
    ·have HB : Hid (getNum zs p = (0, -1)) := HA.out.bad h5 HZ.out HCc.out (by omega) (by rw [← HS.out]; exact hbad)
     go_wp2
     all_goals go_ret2
     all_goals exact ⟨by rw [HB.out]; rfl, rfl⟩
    ·have HB : Hid (getNum zs p = (n + c * sc, (p : Int) + k + 1)) := by
      have := HA.out.fin h5 HZ.out HCc.out (by omega) (by rw [← HS.out]; exact hbad)
      rw [← HS.out] at this; exact this
     have hle : n + c * sc ≤ 2147483647 := by omega
     by_cases hk0 : 0 < k
     ·have hcz : (c == 0) = false := beq_eq_false_iff_ne.2 (fun h => hbad (.inl ⟨hk0, h⟩))
      clear hbad
      go_wp2
      go_ret2
      exact ⟨by rw [HB.out]; rfl, rfl⟩
     ·clear hbad
      go_wp2
      go_ret2
      exact ⟨by rw [HB.out]; rfl, rfl⟩
  ·have HB : Hid (getNum zs p = (0, -1)) := HA.out.out (by rw [HL.out]; exact hlt)
   by_cases h5 : k < 5
   ·have : L - p ≤ k := by omega
    go_wp2
    go_ret2
    exact ⟨by rw [HB.out]; rfl, rfl⟩
   ·go_wp2
    go_ret2
    exact ⟨by rw [HB.out]; rfl, rfl⟩

set_option maxHeartbeats 400000 in
theorem implGet_out (a : Option Addr) (L cap : Nat) (p : Int) (w : World) (hl : L ≤ 2097152) (hp : p < 0 ∨ (L : Int) ≤ p) :
  Calls Tryz.prog 151 #[.slice a L cap, .i p] w fun e w' => e = .returned (.tuple #[.i 0, .i (-1)]) ∧ w' = w := by
 by_cases h0 : p < 0
 ·clear hp
  go_enter Tryz.func151, Tryz.ntmps151
  go_wp2
  go_ret2
  exact ⟨rfl, rfl⟩
 ·have h1 : (L : Int) ≤ p := by omega
  clear hp
  go_enter Tryz.func151, Tryz.ntmps151
  go_wp2
  go_ret2
  exact ⟨rfl, rfl⟩

theorem getNum_out (zs : List Int) (p : Int) (hp : p < 0 ∨ (zs.length : Int) ≤ p) : getNum zs p = (0, -1) := by
 unfold getNum
 by_cases h0 : p < 0
 ·rw [if_pos h0]
 ·rw [if_neg h0, List.drop_eq_nil_of_le (by omega), getLoop_nil]

theorem implGet_any (a : Option Addr) (zs : List Int) (cap : Nat) (p : Int) (w : World) (h : Reads w a zs) (hl : zs.length ≤ 2097152) (hcap : zs.length ≤ cap) (hcm : cap ≤ maxLen) :
  Calls Tryz.prog 151 #[.slice a zs.length cap, .i p] w fun e w' => e = .returned (.tuple #[.i (getNum zs p).1, .i (getNum zs p).2]) ∧ w' = w := by
 by_cases hp : p < 0 ∨ (zs.length : Int) ≤ p
 ·rw [getNum_out zs p hp]; exact implGet_out a zs.length cap p w hl hp
 ·obtain ⟨q, rfl⟩ : ∃ q : Nat, p = (q : Int) := ⟨p.toNat, by omega⟩
  obtain ⟨hb, hc⟩ := h
  rcases hc with rfl | ⟨b, off, rfl, hbl, hcell⟩
  ·simp at hp
  ·exact implGet_in b off zs cap q w hb hcell hl hcap hcm (by omega)

end Go.Proofs.YtklhikadhohjbaaGreat
