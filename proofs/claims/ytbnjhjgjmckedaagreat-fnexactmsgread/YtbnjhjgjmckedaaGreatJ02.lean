/- Joined: OpenT Nums Puts PutNum Steps Texts Pure Wires. -/
import Derived.Test.YtbnjhjgjmckedaaGreatJ01
import Derived.ProofKit
import Derived.OpenShut
import Derived.Lib.SmallJoins
import Derived.Deep.Slices
import Derived.Deep.Strs

section
/- Handles, entries, nodes, trees and operations that came in as arguments, read as data; no condition. -/
namespace Go.Proofs.YtbnjhjgjmckedaaGreat
open Go.RowKit Go.Deep Go.ChangeShapes Go.WideShapes
set_option linter.unusedVariables false

section
variable {H : Type} {enc : TypeId × Value → H} {w : World} {held : Bool}

theorem spot_noneT {a : Addr} {v : Value} (h : w.cell? a = some v) : ∃ b off, a = ⟨b, off, none⟩ := by
  obtain ⟨b, off, spot⟩ := a
  have : spot = none := by simpa using World.cell?_spot h
  exact ⟨b, off, by rw [this]⟩
theorem add_plainT (b off i : Nat) : (⟨b, off, none⟩ : Addr).add i = ⟨b, off + i, none⟩ := by
  unfold Addr.add
  by_cases hi : i = 0
  · subst hi; simp
  · simp [hi]

abbrev Old (w : World) : Nat → Prop := fun b => b < w.heap.size

theorem open_bytesT {fuel : Nat} {v : Value} {x : DataW H × List MemPlace} (h : DataW.trod enc Tryz.prog w 0 (fun _ => true) held fuel 22 [v] = some x) : ∃ zs, RdS w (Old w) v zs := by
  rcases open_ints Tryz.underlying22 Tryz.underlying5 (by kernel_rfl) h with ⟨hcs, _⟩ | ⟨a, len, cap, zs, hcs, _, hl, hm, hz, _, hcell, hwz⟩
  · simp only [List.cons.injEq, and_true] at hcs
    exact ⟨[], isBytes_nil, none, 0, 0, hcs, rfl, ⟨Nat.le_refl _, Nat.zero_le _, fun _ => ⟨rfl, rfl⟩⟩, .inl rfl⟩
  · simp only [List.cons.injEq, and_true] at hcs
    simp only [if_true] at hz
    refine ⟨zs.take len, ?_, some a, len, cap, hcs, by simp; omega, ⟨hl, hm, fun e => by cases e⟩, ?_⟩
    · intro j
      by_cases hj : j < len
      · rw [List.getElem?_take, if_pos hj]; exact range_u8 hwz j
      · rw [List.getElem?_take, if_neg hj]; simp
    · by_cases h0 : len = 0
      · exact .inl (by simp [h0])
      · obtain ⟨b, off, rfl⟩ := spot_noneT (w := w) (a := a) (v := .int .u8 (zs.getD 0 0)) (by have := hcell 0 (by omega); simpa [Addr.add] using this)
        have hlt : b < w.heap.size := by have := hcell 0 (by omega); rw [add_plainT] at this; exact block_lt_of_cell this
        refine .inr ⟨b, off, rfl, hlt, hlt, fun i hi => ?_⟩
        have hi' : i < len := by simp at hi; omega
        have := hcell i (by omega)
        rw [add_plainT] at this
        rw [this, List.getElem?_take, if_pos hi']
        simp

end
end Go.Proofs.YtbnjhjgjmckedaaGreat
end

section
/- The numbers' bytes as a plain function, and that both the program's and the specification's GetNum compute it. Conditions: at most 2^20 bytes (what both are called with here). -/
namespace Go.Proofs.YtbnjhjgjmckedaaGreat
open Go.RowKit
set_option linter.unusedVariables false

/-- Reads a number from the head of a list of bytes: i bytes were read, n is their sum, sc the next one's weight, f more may come. -/
def getLoop : Nat → List Int → Nat → Int → Int → Option (Int × Nat)
  | 0, _, _, _, _ => none
  | _ + 1, [], _, _, _ => none
  | f + 1, x :: r, i, n, sc =>
    if 128 ≤ x then getLoop f r (i + 1) (n + (x - 128) * sc) (sc * 128)
    else if (0 < i ∧ x = 0) ∨ 2147483647 < n + x * sc then none else some (n + x * sc, i + 1)

def getNum (zs : List Int) (p : Int) : Int × Int :=
  if p < 0 then (0, -1) else match getLoop 5 (zs.drop p.toNat) 0 0 1 with
    | none => (0, -1)
    | some (n, c) => (n, p + c)

theorem getLoop_nil (f i : Nat) (n sc : Int) : getLoop f [] i n sc = none := by cases f <;> rfl
theorem getLoop_more {f : Nat} {x : Int} {r : List Int} {i : Nat} {n sc : Int} (h : 128 ≤ x) : getLoop (f + 1) (x :: r) i n sc = getLoop f r (i + 1) (n + (x - 128) * sc) (sc * 128) := by
  rw [getLoop, if_pos h]
theorem getLoop_bad {f : Nat} {x : Int} {r : List Int} {i : Nat} {n sc : Int} (h : ¬ 128 ≤ x) (h2 : (0 < i ∧ x = 0) ∨ 2147483647 < n + x * sc) : getLoop (f + 1) (x :: r) i n sc = none := by
  rw [getLoop, if_neg h, if_pos h2]
theorem getLoop_end {f : Nat} {x : Int} {r : List Int} {i : Nat} {n sc : Int} (h : ¬ 128 ≤ x) (h2 : ¬ ((0 < i ∧ x = 0) ∨ 2147483647 < n + x * sc)) : getLoop (f + 1) (x :: r) i n sc = some (n + x * sc, i + 1) := by
  rw [getLoop, if_neg h, if_neg h2]
theorem drop_cons (zs : List Int) (k : Nat) (h : k < zs.length) : zs.drop k = zs[k]?.getD 0 :: zs.drop (k + 1) := by
  rw [List.drop_eq_getElem_cons h]; simp [h]
theorem getNum_none {zs : List Int} {p : Nat} (h : getLoop 5 (zs.drop p) 0 0 1 = none) : getNum zs p = (0, -1) := by
  unfold getNum; rw [if_neg (by omega), Int.toNat_natCast, h]
theorem getNum_some {zs : List Int} {p : Nat} {n : Int} {c : Nat} (h : getLoop 5 (zs.drop p) 0 0 1 = some (n, c)) : getNum zs p = (n, (p : Int) + (c : Int)) := by
  unfold getNum; rw [if_neg (by omega), Int.toNat_natCast, h]

/-- The weight behind i bytes. -/
def wt : Nat → Int
  | 0 => 1
  | 1 => 128
  | 2 => 16384
  | 3 => 2097152
  | 4 => 268435456
  | _ => 34359738368
theorem wt_succ (k : Nat) (h : k < 5) : wt k * 128 = wt (k + 1) := by
  rcases (show k = 0 ∨ k = 1 ∨ k = 2 ∨ k = 3 ∨ k = 4 from by omega) with rfl | rfl | rfl | rfl | rfl <;> rfl
theorem wt_bd (k : Nat) (h : k < 5) : 1 ≤ wt k ∧ wt k ≤ 268435456 := by
  rcases (show k = 0 ∨ k = 1 ∨ k = 2 ∨ k = 3 ∨ k = 4 from by omega) with rfl | rfl | rfl | rfl | rfl <;> decide

/-- What holds at the head of round k of both loops. -/
def At (zs : List Int) (p k : Nat) (n : Int) : Prop := 0 ≤ n ∧ n ≤ wt k ∧ getLoop 5 (zs.drop p) 0 0 1 = getLoop (5 - k) (zs.drop (p + k)) k n (wt k)
theorem At.start (zs : List Int) (p : Nat) : At zs p 0 0 := ⟨by decide, by decide, rfl⟩
theorem At.more {zs : List Int} {p k : Nat} {n c : Int} (h : At zs p k n) (hk : k < 5) (hp : p + k < zs.length) (hc : c = zs[p + k]?.getD 0) (h1 : 128 ≤ c) (h2 : c ≤ 255) : At zs p (k + 1) (n + (c - 128) * wt k) := by
  obtain ⟨a, b, e⟩ := h
  have hw := wt_bd k hk
  have hs := wt_succ k hk
  have m0 : 0 ≤ (c - 128) * wt k := Int.mul_nonneg (by omega) (by omega)
  have m1 : (c - 128) * wt k ≤ 127 * wt k := Int.mul_le_mul_of_nonneg_right (by omega) (by omega)
  refine ⟨by omega, by omega, ?_⟩
  rw [e, drop_cons _ _ hp, ← hc, show 5 - k = (5 - (k + 1)) + 1 by omega, getLoop_more h1, hs]
  rfl
theorem At.out {zs : List Int} {p k : Nat} {n : Int} (h : At zs p k n) (hk : ¬ (k < 5 ∧ p + k < zs.length)) : getNum zs p = (0, -1) := by
  obtain ⟨a, b, e⟩ := h
  apply getNum_none
  rw [e]
  by_cases h5 : k < 5
  · rw [List.drop_eq_nil_of_le (by omega), getLoop_nil]
  · rw [show 5 - k = 0 by omega]; rfl
theorem At.bad {zs : List Int} {p k : Nat} {n c : Int} (h : At zs p k n) (hk : k < 5) (hp : p + k < zs.length) (hc : c = zs[p + k]?.getD 0) (h1 : c < 128) (h2 : (0 < k ∧ c = 0) ∨ 2147483647 < n + c * wt k) : getNum zs p = (0, -1) := by
  obtain ⟨a, b, e⟩ := h
  apply getNum_none
  rw [e, drop_cons _ _ hp, ← hc, show 5 - k = (5 - (k + 1)) + 1 by omega, getLoop_bad (by omega) h2]
theorem At.fin {zs : List Int} {p k : Nat} {n c : Int} (h : At zs p k n) (hk : k < 5) (hp : p + k < zs.length) (hc : c = zs[p + k]?.getD 0) (h1 : c < 128) (h2 : ¬ ((0 < k ∧ c = 0) ∨ 2147483647 < n + c * wt k)) : getNum zs p = (n + c * wt k, (p : Int) + k + 1) := by
  obtain ⟨a, b, e⟩ := h
  rw [getNum_some (n := n + c * wt k) (c := k + 1)]
  · simp; omega
  · rw [e, drop_cons _ _ hp, ← hc, show 5 - k = (5 - (k + 1)) + 1 by omega, getLoop_end (by omega) h2]
theorem mul_bd {c s m : Int} (h0 : 0 ≤ c) (h1 : c ≤ m) (h2 : 1 ≤ s) (h3 : s ≤ 268435456) (hm : m ≤ 255) : 0 ≤ c * s ∧ c * s ≤ 68451041280 := by
  have m0 : 0 ≤ c * s := Int.mul_nonneg (by omega) (by omega)
  have m1 : c * s ≤ 255 * s := Int.mul_le_mul_of_nonneg_right (by omega) (by omega)
  omega

/-- The loops' relation: the sum, the weight, the count. -/
def GRel (zs : List Int) (L p : Nat) (q s i : Value) : Prop :=
  ∃ (k : Nat) (n sc : Int), k ≤ 5 ∧ p + k ≤ L ∧ i = .int .i64 k ∧ q = .int .i64 n ∧ s = .int .i64 sc ∧ Hid (sc = wt k) ∧ Hid (At zs p k n)
theorem GRel.next {zs : List Int} {L p k : Nat} {n sc c : Int} (HL : Hid (zs.length = L)) (HS : Hid (sc = wt k)) (HA : Hid (At zs p k n)) (h5 : k < 5) (hpl : p + k < L) (HC : Hid (c = zs[p + k]?.getD 0)) (hge : 128 ≤ c) (h255 : c ≤ 255) :
    GRel zs L p (.int .i64 (n + (c - 128) * sc)) (.int .i64 (sc * 128)) (.int .i64 ((k : Int) + 1)) :=
  ⟨k + 1, _, _, by omega, by omega, by go_num, rfl, rfl, by show _ = _; rw [HS.out, wt_succ k h5], by have := HA.out.more h5 (by rw [HL.out]; exact hpl) HC.out hge h255; rw [← HS.out] at this; exact this⟩

set_option maxHeartbeats 1000000 in
theorem implGet_in (b off : Nat) (zs : List Int) (cap p : Nat) (w : World) (hb : isBytes zs) (hcell : ∀ i, i < zs.length → w.cell? ⟨b, off + i, none⟩ = some (.int .u8 (zs[i]?.getD 0))) (hl : zs.length ≤ 2097152) (hcap : zs.length ≤ cap) (hcm : cap ≤ maxLen) (hp : p < zs.length) :
    Calls Tryz.prog 85 #[.slice (some ⟨b, off, none⟩) zs.length cap, .int .i64 p] w fun e w' => e = .returned (.tuple #[.int .i64 (getNum zs p).1, .int .i64 (getNum zs p).2]) ∧ w' = w := by
  unfold maxLen at hcm
  obtain ⟨L, hL⟩ : ∃ L, zs.length = L := ⟨_, rfl⟩
  have HL : Hid (zs.length = L) := hL
  rw [hL] at hl hcap hp ⊢
  clear hL
  have HC : Hid (∀ i, i < zs.length → w.cell? ⟨b, off + i, none⟩ = some (.int .u8 (zs[i]?.getD 0))) := hcell
  clear hcell
  go_enter Tryz.func85, Tryz.ntmps85
  go_wp2
  go_loop [7, 8, 9] (fun q s i => GRel zs L p q s i) (fun _ _ i => 5 - (intOf i).toNat)
  case atStart => exact ⟨0, 0, 1, by omega, by omega, rfl, rfl, rfl, rfl, At.start _ _⟩
  case round =>
    obtain ⟨k, n, sc, hk, hpk, rfl, rfl, rfl, HS, HA⟩ := hrel
    by_cases hlt : k < 5 ∧ p + k < L
    · obtain ⟨h5, hpl⟩ := hlt
      have hpl' : p + k < zs.length := by rw [HL.out]; exact hpl
      have hc := HC.out (p + k) hpl'
      have hbd := hb (p + k)
      obtain ⟨c, HCc⟩ : ∃ c, Hid (c = zs[p + k]?.getD 0) := ⟨_, rfl⟩
      rw [← HCc.out] at hc hbd
      have hc' : w.cell? ⟨b, off + p + k, none⟩ = some (.int .u8 c) := by rw [Nat.add_assoc]; exact hc
      have hwb := wt_bd k h5
      rw [← HS.out] at hwb
      have hn0 := HA.out.1
      have hn1 := HA.out.2.1
      rw [← HS.out] at hn1
      obtain ⟨hs1, hs2⟩ := hwb
      obtain ⟨hc0, hc255⟩ := hbd
      have HZ : Hid _ := hpl'
      clear hc hpl' hb
      by_cases hge : 128 ≤ c
      · obtain ⟨hm0, hm1⟩ := mul_bd (c := c - 128) (s := sc) (m := 127) (by omega) (by omega) hs1 hs2 (by omega)
        have HR : Hid _ := GRel.next HL HS HA h5 hpl HCc hge hc255
        go_wp2
        refine ⟨?_, by simp [intOf]; omega⟩
        first | exact HR.out | exact ⟨_, _, _, _, _, HR.out, rfl, rfl, rfl, rfl, rfl⟩
      · obtain ⟨hm0, hm1⟩ := mul_bd (c := c) (s := sc) (m := 127) (by omega) (by omega) hs1 hs2 (by omega)
        by_cases hbad : (0 < k ∧ c = 0) ∨ 2147483647 < n + c * sc
        · have HB : Hid (getNum zs p = (0, -1)) := HA.out.bad h5 HZ.out HCc.out (by omega) (by rw [← HS.out]; exact hbad)
          go_wp2
          all_goals go_ret2
          all_goals exact ⟨by rw [HB.out]; rfl, rfl⟩
        · have HB : Hid (getNum zs p = (n + c * sc, (p : Int) + k + 1)) := by
            have := HA.out.fin h5 HZ.out HCc.out (by omega) (by rw [← HS.out]; exact hbad)
            rw [← HS.out] at this; exact this
          have hle : n + c * sc ≤ 2147483647 := by omega
          by_cases hk0 : 0 < k
          · have hcz : (c == 0) = false := beq_eq_false_iff_ne.2 (fun h => hbad (.inl ⟨hk0, h⟩))
            clear hbad
            go_wp2
            go_ret2
            exact ⟨by rw [HB.out]; rfl, rfl⟩
          · clear hbad
            go_wp2
            go_ret2
            exact ⟨by rw [HB.out]; rfl, rfl⟩
    · have HB : Hid (getNum zs p = (0, -1)) := HA.out.out (by rw [HL.out]; exact hlt)
      by_cases h5 : k < 5
      · have : L - p ≤ k := by omega
        go_wp2
        go_ret2
        exact ⟨by rw [HB.out]; rfl, rfl⟩
      · go_wp2
        go_ret2
        exact ⟨by rw [HB.out]; rfl, rfl⟩

set_option maxHeartbeats 400000 in
theorem implGet_out (a : Option Addr) (L cap : Nat) (p : Int) (w : World) (hl : L ≤ 2097152) (hp : p < 0 ∨ (L : Int) ≤ p) :
    Calls Tryz.prog 85 #[.slice a L cap, .int .i64 p] w fun e w' => e = .returned (.tuple #[.int .i64 0, .int .i64 (-1)]) ∧ w' = w := by
  by_cases h0 : p < 0
  · clear hp
    go_enter Tryz.func85, Tryz.ntmps85
    go_wp2
    go_ret2
    exact ⟨rfl, rfl⟩
  · have h1 : (L : Int) ≤ p := by omega
    clear hp
    go_enter Tryz.func85, Tryz.ntmps85
    go_wp2
    go_ret2
    exact ⟨rfl, rfl⟩

theorem getNum_out (zs : List Int) (p : Int) (hp : p < 0 ∨ (zs.length : Int) ≤ p) : getNum zs p = (0, -1) := by
  unfold getNum
  by_cases h0 : p < 0
  · rw [if_pos h0]
  · rw [if_neg h0, List.drop_eq_nil_of_le (by omega), getLoop_nil]

theorem implGet_any (a : Option Addr) (zs : List Int) (cap : Nat) (p : Int) (w : World) (h : Reads w a zs) (hl : zs.length ≤ 2097152) (hcap : zs.length ≤ cap) (hcm : cap ≤ maxLen) :
    Calls Tryz.prog 85 #[.slice a zs.length cap, .int .i64 p] w fun e w' => e = .returned (.tuple #[.int .i64 (getNum zs p).1, .int .i64 (getNum zs p).2]) ∧ w' = w := by
  by_cases hp : p < 0 ∨ (zs.length : Int) ≤ p
  · rw [getNum_out zs p hp]; exact implGet_out a zs.length cap p w hl hp
  · obtain ⟨q, rfl⟩ : ∃ q : Nat, p = (q : Int) := ⟨p.toNat, by omega⟩
    obtain ⟨hb, hc⟩ := h
    rcases hc with rfl | ⟨b, off, rfl, hbl, hcell⟩
    · simp at hp
    · exact implGet_in b off zs cap q w hb hcell hl hcap hcm (by omega)

set_option maxHeartbeats 1000000 in
theorem specGet_any (a : Option Addr) (zs : List Int) (cap : Nat) (p : Int) (w : World) (h : Reads w a zs) (hl : zs.length ≤ 2097152) (hpb : p ≤ 9223372036854775807) :
    Calls Tryz.prog 92 #[.slice a zs.length cap, .int .i64 p] w fun e w' => e = .returned (.tuple #[.int .i64 (getNum zs p).1, .int .i64 (getNum zs p).2]) ∧ w' = w := by
  obtain ⟨hb, hcc⟩ := h
  by_cases h0 : p < 0
  · rw [getNum_out zs p (.inl h0)]
    clear hcc hb
    go_enter Tryz.func92, Tryz.ntmps92
    go_wp2
    go_ret2
    exact ⟨rfl, rfl⟩
  obtain ⟨p, rfl⟩ : ∃ q : Nat, p = (q : Int) := ⟨p.toNat, by omega⟩
  obtain ⟨L, hL⟩ : ∃ L, zs.length = L := ⟨_, rfl⟩
  have HL : Hid (zs.length = L) := hL
  rw [hL] at hl ⊢
  clear hL h0
  by_cases hpL : p ≤ L
  · have HC : Hid (zs = [] ∨ ∃ b off, a = some ⟨b, off, none⟩ ∧ b < w.heap.size ∧ ∀ i, i < zs.length → w.cell? ⟨b, off + i, none⟩ = some (.int .u8 (zs[i]?.getD 0))) := hcc
    clear hcc
    go_enter Tryz.func92, Tryz.ntmps92
    go_wp2
    go_loop [6, 7, 8] (fun q s i => GRel zs L p q s i) (fun _ _ i => 5 - (intOf i).toNat)
    case atStart => exact ⟨0, 0, 1, by omega, by omega, rfl, rfl, rfl, rfl, At.start _ _⟩
    case round =>
      obtain ⟨k, n, sc, hk, hpk, rfl, rfl, rfl, HS, HA⟩ := hrel
      by_cases hlt : k < 5 ∧ p + k < L
      · obtain ⟨h5, hpl⟩ := hlt
        have hpl' : p + k < zs.length := by rw [HL.out]; exact hpl
        rcases HC.out with rfl | ⟨b, off, rfl, hbl, hcell⟩
        · simp at hpl'
        have hc := hcell (p + k) hpl'
        have hbd := hb (p + k)
        obtain ⟨c, HCc⟩ : ∃ c, Hid (c = zs[p + k]?.getD 0) := ⟨_, rfl⟩
        rw [← HCc.out] at hc hbd
        have hwb := wt_bd k h5
        rw [← HS.out] at hwb
        have hn0 := HA.out.1
        have hn1 := HA.out.2.1
        rw [← HS.out] at hn1
        obtain ⟨hs1, hs2⟩ := hwb
        obtain ⟨hc0, hc255⟩ := hbd
        have HZ : Hid _ := hpl'
        clear hpl' hb hcell
        by_cases hge : 128 ≤ c
        · obtain ⟨hm0, hm1⟩ := mul_bd (c := c % 128) (s := sc) (m := 127) (by omega) (by omega) hs1 hs2 (by omega)
          have hcm : c % 128 = c - 128 := by omega
          have HR := GRel.next HL HS HA h5 hpl HCc hge hc255
          rw [← hcm] at HR
          have HR' : Hid _ := HR
          clear HR hcm
          go_wp2
          refine ⟨?_, by simp [intOf]; omega⟩
          first | exact HR'.out | exact ⟨_, _, _, _, _, HR'.out, rfl, rfl, rfl, rfl, rfl⟩
        · have hcm : c % 128 = c := by omega
          obtain ⟨hm0, hm1⟩ := mul_bd (c := c) (s := sc) (m := 127) (by omega) (by omega) hs1 hs2 (by omega)
          by_cases hbad : (0 < k ∧ c = 0) ∨ 2147483647 < n + c * sc
          · have HB : Hid (getNum zs p = (0, -1)) := HA.out.bad h5 HZ.out HCc.out (by omega) (by rw [← HS.out]; exact hbad)
            rcases hbad with ⟨hk0, rfl⟩ | hgt
            · go_wp2
              all_goals go_ret2
              all_goals exact ⟨by rw [HB.out]; rfl, rfl⟩
            · have hcz' : (c == 0) = false := by
                apply beq_eq_false_iff_ne.2
                rintro rfl
                rw [Int.zero_mul] at hgt
                omega
              go_wp2
              all_goals go_ret2
              all_goals exact ⟨by rw [HB.out]; rfl, rfl⟩
          · have HB : Hid (getNum zs p = (n + c * sc, (p : Int) + k + 1)) := by
              have := HA.out.fin h5 HZ.out HCc.out (by omega) (by rw [← HS.out]; exact hbad)
              rw [← HS.out] at this; exact this
            have hle : n + c * sc ≤ 2147483647 := by omega
            by_cases hcz : c = 0
            · have hk0 : ¬ 0 < k := fun h => hbad (.inl ⟨h, hcz⟩)
              clear hbad
              have hcz' : (c == 0) = true := by simp [hcz]
              have HCZ : Hid _ := hcz
              clear hcz
              go_wp2
              go_ret2
              exact ⟨by rw [HB.out]; first | rfl | simp, rfl⟩
            · have hcz' : (c == 0) = false := beq_eq_false_iff_ne.2 hcz
              clear hbad hcz
              go_wp2
              go_ret2
              exact ⟨by rw [HB.out]; rfl, rfl⟩
      · have HB : Hid (getNum zs p = (0, -1)) := HA.out.out (by rw [HL.out]; exact hlt)
        by_cases h5 : k < 5
        · have : (L : Int) - (p : Int) ≤ k := by omega
          go_wp2
          go_ret2
          exact ⟨by rw [HB.out]; rfl, rfl⟩
        · go_wp2
          go_ret2
          exact ⟨by rw [HB.out]; rfl, rfl⟩
  · rw [getNum_out zs p (.inr (by rw [HL.out]; omega))]
    clear hcc hb
    have : (L : Int) - (p : Int) ≤ 0 := by omega
    go_enter Tryz.func92, Tryz.ntmps92
    go_wp2
    refine wp_loop_rounds 1 ?_
    rw [rounds_succ]
    go_wp2
    go_ret2
    exact ⟨rfl, rfl⟩
end Go.Proofs.YtbnjhjgjmckedaaGreat
end

section
/- What the program's joined and numBytes answer, as plain functions on lists of bytes. Conditions: at most 2^20 bytes come in (what they are called with here). -/
namespace Go.Proofs.YtbnjhjgjmckedaaGreat
open Go.RowKit
set_option linter.unusedVariables false
set_option maxRecDepth 100000

set_option maxHeartbeats 1000000 in
theorem joined_any (a b : Option Addr) (xs ys : List Int) (ca cb : Nat) (w : World) (hx : Reads w a xs) (hy : Reads w b ys) (hl : xs.length ≤ 2097152) (hm : ys.length ≤ 2097152) :
    Calls Tryz.prog 108 #[.slice a xs.length ca, .slice b ys.length cb] w fun e w' => e = .returned (.slice (some ⟨w.heap.size, 0, none⟩) (xs ++ ys).length (xs ++ ys).length) ∧
      Owns w' w.heap.size (.slice (some ⟨w.heap.size, 0, none⟩) (xs ++ ys).length (xs ++ ys).length) (xs ++ ys) ∧ Below w.heap.size w w' ∧ w.heap.size < w'.heap.size := by
  obtain ⟨i0, hi, hz0, hz1, hz2⟩ := info_parts Tryz.infoB
  obtain ⟨m, hm'⟩ : ∃ m, xs.length = m := ⟨_, rfl⟩
  obtain ⟨n, hn'⟩ : ∃ n, ys.length = n := ⟨_, rfl⟩
  have HM : Hid (xs.length = m) := hm'
  have HN : Hid (ys.length = n) := hn'
  rw [List.length_append, hm', hn']
  rw [hm'] at hl
  rw [hn'] at hm
  obtain ⟨X, HX⟩ : ∃ X, Hid (X = bcells xs) := ⟨_, rfl⟩
  obtain ⟨Y, HY⟩ : ∃ Y, Hid (Y = bcells ys) := ⟨_, rfl⟩
  have hXl : X.length = m := by rw [HX.out, bcells_length]; exact hm'
  have hYl : Y.length = n := by rw [HY.out, bcells_length]; exact hn'
  obtain ⟨Z, HZ⟩ : ∃ Z, Hid (Z = bcells (List.replicate (m + n) 0)) := ⟨_, rfl⟩
  have hZl : Z.length = m + n := by rw [HZ.out]; simp
  have hsl : (splice Z 0 X).length = m + n := by rw [length_splice _ _ _ (by omega), hZl]
  have HFIN : Hid (splice (splice Z 0 X) m Y = bcells (xs ++ ys)) := by
    show _ = _
    rw [splice_two Z X Y m hXl (by omega), HX.out, HY.out]; simp [bcells]
  have HX1 : Hid (∀ v ∈ X, v.oneCell' = true) := by show ∀ v ∈ X, v.oneCell' = true; rw [HX.out]; exact bcells_one xs
  have HY1 : Hid (∀ v ∈ Y, v.oneCell' = true) := by show ∀ v ∈ Y, v.oneCell' = true; rw [HY.out]; exact bcells_one ys
  have hXm : X.length = Nat.min m (m + n) := by rw [hXl]; exact (Nat.min_eq_left (by omega)).symm
  have hYm : Y.length = Nat.min n n := by rw [hYl]; exact (Nat.min_self n).symm
  clear hm' hn'
  go_enter Tryz.func108, Tryz.ntmps108
  go_wp2_with (first
    | (at_make; refine wpList_make_full _ rfl _ _ 22 rfl w.heap.size 5 i0 (.int .u8 0) 1 Tryz.underlying22 hi hz0 hz1 .i64 .i64 _ _ (m + n) rfl rfl (by omega) (by omega) (by rw [hz2]; omega) (by unfold maxLen; omega) (Nat.le_refl _) ?_; intro w1 hown hgrow; have hb1 : Below w.heap.size w w1 := (Below.refl _ _).grown hgrow (Nat.le_refl _) (fun k h => by cases h); have hs1 : w.heap.size < w1.heap.size := (hown.lt _ rfl).2; rw [madeCells_bytes, ← HZ.out] at hown; have HG1 : Hid _ := full_heap hown; clear hown hgrow)
    | (refine wpList_copy_splice rfl (.tmp 12) (.tmp 13) 22 22 rfl 5 Tryz.underlying22 Tryz.sizeB _ _ _ _ _ _ rfl rfl w.heap.size 0 Z 5 HG1.out X hXm (fun h0 => ⟨rfl, by rw [HX.out] at h0 ⊢; exact (hx.below hb1).src h0⟩) (by omega) HX1.out w.heap.size w hb1 (Nat.le_refl _) ?_; intro w2 HG2 hb2)
    | (refine wpList_copy_splice rfl (.tmp 18) (.tmp 19) 22 22 rfl 5 Tryz.underlying22 Tryz.sizeB _ _ _ _ _ _ rfl rfl w.heap.size m (splice Z 0 X) 5 HG2.out Y (by rw [hYl]; simp <;> omega) (fun h0 => ⟨by simp <;> omega, by rw [HY.out] at h0 ⊢; exact (hy.below hb2).src h0⟩) (by omega) HY1.out w.heap.size w hb2 (Nat.le_refl _) ?_; intro w3 HG3 hb3))
  all_goals
    go_ret
    have hg3 := HG3.out
    rw [HFIN.out] at hg3
    exact ⟨rfl, full_owns (by have := HM.out; have := HN.out; rw [List.length_append]; omega) (Nat.le_refl _) (by rw [List.length_append, HM.out, HN.out]; omega) hg3, hb3, lt_of_block hg3⟩

/-- The bytes of a number below 128^(f+1). -/
def numB : Nat → Int → List Int
  | 0, n => [n]
  | f + 1, n => if n < 128 then [n] else (n % 128 + 128) :: numB f (n / 128)

def putB (n : Int) : List Int := if n < 0 ∨ 2147483647 < n then [] else numB 4 n

theorem numB_small (f : Nat) (n : Int) (h : n < 128) : numB f n = [n] := by cases f <;> simp [numB, h]

theorem numB_more (f : Nat) (n : Int) (h : ¬ n < 128) : numB (f + 1) n = (n % 128 + 128) :: numB f (n / 128) := by rw [numB, if_neg h]

theorem numB_len (f : Nat) (n : Int) : 1 ≤ (numB f n).length ∧ (numB f n).length ≤ f + 1 := by
  induction f generalizing n with
  | zero => simp [numB]
  | succ f ih =>
    have := ih (n / 128)
    by_cases h : n < 128
    · rw [numB_small _ _ h]; simp
    · rw [numB_more _ _ h]; simp only [List.length_cons]; omega

theorem numB_bytes (f : Nat) (n : Int) (h0 : 0 ≤ n) (h : n < wt (f + 1)) (hf : f ≤ 4) : isBytes (numB f n) := by
  induction f generalizing n with
  | zero => exact isBytes_cons h0 (by have h2 : n < 128 := h; omega) isBytes_nil
  | succ f ih =>
    by_cases h1 : n < 128
    · rw [numB_small _ _ h1]; exact isBytes_cons h0 (by omega) isBytes_nil
    · rw [numB_more _ _ h1]
      have := wt_succ (f + 1) (by omega)
      exact isBytes_cons (by omega) (by omega) (ih (n / 128) (by omega) (by omega) (by omega))

theorem putB_bytes (n : Int) : isBytes (putB n) := by
  unfold putB
  split
  · exact isBytes_nil
  · exact numB_bytes 4 n (by omega) (by show n < 34359738368; omega) (by omega)

theorem putB_len (n : Int) : (putB n).length ≤ 5 := by
  unfold putB
  split
  · simp
  · exact (numB_len 4 n).2

set_option maxHeartbeats 1000000 in
theorem numBytes_any (n : Int) (w : World) (h0 : 0 ≤ n) (h1 : n ≤ 2147483647) :
    Calls Tryz.prog 109 #[.int .i64 n] w fun e w' => ∃ (d0 d1 d2 d3 d4 : Int) (c : Nat), e = .returned (.tuple #[.agg #[.int .u8 d0, .int .u8 d1, .int .u8 d2, .int .u8 d3, .int .u8 d4], .int .i64 c]) ∧ 1 ≤ c ∧ c ≤ 5 ∧ [d0, d1, d2, d3, d4].take c = numB 4 n ∧ Below w.heap.size w w' := by
  by_cases s1 : n < 128
  · have HN : Hid (numB 4 n = [n]) := numB_small 4 n s1
    go_enter Tryz.func109, Tryz.ntmps109
    go_wp2
    refine wp_loop_rounds 1 ?_
    rw [rounds_succ]
    go_wp2
    exact bodyPost_ret (v := .tuple #[.agg #[.int .u8 n, .int .u8 0, .int .u8 0, .int .u8 0, .int .u8 0], .int .i64 1]) (by simp [results, Tryz.results109, go_sem]) rfl ⟨n, 0, 0, 0, 0, 1, rfl, by omega, by omega, by rw [HN.out]; rfl, ((Below.refl _ _).alloc (Nat.le_refl _) _).alloc (by simp) _⟩
  by_cases s2 : n / 128 < 128
  · have HN : Hid (numB 4 n = [n % 128 + 128, n / 128]) := by
      show _ = _
      rw [numB_more _ _ s1, numB_small _ _ s2]
    go_enter Tryz.func109, Tryz.ntmps109
    go_wp2
    refine wp_loop_rounds 2 ?_
    rw [rounds_succ]
    go_wp2
    rw [rounds_succ]
    go_wp2
    exact bodyPost_ret (v := .tuple #[.agg #[.int .u8 (n % 128 + 128), .int .u8 (n / 128), .int .u8 (0), .int .u8 (0), .int .u8 (0)], .int .i64 2]) (by simp [results, Tryz.results109, go_sem]) rfl ⟨n % 128 + 128, n / 128, 0, 0, 0, 2, rfl, by omega, by omega, by rw [HN.out]; rfl, ((Below.refl _ _).alloc (Nat.le_refl _) _).alloc (by simp) _⟩
  by_cases s3 : n / 128 / 128 < 128
  · have HN : Hid (numB 4 n = [n % 128 + 128, n / 128 % 128 + 128, n / 128 / 128]) := by
      show _ = _
      rw [numB_more _ _ s1, numB_more _ _ s2, numB_small _ _ s3]
    go_enter Tryz.func109, Tryz.ntmps109
    go_wp2
    refine wp_loop_rounds 3 ?_
    rw [rounds_succ]
    go_wp2
    rw [rounds_succ]
    go_wp2
    rw [rounds_succ]
    go_wp2
    exact bodyPost_ret (v := .tuple #[.agg #[.int .u8 (n % 128 + 128), .int .u8 (n / 128 % 128 + 128), .int .u8 (n / 128 / 128), .int .u8 (0), .int .u8 (0)], .int .i64 3]) (by simp [results, Tryz.results109, go_sem]) rfl ⟨n % 128 + 128, n / 128 % 128 + 128, n / 128 / 128, 0, 0, 3, rfl, by omega, by omega, by rw [HN.out]; rfl, ((Below.refl _ _).alloc (Nat.le_refl _) _).alloc (by simp) _⟩
  by_cases s4 : n / 128 / 128 / 128 < 128
  · have HN : Hid (numB 4 n = [n % 128 + 128, n / 128 % 128 + 128, n / 128 / 128 % 128 + 128, n / 128 / 128 / 128]) := by
      show _ = _
      rw [numB_more _ _ s1, numB_more _ _ s2, numB_more _ _ s3, numB_small _ _ s4]
    go_enter Tryz.func109, Tryz.ntmps109
    go_wp2
    refine wp_loop_rounds 4 ?_
    rw [rounds_succ]
    go_wp2
    rw [rounds_succ]
    go_wp2
    rw [rounds_succ]
    go_wp2
    rw [rounds_succ]
    go_wp2
    exact bodyPost_ret (v := .tuple #[.agg #[.int .u8 (n % 128 + 128), .int .u8 (n / 128 % 128 + 128), .int .u8 (n / 128 / 128 % 128 + 128), .int .u8 (n / 128 / 128 / 128), .int .u8 (0)], .int .i64 4]) (by simp [results, Tryz.results109, go_sem]) rfl ⟨n % 128 + 128, n / 128 % 128 + 128, n / 128 / 128 % 128 + 128, n / 128 / 128 / 128, 0, 4, rfl, by omega, by omega, by rw [HN.out]; rfl, ((Below.refl _ _).alloc (Nat.le_refl _) _).alloc (by simp) _⟩
  · have s5 : n / 128 / 128 / 128 / 128 < 128 := by omega
    have HN : Hid (numB 4 n = [n % 128 + 128, n / 128 % 128 + 128, n / 128 / 128 % 128 + 128, n / 128 / 128 / 128 % 128 + 128, n / 128 / 128 / 128 / 128]) := by
      show _ = _
      rw [numB_more _ _ s1, numB_more _ _ s2, numB_more _ _ s3, numB_more _ _ s4, numB_small _ _ s5]
    go_enter Tryz.func109, Tryz.ntmps109
    go_wp2
    refine wp_loop_rounds 5 ?_
    rw [rounds_succ]
    go_wp2
    rw [rounds_succ]
    go_wp2
    rw [rounds_succ]
    go_wp2
    rw [rounds_succ]
    go_wp2
    rw [rounds_succ]
    go_wp2
    exact bodyPost_ret (v := .tuple #[.agg #[.int .u8 (n % 128 + 128), .int .u8 (n / 128 % 128 + 128), .int .u8 (n / 128 / 128 % 128 + 128), .int .u8 (n / 128 / 128 / 128 % 128 + 128), .int .u8 (n / 128 / 128 / 128 / 128)], .int .i64 5]) (by simp [results, Tryz.results109, go_sem]) rfl ⟨n % 128 + 128, n / 128 % 128 + 128, n / 128 / 128 % 128 + 128, n / 128 / 128 / 128 % 128 + 128, n / 128 / 128 / 128 / 128, 5, rfl, by omega, by omega, by rw [HN.out]; rfl, ((Below.refl _ _).alloc (Nat.le_refl _) _).alloc (by simp) _⟩
end Go.Proofs.YtbnjhjgjmckedaaGreat
end

section
/- The program's PutNum and the specification's PutNum answer the bytes that came in and the number's bytes behind them, in memory of their own. Conditions: at most 2^20 + 100 bytes come in. -/
namespace Go.Proofs.YtbnjhjgjmckedaaGreat
open Go.RowKit
set_option linter.unusedVariables false
set_option maxRecDepth 100000

theorem slice5 (b c : Nat) (W : World) (h : c ≤ 5) : (Instr.sliceAt 154 (.pointer (some ⟨b, 0, none⟩)) none (some (.int .i64 (c : Int))) none).run Tryz.prog W = .ok (.slice (some ⟨b, 0, none⟩) c 5) W := by
  have hal : Tryz.prog.arrayLen 154 = 5 := by simp [Program.arrayLen, Tryz.underlying154]
  rw [run_sliceAt_array_h W 154 ⟨b, 0, none⟩ (by simp [Program.arrayLen, Program.elem, Tryz.underlying154]) .i64 (c : Int) (by omega) (by rw [hal]; omega)]
  go_simp

theorem take5 {d0 d1 d2 d3 d4 : Int} {c : Nat} {ys : List Int} (hc : c ≤ 5) (h : [d0, d1, d2, d3, d4].take c = ys) : ys.length = c ∧ ∀ i, i < c → ys[i]?.getD 0 = [d0, d1, d2, d3, d4][i]?.getD 0 := by
  subst h
  refine ⟨by simp; omega, fun i hi => ?_⟩
  rw [List.getElem?_take, if_pos hi]

theorem reads_array (w : World) (d0 d1 d2 d3 d4 : Int) (c : Nat) (t : TypeId) (ys : List Int) (hb : isBytes ys) (hc : c ≤ 5) (h : [d0, d1, d2, d3, d4].take c = ys) :
    Reads (w.alloc (.cells #[.int .u8 d0, .int .u8 d1, .int .u8 d2, .int .u8 d3, .int .u8 d4] t)) (some ⟨w.heap.size, 0, none⟩) ys := by
  obtain ⟨hl, hi⟩ := take5 hc h
  refine ⟨hb, .inr ⟨w.heap.size, 0, rfl, by simp, fun i hlt => ?_⟩⟩
  rw [World.cell?_alloc_at _ _ _ _ rfl, hi i (by omega), Nat.zero_add]
  have h5 : i < 5 := by omega
  rcases (show i = 0 ∨ i = 1 ∨ i = 2 ∨ i = 3 ∨ i = 4 from by omega) with rfl | rfl | rfl | rfl | rfl <;> rfl

theorem joined_v (a b : Option Addr) (xs ys : List Int) (m n ca cb : Nat) (w : World) (hx : Reads w a xs) (hy : Reads w b ys) (hm : m = xs.length) (hn : n = ys.length) (hl : xs.length ≤ 2097152) (hl' : ys.length ≤ 2097152) :
    Calls Tryz.prog 108 #[.slice a m ca, .slice b n cb] w fun e w' => ∃ v, e = .returned v ∧ Owns w' w.heap.size v (xs ++ ys) ∧ Below w.heap.size w w' := by
  subst hm; subst hn
  exact (joined_any a b xs ys ca cb w hx hy hl hl').mono fun e w' ⟨he, ho, hb, _⟩ => ⟨_, he, ho, hb⟩

set_option maxHeartbeats 1000000 in
theorem implPut_any (a : Option Addr) (xs : List Int) (len cap : Nat) (n : Int) (w : World) (hx : Reads w a xs) (hlen : len = xs.length) (hl : xs.length ≤ 2097152) :
    Calls Tryz.prog 76 #[.slice a len cap, .int .i64 n] w fun e w' => ∃ v, e = .returned v ∧ Owns w' w.heap.size v (xs ++ putB n) ∧ Below w.heap.size w w' := by
  by_cases hn : n < 0 ∨ 2147483647 < n
  · have hp : putB n = [] := by unfold putB; rw [if_pos hn]
    rw [hp]
    clear hp
    have HE : Hid _ := hlen
    clear hlen
    rcases hn with hn | hn
    all_goals
      go_enter Tryz.func76, Tryz.ntmps76
      go_wp2_with fail
      refine (joined_v a none xs [] _ _ _ _ w hx (reads_none _ _) HE.out rfl hl (by simp)).mono ?_
      rintro e w1 ⟨v, rfl, ho, hb⟩
      go_wp2
      go_ret
      exact ⟨v, rfl, ho, hb⟩
  · have h0 : 0 ≤ n := by omega
    have h1 : n ≤ 2147483647 := by omega
    have hp : putB n = numB 4 n := by unfold putB; rw [if_neg hn]
    have hbB := putB_bytes n
    rw [hp] at hbB ⊢
    have HE : Hid _ := hlen
    clear hp hn hlen
    go_enter Tryz.func76, Tryz.ntmps76
    go_wp2_with fail
    refine (numBytes_any n w h0 h1).mono ?_
    rintro e w1 ⟨d0, d1, d2, d3, d4, c, rfl, hc1, hc5, htake, hb1⟩
    have hlen := (take5 hc5 htake).1
    have hrY := reads_array w1 d0 d1 d2 d3 d4 _ 154 _ hbB hc5 htake
    have hb2 : Below w1.heap.size w1 (w1.alloc (.cells #[.int .u8 d0, .int .u8 d1, .int .u8 d2, .int .u8 d3, .int .u8 d4] 154)) := (Below.refl _ _).alloc (Nat.le_refl _) _
    have hsl := fun W => slice5 w1.heap.size c W hc5
    have HB2 : Hid _ := hb2
    have HRY : Hid _ := hrY
    have HC : Hid _ := hlen
    clear htake hb2 hrY hlen
    go_wp2_with fail
    refine (joined_v a (some ⟨w1.heap.size, 0, none⟩) xs (numB 4 n) _ _ _ _ _ ((hx.below hb1).below HB2.out) HRY.out HE.out HC.out.symm hl (by rw [HC.out]; omega)).mono ?_
    rintro e w3 ⟨v, rfl, ho, hb3⟩
    have hs1 := hb1.size
    have HF : Hid (Owns w3 w.heap.size v (xs ++ numB 4 n) ∧ Below w.heap.size w w3) := ⟨ho.base (by simp; omega), (hb1.trans (HB2.out.mono hs1)).trans (hb3.mono (by simp; omega))⟩
    clear ho hb3 HB2 HRY hsl
    go_wp2
    go_ret
    exact ⟨v, rfl, HF.out.1, HF.out.2⟩

/-- What holds at the head of each round of the specification's loop. -/
def SRel (xs : List Int) (n : Int) (w : World) (o q : Value) (wr : World) : Prop :=
  ∃ (f : Nat) (m : Int) (pre : List Int), f ≤ 4 ∧ 0 ≤ m ∧ m < wt (f + 1) ∧ q = .int .i64 m ∧ pre.length + f = 4 ∧ numB 4 n = pre ++ numB f m ∧ Owns wr w.heap.size o (xs ++ pre) ∧ Below w.heap.size w wr

set_option maxHeartbeats 1000000 in
theorem specPut_any (a : Option Addr) (xs : List Int) (len cap : Nat) (n : Int) (w : World) (hx : Reads w a xs) (hlen : len = xs.length) (hl : xs.length ≤ 2097152) (hnil : a = none → len = 0 ∧ cap = 0) :
    Calls Tryz.prog 94 #[.slice a len cap, .int .i64 n] w fun e w' => ∃ v, e = .returned v ∧ Owns w' w.heap.size v (xs ++ putB n) ∧ Below w.heap.size w w' := by
  have HE : Hid _ := hlen
  have HX : Hid (Reads (w.alloc (.cells #[] 5)) a xs) := hx.below ((Below.refl _ _).alloc (Nat.le_refl _) _)
  have HNIL : Hid _ := hnil
  have HL : Hid _ := hl
  have HB1 : Hid (Below w.heap.size w (w.alloc (.cells #[] 5))) := (Below.refl _ _).alloc (Nat.le_refl _) _
  clear hlen hx hnil hl
  by_cases hn : n < 0 ∨ 2147483647 < n
  · have hp : putB n = [] := by unfold putB; rw [if_pos hn]
    rw [hp, List.append_nil]
    clear hp
    rcases hn with hn | hn
    all_goals
      go_enter Tryz.func94, Tryz.ntmps94
      go_wp2_with (at_builtin; go_must (refine wpList_app _ rfl (.tmp 6) (.tmp 7) rfl w.heap.size _ [] xs rfl (owns_empty w) a len cap rfl HE.out HX.out (by simp) (by have := HL.out; omega) (by simp) HNIL.out ?_; intro v w1 ho hg))
      go_ret
      exact ⟨v, rfl, by simpa using ho, HB1.out.grown hg (by simp) (fun k hk => ((owns_empty w).lt k hk).1)⟩
  · have h0 : 0 ≤ n := by omega
    have h1 : n ≤ 2147483647 := by omega
    have hp : putB n = numB 4 n := by unfold putB; rw [if_neg hn]
    rw [hp]
    clear hp hn
    go_enter Tryz.func94, Tryz.ntmps94
    go_wp2_with (at_builtin; go_must (refine wpList_app _ rfl (.tmp 6) (.tmp 7) rfl w.heap.size _ [] xs rfl (owns_empty w) a len cap rfl HE.out HX.out (by simp) (by have := HL.out; omega) (by simp) HNIL.out ?_; intro v w1 ho hg))
    go_loopw [5, 1] (fun o q wr => SRel xs n w o q wr) (fun _ q _ => (intOf q).toNat)
    case atStart => exact ⟨4, n, [], by omega, h0, by show n < 34359738368; omega, rfl, rfl, rfl, by simpa using ho, HB1.out.grown hg (by simp) (fun k hk => ((owns_empty w).lt k hk).1)⟩
    case round =>
      clear ho hg
      obtain ⟨f, m, pre, hf, hm0, hm1, rfl, hpf, hpre, hown, hbel⟩ := hrel
      have hsz := hbel.size
      have HO : Hid _ := hown
      have HP : Hid _ := hpre
      have HBE : Hid _ := hbel
      have HM1 : Hid _ := hm1
      have hmt : m ≤ 34359738368 := by
        have : wt (f + 1) ≤ 34359738368 := by
          rcases (show f = 0 ∨ f = 1 ∨ f = 2 ∨ f = 3 ∨ f = 4 from by omega) with rfl | rfl | rfl | rfl | rfl <;> decide
        omega
      clear hown hpre hbel hm1
      by_cases hge : 127 < m
      · go_wp2_with (at_builtin; go_must (refine wpList_app _ rfl (.tmp 18) (.tmp 23) rfl w.heap.size _ (xs ++ pre) [m % 128 + 128] rfl (HO.out.alloc _) _ 1 1 rfl rfl (one_new _ (m % 128 + 128) (by omega) (by omega)) (by have := HL.out; simp; omega) (by simp) (by simp; omega) (fun h => by cases h) ?_; intro v2 w2 ho2 hg2))
        have HR : SRel xs n w v2 (.int .i64 (m / 128)) w2 := by
          have hm1 := HM1.out
          obtain ⟨f, rfl⟩ : ∃ g, f = g + 1 := by
            cases f with
            | zero => exact absurd hm1 (by show ¬ m < 128; omega)
            | succ g => exact ⟨g, rfl⟩
          have hw := wt_succ (f + 1) (by omega)
          refine ⟨f, m / 128, pre ++ [m % 128 + 128], by omega, by omega, by omega, rfl, by simp; omega, ?_, ?_, (HBE.out.alloc hsz _).grown hg2 (by simp; omega) (fun k hk => (HO.out.lt k hk).1)⟩
          · rw [HP.out, numB_more f m (by omega), List.append_assoc]; rfl
          · rw [← List.append_assoc]; exact ho2
        refine ⟨?_, by simp [intOf]; omega⟩
        first | exact HR | exact ⟨_, _, HR, rfl, rfl⟩
      · have hm1 := HM1.out
        go_wp2_with (at_builtin; go_must (refine wpList_app _ rfl (.tmp 27) (.tmp 30) rfl w.heap.size _ (xs ++ pre) [m] rfl (HO.out.alloc _) _ 1 1 rfl rfl (one_new _ m (by omega) (by omega)) (by have := HL.out; simp; omega) (by simp) (by simp; omega) (fun h => by cases h) ?_; intro v2 w2 ho2 hg2))
        go_ret
        refine ⟨v2, rfl, ?_, ?_⟩
        · rw [HP.out, numB_small f m (by omega), ← List.append_assoc]; exact ho2
        · exact (HBE.out.alloc hsz _).grown hg2 (by simp; omega) (fun k hk => (HO.out.lt k hk).1)
end Go.Proofs.YtbnjhjgjmckedaaGreat
end

section
/- PutNum over byte slices of the call's own; at most 2^20 + 100 bytes come in. -/
namespace Go.Proofs.YtbnjhjgjmckedaaGreat
open Go.RowKit
set_option linter.unusedVariables false
set_option maxRecDepth 100000

end Go.Proofs.YtbnjhjgjmckedaaGreat
end

section
/- The program's and the specification's PutText and GetText answer the same plain functions on lists of bytes, in memory of their own. Conditions: at most 2,000,000 bytes come in. -/
namespace Go.Proofs.YtbnjhjgjmckedaaGreat
open Go.RowKit
set_option linter.unusedVariables false
set_option maxRecDepth 100000

def textB (t : List Int) : List Int := if 40 < t.length then [] else putB t.length ++ t
def getText (zs : List Int) (p : Int) : List Int × Int :=
  if (getNum zs p).2 < 0 ∨ 40 < (getNum zs p).1 ∨ (zs.length : Int) - (getNum zs p).2 < (getNum zs p).1 then ([], -1)
  else ((zs.drop (getNum zs p).2.toNat).take (getNum zs p).1.toNat, (getNum zs p).2 + (getNum zs p).1)

theorem textB_bytes {t : List Int} (h : isBytes t) : isBytes (textB t) := by
  unfold textB
  split
  · exact isBytes_nil
  · exact isBytes_append (putB_bytes _) h
theorem textB_len (t : List Int) : (textB t).length ≤ 45 := by
  unfold textB
  split
  · simp
  · have := putB_len (t.length : Int); rw [List.length_append]; omega
theorem isBytes_drop {zs : List Int} (h : isBytes zs) (k : Nat) : isBytes (zs.drop k) := fun j => by rw [List.getElem?_drop]; exact h _
theorem isBytes_take {zs : List Int} (h : isBytes zs) (k : Nat) : isBytes (zs.take k) := fun j => by
  rw [List.getElem?_take]
  split
  · exact h j
  · simp
theorem getText_bytes {zs : List Int} (h : isBytes zs) (p : Int) : isBytes (getText zs p).1 := by
  unfold getText
  split
  · exact isBytes_nil
  · exact isBytes_take (isBytes_drop h _) _
theorem getText_len (zs : List Int) (p : Int) : (getText zs p).1.length ≤ 40 := by
  unfold getText
  split
  · simp
  · simp only [List.length_take]; omega

theorem getLoop_fits {f : Nat} {r : List Int} {i : Nat} {n sc : Int} {m : Int} {c : Nat} (hr : isBytes r) (hn : 0 ≤ n) (hs : 0 ≤ sc) (h : getLoop f r i n sc = some (m, c)) : 0 ≤ m ∧ m ≤ 2147483647 ∧ i < c ∧ c ≤ i + r.length := by
  induction f generalizing r i n sc with
  | zero => cases h
  | succ f ih =>
    cases r with
    | nil => cases h
    | cons x r =>
      have hx : 0 ≤ x ∧ x ≤ 255 := by simpa using hr 0
      have hr' : isBytes r := fun j => by simpa using hr (j + 1)
      by_cases h1 : 128 ≤ x
      · rw [getLoop_more h1] at h
        have := ih hr' (by have := Int.mul_nonneg (show 0 ≤ x - 128 by omega) hs; omega) (by omega) h
        simp only [List.length_cons]; omega
      · by_cases h2 : (0 < i ∧ x = 0) ∨ 2147483647 < n + x * sc
        · rw [getLoop_bad h1 h2] at h; cases h
        · rw [getLoop_end h1 h2] at h
          simp only [Option.some.injEq, Prod.mk.injEq] at h
          obtain ⟨rfl, rfl⟩ := h
          have := Int.mul_nonneg hx.1 hs
          simp only [List.length_cons]; omega
theorem getNum_fits {zs : List Int} {p n nx : Int} (hz : isBytes zs) (h : getNum zs p = (n, nx)) : (n = 0 ∧ nx = -1) ∨ (0 ≤ n ∧ n ≤ 2147483647 ∧ 0 ≤ p ∧ p < nx ∧ nx ≤ zs.length) := by
  unfold getNum at h
  split at h
  · simp only [Prod.mk.injEq] at h; exact .inl ⟨h.1.symm, h.2.symm⟩
  · split at h
    · simp only [Prod.mk.injEq] at h; exact .inl ⟨h.1.symm, h.2.symm⟩
    · rename_i m c hg
      simp only [Prod.mk.injEq] at h
      obtain ⟨rfl, rfl⟩ := h
      have := getLoop_fits (isBytes_drop hz _) (by omega) (by omega) hg
      rw [List.length_drop] at this
      right; omega

theorem joined_ov (v : Value) (b : Option Addr) (xs ys : List Int) (base n cb : Nat) (w : World) (hx : Owns w base v xs) (bx : isBytes xs) (hy : Reads w b ys) (hn : n = ys.length) (hl : xs.length ≤ 2097152) (hl' : ys.length ≤ 2097152) :
    Calls Tryz.prog 108 #[v, .slice b n cb] w fun e w' => ∃ v, e = .returned v ∧ Owns w' w.heap.size v (xs ++ ys) ∧ Below w.heap.size w w' := by
  obtain ⟨a, ca, rfl, _, _, ra⟩ := hx.open bx
  exact joined_v a b xs ys _ n ca cb w ra hy rfl hn hl hl'

set_option maxHeartbeats 1000000 in
theorem implPutText_any (a b : Option Addr) (xs ts : List Int) (la ca lb cb : Nat) (w : World) (hx : Reads w a xs) (hy : Reads w b ts) (hla : la = xs.length) (hlb : lb = ts.length) (hl : xs.length ≤ 2000000) (hm : ts.length ≤ 2000000) :
    Calls Tryz.prog 77 #[.slice a la ca, .slice b lb cb] w fun e w' => ∃ v, e = .returned v ∧ Owns w' w.heap.size v (xs ++ textB ts) ∧ Below w.heap.size w w' := by
  have HLA : Hid _ := hla
  have HLB : Hid _ := hlb
  have hlb' : lb ≤ 2000000 := by omega
  clear hla hlb
  by_cases h40 : 40 < lb
  · have HT : Hid (textB ts = []) := by show _ = _; unfold textB; rw [if_pos (by rw [← HLB.out]; exact h40)]
    go_enter Tryz.func77, Tryz.ntmps77
    go_wp2_with fail
    refine (joined_v a none xs [] _ _ _ _ w hx (reads_none _ _) HLA.out rfl (by omega) (by simp)).mono ?_
    rintro e w1 ⟨v, rfl, ho, hb⟩
    go_wp2
    go_ret
    exact ⟨v, rfl, by rw [HT.out]; exact ho, hb⟩
  · have HT : Hid (textB ts = putB (lb : Int) ++ ts) := by show _ = _; unfold textB; rw [if_neg (by rw [← HLB.out]; exact h40), HLB.out]
    go_enter Tryz.func77, Tryz.ntmps77
    go_wp2_with fail
    refine (implPut_any a xs _ _ _ _ hx HLA.out (by omega)).mono ?_
    rintro e w1 ⟨v1, rfl, o1, b1⟩
    have hp := putB_len (lb : Int)
    go_wp2_with fail
    refine (joined_ov v1 b (xs ++ putB (lb : Int)) ts _ _ _ _ o1 (isBytes_append hx.1 (putB_bytes _)) (hy.below b1) HLB.out (by rw [List.length_append]; omega) (by omega)).mono ?_
    rintro e w2 ⟨v2, rfl, o2, b2⟩
    go_wp2
    go_ret
    exact ⟨v2, rfl, by rw [HT.out, ← List.append_assoc]; exact o2.base b1.size, b1.trans (b2.mono b1.size)⟩

set_option maxHeartbeats 1000000 in
theorem specPutText_any (a b : Option Addr) (xs ts : List Int) (la ca lb cb : Nat) (w : World) (hx : Reads w a xs) (hy : Reads w b ts) (hla : la = xs.length) (hlb : lb = ts.length) (hl : xs.length ≤ 2000000) (hm : ts.length ≤ 2000000)
    (na : a = none → la = 0 ∧ ca = 0) (nb : b = none → lb = 0 ∧ cb = 0) :
    Calls Tryz.prog 117 #[.slice a la ca, .slice b lb cb] w fun e w' => ∃ v, e = .returned v ∧ Owns w' w.heap.size v (xs ++ textB ts) ∧ Below w.heap.size w w' := by
  have HLA : Hid _ := hla
  have HLB : Hid _ := hlb
  have NA : Hid _ := na
  have NB : Hid _ := nb
  have hlb' : lb ≤ 2000000 := by omega
  have HX : Hid (Reads (w.alloc (.cells #[] 5)) a xs) := hx.below ((Below.refl _ _).alloc (Nat.le_refl _) _)
  have HB1 : Hid (Below w.heap.size w (w.alloc (.cells #[] 5))) := (Below.refl _ _).alloc (Nat.le_refl _) _
  clear hla hlb na nb
  by_cases h40 : 40 < lb
  · have HT : Hid (textB ts = []) := by show _ = _; unfold textB; rw [if_pos (by rw [← HLB.out]; exact h40)]
    go_enter Tryz.func117, Tryz.ntmps117
    go_wp2_with (at_builtin; go_must (refine wpList_app _ rfl (.tmp 8) (.tmp 9) rfl w.heap.size _ [] xs rfl (owns_empty w) a la ca rfl HLA.out HX.out (by simp) (by omega) (by simp) NA.out ?_; intro v w1 ho hg))
    go_ret
    exact ⟨v, rfl, by rw [HT.out]; simpa using ho, HB1.out.grown hg (by simp) (fun k hk => ((owns_empty w).lt k hk).1)⟩
  · have HT : Hid (textB ts = putB (lb : Int) ++ ts) := by show _ = _; unfold textB; rw [if_neg (by rw [← HLB.out]; exact h40), HLB.out]
    clear HX HB1
    go_enter Tryz.func117, Tryz.ntmps117
    go_wp2_with fail
    refine (specPut_any a xs _ _ _ _ hx HLA.out (by omega) NA.out).mono ?_
    rintro e w1 ⟨v1, rfl, o1, b1⟩
    have hp := putB_len (lb : Int)
    go_wp2_with (at_builtin; go_must (refine wpList_app _ rfl (.tmp 14) (.tmp 15) rfl w.heap.size v1 (xs ++ putB (lb : Int)) ts rfl o1 b lb cb rfl HLB.out (hy.below b1) (by rw [List.length_append]; omega) (by omega) b1.size NB.out ?_; intro v2 w2 ho hg))
    go_ret
    exact ⟨v2, rfl, by rw [HT.out, ← List.append_assoc]; exact ho, b1.grown hg b1.size (fun k hk => (o1.lt k hk).1)⟩
end Go.Proofs.YtbnjhjgjmckedaaGreat
end

section
/- Plain facts on numbers and texts as bytes: what was put is got; what is got is just the bytes of it. -/
namespace Go.Proofs.YtbnjhjgjmckedaaGreat
set_option linter.unusedVariables false

theorem getLoop_only (f : Nat) (r : List Int) (i : Nat) (m sc v : Int) (c : Nat) (hr : isBytes r) (h : getLoop (f + 1) r i m sc = some (v, c)) :
    ∃ q, 0 ≤ q ∧ v = m + q * sc ∧ i < c ∧ r.take (c - i) = numB f q ∧ (0 < i → 0 < q) := by
  induction f generalizing r i m sc with
  | zero =>
    cases r with
    | nil => cases h
    | cons x r =>
      have hx : 0 ≤ x ∧ x ≤ 255 := by simpa using hr 0
      by_cases h1 : 128 ≤ x
      · rw [getLoop_more h1] at h; cases h
      · by_cases h2 : (0 < i ∧ x = 0) ∨ 2147483647 < m + x * sc
        · rw [getLoop_bad h1 h2] at h; cases h
        · rw [getLoop_end h1 h2] at h
          simp only [Option.some.injEq, Prod.mk.injEq] at h
          obtain ⟨rfl, rfl⟩ := h
          exact ⟨x, hx.1, rfl, by omega, by rw [show i + 1 - i = 1 by omega]; rfl, fun hi => by omega⟩
  | succ f ih =>
    cases r with
    | nil => cases h
    | cons x r =>
      have hx : 0 ≤ x ∧ x ≤ 255 := by simpa using hr 0
      have hr' : isBytes r := fun j => by simpa using hr (j + 1)
      by_cases h1 : 128 ≤ x
      · rw [getLoop_more h1] at h
        obtain ⟨q, hq0, hv, hic, htk, hpos⟩ := ih r (i + 1) _ _ hr' h
        have hq := hpos (by omega)
        refine ⟨(x - 128) + 128 * q, by omega, ?_, by omega, ?_, fun _ => by omega⟩
        · rw [hv]; grind
        · rw [show c - i = (c - (i + 1)) + 1 by omega, List.take_succ_cons, htk, numB_more _ _ (by omega)]
          have e1 : (x - 128 + 128 * q) % 128 + 128 = x := by omega
          have e2 : (x - 128 + 128 * q) / 128 = q := by omega
          rw [e1, e2]
      · by_cases h2 : (0 < i ∧ x = 0) ∨ 2147483647 < m + x * sc
        · rw [getLoop_bad h1 h2] at h; cases h
        · rw [getLoop_end h1 h2] at h
          simp only [Option.some.injEq, Prod.mk.injEq] at h
          obtain ⟨rfl, rfl⟩ := h
          exact ⟨x, hx.1, rfl, by omega, by rw [show i + 1 - i = 1 by omega, numB_small _ _ (by omega)]; rfl, fun hi => by omega⟩
theorem getNum_only (zs : List Int) (p n : Int) (s : Nat) (hz : isBytes zs) (h : getNum zs p = (n, (s : Int))) : 0 ≤ p ∧ p.toNat ≤ s ∧ s ≤ zs.length ∧ zs.take p.toNat ++ putB n = zs.take s := by
  have hfit := getNum_fits hz h
  obtain ⟨hn0, hn1, hp0, hps, hsl⟩ : 0 ≤ n ∧ n ≤ 2147483647 ∧ 0 ≤ p ∧ p < (s : Int) ∧ (s : Int) ≤ zs.length := by omega
  refine ⟨hp0, by omega, by omega, ?_⟩
  unfold getNum at h
  rw [if_neg (by omega)] at h
  split at h
  · simp only [Prod.mk.injEq] at h; omega
  · rename_i m c hg
    simp only [Prod.mk.injEq] at h
    obtain ⟨rfl, hs⟩ := h
    obtain ⟨q, hq0, hv, hic, htk, _⟩ := getLoop_only 4 _ 0 0 1 _ _ (isBytes_drop hz _) hg
    obtain rfl : m = q := by omega
    have hpb : putB m = numB 4 m := by unfold putB; rw [if_neg (by omega)]
    rw [hpb, ← htk, Nat.sub_zero, ← List.take_add]
    congr 1
    omega
end Go.Proofs.YtbnjhjgjmckedaaGreat
end

section
/- Transactions' numbers, parts, replies and messages as data; no condition. -/
namespace Go.Proofs.YtbnjhjgjmckedaaGreat
open Go.RowKit
set_option linter.unusedVariables false
set_option maxRecDepth 100000

abbrev TxD := Int × Int × Int
structure PtD where
  kind : Int
  h : Hd
  asn : List Int
  to : Hd
structure RpD where
  code : Int
  h : Hd
  val : Int
  list : List En
structure MsD where
  kind : Int
  fr : Int
  to : Int
  req : Int
  op : OpD
  rp : RpD
  tx : TxD
  pt : PtD
  code : Int
  h : Hd
def tx0 : TxD := (0, 0, 0)
def op0 : OpD := ⟨0, hd0, [], hd0, [], 0⟩
def rp0 : RpD := ⟨0, hd0, 0, []⟩
def pt0 : PtD := ⟨0, hd0, [], hd0⟩
def ms0 : MsD := ⟨0, 0, 0, 0, op0, rp0, tx0, pt0, 0, hd0⟩
abbrev txV (t : TxD) : Value := .agg #[.int .i64 t.1, .int .i64 t.2.1, .int .i64 t.2.2]
abbrev ptV (p : PtD) (u : Value) : Value := .agg #[.int .i64 p.kind, .int .i64 p.h.sh, .int .i64 p.h.ino, .bool p.h.dir, u, .int .i64 p.to.sh, .int .i64 p.to.ino, .bool p.to.dir]
abbrev rpV (r : RpD) (z : Value) : Value := .agg #[.int .i64 r.code, .int .i64 r.h.sh, .int .i64 r.h.ino, .bool r.h.dir, .int .i64 r.val, z]
abbrev msV (m : MsD) (x y z u : Value) : Value := .agg #[.int .i64 m.kind, .int .i64 m.fr, .int .i64 m.to, .int .i64 m.req, .int .i64 m.op.kind, .int .i64 m.op.dir.sh, .int .i64 m.op.dir.ino, .bool m.op.dir.dir, x, .int .i64 m.op.to.sh, .int .i64 m.op.to.ino, .bool m.op.to.dir, y, .int .i64 m.op.val, .int .i64 m.rp.code, .int .i64 m.rp.h.sh, .int .i64 m.rp.h.ino, .bool m.rp.h.dir, .int .i64 m.rp.val, z, .int .i64 m.tx.1, .int .i64 m.tx.2.1, .int .i64 m.tx.2.2, .int .i64 m.pt.kind, .int .i64 m.pt.h.sh, .int .i64 m.pt.h.ino, .bool m.pt.h.dir, u, .int .i64 m.pt.to.sh, .int .i64 m.pt.to.ino, .bool m.pt.to.dir, .int .i64 m.code, .int .i64 m.h.sh, .int .i64 m.h.ino, .bool m.h.dir]
theorem VarA.l6 {w : World} {b : Nat} {T : TypeId} {x0 x1 x2 x3 x4 x5 : Value} (h : VarA w b T #[x0, x1, x2, x3, x4, x5]) : w.cell? ⟨b, 0, none⟩ = some x0 ∧ w.cell? ⟨b, 1, none⟩ = some x1 ∧ w.cell? ⟨b, 2, none⟩ = some x2 ∧ w.cell? ⟨b, 3, none⟩ = some x3 ∧ w.cell? ⟨b, 4, none⟩ = some x4 ∧ w.cell? ⟨b, 5, none⟩ = some x5 := ⟨h.c 0 rfl, h.c 1 rfl, h.c 2 rfl, h.c 3 rfl, h.c 4 rfl, h.c 5 rfl⟩
theorem VarA.l8 {w : World} {b : Nat} {T : TypeId} {x0 x1 x2 x3 x4 x5 x6 x7 : Value} (h : VarA w b T #[x0, x1, x2, x3, x4, x5, x6, x7]) : w.cell? ⟨b, 0, none⟩ = some x0 ∧ w.cell? ⟨b, 1, none⟩ = some x1 ∧ w.cell? ⟨b, 2, none⟩ = some x2 ∧ w.cell? ⟨b, 3, none⟩ = some x3 ∧ w.cell? ⟨b, 4, none⟩ = some x4 ∧ w.cell? ⟨b, 5, none⟩ = some x5 ∧ w.cell? ⟨b, 6, none⟩ = some x6 ∧ w.cell? ⟨b, 7, none⟩ = some x7 := ⟨h.c 0 rfl, h.c 1 rfl, h.c 2 rfl, h.c 3 rfl, h.c 4 rfl, h.c 5 rfl, h.c 6 rfl, h.c 7 rfl⟩
theorem VarA.l35 {w : World} {b : Nat} {T : TypeId} {x0 x1 x2 x3 x4 x5 x6 x7 x8 x9 x10 x11 x12 x13 x14 x15 x16 x17 x18 x19 x20 x21 x22 x23 x24 x25 x26 x27 x28 x29 x30 x31 x32 x33 x34 : Value} (h : VarA w b T #[x0, x1, x2, x3, x4, x5, x6, x7, x8, x9, x10, x11, x12, x13, x14, x15, x16, x17, x18, x19, x20, x21, x22, x23, x24, x25, x26, x27, x28, x29, x30, x31, x32, x33, x34]) : w.cell? ⟨b, 0, none⟩ = some x0 ∧ w.cell? ⟨b, 1, none⟩ = some x1 ∧ w.cell? ⟨b, 2, none⟩ = some x2 ∧ w.cell? ⟨b, 3, none⟩ = some x3 ∧ w.cell? ⟨b, 4, none⟩ = some x4 ∧ w.cell? ⟨b, 5, none⟩ = some x5 ∧ w.cell? ⟨b, 6, none⟩ = some x6 ∧ w.cell? ⟨b, 7, none⟩ = some x7 ∧ w.cell? ⟨b, 8, none⟩ = some x8 ∧ w.cell? ⟨b, 9, none⟩ = some x9 ∧ w.cell? ⟨b, 10, none⟩ = some x10 ∧ w.cell? ⟨b, 11, none⟩ = some x11 ∧ w.cell? ⟨b, 12, none⟩ = some x12 ∧ w.cell? ⟨b, 13, none⟩ = some x13 ∧ w.cell? ⟨b, 14, none⟩ = some x14 ∧ w.cell? ⟨b, 15, none⟩ = some x15 ∧ w.cell? ⟨b, 16, none⟩ = some x16 ∧ w.cell? ⟨b, 17, none⟩ = some x17 ∧ w.cell? ⟨b, 18, none⟩ = some x18 ∧ w.cell? ⟨b, 19, none⟩ = some x19 ∧ w.cell? ⟨b, 20, none⟩ = some x20 ∧ w.cell? ⟨b, 21, none⟩ = some x21 ∧ w.cell? ⟨b, 22, none⟩ = some x22 ∧ w.cell? ⟨b, 23, none⟩ = some x23 ∧ w.cell? ⟨b, 24, none⟩ = some x24 ∧ w.cell? ⟨b, 25, none⟩ = some x25 ∧ w.cell? ⟨b, 26, none⟩ = some x26 ∧ w.cell? ⟨b, 27, none⟩ = some x27 ∧ w.cell? ⟨b, 28, none⟩ = some x28 ∧ w.cell? ⟨b, 29, none⟩ = some x29 ∧ w.cell? ⟨b, 30, none⟩ = some x30 ∧ w.cell? ⟨b, 31, none⟩ = some x31 ∧ w.cell? ⟨b, 32, none⟩ = some x32 ∧ w.cell? ⟨b, 33, none⟩ = some x33 ∧ w.cell? ⟨b, 34, none⟩ = some x34 := ⟨h.c 0 rfl, h.c 1 rfl, h.c 2 rfl, h.c 3 rfl, h.c 4 rfl, h.c 5 rfl, h.c 6 rfl, h.c 7 rfl, h.c 8 rfl, h.c 9 rfl, h.c 10 rfl, h.c 11 rfl, h.c 12 rfl, h.c 13 rfl, h.c 14 rfl, h.c 15 rfl, h.c 16 rfl, h.c 17 rfl, h.c 18 rfl, h.c 19 rfl, h.c 20 rfl, h.c 21 rfl, h.c 22 rfl, h.c 23 rfl, h.c 24 rfl, h.c 25 rfl, h.c 26 rfl, h.c 27 rfl, h.c 28 rfl, h.c 29 rfl, h.c 30 rfl, h.c 31 rfl, h.c 32 rfl, h.c 33 rfl, h.c 34 rfl⟩
/-- A message's four lists, read. -/
def RdM (w : World) (S : Nat → Prop) (m : MsD) (x y z u : Value) : Prop := RdV w S x (.bytes m.op.nm) ∧ RdV w S y (.bytes m.op.asn) ∧ RdV w S z (ensDt m.rp.list) ∧ RdV w S u (.bytes m.pt.asn)
theorem RdM.step {w w' : World} {S : Nat → Prop} {m : MsD} {x y z u : Value} (r : RdM w S m x y z u) (hb : Below w.heap.size w w') : RdM w' S m x y z u := ⟨r.1.step hb, r.2.1.step hb, r.2.2.1.step hb, r.2.2.2.step hb⟩
/-- A message's four lists are the call's own, none sharing with another, all in S. -/
def OwM (w : World) (S : Nat → Prop) (m : MsD) (x y z u : Value) : Prop :=
  ∃ Q1 Q2 Q3 Q4 : Nat → Prop, OwV w Q1 x (.bytes m.op.nm) ∧ OwV w Q2 y (.bytes m.op.asn) ∧ OwV w Q3 z (ensDt m.rp.list) ∧ OwV w Q4 u (.bytes m.pt.asn) ∧
    (∀ b, Q1 b ∨ Q2 b ∨ Q3 b ∨ Q4 b → S b) ∧ (∀ b, Q1 b → ¬ Q2 b ∧ ¬ Q3 b ∧ ¬ Q4 b) ∧ (∀ b, Q2 b → ¬ Q3 b ∧ ¬ Q4 b) ∧ (∀ b, Q3 b → ¬ Q4 b)
theorem OwM.rd {w : World} {S : Nat → Prop} {m : MsD} {x y z u : Value} (o : OwM w S m x y z u) : RdM w S m x y z u := by
  obtain ⟨Q1, Q2, Q3, Q4, o1, o2, o3, o4, hs, _⟩ := o
  exact ⟨OwV.rd (o1.mono (fun b h => hs b (.inl h))), OwV.rd (o2.mono (fun b h => hs b (.inr (.inl h)))), OwV.rd (o3.mono (fun b h => hs b (.inr (.inr (.inl h))))), OwV.rd (o4.mono (fun b h => hs b (.inr (.inr (.inr h)))))⟩
theorem OwM.keep {w w' : World} {S : Nat → Prop} {m : MsD} {x y z u : Value} (o : OwM w S m x y z u) (t : Keeps S w w') : OwM w' S m x y z u := by
  obtain ⟨Q1, Q2, Q3, Q4, o1, o2, o3, o4, hs, h⟩ := o
  exact ⟨Q1, Q2, Q3, Q4, o1.keep (t.mono (fun b h => hs b (.inl h))), o2.keep (t.mono (fun b h => hs b (.inr (.inl h)))), o3.keep (t.mono (fun b h => hs b (.inr (.inr (.inl h))))), o4.keep (t.mono (fun b h => hs b (.inr (.inr (.inr h))))), hs, h⟩
theorem OwM.mono {w : World} {S S' : Nat → Prop} {m : MsD} {x y z u : Value} (o : OwM w S m x y z u) (t : ∀ b, S b → S' b) : OwM w S' m x y z u := by
  obtain ⟨Q1, Q2, Q3, Q4, o1, o2, o3, o4, hs, h⟩ := o
  exact ⟨Q1, Q2, Q3, Q4, o1, o2, o3, o4, fun b hb => t b (hs b hb), h⟩
/-- How much there is of a message. -/
def szMs (m : MsD) : Nat := m.op.nm.length + m.op.asn.length + szEns m.rp.list + m.pt.asn.length
end Go.Proofs.YtbnjhjgjmckedaaGreat
end
