/- Lists of flags as data, and what the verifier's helpers do with them. Condition: at most 2^21 of them. -/
import Derived.Test.YthpcmgbienfgoaaBools
import Derived.Test.YthpcmgbienfgoaaDt
import Derived.Test.YthpcmgbienfgoaaSzs
import Derived.Test.YthpcmgbienfgoaaOpenT
namespace Go.Proofs.Ythpcmgbienfgoaa
open Go.RowKit
set_option linter.unusedVariables false
set_option linter.unusedSimpArgs false
set_option maxRecDepth 100000

def flsDt (bs : List Bool) : Dt := .rows 4 1 bs.length (fun i _ => .bool (bs[i]?.getD false))
theorem RdV.flags {w : World} {S : Nat → Prop} {v : Value} {bs : List Bool} (r : RdV w S v (flsDt bs)) : RdF w 0 w.heap.size v bs := by
  obtain ⟨a, cap, V, rfl, hh, hc, he⟩ := RdV.inv r
  refine ⟨a, _, cap, rfl, rfl, hh, ?_⟩
  rcases hc with h0 | ⟨b, off, ha, h1, h2, hc⟩
  · exact .inl (List.eq_nil_of_length_eq_zero h0)
  · refine .inr ⟨b, off, ha, Nat.zero_le _, h2, fun i hi => ?_⟩
    have h3 := hc i 0 hi (by omega)
    have h4 : V i 0 = .bool (bs[i]?.getD false) := he i 0 hi (by omega)
    rw [Nat.mul_one, Nat.add_zero] at h3
    rw [h3, h4]
theorem OwV.flags {w : World} {l h : Nat} {v : Value} {bs : List Bool} (o : OwF w l h v bs) : OwV w (fun b => l ≤ b ∧ b < h) v (flsDt bs) := by
  obtain ⟨ho, hb⟩ := o
  refine OwV.mkRows ⟨fun i _ => .bool (bs[i]?.getD false), fcells bs, fun _ _ _ => False, ownsRow_base ho, fun b hv => ⟨(ho.lt b hv).1, hb b hv⟩, fun i j hi hj => ?_, fun i j hi hj => OwV.bool _ _, fun i j b hi hj hq => hq.elim, fun i j i' j' b _ _ _ _ hq => hq.elim⟩
  obtain rfl : j = 0 := by omega
  rw [Nat.mul_one, Nat.add_zero]
  simp [fcells, hi]
theorem toBoolS_d (v : Value) (bs : List Bool) (S : Nat → Prop) (w : World) (r : RdV w S v (flsDt bs)) (hl : bs.length ≤ 2097152) :
    Calls Try.prog 18 #[v] w fun q w' => ∃ a n c, q = .returned (.slice a n c) ∧ OwV w' (fun b => w.heap.size ≤ b ∧ b < w'.heap.size) (.slice a n c) (flsDt bs) ∧ Below w.heap.size w w' := by
  refine (toBoolS_any v bs 0 w.heap.size w r.flags (Nat.le_refl _) hl).mono ?_
  rintro e w' ⟨u, rfl, o, b⟩
  have o2 := OwV.flags o
  obtain ⟨a, cap, rfl, _⟩ := RdV.sliced (OwV.rd o2)
  exact ⟨_, _, _, rfl, o2, b⟩
theorem eqBoolS_d (v u : Value) (bs : List Bool) (S S2 : Nat → Prop) (w : World) (r : RdV w S v (flsDt bs)) (s : RdV w S2 u (flsDt bs)) (hl : bs.length ≤ 2097152) :
    Calls Try.prog 24 #[v, u] w fun e w' => e = .returned (.bool true) ∧ Below w.heap.size w w' := eqBoolS_same v u bs _ _ _ _ w r.flags s.flags hl
theorem szBoolS_d (v : Value) (bs : List Bool) (S : Nat → Prop) (s : Nat) (w : World) (r : RdV w S v (flsDt bs)) (hs : s ≤ 1048576) :
    Calls Try.prog 14 #[v, .int .i64 s] w fun e w' => e = .returned (.int .i64 (leftT bs.length s)) ∧ Below w.heap.size w w' := by
  obtain ⟨a, cap, rfl, hm⟩ := RdV.sliced r
  clear r
  unfold maxLen at hm
  generalize bs.length = n at *
  by_cases hle : n ≤ s
  · have hl : leftT n s = ((s - n : Nat) : Int) := by unfold leftT; rw [if_pos hle]; omega
    rw [hl]
    go_enter Try.func14, Try.ntmps14
    go_wp2
    all_goals first | (exfalso; omega) | (go_ret; exact ⟨by first | (congr 2; omega) | go_num, Below.refl _ _⟩)
  · have hl : leftT n s = -1 := by unfold leftT; rw [if_neg hle]
    rw [hl]
    go_enter Try.func14, Try.ntmps14
    go_wp2
    all_goals first | (exfalso; omega) | (go_ret; exact ⟨rfl, Below.refl _ _⟩)
end Go.Proofs.Ythpcmgbienfgoaa
