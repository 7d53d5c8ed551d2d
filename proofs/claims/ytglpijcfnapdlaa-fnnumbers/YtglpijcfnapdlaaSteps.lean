/- How what is known of byte slices of a call's own is carried over its steps; no condition. -/
import Derived.Test.YtglpijcfnapdlaaPutNum
namespace Go.Proofs.Ytglpijcfnapdlaa
open Go.RowKit
set_option linter.unusedVariables false

theorem Owns.step {w w' : World} {base : Nat} {v : Value} {zs : List Int} (h : Owns w base v zs) (hb : Below w.heap.size w w') : Owns w' base v zs := h.below hb (fun k hk => (h.lt k hk).2)
theorem Owns.draw {w : World} {base : Nat} {v : Value} {zs : List Int} (h : Owns w base v zs) (n : Nat) : Owns (w.drewN n) base v zs := h.step (below_drewN2 (Below.refl _ _) n)
theorem Owns.other {w w' : World} {base : Nat} {v u : Value} {zs : List Int} (h : Owns w base v zs) (hg : w.grownBy w' u.ownBlock) (hne : ∀ k, v.ownBlock = some k → u.ownBlock ≠ some k) : Owns w' base v zs := by
  refine World.ownsRow.kept h hg ?_
  cases hk : v.ownBlock with
  | none => exact .inl rfl
  | some k => exact .inr (fun e => hne k hk e.symm)
/-- Its block lies before b. -/
def Before (v : Value) (b : Nat) : Prop := ∀ k, v.ownBlock = some k → k < b
/-- Its block lies from b on. -/
def From (v : Value) (b : Nat) : Prop := ∀ k, v.ownBlock = some k → b ≤ k
theorem Owns.before {w : World} {base : Nat} {v : Value} {zs : List Int} (h : Owns w base v zs) : Before v w.heap.size := fun k hk => (h.lt k hk).2
theorem Owns.from {w : World} {base : Nat} {v : Value} {zs : List Int} (h : Owns w base v zs) : From v base := fun k hk => (h.lt k hk).1
theorem Before.le {v : Value} {b c : Nat} (h : Before v b) (hc : b ≤ c) : Before v c := fun k hk => Nat.lt_of_lt_of_le (h k hk) hc
theorem From.le {v : Value} {b c : Nat} (h : From v b) (hc : c ≤ b) : From v c := fun k hk => Nat.le_trans hc (h k hk)
theorem apart {v u : Value} {b : Nat} (h : Before v b) (g : From u b) : ∀ k, v.ownBlock = some k → u.ownBlock ≠ some k := fun k hk e => by have := h k hk; have := g k e; omega
theorem apart' {v u : Value} {b : Nat} (h : Before v b) (g : From u b) : ∀ k, u.ownBlock = some k → v.ownBlock ≠ some k := fun k hk e => by have := h k e; have := g k hk; omega
theorem below_mark {w0 w w' : World} {B : Nat} {v : Value} (h : Below B w0 w) (hg : w.grownBy w' v.ownBlock) (hB : B ≤ w.heap.size) (hf : From v B) : Below B w0 w' := h.grown hg hB (fun k hk => hf k hk)

/-- What is left of a slice of the call's own once its value is opened. -/
theorem Owns.open {w : World} {base : Nat} {v : Value} {zs : List Int} (hz : isBytes zs) (h : Owns w base v zs) : ∃ a cap, v = .slice a zs.length cap ∧ zs.length ≤ cap ∧ cap ≤ maxLen ∧ Reads w a zs := by
  obtain ⟨a, cap, rfl, h1, h2⟩ := h.shape
  exact ⟨a, cap, rfl, h1, h2, (h.reads hz).2⟩

theorem toByteS_v (a : Option Addr) (zs : List Int) (len cap : Nat) (w : World) (h : Reads w a zs) (hlen : len = zs.length) (hl : zs.length ≤ 2097152) :
    Calls Try.prog 17 #[.slice a len cap] w fun e w' => ∃ v, e = .returned v ∧ Owns w' w.heap.size v zs ∧ Below w.heap.size w w' := by
  subst hlen
  exact (toByteS_any a zs cap w h hl).mono fun e w' ⟨he, ho, hb, _⟩ => ⟨_, he, ho, hb⟩
theorem eqByteS_v (v u : Value) (xs ys : List Int) (bv bu : Nat) (w : World) (hx : Owns w bv v xs) (hy : Owns w bu u ys) (bx : isBytes xs) (hb : isBytes ys) (hl : xs.length ≤ 2097152) (hm : ys.length ≤ 2097152) :
    Calls Try.prog 18 #[v, u] w fun e w' => e = .returned (.bool (xs == ys)) ∧ ∃ n, w' = w.drewN n := by
  obtain ⟨a, ca, rfl, _, _, ra⟩ := hx.open bx
  obtain ⟨b, cb, rfl, _, _, rb⟩ := hy.open hb
  exact eqByteS_any a b xs ys ca cb w ra rb hl hm
theorem same_v (v u : Value) (xs : List Int) (bv bu : Nat) (w : World) (hx : Owns w bv v xs) (hy : Owns w bu u xs) (bx : isBytes xs) (hl : xs.length ≤ 2097152) :
    Calls Try.prog 18 #[v, u] w fun e w' => e = .returned (.bool true) ∧ Below w.heap.size w w' :=
  (eqByteS_v v u xs xs bv bu w hx hy bx bx hl hl).mono fun e w' ⟨he, n, h⟩ => ⟨by rw [he, beq_self_eq_true], by rw [h]; exact below_drewN2 (Below.refl _ _) n⟩
theorem mark_v (v : Value) (zs : List Int) (k : Int) (base : Nat) (w : World) (h : Owns w base v zs) (hl : zs.length ≤ 2097152) (h0 : 0 ≤ k) (hk : k ≤ 8388608) :
    Calls Try.prog 19 #[v, .int .i64 k] w fun e w' => e = .returned (.int .i64 (k + (zs.length : Int))) ∧ Owns w' base v (marks zs.length k.toNat) ∧ w.grownBy w' v.ownBlock := by
  obtain ⟨q, rfl⟩ : ∃ q : Nat, k = (q : Int) := ⟨k.toNat, by omega⟩
  exact (mark_any v zs q base w h hl (by omega)).mono fun e w' ⟨he, ho, hg⟩ => ⟨by rw [he]; simp, ho, hg⟩
theorem held_v (v : Value) (n : Nat) (k : Int) (base : Nat) (w : World) (h : Owns w base v (marks n k.toNat)) (hl : n ≤ 2097152) (h0 : 0 ≤ k) (hk : k ≤ 8388608) :
    Calls Try.prog 20 #[v, .int .i64 k] w fun e w' => e = .returned (.int .i64 (k + (n : Int))) ∧ Below w.heap.size w w' := by
  obtain ⟨q, rfl⟩ : ∃ q : Nat, k = (q : Int) := ⟨k.toNat, by omega⟩
  obtain ⟨a, ca, rfl, _, _, ra⟩ := h.open (marks_isBytes _ _)
  rw [marks_length]
  exact (held_any a n q ca w ra hl (by omega)).mono fun e w' ⟨he, hw⟩ => ⟨by rw [he]; simp, by rw [hw]; exact Below.refl _ _⟩
theorem implPut_v (v : Value) (xs : List Int) (base : Nat) (n : Int) (w : World) (hx : Owns w base v xs) (bx : isBytes xs) (hl : xs.length ≤ 2097152) :
    Calls Try.prog 9 #[v, .int .i64 n] w fun e w' => ∃ v, e = .returned v ∧ Owns w' w.heap.size v (xs ++ putB n) ∧ Below w.heap.size w w' := by
  obtain ⟨a, ca, rfl, _, _, ra⟩ := hx.open bx
  exact implPut_any a xs _ ca n w ra rfl hl
theorem specPut_v (v : Value) (xs : List Int) (base : Nat) (n : Int) (w : World) (hx : Owns w base v xs) (bx : isBytes xs) (hl : xs.length ≤ 2097152) :
    Calls Try.prog 16 #[v, .int .i64 n] w fun e w' => ∃ v, e = .returned v ∧ Owns w' w.heap.size v (xs ++ putB n) ∧ Below w.heap.size w w' := by
  rcases hx.2 with ⟨rfl, h0⟩ | ⟨g, c, cur, rfl, _⟩
  · exact specPut_any none xs 0 0 n w (hx.reads bx).2 h0.symm hl (fun _ => ⟨rfl, rfl⟩)
  · exact specPut_any _ xs _ c n w (hx.reads bx).2 rfl hl (fun h => by cases h)
end Go.Proofs.Ytglpijcfnapdlaa
