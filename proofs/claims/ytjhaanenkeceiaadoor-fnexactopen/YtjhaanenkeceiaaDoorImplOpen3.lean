/- The program's Open, whatever disk. -/
import Derived.Test.YtjhaanenkeceiaaDoorImplOpen2
namespace Go.Proofs.YtjhaanenkeceiaaDoor
open Go.RowKit
set_option linter.unusedVariables false

theorem implOpen_all (v : Value) (d : Dk) (l h : Nat) (w : World) (r : RdD w l h v d) (hh : h ≤ w.heap.size) (a : Addr) (hg : Glob w a) :
    Calls Tryd.prog 13 #[v] w fun e w' => ∃ X V vs H, e = .returned (.tuple #[X, V, .bool (openOk d)]) ∧ OwJ2 w' w.heap.size H X (openJ d) ∧ OwX w' H w'.heap.size V (openR d) vs ∧ H ≤ w'.heap.size ∧ w.heap.size ≤ H ∧ Below w.heap.size w w' := by
  cases hk : openOk d with
  | false =>
    have h1 : openJ d = (([], []), 0, 0) := by unfold openJ; rw [hk]; rfl
    have h2 : openR d = [] := by unfold openR; rw [hk]; rfl
    rw [h1, h2]
    refine (implOpen_no v d l h w r hh a hg hk).mono ?_
    rintro e w' ⟨rfl, hb⟩
    exact ⟨_, _, [], w.heap.size, rfl, ⟨_, _, rfl, nilD2 _ _ _⟩, ⟨rfl, World.ownsRow_nil _ _ _ _, fun k h => by simp [Value.ownBlock] at h, fun i hi => absurd hi (Nat.not_lt_zero _), fun i j q _ hj => absurd hj (Nat.not_lt_zero _)⟩, hb.size, Nat.le_refl _, hb⟩
  | true =>
    have hk' := hk
    unfold openOk at hk'
    rw [Bool.and_eq_true] at hk'
    have hd : d.2 = [] := by simpa using hk'.2
    have h1 : openJ d = (d, ((openS d.1).1 : Int), ((openS d.1).2.1 : Int)) := by unfold openJ; rw [hk]; rfl
    have h2 : openR d = (openS d.1).2.2 := by unfold openR; rw [hk]; rfl
    rw [h1, h2]
    refine (implOpen_yes v d l h w r hh a hg hk'.1 hd).mono ?_
    rintro e w' ⟨X, V, vs, H, rfl, oJ, oX, hH, hl, hb⟩
    exact ⟨X, V, vs, H, rfl, oJ, oX, hH, hl, hb⟩
end Go.Proofs.YtjhaanenkeceiaaDoor
