/- The program's Flush as a plain function of the disk; it leans on its variable errNoSector. No condition of ours. -/
import Derived.Test.YtjhaanenkeceiaaDoorImplFlush
import Derived.Test.YtjhaanenkeceiaaDoorImplOk
namespace Go.Proofs.YtjhaanenkeceiaaDoor
open Go.RowKit
set_option linter.unusedVariables false

theorem OwX_nil (w : World) (l h : Nat) : OwX w l h (.slice none 0 0) [] [] :=
  ⟨rfl, World.ownsRow_nil _ _ _ _, (fun (k : Nat) (hk : Value.ownBlock (.slice none 0 0) = some k) => by cases hk), fun i hi => absurd hi (Nat.not_lt_zero _), fun i j k _ hj => absurd hj (Nat.not_lt_zero _)⟩
theorem OwY_nil (w : World) (l h : Nat) : OwY w l h (.slice none 0 0) [] [] :=
  ⟨[], rfl, World.ownsRow_nil _ _ _ _, (fun (k : Nat) (hk : Value.ownBlock (.slice none 0 0) = some k) => by cases hk), fun i hi => absurd hi (Nat.not_lt_zero _), fun i hi => absurd hi (Nat.not_lt_zero _), fun i j k _ hj => absurd hj (Nat.not_lt_zero _)⟩
theorem OwD2_nil (w : World) (l h : Nat) : OwD2 w l h (.agg #[.slice none 0 0, .slice none 0 0]) ([], []) :=
  ⟨_, _, [], [], rfl, OwX_nil _ _ _, OwY_nil _ _ _, fun q hq => by obtain ⟨i, hi, _⟩ := hq; exact absurd hi (Nat.not_lt_zero _)⟩
theorem no_blk (q : Nat) : ¬ Blk [] q := fun ⟨i, hi, _⟩ => absurd hi (Nat.not_lt_zero _)

end Go.Proofs.YtjhaanenkeceiaaDoor
