/- Entries, copied by the verifier's helpers. Condition: at most 2^21 of them, of at most 2^21 bytes each. -/
import Derived.Test.YthpcmgbienfgoaaEnts
namespace Go.Proofs.Ythpcmgbienfgoaa
open Go.RowKit
set_option linter.unusedVariables false

theorem toByteS_d (v : Value) (zs : List Int) (S : Nat → Prop) (w : World) (r : RdV w S v (.bytes zs)) (hl : zs.length ≤ 2097152) :
    Calls Try.prog 30 #[v] w fun e w' => ∃ a n c, e = .returned (.slice a n c) ∧ OwV w' (fun b => w.heap.size ≤ b ∧ b < w'.heap.size) (.slice a n c) (.bytes zs) ∧ Below w.heap.size w w' := by
  obtain ⟨a, cap, rfl, hh, hr⟩ := r.b.reads
  refine (toByteS_v a zs zs.length cap w hr rfl hl).mono ?_
  rintro e w' ⟨u, rfl, ho, hb⟩
  obtain ⟨a', c', rfl, _, _⟩ := ho.shape
  exact ⟨_, _, _, rfl, OwV.ofOwns hr.1 ho, hb⟩

end Go.Proofs.Ythpcmgbienfgoaa
