/- Flags as the walks of the laws use them, and arguments that are lists of bytes or of flags; no condition but at most 2^21 of them where marked. -/
import Derived.Test.YtdpigkcdfjnpdaaDoorBools
import Derived.Test.YtdpigkcdfjnpdaaDoorWalkBase
namespace Go.Proofs.YtdpigkcdfjnpdaaDoor
open Go.RowKit
set_option linter.unusedVariables false

theorem RdF.sliced {w : World} {l h : Nat} {v : Value} {bs : List Bool} (r : RdF w l h v bs) : ∃ a n c, v = .slice a n c := by
  obtain ⟨a, n, c, hv, _⟩ := r; exact ⟨a, n, c, hv⟩
theorem RdF.len {w : World} {l h : Nat} {a : Option Addr} {n c : Nat} {z : List Bool} (r : RdF w l h (.slice a n c) z) : n = z.length := by
  obtain ⟨a', n', c', he, hl, _⟩ := r
  simp only [Value.slice.injEq] at he
  obtain ⟨rfl, rfl, rfl⟩ := he
  exact hl
theorem RdF.most {w : World} {l h : Nat} {a : Option Addr} {n c : Nat} {z : List Bool} (r : RdF w l h (.slice a n c) z) : n ≤ 9223372036854775807 := by
  obtain ⟨a', n', c', he, hl, hh, _⟩ := r
  simp only [Value.slice.injEq] at he
  obtain ⟨rfl, rfl, rfl⟩ := he
  have := hh.1; have := hh.2.1; unfold maxLen at this; omega
theorem markF_any (v : Value) (bs : List Bool) (k l h : Nat) (w : World) (o : OwF w l h v bs) (hl : bs.length ≤ 2097152) (hk : k ≤ 8388608) :
    Calls Tryd.prog 35 #[v, .int .i64 k] w fun e w' => e = .returned (.int .i64 ((k : Int) + (bs.length : Int))) ∧ True ∧ Turns l h w w' := by
  refine (markBoolS_any v bs k l h w o hl hk).mono fun e w' ⟨he, hg⟩ => ⟨by rw [he]; simp, trivial, Turns.ofGrown hg fun q hq => ⟨(o.1.lt q hq).1, o.2 q hq⟩⟩
end Go.Proofs.YtdpigkcdfjnpdaaDoor
