/- Lengths of lists that are read, and marks on bytes; at most 2^21 bytes. -/
import Derived.Test.YtjhaanenkeceiaaDoorWalkBase
namespace Go.Proofs.YtjhaanenkeceiaaDoor
open Go.RowKit
set_option linter.unusedVariables false

theorem RdWs.len {w : World} {l h : Nat} {a : Option Addr} {n c : Nat} {z : List Wt} (r : RdWs w l h (.slice a n c) z) : n = z.length ∧ n ≤ 9223372036854775807 := by
  obtain ⟨a', n', c', vs, he, hl, hh, _⟩ := r
  simp only [Value.slice.injEq] at he
  obtain ⟨rfl, rfl, rfl⟩ := he
  exact ⟨hl, by have := hh.1; have := hh.2.1; unfold maxLen at this; omega⟩
theorem RdB.len {w : World} {l h : Nat} {a : Option Addr} {n c : Nat} {z : List Int} (r : RdB w l h (.slice a n c) z) : n = z.length := by
  obtain ⟨_, a', n', c', he, hl, _⟩ := r
  simp only [Value.slice.injEq] at he
  obtain ⟨rfl, rfl, rfl⟩ := he
  exact hl
theorem RdB.most {w : World} {l h : Nat} {a : Option Addr} {n c : Nat} {z : List Int} (r : RdB w l h (.slice a n c) z) : n ≤ 9223372036854775807 := by
  obtain ⟨_, a', n', c', he, hl, hh, _⟩ := r
  simp only [Value.slice.injEq] at he
  obtain ⟨rfl, rfl, rfl⟩ := he
  have := hh.1; have := hh.2.1; unfold maxLen at this; omega
theorem markB_more (v : Value) (zs : List Int) (k l h : Nat) (w : World) (o : OwB w l h v zs) (hl : zs.length ≤ 2097152) (hk : k ≤ 8388608) :
    Calls Tryd.prog 26 #[v, .int .i64 k] w fun e w' => e = .returned (.int .i64 ((k : Int) + (zs.length : Int))) ∧ OwB w' l h v (marks zs.length k) ∧ Turns l h w w' := by
  refine (mark_v v zs k l w o.2.1 hl (by omega) (by omega)).mono fun e w' ⟨he, ho, hg⟩ => ⟨he, ⟨marks_isBytes _ _, by simpa using ho, o.2.2⟩, Turns.ofGrown hg fun q hq => ⟨(o.2.1.lt q hq).1, o.2.2 q hq⟩⟩
end Go.Proofs.YtjhaanenkeceiaaDoor
