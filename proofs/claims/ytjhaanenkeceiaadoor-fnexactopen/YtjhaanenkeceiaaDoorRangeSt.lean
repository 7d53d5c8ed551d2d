/- A range over a function that keeps state of its own in cells: the statement, and one round, at the wide fence. No program's text is named here. -/
import Derived.RangeFuncNested
import Derived.RangeFuncBound
import Derived.RangeFuncCalls
import Derived.RangeFuncLeaves
import Derived.RangeFuncRecord
import Derived.Shelf.Abstract
import Derived.WalkKit
import Derived.OwnWalkIn
import Derived.TacticsInMore
import Derived.LoopNIn
import Derived.LoopIn
import Derived.Test.YtjhaanenkeceiaaDoorBase
namespace Go.Proofs.YtjhaanenkeceiaaDoor
open Go.RowKit Go.Shelf
set_option linter.unusedVariables false

/-- The record of a loop that lies outermost. -/
def recOf (fn : FuncId) (tmps : Array Value) (ps : Array Tmp) (assign body : Code) (D : Nat) (st : LoopState) : Loop := { state := st, pending := none, fn := fn, tmps := tmps, params := ps, assign := assign, body := body, defers := D }

theorem range_st {P : Program} {g : Operand} {ps : Array Tmp} {assign body : Code} {Q : Exit → Act → World → Prop} {a : Act} {w : World} {gf : Nat} {bnd : Array Value} (hg : a.eval g = .func (.func gf) bnd #[])
    (eg : Enters P gf) (Fin : World → Prop)
    (hiter : ∀ fn, Calls P gf (bnd ++ #[.func (.yield (w.heap.size + 1)) #[] #[]]) ((w.alloc (.deferred (some []))).alloc (.loop (recOf fn a.tmps ps assign body w.heap.size .ready))) fun e W' => (∃ v, e = .returned v) ∧ W'.heap[w.heap.size + 1]? = some (.loop (recOf fn a.tmps ps assign body w.heap.size .ready)) ∧ Fin W')
    (hdone : ∀ (r : Loop) (W : World), Fin W → w.heap.size + 1 < W.heap.size → Q .normal { a with defers := { target := .collected w.heap.size, args := #[] } :: a.defers } (W.putObj (w.heap.size + 1) (.loop r))) :
    (Code.rangeFunc g ps assign body).wp P Q a w := by
  refine (wpIn_wide (n := 3)).1 (wpIn_rangeFunc ?_)
  intro fn hfn
  obtain ⟨W1, hW1⟩ : ∃ W1, (w.alloc (.deferred (some []))).alloc (.loop (recOf fn a.tmps ps assign body w.heap.size .ready)) = W1 := ⟨_, rfl⟩
  have hi := hiter fn
  rw [hW1] at hi
  refine ⟨w.heap.size + 1, [{ target := .collected w.heap.size, args := #[] }], W1, { target := .fn (.func gf) #[], args := bnd ++ #[.func (.yield (w.heap.size + 1)) #[] #[]] }, W1, gf, bnd ++ #[.func (.yield (w.heap.size + 1)) #[] #[]], W1, by rw [← hW1]; exact run_enterLoop_outer fn a.tmps ps assign body, ?_, fun _ _ => trivial, ?_, fun _ => by omega, ?_⟩
  · simp only [resolve, hg]
    simp [go_sem]
  · simp [invoke, go_sem, eg _ _]
  · refine callsIn_wide.2 (hi.mono ?_)
    rintro e W' ⟨⟨v, rfl⟩, hl, hF⟩
    exact ⟨none, _, run_endLoop hl (by simp [recOf]), hdone _ _ hF (Array.getElem?_eq_some_iff.1 hl).1⟩

theorem round_st {P : Program} {m L : Nat} {fn : FuncId} {tmps : Array Value} {ps : Array Tmp} {assign body : Code} {D : Nat} {args : Array Value} {W : World} {R : Ending → World → Prop} (hl : W.heap[L]? = some (.loop (recOf fn tmps ps assign body D .ready))) (hs : args.size = ps.size) (a₁ : Act)
    (hassign : ∀ K : Act → World → Prop, K a₁ W → assign.wpIn (Fence.wide.inRound L) m P (Exit.then K (fun _ _ _ => False)) { tmps := (ps.zip args).foldl (fun t (p, v) => t.setIfInBounds p v) tmps, defers := [] } W)
    (hbody : body.wpIn (Fence.wide.inRound L) m P (fun e a' W3 => e = .normal ∧ W3.heap[L]? = some (.loop (recOf fn tmps ps assign body D .busy)) ∧ R (.returned (.bool true)) (W3.putObj L (.loop (recOf fn tmps ps assign body D .ready)))) a₁ (W.putObj L (.loop (recOf fn tmps ps assign body D .busy)))) :
    YieldAt Fence.wide m P L args W R := by
  refine ⟨fn, _, assign, body, run_yield hl hs, roundIn_of_wpIn trivial (hassign _ ⟨_, run_beginRound hl rfl, ?_⟩)⟩
  refine wpIn_mono hbody ?_
  rintro e a3 W3 ⟨rfl, hl3, hR⟩
  exact ⟨_, _, run_endRound none hl3, hR⟩
end Go.Proofs.YtjhaanenkeceiaaDoor
