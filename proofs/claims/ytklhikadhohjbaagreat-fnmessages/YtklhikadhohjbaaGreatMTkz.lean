/- A move of a drawn region's walk whose last operation writes, in fewer words; no condition. -/
import Derived.Test.YtklhikadhohjbaaGreatMA01
namespace Go.Proofs.YtklhikadhohjbaaGreat
open Go.RowKit
set_option linter.unusedVariables false

theorem tkz {P : Program} {md : Region.Mode} {ops : Array Oper} {Q : Exit → Act → World → Prop} {S : World → Prop} {z : Nat} {oi : Oper} {fuel : Nat} {listed : Array Bool} {a : Act} {w : World} (i : Nat) (v : Value) (hi : ops[i]? = some oi)
  (hb : (Region.noSelect ops && (Region.free md ops listed i && ((Region.ready md ops listed).contains i && ((ops[z]?.map (fun o => o.after.any (fun e => Region.binds md e && e.on == i))) == some true)))) = true) (hw : Region.wanted oi (yielded ops a.tmps) = true) (hS : S w) (hy : ∀ w, S w → (execOp a.eval oi).run P w = .ok (.value v) w)
  (h : wpAnyZ P md ops (NoPanic Q) S z fuel (listed.setIfInBounds i true) (a.put oi.dst v) w) : wpAnyZ P md ops (NoPanic Q) S z (fuel + 1) listed a w := by
 simp only [Bool.and_eq_true, beq_iff_eq] at hb
 exact wpAnyZ_take hi hb.1 hb.2.1 hb.2.2.1 hb.2.2.2 (fun _ _ _ h => h) (Or.inl ⟨hw, hy⟩) hS h
end Go.Proofs.YtklhikadhohjbaaGreat
