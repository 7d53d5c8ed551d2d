/- Lists of writes that wait: what is read and owned of them, and what the verifier's helpers do with them. Conditions: at most 2^21 of them, of at most 2^21 bytes each. -/
import Derived.Test.YtdgeomjciaebdaaMarks
namespace Go.Proofs.Ytdgeomjciaebdaa
open Go.RowKit
set_option linter.unusedVariables false

abbrev Wt := Int × List Int

/-- v reads as the list ws of writes; all of it lies in blocks l .. h-1. -/
def RdWs (w : World) (l h : Nat) (v : Value) (ws : List Wt) : Prop :=
  ∃ a len cap, ∃ xs : Nat → Value, v = .slice a len cap ∧ len = ws.length ∧ Headed a len cap ∧
    (len = 0 ∨ ∃ b off, a = some ⟨b, off, none⟩ ∧ l ≤ b ∧ b < h ∧ ∀ i, i < len → w.cell? ⟨b, off + i * 2, none⟩ = some (.int .i64 (ws[i]?.getD (0, [])).1) ∧ w.cell? ⟨b, off + i * 2 + 1, none⟩ = some (xs i)) ∧
    ∀ i, i < len → RdB w l h (xs i) (ws[i]?.getD (0, [])).2
theorem RdWs.same {w w' : World} {l h : Nat} {v : Value} {ws : List Wt} (r : RdWs w l h v ws) (t : SameIn l h w w') : RdWs w' l h v ws := by
  obtain ⟨a, len, cap, vs, hv, hl, hh, hc, he⟩ := r
  refine ⟨a, len, cap, vs, hv, hl, hh, ?_, fun i hi => (he i hi).same t⟩
  rcases hc with h0 | ⟨b, off, ha, h1, h2, hc⟩
  · exact .inl h0
  · exact .inr ⟨b, off, ha, h1, h2, fun i hi => by rw [t.cell h1 h2, t.cell h1 h2]; exact hc i hi⟩
theorem RdWs.wide {w : World} {l h l' h' : Nat} {v : Value} {ws : List Wt} (r : RdWs w l h v ws) (h1 : l' ≤ l) (h2 : h ≤ h') : RdWs w l' h' v ws := by
  obtain ⟨a, len, cap, vs, hv, hl, hh, hc, he⟩ := r
  refine ⟨a, len, cap, vs, hv, hl, hh, ?_, fun i hi => (he i hi).wide h1 h2⟩
  rcases hc with h0 | ⟨b, off, ha, h3, h4, hc⟩
  · exact .inl h0
  · exact .inr ⟨b, off, ha, by omega, by omega, hc⟩

theorem Owns.aside {w : World} {base : Nat} {v : Value} {zs : List Int} (h : Owns w base v zs) {p : Addr} {u : Value} (hne : ∀ k, v.ownBlock = some k → k ≠ p.block) : Owns (w.setCell p u) base v zs := by
  obtain ⟨h1, h2⟩ := h
  refine ⟨h1, ?_⟩
  rcases h2 with h2 | ⟨g, c, cur, hv, hg, hh, r⟩
  · exact .inl h2
  · exact .inr ⟨g, c, cur, hv, hg, by rw [heap_setCell_other _ _ _ _ (hne g (by rw [hv]; rfl))]; exact hh, r⟩

end Go.Proofs.Ytdgeomjciaebdaa
