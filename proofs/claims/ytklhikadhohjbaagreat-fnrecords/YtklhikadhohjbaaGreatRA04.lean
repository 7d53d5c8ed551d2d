/- Calls on a tree that is worked on; what a move leaves; no condition. -/
import Derived.Test.YtklhikadhohjbaaGreatRSpecD13
namespace Go.Proofs.YtklhikadhohjbaaGreat
open Go.RowKit
set_option linter.unusedVariables false
set_option linter.unusedSimpArgs false
set_option maxRecDepth 100000

theorem addTV {w : World} {lo g cap n : Nat} {L : Nat → Prop} {l : List Nd} (s : SG w lo L (.slice (some ⟨g, 0, none⟩) n cap) l) (hnl : n = l.length) (hL : ∀ b, w.heap.size ≤ b → L b) {d : Nat} (hd : d < l.length) (y : Value) (nm : List Int) (h : Hd) (S2 : Nat → Prop) (r2 : RdV w S2 y (.bytes nm)) (hn : (l[d]?.getD nd0).es.length ≤ 4000) (hnm : nm.length ≤ 2097152) :
  Calls Tryz.prog 192 #[.pointer (some ⟨g, d * 9, none⟩), y, h.v] w fun e w' => e = .returned (.tuple #[]) ∧ SG w' lo L (.slice (some ⟨g, 0, none⟩) n cap) (addN l d nm h) ∧ Turned (fun b => b = g) w w' := by
 subst hnl
 obtain ⟨xd, rd, cd⟩ := s.at hd
 obtain ⟨xa, xc, rfl, _⟩ := RdV.sliced rd
 have c8 : w.cell? ⟨g, d * 9 + 8, none⟩ = some (.slice xa (l[d]?.getD nd0).es.length xc) := cd 8 (by omega)
 obtain ⟨g', c', hv, _, hg, _⟩ := s.head (by omega)
 simp only [Value.slice.injEq, Option.some.injEq, Addr.mk.injEq, and_true] at hv
 obtain ⟨rfl, -, -⟩ := hv
 refine Calls.mono (specAdd_any g (d * 9) xa xc y _ nm h _ S2 w c8 (SG.fz g s hd _) rd (fun b hb => hb.2.1) r2 hn hnm) ?_
 rintro e w' ⟨he, W, x, rfl, hB, hx⟩
 exact ⟨he, SG.callE s hL hd hB hg hx, Turned.set (Turned.ofBelow hB) ⟨g, d * 9 + 8, none⟩ x rfl⟩
theorem cutTV {w : World} {lo g cap n : Nat} {L : Nat → Prop} {l : List Nd} (s : SG w lo L (.slice (some ⟨g, 0, none⟩) n cap) l) (hnl : n = l.length) (hL : ∀ b, w.heap.size ≤ b → L b) {d e : Nat} (hd : d < l.length) (he : e < (l[d]?.getD nd0).es.length) (hn : (l[d]?.getD nd0).es.length ≤ 4000) :
  Calls Tryz.prog 237 #[.pointer (some ⟨g, d * 9, none⟩), .int .i64 e] w fun r w' => r = .returned (.tuple #[]) ∧ SG w' lo L (.slice (some ⟨g, 0, none⟩) n cap) (cutN l d e) ∧ Turned (fun b => b = g) w w' := by
 subst hnl
 obtain ⟨xd, rd, cd⟩ := s.at hd
 obtain ⟨xa, xc, rfl, _⟩ := RdV.sliced rd
 have c8 : w.cell? ⟨g, d * 9 + 8, none⟩ = some (.slice xa (l[d]?.getD nd0).es.length xc) := cd 8 (by omega)
 obtain ⟨g', c', hv, _, hg, _⟩ := s.head (by omega)
 simp only [Value.slice.injEq, Option.some.injEq, Addr.mk.injEq, and_true] at hv
 obtain ⟨rfl, -, -⟩ := hv
 refine Calls.mono (specCut_any g (d * 9) xa xc _ e _ w c8 (SG.fz g s hd _) rd (fun b hb => hb.2.1) hn he) ?_
 rintro r w' ⟨hr, W, x, rfl, hB, hx⟩
 exact ⟨hr, SG.callE s hL hd hB hg hx, Turned.set (Turned.ofBelow hB) ⟨g, d * 9 + 8, none⟩ x rfl⟩
theorem TV.ret {w wz : World} {tb lo R : Nat} {L L1 : Nat → Prop} {v : Value} {l : List Nd} (vT : VarA w tb 55 #[v]) (s : SG w lo L1 v l) (hvt : v.ownBlock ≠ some tb) (t_ : Turned (fun b => b = R) w wz) (hR : ¬ L1 R) (hRt : tb ≠ R) (hRv : v.ownBlock ≠ some R) (hL : ∀ b, L1 b → L b) : TV wz tb lo L l :=
 ⟨v, vT.turn t_ hRt, (s.keep (t_.keeps (fun b hb e => by
  subst e
  exact hb.2.elim hR hRv))).mono (fun b _ h => hL b h), hvt⟩
theorem SG.ne_var {w : World} {lo b : Nat} {L : Nat → Prop} {v : Value} {l : List Nd} {T : TypeId} {cs : Array Value} (s : SG w lo L v l) (hv : VarA w b T cs) (hT : T ≠ 133) : v.ownBlock ≠ some b := by
 obtain ⟨V, C, h1, h2, h3⟩ := s
 rcases h1.2 with ⟨hv', _⟩ | ⟨g, c, cur, hv', hg, hh, _⟩
 ·subst hv'; intro e; cases e
 ·subst hv'
  intro e
  have e3 : g = b := by simpa [Value.ownBlock] using e
  subst e3
  have := hh.symm.trans hv
  simp only [Option.some.injEq, Obj.cells.injEq] at this
  exact hT this.2.1.symm
theorem findE_cases (es : List En) (nm : List Int) : (ei es nm < es.length ∧ findE es nm = (ei es nm : Int)) ∨ (¬ ei es nm < es.length ∧ findE es nm = -1) := by
 unfold findE
 by_cases hh : ei es nm < es.length
 ·exact .inl ⟨hh, by rw [if_pos hh]⟩
 ·exact .inr ⟨hh, by rw [if_neg hh]⟩
def parN (l : List Nd) (k : Nat) (h : Hd) : List Nd := l.set k ((l[k]?.getD nd0).setPar h)
def moveD (l : List Nd) (o : OpD) (d : Nat) : List Nd × Int :=
 if ¬ ei (l[d]?.getD nd0).es o.nm < (l[d]?.getD nd0).es.length then (l, 3) else
 if o.to.dir = false then (l, 2) else
 if ¬ fi l o.to < l.length then (l, 1) else
 if fi l o.to = d then
  if 0 ≤ findE (l[d]?.getD nd0).es o.asn then (l, 4)
  else (addN (cutN l d (ei (l[d]?.getD nd0).es o.nm)) d o.asn ((l[d]?.getD nd0).es[ei (l[d]?.getD nd0).es o.nm]?.getD en0).h, 0)
 else
 if refD (l[fi l o.to]?.getD nd0).es o.asn ≠ 0 then (l, refD (l[fi l o.to]?.getD nd0).es o.asn) else
 if ((l[d]?.getD nd0).es[ei (l[d]?.getD nd0).es o.nm]?.getD en0).h.dir = true then
  if undN l ((l[d]?.getD nd0).es[ei (l[d]?.getD nd0).es o.nm]?.getD en0).h 12 o.to = 1 then (l, 8) else
  if undN l ((l[d]?.getD nd0).es[ei (l[d]?.getD nd0).es o.nm]?.getD en0).h 12 o.to = 2 then (l, 9) else
  (addN (cutN (parN l (fi l ((l[d]?.getD nd0).es[ei (l[d]?.getD nd0).es o.nm]?.getD en0).h) o.to) d (ei (l[d]?.getD nd0).es o.nm)) (fi l o.to) o.asn ((l[d]?.getD nd0).es[ei (l[d]?.getD nd0).es o.nm]?.getD en0).h, 0)
 else (addN (cutN l d (ei (l[d]?.getD nd0).es o.nm)) (fi l o.to) o.asn ((l[d]?.getD nd0).es[ei (l[d]?.getD nd0).es o.nm]?.getD en0).h, 0)
end Go.Proofs.YtklhikadhohjbaaGreat
