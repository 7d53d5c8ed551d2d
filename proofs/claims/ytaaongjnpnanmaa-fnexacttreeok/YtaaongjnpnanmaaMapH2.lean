/- A map with handles as its keys: an entry taken, then stored into. Condition: the key's numbers are numbers of their type. -/
import Derived.Test.YtaaongjnpnanmaaImplT5
import Derived.WideKeyEntry
namespace Go.Proofs.Ytaaongjnpnanmaa
open Go.RowKit
open Go.Maps Go.ChangeMaps Go.MapKept
set_option linter.unusedVariables false
set_option maxRecDepth 100000
set_option linter.unusedSimpArgs false

theorem lawHd0 : WideMaps.KeyLaw Try.prog 46 := deep_law_laid laidHd (m := 3) (by omega) rowHd (by kernel_rfl) wideHd
theorem setBlock_twice (w : World) (b : Nat) (x y : Obj) : setBlock (setBlock w b x) b y = setBlock w b y := by
  unfold setBlock; simp

section
variable {α : Type} {V : α → Value → Prop} {w : World} {b s : Nat} {f : Hd → Option α}
theorem MapH.entry {t e : TypeId} (m : MapH V w b s f) (ht : Try.prog.underlying t = some (.map 46 e)) {z : Value} (hz : ∀ u : World, (zeroValue e).run Try.prog u = .ok z u) (hn : s < maxLen) {h : Hd} (hh : HIn h) :
    ∃ (v0 : Value) (st : Nat) (w1 : World), (Instr.mapEntry t (.map (some b)) h.v).run Try.prog w = .ok (.tuple #[v0, .int .i64 st]) w1 ∧ w.grownBy w1 (some b) ∧
      ∀ a v, V a v → ∃ w2, (Instr.entryStore t (.map (some b)) (.int .i64 st) v).run Try.prog w1 = .ok () w2 ∧ MapH V w2 b (if (f h).isSome then s else s + 1) (fun g => if g = h then some a else f g) ∧ w.grownBy w2 (some b) := by
  have m0 := m
  obtain ⟨D, ⟨es, clock, hb, F, hs, hD⟩, h1, h2⟩ := m
  obtain ⟨v0, st, es1, clock1, hE, _, hS⟩ := WideElems.entry_then_store lawHd0 ht hz hb F (keyHd hh)
  refine ⟨v0, st, _, hE, ⟨rfl, rfl, rfl, by simp [setBlock], fun i _ hi => heap_setBlock_other hb _ (fun e => hi (by rw [e]))⟩, fun a v hv => ?_⟩
  obtain ⟨es', clock', hE2, hU⟩ := hS _ v (heap_setBlock_same hb _)
  obtain ⟨w2, hrun, r1, r2⟩ := m0.put ht hn hh hv
  rw [hU] at hrun
  have he : setBlock w b (.map es' clock') = w2 := (Result.ok.inj hrun).2
  rw [setBlock_twice, he] at hE2
  exact ⟨w2, hE2, r1, r2⟩
theorem setBlock_self {w : World} {b : Nat} {o : Obj} (hb : w.heap[b]? = some o) : setBlock w b o = w := by
  unfold setBlock
  have h1 : w.heap.setIfInBounds b o = w.heap := by
    apply Array.ext_getElem?
    intro i
    rw [Array.getElem?_setIfInBounds]
    split
    · rename_i h; subst h; split
      · exact hb.symm
      · rename_i h2; rw [Array.getElem?_eq_none (by omega)]
    · rfl
  rw [h1]
/-- Behind an entry's taking the map is looked into as ahead of it. -/
theorem MapH.entryLook {t e : TypeId} (m : MapH V w b s f) (ht : Try.prog.underlying t = some (.map 46 e)) {z : Value} (hz : ∀ u : World, (zeroValue e).run Try.prog u = .ok z u) (hn : s < maxLen) {h : Hd} (hh : HIn h) {v0 v : Value} {w1 : World}
    (hE : (Instr.mapEntry t (.map (some b)) h.v).run Try.prog w = .ok v0 w1) (hL : (Instr.lookup t (.map (some b)) h.v false).run Try.prog w = .ok v w) : (Instr.lookup t (.map (some b)) h.v false).run Try.prog w1 = .ok v w1 := by
  obtain ⟨D, hD0, h1, h2⟩ := m
  have hD := hD0
  obtain ⟨es, clock, hb, F, hs, hDe⟩ := hD
  rcases lawHd0.find w (keyHd hh) es.toList F.keys with ⟨f1, f2⟩ | ⟨j, e0, f1, f2, f3⟩
  · have hU : (Instr.mapUpdate t (.map (some b)) h.v z).run Try.prog w = .ok () w1 := by
      simp [Instr.mapEntry, run_underlying ht, MapKept.run_getObj_map hb, lawHd0.check w false (keyHd hh), f1, hz, MapKept.run_setObj_map _ hb, Result.andThen] at hE
      simp [Instr.mapUpdate, run_underlying ht, MapKept.run_getObj_map hb, lawHd0.check w false (keyHd hh), f1, MapKept.run_setObj_map _ hb, Result.andThen, hE.2]
    have hv : v = z := by
      simp [Instr.lookup, run_underlying ht, MapKept.run_getObj_map hb, lawHd0.check w es.isEmpty (keyHd hh), f1, hz, Result.andThen] at hL
      exact hL.symm
    obtain ⟨w', hrun, ho, _⟩ := hD0.update lawHd ht hn (keyHd hh) (d := .held z) (ps := []) rfl
    rw [hU] at hrun
    have he : w1 = w' := (Result.ok.inj hrun).2
    subst he
    obtain ⟨u, ps, hr, hR⟩ := ho.lookup lawHd ht (hz _) (zd := .held z) (zp := []) rfl (keyHd hh)
    have hty := hD0.tidy lawHd
    rw [Maps.atKey_put_same hty.isMap (lawHd.key (keyHd hh))] at hR
    simp only [tokR, Option.some.injEq, Prod.mk.injEq] at hR
    rw [hr, hv, DataW.held.inj hR.1]
  · have hj : es[j]? = some e0 := by simpa using f2
    have hsame : es.modify j (fun e => { e with key := h.v }) = es := by
      apply Array.ext'
      rw [Array.toList_modify, modify_eq_set _ _ _ _ f2]
      have : ({ e0 with key := h.v } : MapEntry) = e0 := by rw [← f3]
      rw [this]
      exact WideElems.set_self _ _ _ f2
    have hw : w1 = setBlock w b (.map es clock) := by
      simp [Instr.mapEntry, run_underlying ht, MapKept.run_getObj_map hb, lawHd0.check w false (keyHd hh), f1, hj, f3, lawHd0.stays w (keyHd hh), hsame, MapKept.run_setObj_map _ hb, Result.andThen] at hE
      exact hE.2.symm
    rw [setBlock_self hb] at hw
    rw [hw]; exact hL
end
end Go.Proofs.Ytaaongjnpnanmaa
