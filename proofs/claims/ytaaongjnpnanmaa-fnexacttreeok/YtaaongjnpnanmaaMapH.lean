/- A map with handles as its keys, by what it holds. Condition: the keys' numbers are numbers of their type. -/
import Derived.Test.YtaaongjnpnanmaaImplT4
import Derived.Maps.OwnSet
import Derived.DeepKeys4
namespace Go.Proofs.Ytaaongjnpnanmaa
open Go.RowKit
open Go.Maps
set_option linter.unusedVariables false
set_option maxRecDepth 100000
set_option linter.unusedSimpArgs false

theorem rowHd : (46 : TypeId) < Try.prog.types.size := of_decide_eq_true (by kernel_rfl)
theorem cellsHd : Try.prog.cellsOf 46 = 3 := by kernel_rfl
theorem wideHd : (match Try.prog.underlying 46 with | some (.array _ _) | some (.struct _) => true | _ => false) = true := by kernel_rfl
theorem laidHd : laidOutB Try.prog = true := by kernel_rfl
theorem lawHd : Keyed Try.prog 46 := Keyed.of_law (deep_law_laid laidHd (m := 3) (by omega) rowHd (by kernel_rfl) wideHd)

def HIn (h : Hd) : Prop := (Lit.int .i64 h.sh).wf = true ∧ (Lit.int .i64 h.ino).wf = true
def klH (h : Hd) : Lit := .string (keyBytes [.int .i64 h.sh, .int .i64 h.ino, .bool h.dir])
theorem underHd : ∃ fs, Try.prog.underlying 46 = some (.struct fs) ∧ fs.all (·.name != "_") = true ∧ fs.toList.map (fun f => (f.type, f.offset)) = [(3, 0), (3, 1), (4, 2)] := ⟨_, Try.underlying46, by kernel_rfl, by kernel_rfl⟩
theorem mapM_two (fs : Array Field) (g : TypeId → Nat → Option (List Lit)) : fs.toList.mapM (fun f => g f.type f.offset) = (fs.toList.map (fun f => (f.type, f.offset))).mapM (fun p => g p.1 p.2) := by
  rw [List.mapM_map]; rfl
theorem keyHd {h : Hd} (hh : HIn h) : keyOf Try.prog 46 h.v = some (klH h) := by
  obtain ⟨fs, hu, hn, hf⟩ := underHd
  have hkt : Try.prog.keyType 46 = true := by kernel_rfl
  have h3 : Try.prog.underlying 3 = some (.int .i64) := by kernel_rfl
  have h4 : Try.prog.underlying 4 = some .bool := by kernel_rfl
  have c3 : Try.prog.cellsOf 3 = 1 := by kernel_rfl
  have c4 : Try.prog.cellsOf 4 = 1 := by kernel_rfl
  obtain ⟨m, hm⟩ : ∃ m, Try.prog.types.size = m + 1 := ⟨_, (Nat.succ_pred_eq_of_pos (Nat.lt_of_le_of_lt (Nat.zero_le _) rowHd)).symm⟩
  have hfs := fun g => mapM_two fs g
  unfold keyOf
  simp only [hu]
  rw [if_pos (by simp [hkt, Value.formed, hu, cellsHd]), hm]
  have hk : Try.prog.keyLits (m + 1 + 1) 46 [.int .i64 h.sh, .int .i64 h.ino, .bool h.dir] = some [.int .i64 h.sh, .int .i64 h.ino, .bool h.dir] := by
    unfold Program.keyLits
    simp only [hu]
    rw [if_pos ⟨by rw [cellsHd]; rfl, hn⟩, hfs (fun t o => Try.prog.keyLits (m + 1) t ((([.int .i64 h.sh, .int .i64 h.ino, .bool h.dir] : List Value).drop o).take (Try.prog.cellsOf t))), hf]
    simp [Program.keyLits, h3, h4, c3, c4, hh.1, hh.2]
  show Option.map _ (Try.prog.keyLits (m + 1 + 1) 46 [.int .i64 h.sh, .int .i64 h.ino, .bool h.dir]) = _
  rw [hk]
  rfl
theorem klH_ne {h g : Hd} (hh : HIn h) (hg : HIn g) (hne : h ≠ g) : klH h ≠ klH g := by
  intro e
  have h1 := lawHd.inj (keyHd hh) (by rw [e]; exact keyHd hg)
  obtain ⟨a, b, c⟩ := h
  obtain ⟨a2, b2, c2⟩ := g
  simp only [Value.agg.injEq, Array.mk.injEq, List.cons.injEq, Value.int.injEq, Value.bool.injEq, true_and, and_true] at h1
  exact hne (Prod.ext h1.1 (Prod.ext h1.2.1 h1.2.2))

def tokR (v : Value) : Option (DataW Value × List MemPlace) := some (.held v, [])
/-- Block b is a map of s entries; at a handle it has what f says, V telling how the value is. -/
def MapH {α : Type} (V : α → Value → Prop) (w : World) (b s : Nat) (f : Hd → Option α) : Prop :=
  ∃ D : DataW Value, w.ownsMap Try.prog 46 tokR b s D ∧ Maps.size D = s ∧ ∀ h, HIn h → (f h = none → Maps.has D (klH h) = false) ∧ ∀ a, f h = some a → Maps.has D (klH h) = true ∧ ∃ v, V a v ∧ ∀ z, D.atKey (klH h) z = .held v

theorem ownsMap_tight {w : World} {b n : Nat} {D : DataW Value} (h : w.ownsMap Try.prog 46 tokR b n D) : w.ownsMap Try.prog 46 tokR b (Maps.size D) D := by
  obtain ⟨es, clock, hb, F, hs, rfl⟩ := h
  exact ⟨es, clock, hb, F, by rw [Maps.size_eq, length_read]; exact Nat.le_refl _, rfl⟩

section
variable {α : Type} {V : α → Value → Prop} {w : World} {b s : Nat} {f : Hd → Option α}
theorem MapH.made (V : α → Value → Prop) (w : World) : MapH V (w.alloc (.map #[] 0)) w.heap.size 0 (fun _ => none) :=
  ⟨.map [], World.ownsMap_made w _ _ _, rfl, fun h _ => ⟨fun _ => rfl, fun a ha => by cases ha⟩⟩
theorem MapH.lt (m : MapH V w b s f) : b < w.heap.size := by obtain ⟨D, hD, _⟩ := m; exact hD.lt
theorem MapH.kept {w' : World} {row : Option Nat} (m : MapH V w b s f) (hg : w.grownBy w' row) (hne : some b ≠ row) : MapH V w' b s f := by
  obtain ⟨D, hD, h1, h2⟩ := m; exact ⟨D, hD.kept hg hne, h1, h2⟩
theorem MapH.blk {w' : World} (m : MapH V w b s f) (hg : w'.heap[b]? = w.heap[b]?) : MapH V w' b s f := by
  obtain ⟨D, ⟨es, clock, hb, hF⟩, h1, h2⟩ := m; exact ⟨D, ⟨es, clock, hg.trans hb, hF⟩, h1, h2⟩
theorem MapH.to {β : Type} {U : β → Value → Prop} (m : MapH V w b s f) (g : Hd → Option β) (hn : ∀ h, g h = none → f h = none) (hs : ∀ h c, g h = some c → ∃ a, f h = some a ∧ ∀ v, V a v → U c v) : MapH U w b s g := by
  obtain ⟨D, hD, h1, h2⟩ := m
  refine ⟨D, hD, h1, fun h hh => ⟨fun hg => (h2 h hh).1 (hn h hg), fun c hc => ?_⟩⟩
  obtain ⟨a, ha, hv⟩ := hs h c hc
  obtain ⟨x1, v, x2, x3⟩ := (h2 h hh).2 a ha
  exact ⟨x1, v, hv v x2, x3⟩
theorem MapH.put {t e : TypeId} (m : MapH V w b s f) (ht : Try.prog.underlying t = some (.map 46 e)) (hn : s < maxLen) {h : Hd} (hh : HIn h) {a : α} {v : Value} (hv : V a v) :
    ∃ w', (Instr.mapUpdate t (.map (some b)) h.v v).run Try.prog w = .ok () w' ∧ MapH V w' b (if (f h).isSome then s else s + 1) (fun g => if g = h then some a else f g) ∧ w.grownBy w' (some b) := by
  obtain ⟨D, hD, h1, h2⟩ := m
  obtain ⟨w', hrun, ho, hg⟩ := hD.update lawHd ht hn (keyHd hh) (d := .held v) (ps := []) rfl
  have hty := hD.tidy lawHd
  have hkl := lawHd.key (keyHd hh)
  refine ⟨w', hrun, ⟨D.put (klH h) (.held v), ?_, ?_, ?_⟩, hg⟩
  · have h3 := ownsMap_tight ho
    rw [Maps.size_put hty] at h3
    cases hf : f h with
    | none => rw [(h2 h hh).1 hf] at h3; simpa [h1] using h3
    | some a => rw [((h2 h hh).2 a hf).1] at h3; simpa [h1] using h3
  · rw [Maps.size_put hty]
    cases hf : f h with
    | none => rw [(h2 h hh).1 hf]; simp [h1]
    | some a => rw [((h2 h hh).2 a hf).1]; simp [h1]
  · intro g hgi
    by_cases hgh : g = h
    · subst hgh
      refine ⟨fun hc => by simp at hc, fun c hc => ?_⟩
      simp only [if_true, Option.some.injEq] at hc
      subst hc
      exact ⟨Maps.has_put_same hty.isMap hkl _, v, hv, fun z => Maps.atKey_put_same hty.isMap hkl _ z⟩
    · have hne := klH_ne hgi hh hgh
      simp only [if_neg hgh]
      refine ⟨fun hc => ?_, fun c hc => ?_⟩
      · rw [Maps.has_put_other hne]; exact (h2 g hgi).1 hc
      · obtain ⟨x1, u, x2, x3⟩ := (h2 g hgi).2 c hc
        exact ⟨by rw [Maps.has_put_other hne]; exact x1, u, x2, fun z => by rw [Maps.atKey_put_other hne]; exact x3 z⟩
theorem MapH.look {t e : TypeId} (m : MapH V w b s f) (ht : Try.prog.underlying t = some (.map 46 e)) {z : Value} (hz : (zeroValue e).run Try.prog w = .ok z w) {h : Hd} (hh : HIn h) :
    ∃ v, (Instr.lookup t (.map (some b)) h.v false).run Try.prog w = .ok v w ∧ (f h = none → v = z) ∧ ∀ a, f h = some a → V a v := by
  obtain ⟨D, hD, h1, h2⟩ := m
  obtain ⟨v, ps, hrun, hR⟩ := hD.lookup lawHd ht hz (zd := .held z) (zp := []) rfl (keyHd hh)
  simp only [tokR, Option.some.injEq, Prod.mk.injEq] at hR
  refine ⟨v, hrun, fun hf => ?_, fun a hf => ?_⟩
  · rw [Maps.atKey_of_not_has ((h2 h hh).1 hf)] at hR
    exact DataW.held.inj hR.1
  · obtain ⟨_, u, hu, hat⟩ := (h2 h hh).2 a hf
    rw [hat] at hR
    rw [DataW.held.inj hR.1]; exact hu
theorem MapH.look_ok {t e : TypeId} (m : MapH V w b s f) (ht : Try.prog.underlying t = some (.map 46 e)) {z : Value} (hz : (zeroValue e).run Try.prog w = .ok z w) {h : Hd} (hh : HIn h) :
    ∃ v, (Instr.lookup t (.map (some b)) h.v true).run Try.prog w = .ok (.tuple #[v, .bool (f h).isSome]) w ∧ (f h = none → v = z) ∧ ∀ a, f h = some a → V a v := by
  obtain ⟨D, hD, h1, h2⟩ := m
  obtain ⟨v, ps, hrun, hR⟩ := hD.look_ok lawHd ht hz (zd := .held z) (zp := []) rfl (keyHd hh)
  simp only [tokR, Option.some.injEq, Prod.mk.injEq] at hR
  cases hf : f h with
  | none =>
    have h3 := (h2 h hh).1 hf
    rw [h3] at hrun
    rw [Maps.atKey_of_not_has h3] at hR
    exact ⟨v, hrun, (fun _ => DataW.held.inj hR.1), (fun a ha => by cases ha)⟩
  | some a =>
    obtain ⟨h3, u, hu, hat⟩ := (h2 h hh).2 a hf
    rw [h3] at hrun
    rw [hat] at hR
    exact ⟨v, hrun, (fun hc => by cases hc), (fun c hc => by cases hc; rw [DataW.held.inj hR.1]; exact hu)⟩
theorem MapH.len {t e : TypeId} (m : MapH V w b s f) (ht : Try.prog.underlying t = some (.map 46 e)) (ty : TypeId) : (Builtin.len_ #[t] ty #[.map (some b)]).run Try.prog w = .ok (.int .i64 s) w := by
  obtain ⟨D, hD, h1, h2⟩ := m
  rw [← h1]; exact hD.len ht ty
end
theorem HOk.inn {h : Hd} (hh : HOk h = true) : HIn h := by
  simp only [HOk, Bool.and_eq_true, decide_eq_true_eq] at hh
  exact ⟨WalkArith.wf_i64 (by omega), WalkArith.wf_i64 (by omega)⟩
theorem hd0_in : HIn hd0 := ⟨by decide, by decide⟩
end Go.Proofs.Ytaaongjnpnanmaa
