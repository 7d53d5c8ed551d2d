/- Lists of flags: what is read and owned of them, and what the verifier's helpers do with them. Conditions: at most 2^21 of them. -/
import Derived.Test.YtjhaanenkeceiaaDoorMem
namespace Go.Proofs.YtjhaanenkeceiaaDoor
open Go.RowKit
set_option linter.unusedVariables false

theorem Tryd.infoF : (Tryd.prog.info? 4).map (fun i => (i.zero, i.size, i.bytes)) = some (some (.bool false), 1, 1) := by kernel_rfl

def fcells (bs : List Bool) : List Value := bs.map Value.bool
@[simp] theorem fcells_length (bs : List Bool) : (fcells bs).length = bs.length := by simp [fcells]

/-- v reads as the flags bs, which lie in blocks l .. h-1. -/
def RdF (w : World) (l h : Nat) (v : Value) (bs : List Bool) : Prop :=
  ∃ a len cap, v = .slice a len cap ∧ len = bs.length ∧ Headed a len cap ∧
    (bs = [] ∨ ∃ b off, a = some ⟨b, off, none⟩ ∧ l ≤ b ∧ b < h ∧ ∀ i, i < bs.length → w.cell? ⟨b, off + i, none⟩ = some (.bool (bs[i]?.getD false)))
theorem RdF.same {w w' : World} {l h : Nat} {v : Value} {bs : List Bool} (r : RdF w l h v bs) (t : SameIn l h w w') : RdF w' l h v bs := by
  obtain ⟨a, len, cap, hv, hl, hh, hc⟩ := r
  refine ⟨a, len, cap, hv, hl, hh, ?_⟩
  rcases hc with h0 | ⟨b, off, ha, h1, h2, hc⟩
  · exact .inl h0
  · exact .inr ⟨b, off, ha, h1, h2, fun i hi => by rw [t.cell h1 h2]; exact hc i hi⟩
theorem RdF.wide {w : World} {l h l' h' : Nat} {v : Value} {bs : List Bool} (r : RdF w l h v bs) (h1 : l' ≤ l) (h2 : h ≤ h') : RdF w l' h' v bs := by
  obtain ⟨a, len, cap, hv, hl, hh, hc⟩ := r
  refine ⟨a, len, cap, hv, hl, hh, ?_⟩
  rcases hc with h0 | ⟨b, off, ha, h3, h4, hc⟩
  · exact .inl h0
  · exact .inr ⟨b, off, ha, by omega, by omega, hc⟩

/-- v is the call's own, with the flags bs, in a block of l .. h-1. -/
def OwF (w : World) (l h : Nat) (v : Value) (bs : List Bool) : Prop := w.ownsRow l 4 1 v bs.length (fcells bs) ∧ Before v h
theorem OwF.same {w w' : World} {l h : Nat} {v : Value} {bs : List Bool} (o : OwF w l h v bs) (t : SameIn l h w w') : OwF w' l h v bs := ⟨ownsRow_same o.1 o.2 t, o.2⟩
theorem OwF.rd {w : World} {l h : Nat} {v : Value} {bs : List Bool} (o : OwF w l h v bs) : RdF w l h v bs := by
  obtain ⟨ho, hb⟩ := o
  rcases ho.2 with ⟨hv, h0⟩ | ⟨g, c, cur, hv, hg, hh, hnc, hm, _⟩
  · subst hv
    exact ⟨none, 0, 0, rfl, by omega, ⟨Nat.le_refl _, Nat.zero_le _, fun _ => ⟨rfl, rfl⟩⟩, .inl (List.eq_nil_of_length_eq_zero h0)⟩
  · subst hv
    refine ⟨_, bs.length, c, rfl, rfl, ⟨hnc, hm, fun e => by cases e⟩, .inr ⟨g, 0, rfl, hg, hb g rfl, fun i hi => ?_⟩⟩
    rw [Nat.zero_add, World.ownsRow.cellAt ho i (by omega)]
    simp [fcells, hi]

def laidF (bs : List Bool) (k : Nat) : List Bool := bs.take k ++ List.replicate (bs.length - k) false
theorem laidF_length (bs : List Bool) (k : Nat) (h : k ≤ bs.length) : (laidF bs k).length = bs.length := by simp [laidF]; omega
theorem laidF_all (bs : List Bool) : laidF bs bs.length = bs := by simp [laidF]
theorem laidF_none (bs : List Bool) : laidF bs 0 = List.replicate bs.length false := by simp [laidF]
theorem laidF_set (bs : List Bool) (k : Nat) (h : k < bs.length) : (laidF bs k).set k (bs[k]?.getD false) = laidF bs (k + 1) := by
  obtain ⟨m, hm⟩ : ∃ m, bs.length - k = m + 1 := ⟨bs.length - k - 1, by omega⟩
  have hm' : bs.length - (k + 1) = m := by omega
  unfold laidF
  rw [hm, hm', List.replicate_succ, List.set_append, if_neg (by simp; omega), List.length_take, Nat.min_eq_left (by omega), Nat.sub_self, List.set_cons_zero]
  have e : bs.take (k + 1) = bs.take k ++ [bs[k]] := List.take_succ_eq_append_getElem h
  rw [e, List.append_assoc]
  simp [h]
theorem madeCells_flags (n : Nat) : (madeCells (Value.bool false).cells (n * 1)).toList = fcells (List.replicate n false) := by
  simp [madeCells, fcells, Value.cells]
  apply List.ext_getElem?
  intro i
  simp [List.getElem?_map, List.getElem?_replicate]
  by_cases h : i < n <;> simp [h, Nat.mod_one]

theorem takeF_eq_step (xs ys : List Bool) (k : Nat) (hx : k < xs.length) (hy : k < ys.length) (h : xs.take k = ys.take k) :
    (xs[k]?.getD false = ys[k]?.getD false → xs.take (k + 1) = ys.take (k + 1)) := by
  intro e
  rw [List.take_succ_eq_append_getElem hx, List.take_succ_eq_append_getElem hy, h]
  simp [hx, hy] at e
  rw [e]

end Go.Proofs.YtjhaanenkeceiaaDoor
