/- append as one step of a region that draws its order. Conditions: at most 2^22 elements. -/
import Derived.Test.YtjhaanenkeceiaaDoorDisk
import Derived.Deep.RegionLaw
import Derived.Deep.AppendLies
namespace Go.Proofs.YtjhaanenkeceiaaDoor
open Go.RowKit
set_option linter.unusedVariables false

/-- append(v, x...) as one step of a region that draws its order. -/
theorem step_app {ops : Array Oper} {o : Oper} {a : Act} {w : World} {K : Act → World → Prop} {Q : Exit → Act → World → Prop} {E : Prop} (hgd : o.guard = none) (s x : Operand)
    (ho : o.op = .call { callee := .builtin .append, args := #[s, x], argTypes := #[22, 22] })
    (base : Nat) (v : Value) (zs ys : List Int) (hs : a.eval s = v) (hown : Owns w base v zs) (ao : Option Addr) (m c : Nat) (hx : a.eval x = .slice ao m c) (hm : m = ys.length) (hr : Reads w ao ys)
    (hl : zs.length ≤ 4194304) (hl' : ys.length ≤ 4194304) (hbase : base ≤ w.heap.size) (hnil : ao = none → m = 0 ∧ c = 0)
    (h : ∀ v' w', Owns w' base v' (zs ++ ys) → w.grownBy w' v.ownBlock → K (a.put o.dst v') w') : if Region.wanted o (yielded ops a.tmps) = true then Oper.wp Tryd.prog o a w K Q else E := by
  have hw : Region.wanted o (yielded ops a.tmps) = true := by simp [Region.wanted, hgd]
  rw [if_pos hw]
  obtain ⟨i0, hi, hz0, hz1, hz2⟩ := info_parts Tryd.infoB
  cases ao with
  | none =>
    obtain ⟨h0, hc0⟩ := hnil rfl
    have : ys = [] := List.eq_nil_of_length_eq_zero (by omega)
    subst this
    subst hm
    subst hc0
    have hrun := run_append_owned_none (P := Tryd.prog) (w := w) base 22 o.type 5 i0 1 Tryd.underlying22 hi v zs.length (bcells zs) hown
    unfold Oper.wp
    have hx' : a.eval x = .slice none 0 0 := hx
    simp [execOp, ho, resolve, invoke, builtin, hs, hx', hrun, Result.andThen]
    exact h v w (by rw [List.append_nil]; exact hown) ⟨rfl, rfl, rfl, Nat.le_refl _, fun _ _ _ => rfl⟩
  | some ad =>
    refine wp_append_own w s x 22 ho base 5 i0 (.int .u8 0) 1 1 Tryd.underlying22 hi hz0 hz1 hz2 rfl (by decide) v zs.length (bcells zs) hs hown ad m c (bcells ys) hx (by simp [hm]) hr.srcAt (bcells_one ys) (by unfold maxLen; omega) (by omega) hbase ?_
    intro v' w' ho' hg _
    refine h v' w' ?_ hg
    unfold Owns
    rw [List.length_append, ← hm]
    simpa [bcells] using ho'

/-- append(v, x), v a list of bytes of the call's own, x one slice in a block of its own, as one step of a region that draws its order. -/
theorem step_appBB {ops : Array Oper} {o : Oper} {a : Act} {w : World} {K : Act → World → Prop} {Q : Exit → Act → World → Prop} {E : Prop} (hgd : o.guard = none) (s x : Operand)
    (ho : o.op = .call { callee := .builtin .append, args := #[s, x], argTypes := #[23, 23] })
    (base : Nat) (v : Value) (vs : List Value) (hs : a.eval s = v) (hown : w.ownsRow base 22 1 v vs.length vs) (b : Nat) (u : Value) (hx : a.eval x = .slice (some ⟨b, 0, none⟩) 1 1) (hu : w.cell? ⟨b, 0, none⟩ = some u) (h1 : u.oneCell' = true)
    (hl : vs.length ≤ 4194304) (hbase : base ≤ w.heap.size)
    (h : ∀ v' w', w'.ownsRow base 22 1 v' (vs ++ [u]).length (vs ++ [u]) → w.grownBy w' v.ownBlock → K (a.put o.dst v') w') : if Region.wanted o (yielded ops a.tmps) = true then Oper.wp Tryd.prog o a w K Q else E := by
  have hw : Region.wanted o (yielded ops a.tmps) = true := by simp [Region.wanted, hgd]
  rw [if_pos hw]
  obtain ⟨i0, hi, hz0, hz1, hz2⟩ := info_parts Tryd.infoBB
  refine wp_append_own w s x 23 ho base 22 i0 (.slice none 0 0) 1 24 Tryd.underlying23 hi hz0 hz1 hz2 rfl (by decide) v vs.length vs hs hown ⟨b, 0, none⟩ 1 1 [u] hx rfl (fun j q hj => ?_) (fun q hq => by simp at hq; subst hq; exact h1) (by unfold maxLen; omega) (by omega) hbase ?_
  · match j, hj with
    | 0, hj => simp at hj; subst hj; simpa [Addr.add] using hu
  · intro v' w' ho' hg _
    refine h v' w' ?_ hg
    rw [List.length_append]; exact ho'

theorem row_sliced {w : World} {l : Nat} {e : TypeId} {z : Nat} {v : Value} {n : Nat} {xs : List Value} (h : w.ownsRow l e z v n xs) : ∃ a n c, v = .slice a n c := by
  rcases h.2 with ⟨h0, _⟩ | ⟨g, c, cur, h0, _⟩
  · exact ⟨_, _, _, h0⟩
  · exact ⟨_, _, _, h0⟩

/-- append(v, x), v a list of bytes of the call's own, x one slice in a block of its own: where the new list lies. -/
theorem step_appL {ops : Array Oper} {o : Oper} {a : Act} {w : World} {K : Act → World → Prop} {Q : Exit → Act → World → Prop} {E : Prop} (hgd : o.guard = none) (s x : Operand)
    (ho : o.op = .call { callee := .builtin .append, args := #[s, x], argTypes := #[23, 23] })
    (base : Nat) (v : Value) (n : Nat) (vs : List Value) (hs : a.eval s = v) (hown : w.ownsRow base 22 1 v n vs) (b : Nat) (u : Value) (hx : a.eval x = .slice (some ⟨b, 0, none⟩) 1 1) (hu : w.cell? ⟨b, 0, none⟩ = some u) (h1 : u.oneCell' = true)
    (hl : n ≤ 4194304) (hbase : base ≤ w.heap.size)
    (h : ∀ g cap w', w'.ownsRow base 22 1 (.slice (some ⟨g, 0, none⟩) (n + 1) cap) (n + 1) (vs ++ [u]) → w.grownBy w' v.ownBlock → (v.ownBlock = some g ∨ g = w.heap.size) → g < w'.heap.size → K (a.put o.dst (.slice (some ⟨g, 0, none⟩) (n + 1) cap)) w') : if Region.wanted o (yielded ops a.tmps) = true then Oper.wp Tryd.prog o a w K Q else E := by
  obtain ⟨i0, hi, hz0, hz1, hz2⟩ := info_parts Tryd.infoBB
  refine step_append_lies w hgd s x 23 ho base 22 i0 (.slice none 0 0) 1 24 Tryd.underlying23 hi hz0 hz1 hz2 rfl (by decide) v n vs hs hown ⟨b, 0, none⟩ 1 1 [u] hx rfl (fun j q hj => ?_) (fun q hq => by simp at hq; subst hq; exact h1) (by decide) (by unfold maxLen; omega) (by omega) hbase _ rfl h
  match j, hj with
  | 0, hj => simp at hj; subst hj; simpa [Addr.add] using hu

theorem RdB.keep {w w' : World} {l h : Nat} {v : Value} {zs : List Int} {r : Option Nat} (x : RdB w l h v zs) (hg : w.grownBy w' r) (hh : h ≤ w.heap.size) (hne : ∀ g, v.ownBlock = some g → r ≠ some g) : RdB w' l h v zs := by
  obtain ⟨hb, a, len, cap, hv, hl, hd, hc⟩ := x
  refine ⟨hb, a, len, cap, hv, hl, hd, ?_⟩
  rcases hc with h0 | ⟨b, off, ha, h1, h2, hc⟩
  · exact .inl h0
  · refine .inr ⟨b, off, ha, h1, h2, fun i hi => ?_⟩
    rw [hg.cell_far ⟨b, off + i, none⟩ (by show b < _; omega) (fun e => hne b (by rw [hv, ha]; rfl) e.symm)]
    exact hc i hi

/-- A list of bytes of the call's own that may grow: no element lies in the list's own block. -/
def GrBB (w : World) (l : Nat) (v : Value) (zss : List (List Int)) : Prop :=
  ∃ vs : List Value, vs.length = zss.length ∧ w.ownsRow l 22 1 v zss.length vs ∧ ∀ i, i < zss.length → RdB w l w.heap.size (vs[i]?.getD undef) (zss[i]?.getD []) ∧ ∀ g, (vs[i]?.getD undef).ownBlock = some g → g < w.heap.size ∧ v.ownBlock ≠ some g
theorem GrBB_nil (w : World) (l : Nat) : GrBB w l (.slice none 0 0) [] := ⟨[], rfl, World.ownsRow_nil _ _ _ _, fun i hi => absurd hi (Nat.not_lt_zero _)⟩
theorem GrBB.sliced {w : World} {l : Nat} {v : Value} {zss : List (List Int)} (o : GrBB w l v zss) : ∃ a c, v = .slice a zss.length c := by
  obtain ⟨vs, hl, ho, _⟩ := o
  rcases ho.2 with ⟨h0, hz⟩ | ⟨g, c, cur, h0, _⟩
  · exact ⟨none, 0, by rw [h0, hz]⟩
  · exact ⟨_, _, h0⟩
theorem GrBB.rd {w : World} {l : Nat} {v : Value} {zss : List (List Int)} (o : GrBB w l v zss) : RdBB w l w.heap.size v zss := by
  obtain ⟨vs, hl, ho, he⟩ := o
  have hb := ho.lt
  rcases ho.2 with ⟨hv, h0⟩ | ⟨g, c, cur, hv, hg, hh, hnc, hm, _⟩
  · subst hv
    exact ⟨none, 0, 0, fun i => vs[i]?.getD undef, rfl, by omega, ⟨Nat.le_refl _, Nat.zero_le _, fun _ => ⟨rfl, rfl⟩⟩, .inl rfl, fun i hi => absurd hi (Nat.not_lt_zero _)⟩
  · subst hv
    refine ⟨_, zss.length, c, fun i => vs[i]?.getD undef, rfl, rfl, ⟨hnc, hm, fun e => by cases e⟩, .inr ⟨g, 0, rfl, hg, (hb g rfl).2, fun i hi => ?_⟩, fun i hi => (he i hi).1⟩
    rw [Nat.zero_add, World.ownsRow.cellAt ho i (by omega)]
    rw [List.getElem?_eq_getElem (by omega)]
    simp [hl, hi]
theorem GrBB.same {w w' : World} {l : Nat} {v : Value} {zss : List (List Int)} (o : GrBB w l v zss) (t : SameIn l w.heap.size w w') : GrBB w' l v zss := by
  obtain ⟨vs, hl, ho, he⟩ := o
  exact ⟨vs, hl, ownsRow_same ho (fun k hk => (ho.lt k hk).2) t, fun i hi => ⟨((he i hi).1.same t).wide (Nat.le_refl _) t.1, fun g hg => ⟨Nat.lt_of_lt_of_le ((he i hi).2 g hg).1 t.1, ((he i hi).2 g hg).2⟩⟩⟩
theorem slice_block {a : Addr} {n c k : Nat} (h : (Value.slice (some a) n c).ownBlock = some k) : a.block = k := by simpa [Value.ownBlock] using h
/-- One more was appended. -/
theorem GrBB.next {w wa w' : World} {l g cap : Nat} {v u : Value} {zss : List (List Int)} {zs : List Int} {vs : List Value} (hvl : vs.length = zss.length) (hrow : w.ownsRow l 22 1 v zss.length vs)
    (he : ∀ i, i < zss.length → RdB w l w.heap.size (vs[i]?.getD undef) (zss[i]?.getD []) ∧ ∀ g, (vs[i]?.getD undef).ownBlock = some g → g < w.heap.size ∧ v.ownBlock ≠ some g) (hb : Below w.heap.size w wa)
    (hr' : w'.ownsRow l 22 1 (.slice (some ⟨g, 0, none⟩) (zss.length + 1) cap) (zss.length + 1) (vs ++ [u])) (hgr : wa.grownBy w' v.ownBlock) (hat : v.ownBlock = some g ∨ g = wa.heap.size)
    (hu : RdB wa l wa.heap.size u zs) (hua : ∀ q, u.ownBlock = some q → w.heap.size ≤ q ∧ q < wa.heap.size) : GrBB w' l (.slice (some ⟨g, 0, none⟩) (zss.length + 1) cap) (zss ++ [zs]) := by
  have hs := hb.size
  have hs' := hgr.size
  refine ⟨vs ++ [u], by simp [hvl], by simpa using hr', fun i hi => ?_⟩
  rw [List.length_append, List.length_singleton] at hi
  rw [getD_snoc, getD_snoc]
  by_cases h1 : i < zss.length
  · rw [if_pos (by omega), if_pos h1]
    obtain ⟨h2, h3⟩ := he i h1
    have hx : RdB w' l w.heap.size (vs[i]?.getD undef) (zss[i]?.getD []) := (h2.same (SameIn.ofBelow hb (Nat.le_refl _))).keep hgr hs (fun q hq => (h3 q hq).2)
    refine ⟨hx.wide (Nat.le_refl _) (by omega), fun q hq => ⟨by have := (h3 q hq).1; omega, fun e => ?_⟩⟩
    have e' : g = q := by have := slice_block e; simpa using this
    subst e'
    rcases hat with hat | hat
    · exact (h3 g hq).2 hat
    · have := (h3 g hq).1
      omega
  · have h4 : i = zss.length := by omega
    subst h4
    rw [if_neg (by omega), if_pos hvl.symm, if_neg (by omega), if_pos rfl]
    refine ⟨(hu.keep hgr (Nat.le_refl _) (fun q hq e => ?_)).wide (Nat.le_refl _) hs', fun q hq => ⟨by have := hua q hq; omega, fun e => ?_⟩⟩
    · have := (hua q hq).1
      have := (hrow.lt q e).2
      omega
    · have h5 := hua q hq
      have e' : g = q := by have := slice_block e; simpa using this
      subst e'
      rcases hat with hat | hat
      · have := (hrow.lt g hat).2; omega
      · omega

theorem RdD.open {w : World} {l h : Nat} {v : Value} {d : Dk} (r : RdD w l h v d) : ∃ xa xn xc ya yn yc, v = .agg #[.slice xa xn xc, .slice ya yn yc] := by
  obtain ⟨x, y, rfl, r1, r2⟩ := r
  obtain ⟨xa, xn, xc, rfl⟩ := r1.sliced
  obtain ⟨ya, yn, yc, rfl⟩ := r2.sliced
  exact ⟨xa, xn, xc, ya, yn, yc, rfl⟩
/-- A variable that holds a disk. -/
def VarD (w : World) (b : Nat) (x y : Value) : Prop := w.heap[b]? = some (.cells #[x, y] 26 (0, 0))
theorem VarD.c0 {w : World} {b : Nat} {x y : Value} (h : VarD w b x y) : w.cell? ⟨b, 0, none⟩ = some x := by rw [cell_of_row _ _ _ _ _ _ h]; rfl
theorem VarD.c1 {w : World} {b : Nat} {x y : Value} (h : VarD w b x y) : w.cell? ⟨b, 1, none⟩ = some y := by rw [cell_of_row _ _ _ _ _ _ h]; rfl
theorem VarD.f {w : World} {b : Nat} {x y : Value} (h : VarD w b x y) (i : Nat) : w.frozen? ⟨b, i, none⟩ = false := frozen_of_row _ _ _ _ _ h
theorem VarD.lt {w : World} {b : Nat} {x y : Value} (h : VarD w b x y) : b < w.heap.size := lt_of_block h
theorem VarD.step {w w' : World} {b : Nat} {x y : Value} (h : VarD w b x y) (hb : Below w.heap.size w w') : VarD w' b x y := (hb.block b h.lt).trans h
theorem VarD.turn {w w' : World} {b l k : Nat} {x y : Value} (h : VarD w b x y) (t : Turns l k w w') (ho : b < l ∨ k ≤ b) : VarD w' b x y := (t.block b h.lt ho).trans h
theorem VarD.new (w : World) (x y : Value) : VarD (w.alloc (.cells #[x, y] 26)) w.heap.size x y := heap_alloc_new w _
theorem RdD.step {w w' : World} {l h : Nat} {v : Value} {d : Dk} (r : RdD w l h v d) (hh : h ≤ w.heap.size) (hb : Below w.heap.size w w') : RdD w' l h v d := r.same (SameIn.ofBelow hb hh)
theorem OwD.step {w w' : World} {l h : Nat} {v : Value} {d : Dk} (r : OwD w l h v d) (hh : h ≤ w.heap.size) (hb : Below w.heap.size w w') : OwD w' l h v d := r.same (SameIn.ofBelow hb hh)
theorem Below.new {w : World} (o : Obj) : Below w.heap.size w (w.alloc o) := (Below.refl _ _).alloc (Nat.le_refl _) _
end Go.Proofs.YtjhaanenkeceiaaDoor
