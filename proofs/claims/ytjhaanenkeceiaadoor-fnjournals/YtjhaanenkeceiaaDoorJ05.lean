/- Joined: Safe Clone ImplFlush ImplFlush2 SpecFlush Flushes. -/
import Derived.Test.YtjhaanenkeceiaaDoorJ03
import Derived.Test.YtjhaanenkeceiaaDoorJ02
import Derived.Deep.DrawnRows
import Derived.Deep.CutRange
import Derived.Stop.LaidErr
import Derived.Test.YtjhaanenkeceiaaDoorJ04

section
/- One write is made safe: the program's makeSafe, over a disk of the call's own. Conditions: the sector is there, both are whole sectors, at most a sector's bytes are copied. -/
namespace Go.Proofs.YtjhaanenkeceiaaDoor
open Go.RowKit
set_option linter.unusedVariables false
attribute [local go_sem ↓] Go.wp_at_zero Go.wp_at_succ

/-- copy into one row, as one step of a region that draws its order: no other block turns. -/
theorem step_copy_one {ops : Array Oper} {o : Oper} {a : Act} {w : World} {K : Act → World → Prop} {Q : Exit → Act → World → Prop} {E : Prop} (hgd : o.guard = none) (d s : Operand)
    (ho : o.op = .call { callee := .builtin .copy, args := #[d, s], argTypes := #[22, 22] })
    (g dLen dCap : Nat) (sp : Option Addr) (sLen sCap : Nat) (hd : a.eval d = .slice (some ⟨g, 0, none⟩) dLen dCap) (hs : a.eval s = .slice sp sLen sCap)
    (cur : Array Value) (hg : w.heap[g]? = some (.cells cur 5 (0, 0))) (cs : List Value) (hn : cs.length = Nat.min sLen dLen)
    (hpos : 0 < cs.length → ∃ ad, sp = some ad ∧ ∀ j v, cs[j]? = some v → w.cell? (ad.add j) = some v)
    (hfit : cs.length ≤ cur.size) (h1 : ∀ v ∈ cs, v.oneCell' = true)
    (h : ∀ w', Hid (w'.heap[g]? = some (.cells (splice cur.toList 0 cs).toArray 5 (0, 0))) → w.grownBy w' (some g) → K (a.put o.dst (goInt cs.length)) w') :
    if Region.wanted o (yielded ops a.tmps) = true then Oper.wp Tryd.prog o a w K Q else E := by
  have hw : Region.wanted o (yielded ops a.tmps) = true := by simp [Region.wanted, hgd]
  rw [if_pos hw]
  by_cases h0 : cs.length = 0
  · obtain rfl : cs = [] := List.eq_nil_of_length_eq_zero h0
    have hrun := run_copy_none (P := Tryd.prog) w 22 22 o.type 5 (some ⟨g, 0, none⟩) sp dLen dCap sLen sCap Tryd.underlying22 Tryd.sizeB (by simpa using hn.symm)
    unfold Oper.wp
    simp [execOp, ho, resolve, invoke, builtin, hd, hs, hrun, Result.andThen]
    exact h w (show _ = _ by simpa [splice] using hg) ⟨rfl, rfl, rfl, Nat.le_refl _, fun _ _ _ => rfl⟩
  · obtain ⟨ad, rfl, hsrc⟩ := hpos (by omega)
    have hrun := run_copy_row (P := Tryd.prog) w 22 22 o.type 5 g 0 dLen dCap ad sLen sCap cur 5 cs Tryd.underlying22 Tryd.sizeB hg hn hsrc (by omega) h1
    unfold Oper.wp
    simp [execOp, ho, resolve, invoke, builtin, hd, hs, hrun, Result.andThen]
    refine h _ (show _ = _ by simpa [splice] using setRow_heap w g _ _ 5 _ hg) ⟨rfl, rfl, rfl, by simp [World.setRow], fun k hk hne => setRow_other w g k _ (fun e => hne (by rw [e]))⟩

/-- The first bytes of a row of the call's own were written. -/
theorem Owns.spliced {w w' : World} {base g n cap : Nat} {cur : Array Value} {zs ys : List Int} (h : Owns w base (.slice (some ⟨g, 0, none⟩) n cap) zs) (hc : w.heap[g]? = some (.cells cur 5 (0, 0)))
    (hy : ys.length ≤ zs.length) (hh : w'.heap[g]? = some (.cells (splice cur.toList 0 (bcells ys)).toArray 5 (0, 0))) : Owns w' base (.slice (some ⟨g, 0, none⟩) n cap) (ys ++ zs.drop ys.length) := by
  rcases h.2 with ⟨hv, _⟩ | ⟨g', c, cur', hv, hg, hh', hnc, hm, hs, ht⟩
  · cases hv
  simp only [Value.slice.injEq, Option.some.injEq, Addr.mk.injEq, and_true] at hv
  obtain ⟨rfl, rfl, rfl⟩ := hv
  rw [hc] at hh'
  simp only [Option.some.injEq, Obj.cells.injEq, and_true] at hh'
  obtain rfl := hh'
  have hlen : (ys ++ zs.drop ys.length).length = zs.length := by simp; omega
  have hcl : cur.toList.length = cap := by simpa using hs
  refine ⟨by rw [bcells_length]; omega, .inr ⟨g, cap, _, by rw [hlen], hg, hh, by omega, hm, ?_, ?_⟩⟩
  · simp [splice]; omega
  · rw [hlen]
    simp only [Nat.mul_one] at ht ⊢
    unfold splice
    simp only [List.take_zero, List.nil_append, Nat.zero_add, bcells_length]
    rw [List.toList_toArray, List.take_append, bcells_length, List.take_of_length_le (by simp; omega), List.take_drop, show ys.length + (zs.length - ys.length) = zs.length by omega, ht]
    simp [bcells]

/-- The sector, its first c bytes as zs has them. -/
def mixed (old zs : List Int) (c : Nat) : List Int := zs.take c ++ old.drop c
theorem mixed_length {old zs : List Int} {c : Nat} (h1 : old.length = 32) (h2 : zs.length = 32) (hc : c ≤ 32) : (mixed old zs c).length = 32 := by simp [mixed]; omega
theorem mixed_all {old zs : List Int} (h1 : old.length = 32) (h2 : zs.length = 32) : mixed old zs 32 = zs := by
  unfold mixed; rw [List.take_of_length_le (by omega), List.drop_eq_nil_of_le (by omega), List.append_nil]
theorem mixed_bytes {old zs : List Int} {c : Nat} (h1 : isBytes old) (h2 : isBytes zs) : isBytes (mixed old zs c) := isBytes_append (isBytes_take h2 c) (isBytes_drop h1 c)

end Go.Proofs.YtjhaanenkeceiaaDoor
end

section
/- The program's copy of a disk that is DiskOk. Condition: that it is. -/
namespace Go.Proofs.YtjhaanenkeceiaaDoor
open Go.RowKit
set_option linter.unusedVariables false
attribute [local go_sem ↓] Go.wp_at_zero Go.wp_at_succ

/-- A list that is being copied into block r, its elements into blocks from H on: k of its n are there. -/
def PartX (w : World) (l r H n : Nat) (zss : List (List Int)) (k : Nat) (vs : List Value) : Prop :=
  vs.length = k ∧ w.ownsRow l 22 1 (.slice (some ⟨r, 0, none⟩) n n) n (vs ++ List.replicate (n - k) (.slice none 0 0)) ∧ (H ≤ w.heap.size ∧ r < H) ∧
    (∀ i, i < k → OwB w H w.heap.size (vs[i]?.getD undef) (zss[i]?.getD [])) ∧ ∀ i j q, i < j → j < k → (vs[i]?.getD undef).ownBlock = some q → (vs[j]?.getD undef).ownBlock ≠ some q
theorem PartX.done {w : World} {l r H n : Nat} {zss : List (List Int)} {vs : List Value} (h : PartX w l r H n zss n vs) (hn : n = zss.length) (hl : l ≤ H) : OwX w l w.heap.size (.slice (some ⟨r, 0, none⟩) n n) zss vs := by
  obtain ⟨hv, ho, hH, he, hd⟩ := h
  rw [Nat.sub_self, List.replicate_zero, List.append_nil] at ho
  subst hv
  exact ⟨hn, ho, fun k hk => by have := slice_block hk; simp at this; omega, fun i hi => (he i hi).wide hl (Nat.le_refl _), hd⟩
theorem PartX.blk {w : World} {l r H n k : Nat} {zss : List (List Int)} {vs : List Value} (h : PartX w l r H n zss k vs) : ∀ q, Blk vs q → H ≤ q ∧ q < w.heap.size := fun q ⟨i, hi, hq⟩ => by
  have := h.2.2.2.1 i (by rw [← h.1]; exact hi)
  exact ⟨(this.2.1.lt q hq).1, this.2.2 q hq⟩
theorem PartX.below {w w' : World} {l r H n k : Nat} {zss : List (List Int)} {vs : List Value} (h : PartX w l r H n zss k vs) (hb : Below w.heap.size w w') : PartX w' l r H n zss k vs := by
  obtain ⟨hv, ho, hH, he, hd⟩ := h
  have hs := hb.size
  exact ⟨hv, ownsRow_kept2 ho (fun q hq => hb.block q (ho.lt q hq).2), ⟨by omega, hH.2⟩, fun i hi => ((he i hi).same (SameIn.ofBelow hb (Nat.le_refl _))).wide (Nat.le_refl _) hs, hd⟩
theorem PartX.set {w : World} {l r H n k b o : Nat} {zss : List (List Int)} {vs : List Value} {u : Value} (h : PartX w l r H n zss k vs) (hb : b < H) (hr : b ≠ r) : PartX (w.setCell ⟨b, o, none⟩ u) l r H n zss k vs := by
  obtain ⟨hv, ho, hH, he, hd⟩ := h
  refine ⟨hv, ownsRow_kept2 ho (fun q hq => heap_setCell_other _ _ _ _ (by have := slice_block hq; simp at this; show q ≠ b; omega)), by simpa using hH, fun i hi => ?_, hd⟩
  have := (he i hi).same (SameIn.set (w := w) (p := ⟨b, o, none⟩) (u := u) (.inl (by show b < H; omega)))
  simpa using this
theorem PartX.next {w w' : World} {l r H n k : Nat} {zss : List (List Int)} {vs : List Value} {u : Value} {zs : List Int} (h : PartX w l r H n zss k vs) (hk : k < n) (hb : Below w.heap.size w w') (hz : isBytes zs) (ho : Owns w' w.heap.size u zs) (hzs : zs = zss[k]?.getD []) :
    PartX (w'.setCell ⟨r, k, none⟩ u) l r H n zss (k + 1) (vs ++ [u]) := by
  have h' := h.below hb
  obtain ⟨hl, hrow, hB, he, hd⟩ := h'
  obtain ⟨_, _, hB0, he0, _⟩ := h
  have hs := hb.size
  have hst := hrow.stored k u
  rw [set_next vs _ u n k hl hk] at hst
  have hsize : (w'.setCell ⟨r, k, none⟩ u).heap.size = w'.heap.size := by simp
  have hu : OwB w' w.heap.size w'.heap.size u zs := OwB.of hz ho
  have same : SameIn H w'.heap.size w' (w'.setCell ⟨r, k, none⟩ u) := SameIn.set (.inl (by show r < H; omega))
  refine ⟨by simp [hl], hst.1, by rw [hsize]; omega, fun i hi => ?_, fun i j q hij hj hq => ?_⟩
  · rw [hsize, getD_snoc]
    by_cases h1 : i < vs.length
    · rw [if_pos h1]
      exact (he i (by omega)).same same
    · have e : i = vs.length := by omega
      rw [if_neg h1, if_pos e, e, hl, ← hzs]
      exact (hu.wide (by omega) (Nat.le_refl _)).same same
  · rw [getD_snoc] at hq ⊢
    rw [if_pos (by omega)] at hq
    by_cases h1 : j < vs.length
    · rw [if_pos h1]; exact hd i j q hij (by omega) hq
    · rw [if_neg h1, if_pos (by omega)]
      intro e
      have a1 := (he0 i (by omega)).2.2 q hq
      have a2 := (ho.lt q e).1
      omega
theorem PartX.slot {w : World} {l r H n k : Nat} {zss : List (List Int)} {vs : List Value} (h : PartX w l r H n zss k vs) (hk : k < n) : (∃ v, w.cell? ⟨r, k, none⟩ = some v) ∧ w.frozen? ⟨r, k, none⟩ = false := by
  obtain ⟨hl, hrow, hB, he, hd⟩ := h
  refine ⟨?_, hrow.frozenAt k⟩
  rw [hrow.cellAt k (by omega)]; exact ⟨_, List.getElem?_eq_getElem (by simp; omega)⟩

/-- The like of a list of writes. -/
def PartY (w : World) (l r H n : Nat) (ws : List Wt) (k : Nat) (xs : List Value) : Prop :=
  ∃ C : List Value, xs.length = k ∧ w.ownsRow l 75 2 (.slice (some ⟨r, 0, none⟩) n n) n C ∧ (H ≤ w.heap.size ∧ r < H) ∧
    (∀ i, i < k → C[i * 2]? = some (.int .i64 (ws[i]?.getD (0, [])).1) ∧ C[i * 2 + 1]? = some (xs[i]?.getD undef)) ∧
    (∀ i, i < k → OwB w H w.heap.size (xs[i]?.getD undef) (ws[i]?.getD (0, [])).2) ∧ ∀ i j q, i < j → j < k → (xs[i]?.getD undef).ownBlock = some q → (xs[j]?.getD undef).ownBlock ≠ some q
theorem PartY.done {w : World} {l r H n : Nat} {ws : List Wt} {xs : List Value} (h : PartY w l r H n ws n xs) (hn : n = ws.length) (hl : l ≤ H) : OwY w l w.heap.size (.slice (some ⟨r, 0, none⟩) n n) ws xs := by
  obtain ⟨C, hv, ho, hH, hC, he, hd⟩ := h
  subst hv
  exact ⟨C, hn, ho, fun k hk => by have := slice_block hk; simp at this; omega, hC, fun i hi => (he i hi).wide hl (Nat.le_refl _), hd⟩
theorem PartY.blk {w : World} {l r H n k : Nat} {ws : List Wt} {xs : List Value} (h : PartY w l r H n ws k xs) : ∀ q, Blk xs q → H ≤ q ∧ q < w.heap.size := by
  obtain ⟨C, hv, ho, hH, hC, he, hd⟩ := h
  rintro q ⟨i, hi, hq⟩
  have := he i (by omega)
  exact ⟨(this.2.1.lt q hq).1, this.2.2 q hq⟩
theorem PartY.below {w w' : World} {l r H n k : Nat} {ws : List Wt} {xs : List Value} (h : PartY w l r H n ws k xs) (hb : Below w.heap.size w w') : PartY w' l r H n ws k xs := by
  obtain ⟨C, hv, ho, hH, hC, he, hd⟩ := h
  have hs := hb.size
  exact ⟨C, hv, ownsRow_kept2 ho (fun q hq => hb.block q (ho.lt q hq).2), ⟨by omega, hH.2⟩, hC, fun i hi => ((he i hi).same (SameIn.ofBelow hb (Nat.le_refl _))).wide (Nat.le_refl _) hs, hd⟩
theorem PartY.raise {w : World} {l r H H' n : Nat} {ws : List Wt} (h : PartY w l r H n ws 0 []) (hH : H ≤ H') (hs : H' ≤ w.heap.size) : PartY w l r H' n ws 0 [] := by
  obtain ⟨C, hv, ho, hB, hC, he, hd⟩ := h
  exact ⟨C, hv, ho, ⟨hs, by omega⟩, hC, fun i hi => absurd hi (Nat.not_lt_zero _), hd⟩
theorem PartY.set {w : World} {l r H n k b o : Nat} {ws : List Wt} {xs : List Value} {u : Value} (h : PartY w l r H n ws k xs) (hb : b < H) (hr : b ≠ r) : PartY (w.setCell ⟨b, o, none⟩ u) l r H n ws k xs := by
  obtain ⟨C, hv, ho, hH, hC, he, hd⟩ := h
  refine ⟨C, hv, ownsRow_kept2 ho (fun q hq => heap_setCell_other _ _ _ _ (by have := slice_block hq; simp at this; show q ≠ b; omega)), by simpa using hH, hC, fun i hi => ?_, hd⟩
  have := (he i hi).same (SameIn.set (w := w) (p := ⟨b, o, none⟩) (u := u) (.inl (by show b < H; omega)))
  simpa using this
theorem PartY.slot {w : World} {l r H n k : Nat} {ws : List Wt} {xs : List Value} (h : PartY w l r H n ws k xs) (hk : k < n) :
    (∃ v, w.cell? ⟨r, k * 2, none⟩ = some v) ∧ (∃ v, w.cell? ⟨r, k * 2 + 1, none⟩ = some v) ∧ w.frozen? ⟨r, k * 2, none⟩ = false ∧ w.frozen? ⟨r, k * 2 + 1, none⟩ = false := by
  obtain ⟨C, hl, hrow, hB, hC, he, hd⟩ := h
  have hCl : C.length = n * 2 := hrow.1
  refine ⟨?_, ?_, hrow.frozenAt _, hrow.frozenAt _⟩
  · rw [hrow.cellAt (k * 2) (by omega)]; exact ⟨_, List.getElem?_eq_getElem (by omega)⟩
  · rw [hrow.cellAt (k * 2 + 1) (by omega)]; exact ⟨_, List.getElem?_eq_getElem (by omega)⟩
theorem PartY.next {w w' : World} {l r H n k : Nat} {ws : List Wt} {xs : List Value} {u : Value} {p : Int} {zs : List Int} (h : PartY w l r H n ws k xs) (hk : k < n) (hb : Below w.heap.size w w') (hz : isBytes zs) (ho : Owns w' w.heap.size u zs) (hws : ws[k]?.getD (0, []) = (p, zs)) :
    PartY ((w'.setCell ⟨r, k * 2, none⟩ (.int .i64 p)).setCell ⟨r, k * 2 + 1, none⟩ u) l r H n ws (k + 1) (xs ++ [u]) := by
  have h' := h.below hb
  obtain ⟨C, hl, hrow, hB, hC, he, hd⟩ := h'
  obtain ⟨_, _, _, hB0, _, he0, _⟩ := h
  have hs := hb.size
  have hCl : C.length = n * 2 := hrow.1
  have h1 := hrow.stored (k * 2) (.int .i64 p)
  have h2 := h1.1.stored (k * 2 + 1) u
  have hsize : ((w'.setCell ⟨r, k * 2, none⟩ (.int .i64 p)).setCell ⟨r, k * 2 + 1, none⟩ u).heap.size = w'.heap.size := by simp
  have hu : OwB w' w.heap.size w'.heap.size u zs := OwB.of hz ho
  have same : SameIn H w'.heap.size w' ((w'.setCell ⟨r, k * 2, none⟩ (.int .i64 p)).setCell ⟨r, k * 2 + 1, none⟩ u) := (SameIn.set (.inl (by show r < H; omega))).trans (SameIn.set (.inl (by show r < H; omega)))
  refine ⟨(C.set (k * 2) (.int .i64 p)).set (k * 2 + 1) u, by simp [hl], h2.1, by rw [hsize]; omega, fun i hi => ?_, fun i hi => ?_, fun i j q hij hj hq => ?_⟩
  · rw [getD_snoc]
    by_cases hik : i < xs.length
    · rw [if_pos hik, List.getElem?_set, if_neg (by omega), List.getElem?_set, if_neg (by omega), List.getElem?_set, if_neg (by omega), List.getElem?_set, if_neg (by omega)]
      exact hC i (by omega)
    · obtain rfl : i = k := by omega
      rw [if_neg hik, if_pos hl.symm, List.getElem?_set, if_neg (by omega), List.getElem?_set, if_pos rfl, List.getElem?_set, if_pos rfl, if_pos (by omega), if_pos (by rw [List.length_set]; omega), hws]
      exact ⟨rfl, rfl⟩
  · rw [hsize, getD_snoc]
    by_cases h1 : i < xs.length
    · rw [if_pos h1]
      exact (he i (by omega)).same same
    · have e : i = xs.length := by omega
      rw [if_neg h1, if_pos e, e, hl, hws]
      exact (hu.wide (by omega) (Nat.le_refl _)).same same
  · rw [getD_snoc] at hq ⊢
    rw [if_pos (by omega)] at hq
    by_cases h1 : j < xs.length
    · rw [if_pos h1]; exact hd i j q hij (by omega) hq
    · rw [if_neg h1, if_pos (by omega)]
      intro e
      have a1 := (he0 i (by omega)).2.2 q hq
      have a2 := (ho.lt q e).1
      omega

/-- What holds behind the copy's first statement. -/
def CRel0 (w : World) (d : Dk) (n m : Nat) (s3 : Value) (wx : World) : Prop :=
  ∃ o r1 r2 : Nat, s3 = .pointer (some ⟨o, 0, none⟩) ∧ VarD wx o (.slice (some ⟨r1, 0, none⟩) n n) (.slice (some ⟨r2, 0, none⟩) m m) ∧ VarD wx w.heap.size (.slice none 0 0) (.slice none 0 0) ∧
    PartX wx (w.heap.size + 1) r1 wx.heap.size n d.1 0 [] ∧ PartY wx (w.heap.size + 1) r2 wx.heap.size m d.2 0 [] ∧ (r1 ≠ r2 ∧ o ≠ r1 ∧ o ≠ r2 ∧ w.heap.size < o ∧ w.heap.size < r1 ∧ w.heap.size < r2) ∧ Below w.heap.size w wx

theorem rowA_of {wx : World} {l r n : Nat} (hh : wx.heap[r]? = some (.cells (madeCells (Value.slice none 0 0).cells (n * 1)) 22 (0, 0))) (hl : l ≤ r) (hn : n ≤ 2000) :
    wx.ownsRow l 22 1 (.slice (some ⟨r, 0, none⟩) n n) n ([] ++ List.replicate (n - 0) (.slice none 0 0)) := by
  rw [List.nil_append, Nat.sub_zero, ← madeCells_nil]
  exact ⟨by simp [size_madeCells], .inr ⟨r, n, _, rfl, hl, hh, Nat.le_refl _, by unfold maxLen; omega, by simp [size_madeCells], by rw [List.take_of_length_le (by simp [size_madeCells])]⟩⟩
theorem rowB_of {wx : World} {l r n : Nat} {C : Array Value} (hh : wx.heap[r]? = some (.cells (madeCells C (n * 2)) 75 (0, 0))) (hl : l ≤ r) (hn : n ≤ 2000) :
    wx.ownsRow l 75 2 (.slice (some ⟨r, 0, none⟩) n n) n (madeCells C (n * 2)).toList :=
  ⟨by simp [size_madeCells], .inr ⟨r, n, _, rfl, hl, hh, Nat.le_refl _, by unfold maxLen; omega, by simp [size_madeCells], by rw [List.take_of_length_le (by simp [size_madeCells])]⟩⟩
theorem crel0_of {w w1 wx : World} {d : Dk} {n m o r1 r2 : Nat} {C : Array Value} (b1 : Below w.heap.size w w1) (v0 : VarD w1 w.heap.size (.slice none 0 0) (.slice none 0 0)) (bx : Below w1.heap.size w1 wx)
    (ho : VarD wx o (.slice (some ⟨r1, 0, none⟩) n n) (.slice (some ⟨r2, 0, none⟩) m m)) (h1 : wx.heap[r1]? = some (.cells (madeCells (Value.slice none 0 0).cells (n * 1)) 22 (0, 0))) (h2 : wx.heap[r2]? = some (.cells (madeCells C (m * 2)) 75 (0, 0)))
    (hn : n ≤ 2000) (hm : m ≤ 2000) (hd : r1 ≠ r2 ∧ o ≠ r1 ∧ o ≠ r2 ∧ w1.heap.size ≤ o ∧ w1.heap.size ≤ r1 ∧ w1.heap.size ≤ r2) : CRel0 w d n m (.pointer (some ⟨o, 0, none⟩)) wx := by
  have s1 := v0.lt
  have sx := bx.size
  have l1 := lt_of_block h1
  have l2 := lt_of_block h2
  refine ⟨o, r1, r2, rfl, ho, v0.step bx, ⟨rfl, rowA_of h1 (by omega) hn, ⟨Nat.le_refl _, l1⟩, fun i hi => absurd hi (Nat.not_lt_zero _), fun i j q _ hj => absurd hj (Nat.not_lt_zero _)⟩,
    ⟨_, rfl, rowB_of h2 (by omega) hm, ⟨Nat.le_refl _, l2⟩, fun i hi => absurd hi (Nat.not_lt_zero _), fun i hi => absurd hi (Nat.not_lt_zero _), fun i j q _ hj => absurd hj (Nat.not_lt_zero _)⟩, by omega, b1.trans (bx.mono b1.size)⟩
theorem Below.three {w : World} (a b c : Obj) : Below w.heap.size w (((w.alloc a).alloc b).alloc c).drew := Below.drew ((((Below.refl _ _).alloc (Nat.le_refl _) _).alloc (by simp) _).alloc (by simp; omega) _)

theorem OwX.wide {w : World} {l h l' h' : Nat} {v : Value} {zss : List (List Int)} {vs : List Value} (o : OwX w l h v zss vs) (h1 : l' ≤ l) (h2 : h ≤ h') : OwX w l' h' v zss vs := by
  obtain ⟨hl, ho, hb, he, hd⟩ := o
  refine ⟨hl, ⟨ho.1, ?_⟩, hb.le h2, fun i hi => (he i hi).wide h1 h2, hd⟩
  rcases ho.2 with h0 | ⟨g, c, cur, hv, hg, r⟩
  · exact .inl h0
  · exact .inr ⟨g, c, cur, hv, by omega, r⟩
theorem OwY.wide {w : World} {l h l' h' : Nat} {v : Value} {ws : List Wt} {xs : List Value} (o : OwY w l h v ws xs) (h1 : l' ≤ l) (h2 : h ≤ h') : OwY w l' h' v ws xs := by
  obtain ⟨C, hl, ho, hb, hC, he, hd⟩ := o
  refine ⟨C, hl, ⟨ho.1, ?_⟩, hb.le h2, hC, fun i hi => (he i hi).wide h1 h2, hd⟩
  rcases ho.2 with h0 | ⟨g, c, cur, hv, hg, r⟩
  · exact .inl h0
  · exact .inr ⟨g, c, cur, hv, by omega, r⟩

theorem SameIn.drew {l h : Nat} {w : World} : SameIn l h w w.drew := ⟨Nat.le_refl _, fun _ _ _ => rfl⟩

def CL1 (w : World) (d : Dk) (n m o r1 r2 H : Nat) (i : Value) (wr : World) : Prop :=
  ∃ (k : Nat) (vs : List Value), k ≤ n ∧ i = .int .i64 k ∧ VarD wr o (.slice (some ⟨r1, 0, none⟩) n n) (.slice (some ⟨r2, 0, none⟩) m m) ∧ VarD wr w.heap.size (.slice none 0 0) (.slice none 0 0) ∧
    PartX wr (w.heap.size + 1) r1 H n d.1 k vs ∧ PartY wr (w.heap.size + 1) r2 H m d.2 0 [] ∧ Below w.heap.size w wr
def CL2 (w : World) (d : Dk) (n m o r1 r2 H H1 : Nat) (vs : List Value) (i : Value) (wr : World) : Prop :=
  ∃ (k : Nat) (xs : List Value), k ≤ m ∧ i = .int .i64 k ∧ VarD wr o (.slice (some ⟨r1, 0, none⟩) n n) (.slice (some ⟨r2, 0, none⟩) m m) ∧ VarD wr w.heap.size (.slice none 0 0) (.slice none 0 0) ∧
    PartX wr (w.heap.size + 1) r1 H n d.1 n vs ∧ PartY wr (w.heap.size + 1) r2 H1 m d.2 k xs ∧ Below w.heap.size w wr
theorem VarD.set {w : World} {b c i : Nat} {x y u : Value} (h : VarD w b x y) (hne : b ≠ c) : VarD (w.setCell ⟨c, i, none⟩ u) b x y := (heap_setCell_other _ _ _ _ (by show b ≠ c; exact hne)).trans h

set_option maxHeartbeats 2000000 in
theorem clone_any (b : Nat) (x y : Value) (d : Dk) (l h : Nat) (w : World) (hv : VarD w b x y) (r : RdBB w l h x d.1) (s : RdWs w l h y d.2) (hh : h ≤ w.heap.size) (hok : okD d = true) :
    Calls Tryd.prog 49 #[.pointer (some ⟨b, 0, none⟩)] w fun e w' => ∃ u, e = .returned u ∧ OwD2 w' w.heap.size w'.heap.size u d ∧ Below w.heap.size w w' := by
  obtain ⟨d1, d2⟩ := d
  have R1 := fun W hW => r.same (SameIn.ofBelow (w' := W) hW hh)
  have R2 := fun W hW => s.same (SameIn.ofBelow (w' := W) hW hh)
  obtain ⟨xa, n, xc, vs, rfl, hn, hhd, hc, he⟩ := r
  obtain ⟨ya, m, yc, us, rfl, hm, hhd', hc', he'⟩ := s
  replace hn : n = d1.length := hn
  replace hm : m = d2.length := hm
  have hok' := hok
  unfold okD at hok'
  simp only [Bool.and_eq_true, decide_eq_true_eq, List.all_eq_true] at hok'
  have hn2 : n ≤ 2000 := by rw [hn]; exact hok'.1.1.1
  have hm2 : m ≤ 2000 := by rw [hm]; exact hok'.1.1.2
  have HL1 : Hid (∀ i, i < n → (d1[i]?.getD []).length = 32) := fun i hi => by
    have hi' : i < d1.length := by omega
    have := hok'.1.2 _ (List.getElem_mem hi')
    simp [secOk] at this
    simp [hi', this]
  have HL2 : Hid (∀ i, i < m → (d2[i]?.getD (0, [])).2.length = 32) := fun i hi => by
    have hi' : i < d2.length := by omega
    have := hok'.2 _ (List.getElem_mem hi')
    simp [waitOk, secOk] at this
    simp [hi', this]
  have hbw := hv.lt
  have b1 := Below.new (w := w) (.cells #[.slice none 0 0, .slice none 0 0] 26)
  have v0 := VarD.new w (.slice none 0 0) (.slice none 0 0)
  have v1 := hv.step b1
  generalize hw1 : w.alloc (.cells #[.slice none 0 0, .slice none 0 0] 26) = w1 at b1 v0 v1
  have HW1 : Hid _ := hw1
  have s1 := v0.lt
  have c0 := v1.c0
  have c1 := v1.c1
  obtain ⟨i0, hi, hz0, hz1, hz2⟩ := info_parts Tryd.infoBB
  obtain ⟨j0, hj, hy0, hy1, hy2⟩ := info_parts Tryd.infoW
  have runA : ∀ W : World, (Instr.makeSlice 23 (.int .i64 (n : Int)) (.int .i64 (n : Int))).run Tryd.prog W = .ok (.slice (some ⟨W.heap.size, 0, none⟩) n n) (W.alloc (.cells (madeCells (Value.slice none 0 0).cells (n * 1)) 22)) := fun W => by
    have := run_make (P := Tryd.prog) W 23 22 i0 (.slice none 0 0) Tryd.underlying23 hi hz0 .i64 .i64 n n (by omega) (Int.le_refl _) (by rw [hz2]; omega) (by omega)
    rw [hz1] at this
    simpa using this
  have runB : ∀ W : World, (Instr.makeSlice 24 (.int .i64 (m : Int)) (.int .i64 (m : Int))).run Tryd.prog W = .ok (.slice (some ⟨W.heap.size, 0, none⟩) m m) (W.alloc (.cells (madeCells (Value.agg #[.int .i64 0, .slice none 0 0]).cells (m * 2)) 75)) := fun W => by
    have := run_make (P := Tryd.prog) W 24 75 j0 (.agg #[.int .i64 0, .slice none 0 0]) Tryd.underlying24 hj hy0 .i64 .i64 m m (by omega) (Int.le_refl _) (by rw [hy2]; omega) (by omega)
    rw [hy1] at this
    simpa using this
  generalize hMA : Obj.cells (madeCells (Value.slice none 0 0).cells (n * 1)) 22 = MA at runA
  generalize hMB : Obj.cells (madeCells (Value.agg #[.int .i64 0, .slice none 0 0]).cells (m * 2)) 75 = MB at runB
  have HMA : Hid _ := hMA
  have HMB : Hid _ := hMB
  have K0 : ∀ x y z : Obj, (((w1.alloc x).alloc y).alloc z).cell? ⟨b, 0, none⟩ = some (.slice xa n xc) := fun x y z => cell?_alloc_old z (cell?_alloc_old y (cell?_alloc_old x c0))
  have K1 : ∀ x y z : Obj, (((w1.alloc x).alloc y).alloc z).cell? ⟨b, 1, none⟩ = some (.slice ya m yc) := fun x y z => cell?_alloc_old z (cell?_alloc_old y (cell?_alloc_old x c1))
  have K2 : ∀ x y z : Obj, (((w1.alloc x).alloc y).alloc z).drew.cell? ⟨b, 0, none⟩ = some (.slice xa n xc) := K0
  have K3 : ∀ x y z : Obj, (((w1.alloc x).alloc y).alloc z).drew.cell? ⟨b, 1, none⟩ = some (.slice ya m yc) := K1
  have n1 : ¬ b = w1.heap.size := by omega
  have n2 : ¬ b = w1.heap.size + 1 := by omega
  have n3 : ¬ b = w1.heap.size + 1 + 1 := by omega
  have n4 : b < w1.heap.size := by omega
  have HB1 : Hid _ := b1
  have HV0 : Hid (VarD w1 w.heap.size _ _) := v0
  have HN : Hid _ := hn
  have HM : Hid _ := hm
  have HC : Hid _ := hc
  have HE : Hid _ := he
  have HC' : Hid _ := hc'
  have HE' : Hid _ := he'
  have HV : Hid _ := hv
  clear hw1 hn hm hc he hc' he' hv v0 v1 hok hok' hhd hhd' hi hz0 hz1 hz2 hj hy0 hy1 hy2 R1 R2 hMA hMB b1
  go_enter Tryd.func49, Tryd.ntmps49
  go_upto_region 1 with fail
  rw [HW1.out]
  go_cut [3] from 8 to 20 (fun s3 wx => CRel0 w (d1, d2) n m s3 wx)
  case first =>
    go_region_held3 (fun w' => w'.cell? ⟨b, 0, none⟩ = some (.slice xa n xc) ∧ w'.cell? ⟨b, 1, none⟩ = some (.slice ya m yc)) (first | go_keep) (fail)
    all_goals go_wp2_with fail
    all_goals go_meet
    all_goals first
      | exact crel0_of HB1.out HV0.out (Below.three _ _ _) (heap3 w1 _ _ _).2.2 ((heap3 w1 _ _ _).1.trans (congrArg some HMA.out.symm)) ((heap3 w1 _ _ _).2.1.trans (congrArg some HMB.out.symm)) hn2 hm2 (by omega)
      | exact crel0_of HB1.out HV0.out (Below.three _ _ _) (heap3 w1 _ _ _).2.1 ((heap3 w1 _ _ _).1.trans (congrArg some HMA.out.symm)) ((heap3 w1 _ _ _).2.2.trans (congrArg some HMB.out.symm)) hn2 hm2 (by omega)
      | exact crel0_of HB1.out HV0.out (Below.three _ _ _) (heap3 w1 _ _ _).2.2 ((heap3 w1 _ _ _).2.1.trans (congrArg some HMA.out.symm)) ((heap3 w1 _ _ _).1.trans (congrArg some HMB.out.symm)) hn2 hm2 (by omega)
      | exact crel0_of HB1.out HV0.out (Below.three _ _ _) (heap3 w1 _ _ _).1 ((heap3 w1 _ _ _).2.1.trans (congrArg some HMA.out.symm)) ((heap3 w1 _ _ _).2.2.trans (congrArg some HMB.out.symm)) hn2 hm2 (by omega)
      | exact crel0_of HB1.out HV0.out (Below.three _ _ _) (heap3 w1 _ _ _).2.1 ((heap3 w1 _ _ _).2.2.trans (congrArg some HMA.out.symm)) ((heap3 w1 _ _ _).1.trans (congrArg some HMB.out.symm)) hn2 hm2 (by omega)
      | exact crel0_of HB1.out HV0.out (Below.three _ _ _) (heap3 w1 _ _ _).1 ((heap3 w1 _ _ _).2.2.trans (congrArg some HMA.out.symm)) ((heap3 w1 _ _ _).2.1.trans (congrArg some HMB.out.symm)) hn2 hm2 (by omega)
  case rest =>
    obtain ⟨o, r1, r2, rfl, vO, vR, hPX, hPY, hdis, hbx⟩ := hcut
    obtain ⟨D1, D2, D3, D4, D5, D6⟩ := hdis
    generalize hH : wc.heap.size = H at hPX hPY
    have HHe : Hid _ := hH
    have hoH : o < H := by have := vO.lt; omega
    have hr1H : r1 < H := hPX.2.2.1.2
    have hr2H : r2 < H := by obtain ⟨C, _, _, h3, _⟩ := hPY; exact h3.2
    have HST : Hid (CL1 w (d1, d2) n m o r1 r2 H (.int .i64 0) wc) := ⟨0, [], Nat.zero_le _, rfl, vO, vR, hPX, hPY, hbx⟩
    have hcc0 := (VarD.step HV.out hbx).c0
    have hcc1 := (VarD.step HV.out hbx).c1
    clear vO vR hPX hPY hbx hH K0 K1 K2 K3 runA runB c0 c1
    go_wp2
    go_loopw [26] (fun i wr => CL1 w (d1, d2) n m o r1 r2 H i wr) (fun i _ => n - (intOf i).toNat)
    case atStart => exact HST.out
    case round =>
      clear HST hcc0 hcc1
      obtain ⟨k, vs', hk, rfl, vO, vR, hPX, hPY, hbel⟩ := hrel
      by_cases hlt : k < n
      · obtain ⟨g, off, rfl, hg0, hgh, hcc⟩ := HC.out.resolve_left (by omega)
        have h1 := (hbel.cell (p := ⟨g, off + k, none⟩) (by show g < w.heap.size; omega)).trans (hcc k hlt)
        have hrd := (HE.out k hlt).same (SameIn.mk (Below.size hbel) (fun q _ hq => hbel.block q (by omega)))
        have hl32 := HL1.out k hlt
        have hws := hbel.size
        generalize hx : vs k = x at h1 hrd
        clear hx
        obtain ⟨sa, sn, sc, rfl⟩ := hrd.sliced
        have HRD : Hid (RdB wr l h (.slice sa sn sc) (d1[k]?.getD [])) := hrd
        have nro : ¬ r1 = o := fun e => D2 e.symm
        have HRE : Hid (RdB wr.drew l h (.slice sa sn sc) (d1[k]?.getD [])) := hrd.same SameIn.drew
        have hhd : h ≤ wr.drew.heap.size := by show h ≤ wr.heap.size; omega
        have hi0 : (0 : Int) ≤ (k : Int) := by omega
        have hi1 : (k : Int) < (n : Int) := by omega
        have hov := vO.lt
        have o0 := vO.c0
        have HPX : Hid (PartX _ _ _ _ _ _ _ _) := hPX
        have HPY : Hid (PartY _ _ _ _ _ _ _ _) := hPY
        have HVO : Hid (VarD _ _ _ _) := vO
        have HVR : Hid (VarD _ _ _ _) := vR
        clear hcc hrd hPX hPY vO vR
        go_wp2
        go_region_held3 (fun w' => w'.cell? ⟨o, 0, none⟩ = some (.slice (some ⟨r1, 0, none⟩) n n)) (first | go_keep | assumption) (first | (go_at_call 35; refine (newSector_any _ _ l h _ HRE.out hhd).mono ?_; rintro e w2 ⟨u, rfl, ho2, hb2⟩; obtain ⟨ua, un, uc, rfl⟩ := ho2.sliced; have hb3 : Below wr.heap.size wr w2 := (Below.drew (Below.refl _ _)).trans hb2; have o1 := (VarD.step HVO.out hb3).c0; have hsl := (PartX.below HPX.out hb3).slot hlt; obtain ⟨⟨v0, hv0⟩, hfz⟩ := hsl))
        have HR : Hid (CL1 w (d1, d2) n m o r1 r2 H (.int .i64 ((k : Int) + 1)) (w2.setCell ⟨r1, k, none⟩ (.slice ua un uc))) := by
          refine ⟨k + 1, _, by omega, by go_num, VarD.set (VarD.step HVO.out hb3) D2, VarD.set (VarD.step HVR.out hb3) (by omega), PartX.next HPX.out hlt hb3 HRD.out.1 (by rw [← sec_full hl32]; exact ho2) rfl, (PartY.below HPY.out hb3).set hr1H D1, ?_⟩
          exact (hbel.trans (hb3.mono hbel.size)).setCell (by show w.heap.size ≤ r1; omega) _
        clear HPX HPY HVO HVR HRD ho2 hb2 hb3 hfz hv0 o0 o1 h1
        go_wp2
        refine ⟨?_, by simp [intOf]; omega⟩
        first | exact HR.out | exact ⟨_, _, _, _, _, _, _, _, _, _, _, _, _, HR.out, rfl⟩ | exact ⟨_, _, _, _, _, _, _, _, _, _, _, _, _, _, HR.out, rfl⟩
      · have hkn : k = n := by omega
        subst hkn
        have hq0 := (VarD.step HV.out hbel).c0
        have hq1 := (VarD.step HV.out hbel).c1
        have hws := hbel.size
        generalize hH1 : wr.heap.size = H1 at hws
        have hHH : H ≤ H1 := by have := hPX.2.2.1.1; omega
        have HBV : Hid (∀ q, Blk vs' q → q < H1) := fun q hq => by have := hPX.blk q hq; omega
        have HST : Hid (CL2 w (d1, d2) k m o r1 r2 H H1 vs' (.int .i64 0) wr) := ⟨0, [], Nat.zero_le _, rfl, vO, vR, hPX, hPY.raise hHH (by omega), hbel⟩
        have HH1 : Hid _ := hH1
        clear hPX hPY vO vR hbel hH1
        go_wp2
        go_loopw [43] (fun i wr => CL2 w (d1, d2) k m o r1 r2 H H1 vs' i wr) (fun i _ => m - (intOf i).toNat)
        case atStart => exact HST.out
        case round =>
          clear HST hq0 hq1 HH1
          obtain ⟨j, xs', hj, rfl, vO, vR, hPX, hPY, hbel⟩ := hrel
          have hwsz := hbel.size
          by_cases hlt2 : j < m
          · obtain ⟨g, off, rfl, hg0, hgh, hcc⟩ := HC'.out.resolve_left (by omega)
            have h1 := (hbel.cell (p := ⟨g, off + j * 2, none⟩) (by show g < w.heap.size; omega)).trans (hcc j hlt2).1
            have h2 := (hbel.cell (p := ⟨g, off + j * 2 + 1, none⟩) (by show g < w.heap.size; omega)).trans (hcc j hlt2).2
            have hrd := (HE'.out j hlt2).same (SameIn.mk (Below.size hbel) (fun q _ hq => hbel.block q (by omega)))
            have hl32 := HL2.out j hlt2
            generalize hx : us j = x at h2 hrd
            clear hx
            obtain ⟨sa, sn, sc, rfl⟩ := hrd.sliced
            have hwt : d2[j]?.getD (0, []) = ((d2[j]?.getD (0, [])).1, (d2[j]?.getD (0, [])).2) := rfl
            generalize (d2[j]?.getD (0, [])).1 = p at h1 hwt
            generalize (d2[j]?.getD (0, [])).2 = zs at hrd hwt hl32
            have HWT : Hid _ := hwt
            have hi0 : (0 : Int) ≤ (j : Int) := by omega
            have hi1 : (j : Int) < (m : Int) := by omega
            have hov := vO.lt
            have b4 := Below.new (w := wr) (.cells #[.int .i64 p, .slice sa sn sc] 75)
            have q0 : (wr.alloc (.cells #[.int .i64 p, .slice sa sn sc] 75)).cell? ⟨wr.heap.size, 0, none⟩ = some (.int .i64 p) := by rw [World.cell?_alloc_at _ _ _ _ rfl]; rfl
            have q1 : (wr.alloc (.cells #[.int .i64 p, .slice sa sn sc] 75)).cell? ⟨wr.heap.size, 1, none⟩ = some (.slice sa sn sc) := by rw [World.cell?_alloc_at _ _ _ _ rfl]; rfl
            have o1 := (vO.step b4).c1
            have HRD : Hid (RdB (wr.alloc (.cells #[.int .i64 p, .slice sa sn sc] 75)) l h (.slice sa sn sc) zs) := RdB.same hrd (SameIn.ofBelow b4 (by omega))
            have HPX : Hid (PartX _ _ _ _ _ _ _ _) := hPX.below b4
            have HPY : Hid (PartY _ _ _ _ _ _ _ _) := hPY.below b4
            have HVO : Hid (VarD _ _ _ _) := vO.step b4
            have HVR : Hid (VarD _ _ _ _) := vR.step b4
            have hbe4 := hbel.trans (b4.mono hbel.size)
            have hsz4 : wr.heap.size < (wr.alloc (.cells #[.int .i64 p, .slice sa sn sc] 75)).heap.size := by simp
            generalize hw4 : wr.alloc (.cells #[.int .i64 p, .slice sa sn sc] 75) = w4 at q0 q1 o1 HRD HPX HPY HVO HVR hbe4 hsz4
            have HW4 : Hid _ := hw4
            have HRE : Hid (RdB w4.drew l h (.slice sa sn sc) zs) := RdB.same HRD.out SameIn.drew
            have hhd : h ≤ w4.drew.heap.size := by show h ≤ w4.heap.size; omega
            have hr2s : r2 < wr.heap.size := by have := hPX.2.2.1.1; omega
            have nr2 : ¬ wr.heap.size = r2 := by omega
            have nr2' : ¬ r2 = wr.heap.size := by omega
            have no2 : ¬ r2 = o := fun e => D3 e.symm
            have HBE4 : Hid _ := hbe4
            clear hcc hrd hPX hPY vO vR hwt hw4 b4 hbel hbe4
            go_wp2_with fail
            rw [HW4.out]
            go_region_held3 (fun w' => w'.cell? ⟨o, 1, none⟩ = some (.slice (some ⟨r2, 0, none⟩) m m) ∧ w'.cell? ⟨wr.heap.size, 0, none⟩ = some (.int .i64 p) ∧ w'.cell? ⟨wr.heap.size, 1, none⟩ = some (.slice sa sn sc)) (first | go_keep | (refine ⟨?_, ?_, ?_⟩ <;> assumption)) (first | (go_at_call 35; refine (newSector_any _ _ l h _ HRE.out hhd).mono ?_; rintro e w2 ⟨u, rfl, ho2, hb2⟩; obtain ⟨ua, un, uc, rfl⟩ := ho2.sliced; have hb3 : Below w4.heap.size w4 w2 := (Below.drew (Below.refl _ _)).trans hb2; have t1 := (VarD.step HVO.out hb3).c1; have t2 := (hb3.cell (p := ⟨wr.heap.size, 0, none⟩) hsz4).trans q0; have t3 := (hb3.cell (p := ⟨wr.heap.size, 1, none⟩) hsz4).trans q1; have hsl := (PartY.below HPY.out hb3).slot hlt2; obtain ⟨⟨v0, hv0⟩, ⟨v5, hv5⟩, hfz, hfz2⟩ := hsl))
            have HR : Hid (CL2 w (d1, d2) k m o r1 r2 H H1 vs' (.int .i64 ((j : Int) + 1)) ((w2.setCell ⟨r2, j * 2, none⟩ (.int .i64 p)).setCell ⟨r2, j * 2 + 1, none⟩ (.slice ua un uc))) := by
              refine ⟨j + 1, _, by omega, by go_num, VarD.set (VarD.set (VarD.step HVO.out hb3) D3) D3, VarD.set (VarD.set (VarD.step HVR.out hb3) (by omega)) (by omega), ((PartX.below HPX.out hb3).set hr2H (fun e => D1 e.symm)).set hr2H (fun e => D1 e.symm), PartY.next HPY.out hlt2 hb3 HRD.out.1 (by rw [← sec_full hl32]; exact ho2) HWT.out, ?_⟩
              exact Below.setCell (Below.setCell (HBE4.out.trans (hb3.mono HBE4.out.size)) (by show w.heap.size ≤ r2; omega) _) (by show w.heap.size ≤ r2; omega) _
            clear HPX HPY HVO HVR HRD ho2 hb2 hb3 hfz hfz2 hv0 hv5 q0 q1 o1 t1 t2 t3 h1 h2
            go_wp2
            refine ⟨?_, by simp [intOf]; omega⟩
            first | exact HR.out | exact ⟨_, _, _, _, _, _, _, _, _, _, _, _, _, _, _, _, _, _, HR.out, rfl⟩ | exact ⟨_, _, _, _, _, _, _, _, _, _, _, _, _, _, _, _, _, HR.out, rfl⟩ | exact ⟨_, _, _, _, _, _, _, _, _, _, _, _, _, _, _, _, _, _, _, HR.out, rfl⟩
          · have hjm : j = m := by omega
            subst hjm
            have o0 := vO.c0
            have o1 := vO.c1
            have e0 := vR.c0
            have e1 := vR.c1
            have f0 := vR.f 0
            have f1 := vR.f 1
            have HX : Hid _ := hPX.done HN.out (by omega)
            have HY : Hid _ := hPY.done HM.out (by omega)
            have HA : Hid (∀ q, Blk vs' q → ¬ Blk xs' q) := fun q h1 h2 => by have := HBV.out q h1; have := hPY.blk q h2; omega
            have HBE : Hid _ := hbel
            clear hPX hPY vO vR hbel
            go_wp2
            refine bodyPost_ret (v := .agg #[.slice (some ⟨r1, 0, none⟩) k k, .slice (some ⟨r2, 0, none⟩) j j]) (by simp [results, Tryd.results49, go_sem, e0, e1]) rfl ⟨_, rfl, ?_, ?_⟩
            · have same : SameIn (w.heap.size + 1) wr.heap.size wr ((wr.setCell ⟨w.heap.size, 0, none⟩ (.slice (some ⟨r1, 0, none⟩) k k)).setCell ⟨w.heap.size, 1, none⟩ (.slice (some ⟨r2, 0, none⟩) j j)) := SameIn.trans (SameIn.set (.inl (by simp))) (SameIn.set (.inl (by simp)))
              exact ⟨_, _, vs', xs', rfl, (OwX.same HX.out same).wide (by omega) (by simp), (OwY.same HY.out same).wide (by omega) (by simp), HA.out⟩
            · exact (HBE.out.setCell (by simp) _).setCell (by simp) _
end Go.Proofs.YtjhaanenkeceiaaDoor
end

section
/- All that waits is made safe: the program's flush, over a disk of the call's own that is DiskOk. -/
namespace Go.Proofs.YtjhaanenkeceiaaDoor
open Go.RowKit
set_option linter.unusedVariables false

/-- One write, its first c bytes, made safe. -/
def stepS (s : List (List Int)) (p : Wt) (c : Nat) : List (List Int) := s.set p.1.toNat (mixed (s[p.1.toNat]?.getD []) p.2 c)
def flushS (s : List (List Int)) (ws : List Wt) : List (List Int) := ws.foldl (fun s p => stepS s p 32) s
def flushD (d : Dk) : Dk := if okD d then (flushS d.1 d.2, []) else ([], [])
@[simp] theorem stepS_length (s : List (List Int)) (p : Wt) (c : Nat) : (stepS s p c).length = s.length := by simp [stepS]
theorem flushS_length (ws : List Wt) (s : List (List Int)) : (flushS s ws).length = s.length := by
  unfold flushS
  induction ws generalizing s with
  | nil => rfl
  | cons p r ih => rw [List.foldl_cons, ih, stepS_length]
theorem flushS_next (s : List (List Int)) (ws : List Wt) (k : Nat) (h : k < ws.length) : flushS s (ws.take (k + 1)) = stepS (flushS s (ws.take k)) (ws[k]?.getD (0, [])) 32 := by
  unfold flushS
  rw [takeW_next _ _ h, List.foldl_append]
  rfl
/-- Every sector has 32 bytes. -/
def Whole (s : List (List Int)) : Prop := ∀ i, i < s.length → (s[i]?.getD []).length = 32
theorem Whole.step {s : List (List Int)} {p : Wt} {c : Nat} (h : Whole s) (hp : p.2.length = 32) (hc : c ≤ 32) : Whole (stepS s p c) := by
  intro i hi
  rw [stepS_length] at hi
  unfold stepS
  rw [List.getElem?_set]
  by_cases e : p.1.toNat = i
  · subst e
    rw [if_pos rfl, if_pos hi, Option.getD_some]
    exact mixed_length (h _ hi) hp hc
  · rw [if_neg e]; exact h i hi
theorem Whole.flush {s : List (List Int)} {ws : List Wt} (h : Whole s) (hp : ∀ i, i < ws.length → (ws[i]?.getD (0, [])).2.length = 32) : ∀ k, k ≤ ws.length → Whole (flushS s (ws.take k)) := by
  intro k
  induction k with
  | zero => intro _; simpa [flushS] using h
  | succ k ih => intro hk; rw [flushS_next _ _ _ (by omega)]; exact (ih (by omega)).step (hp k (by omega)) (by omega)

theorem Blk.cons {v : Value} {vs : List Value} {q : Nat} (h : Blk vs q) : Blk (v :: vs) q := by
  obtain ⟨i, hi, hq⟩ := h
  exact ⟨i + 1, by simpa using hi, by simpa using hq⟩
theorem TurnsV.more {v : Value} {vs : List Value} {w w' : World} (t : TurnsV vs w w') : TurnsV (v :: vs) w w' := ⟨t.os, t.tape, t.output, t.size, fun k hk hb => t.block k hk (fun h => hb h.cons)⟩
theorem TurnsV.ofBelow {vs : List Value} {a b : World} (h : Below a.heap.size a b) : TurnsV vs a b := ⟨h.os, h.tape, h.output, h.size, fun i hi _ => h.block i hi⟩

/-- What holds at the head of each round. -/
def FRel (w : World) (b : Nat) (x y : Value) (d : Dk) (vs xs : List Value) (l h m : Nat) (i : Value) (wr : World) : Prop :=
  ∃ k : Nat, k ≤ m ∧ i = .int .i64 k ∧ OwX wr l h x (flushS d.1 (d.2.take k)) vs ∧ OwY wr l h y d.2 xs ∧ VarD wr b x y ∧ TurnsV vs w wr

end Go.Proofs.YtjhaanenkeceiaaDoor
end

section
/- The program's Flush as a plain function of the disk; it leans on its variable errNoSector. No condition of ours. -/
namespace Go.Proofs.YtjhaanenkeceiaaDoor
open Go.RowKit
set_option linter.unusedVariables false

theorem OwX_nil (w : World) (l h : Nat) : OwX w l h (.slice none 0 0) [] [] :=
  ⟨rfl, World.ownsRow_nil _ _ _ _, (fun (k : Nat) (hk : Value.ownBlock (.slice none 0 0) = some k) => by cases hk), fun i hi => absurd hi (Nat.not_lt_zero _), fun i j k _ hj => absurd hj (Nat.not_lt_zero _)⟩
theorem OwY_nil (w : World) (l h : Nat) : OwY w l h (.slice none 0 0) [] [] :=
  ⟨[], rfl, World.ownsRow_nil _ _ _ _, (fun (k : Nat) (hk : Value.ownBlock (.slice none 0 0) = some k) => by cases hk), fun i hi => absurd hi (Nat.not_lt_zero _), fun i hi => absurd hi (Nat.not_lt_zero _), fun i j k _ hj => absurd hj (Nat.not_lt_zero _)⟩
theorem OwD2_nil (w : World) (l h : Nat) : OwD2 w l h (.agg #[.slice none 0 0, .slice none 0 0]) ([], []) :=
  ⟨_, _, [], [], rfl, OwX_nil _ _ _, OwY_nil _ _ _, fun q hq => by obtain ⟨i, hi, _⟩ := hq; exact absurd hi (Nat.not_lt_zero _)⟩
theorem no_blk (q : Nat) : ¬ Blk [] q := fun ⟨i, hi, _⟩ => absurd hi (Nat.not_lt_zero _)

end Go.Proofs.YtjhaanenkeceiaaDoor
end

section
/- The specification's flush and Flush. Condition: the disk is of at most 2^21 bytes and writes. -/
namespace Go.Proofs.YtjhaanenkeceiaaDoor
open Go.RowKit
set_option linter.unusedVariables false
attribute [local go_sem ↓] Go.wp_at_zero Go.wp_at_succ

/-- As GrWs, in blocks l .. h-1. -/
def KpWs (w : World) (l h : Nat) (v : Value) (ws : List Wt) : Prop :=
  ∃ (xs C : List Value), xs.length = ws.length ∧ w.ownsRow l 75 2 v ws.length C ∧ Before v h ∧ (∀ i, i < ws.length → C[i * 2]? = some (.int .i64 (ws[i]?.getD (0, [])).1) ∧ C[i * 2 + 1]? = some (xs[i]?.getD undef)) ∧
    ∀ i, i < ws.length → RdB w l h (xs[i]?.getD undef) (ws[i]?.getD (0, [])).2 ∧ ∀ g, (xs[i]?.getD undef).ownBlock = some g → l ≤ g ∧ g < h
/-- What holds at the head of each round. -/
def SFRel (w : World) (b : Nat) (x y : Value) (d : Dk) (l H h m : Nat) (i : Value) (wr : World) : Prop :=
  ∃ k : Nat, k ≤ m ∧ i = .int .i64 k ∧ KpBB wr l h x (flushS d.1 (d.2.take k)) ∧ KpWs wr H h y d.2 ∧ VarD wr b x y ∧ TurnsV [x] w wr

end Go.Proofs.YtjhaanenkeceiaaDoor
end

section
/- The specification's Flush as a plain function of the disk. Condition: the disk is of at most 2^21 bytes and writes. -/
namespace Go.Proofs.YtjhaanenkeceiaaDoor
open Go.RowKit
set_option linter.unusedVariables false

theorem RdWs_nil (w : World) (l h : Nat) : RdWs w l h (.slice none 0 0) [] :=
  ⟨none, 0, 0, fun _ => undef, rfl, rfl, ⟨Nat.le_refl _, Nat.zero_le _, fun _ => ⟨rfl, rfl⟩⟩, .inl rfl, fun i hi => absurd hi (Nat.not_lt_zero _)⟩
theorem RdBB_nil (w : World) (l h : Nat) : RdBB w l h (.slice none 0 0) [] :=
  ⟨none, 0, 0, fun _ => undef, rfl, rfl, ⟨Nat.le_refl _, Nat.zero_le _, fun _ => ⟨rfl, rfl⟩⟩, .inl rfl, fun i hi => absurd hi (Nat.not_lt_zero _)⟩
theorem RdD_nil (w : World) (l h : Nat) : RdD w l h (.agg #[.slice none 0 0, .slice none 0 0]) ([], []) := ⟨_, _, rfl, RdBB_nil _ _ _, RdWs_nil _ _ _⟩
theorem lenBB_all (s : List (List Int)) (h : ∀ z ∈ s, z.length = 32) : lenBB s = 32 * s.length := by
  induction s with
  | nil => rfl
  | cons z r ih => rw [lenBB, ih (fun y hy => h y (List.mem_cons_of_mem _ hy)), h z (List.mem_cons_self ..), List.length_cons]; omega
theorem lenBB_whole {s : List (List Int)} (h : Whole s) : lenBB s = 32 * s.length := lenBB_all s (fun z hz => by
  obtain ⟨i, hi, rfl⟩ := List.mem_iff_getElem.mp hz
  have := h i hi
  simpa [hi] using this)
theorem okD_whole {d : Dk} (hok : okD d = true) : (d.1.length ≤ 2000 ∧ d.2.length ≤ 2000) ∧ Whole d.1 ∧ ∀ i, i < d.2.length → 0 ≤ (d.2[i]?.getD (0, [])).1 ∧ (d.2[i]?.getD (0, [])).1 < (d.1.length : Int) ∧ (d.2[i]?.getD (0, [])).2.length = 32 := by
  unfold okD at hok
  simp only [Bool.and_eq_true, decide_eq_true_eq, List.all_eq_true] at hok
  obtain ⟨⟨⟨hn2, hm2⟩, hs⟩, hw⟩ := hok
  refine ⟨⟨hn2, hm2⟩, fun i hi => ?_, fun i hi => ?_⟩
  · have := hs _ (List.getElem_mem hi)
    simp [secOk] at this
    simp [hi, this]
  · have := hw _ (List.getElem_mem hi)
    simp [waitOk, secOk] at this
    simp [hi]
    omega
end Go.Proofs.YtjhaanenkeceiaaDoor
end
