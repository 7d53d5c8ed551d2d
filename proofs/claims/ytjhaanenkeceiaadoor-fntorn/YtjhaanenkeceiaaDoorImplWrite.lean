/- The program's write and WriteSector as plain functions; they lean on the package's three errors. No condition of ours. -/
import Derived.Test.YtjhaanenkeceiaaDoorImplFlush2
namespace Go.Proofs.YtjhaanenkeceiaaDoor
open Go.RowKit
set_option linter.unusedVariables false
set_option linter.unusedSimpArgs false
attribute [local go_sem ↓] Go.wp_at_zero Go.wp_at_succ

theorem OwY.snoc {w wa w' : World} {l h g cap : Nat} {y u : Value} {p : Int} {zs : List Int} {ws : List Wt} {xs C : List Value} (hl : xs.length = ws.length) (ho : w.ownsRow l 75 2 y xs.length C)
    (hC : ∀ i, i < xs.length → C[i * 2]? = some (.int .i64 (ws[i]?.getD (0, [])).1) ∧ C[i * 2 + 1]? = some (xs[i]?.getD undef)) (he : ∀ i, i < xs.length → OwB w l h (xs[i]?.getD undef) (ws[i]?.getD (0, [])).2)
    (hd : ∀ i j k, i < j → j < xs.length → (xs[i]?.getD undef).ownBlock = some k → (xs[j]?.getD undef).ownBlock ≠ some k) (hh : h ≤ w.heap.size) (hb : Below w.heap.size w wa)
    (hr' : w'.ownsRow l 75 2 (.slice (some ⟨g, 0, none⟩) (xs.length + 1) cap) (xs.length + 1) (C ++ [.int .i64 p, u])) (hgr : wa.grownBy w' y.ownBlock) (hgl : g < w'.heap.size)
    (hu : OwB wa w.heap.size wa.heap.size u zs) (hlw : l ≤ w.heap.size) : OwY w' l w'.heap.size (.slice (some ⟨g, 0, none⟩) (xs.length + 1) cap) (ws ++ [(p, zs)]) (xs ++ [u]) := by
  have hs := hb.size
  have hs' := hgr.size
  have hCl : C.length = xs.length * 2 := ho.1
  refine ⟨C ++ [.int .i64 p, u], by simp [hl], by simpa using hr', fun k hk => by have := slice_block hk; simp at this; omega, fun i hi => ?_, fun i hi => ?_, fun i j k hij hj hk => ?_⟩
  · rw [List.length_append, List.length_singleton] at hi
    rw [getD_snoc, getD_snoc, List.getElem?_append, List.getElem?_append]
    by_cases h1 : i < xs.length
    · rw [if_pos (by omega), if_pos (by omega), if_pos (by omega), if_pos h1]
      exact hC i h1
    · have e : i = xs.length := by omega
      subst e
      rw [if_neg (by omega), if_neg (by omega), if_pos hl, if_neg (by omega), if_neg (by omega), if_pos rfl]
      rw [show xs.length * 2 - C.length = 0 by omega, show xs.length * 2 + 1 - C.length = 1 by omega]
      exact ⟨rfl, rfl⟩
  · rw [List.length_append, List.length_singleton] at hi
    rw [getD_snoc, getD_snoc]
    by_cases h1 : i < xs.length
    · rw [if_pos h1, if_pos (by omega)]
      obtain ⟨e1, e2, e3⟩ := he i h1
      refine ⟨e1, ?_, e3.le (by omega)⟩
      have e4 : Owns wa l (xs[i]?.getD undef) (ws[i]?.getD (0, [])).2 := e2.below hb (fun k hk => (e2.lt k hk).2)
      exact e4.kept2 (fun q hq => hgr.block q (e4.lt q hq).2 (fun e => tag_ne ho e2 (by decide) q e.symm hq))
    · have e : i = xs.length := by omega
      subst e
      rw [if_neg (by omega), if_pos rfl, if_neg (by omega), if_pos hl]
      obtain ⟨e1, e2, e3⟩ := hu
      refine ⟨e1, ?_, e3.le hs'⟩
      refine (e2.base hlw).kept2 (fun q hq => hgr.block q (e2.lt q hq).2 (fun e => ?_))
      have := (e2.lt q hq).1
      have := (ho.lt q e.symm).2
      omega
  · rw [List.length_append, List.length_singleton] at hj
    rw [getD_snoc] at hk ⊢
    rw [if_pos (by omega)] at hk
    by_cases h1 : j < xs.length
    · rw [if_pos h1]; exact hd i j k hij h1 hk
    · rw [if_neg h1, if_pos (by omega)]
      intro e
      have := (he i (by omega)).2.2 k hk
      have := (hu.2.1.lt k e).1
      omega

theorem write_leaf {w w3 wa w5 : World} {b g5 c5 m : Nat} {x y u : Value} {d1 : List (List Int)} {d2 : List Wt} {vs xs C : List Value} {l h : Nat} {p : Int} {zs : List Int} {o : Obj} (hv : VarD w b x y) (o1 : OwX w l h x d1 vs)
    (hxl : xs.length = d2.length) (ho : w.ownsRow l 75 2 y m C) (hm : xs.length = m)
    (hC : ∀ i, i < m → C[i * 2]? = some (.int .i64 (d2[i]?.getD (0, [])).1) ∧ C[i * 2 + 1]? = some (xs[i]?.getD undef)) (he : ∀ i, i < m → OwB w l h (xs[i]?.getD undef) (d2[i]?.getD (0, [])).2)
    (hd : ∀ i j k, i < j → j < m → (xs[i]?.getD undef).ownBlock = some k → (xs[j]?.getD undef).ownBlock ≠ some k) (ha : ∀ q, Blk vs q → ¬ Blk xs q)
    (hh : h ≤ w.heap.size) (hlw : l ≤ w.heap.size) (hbl : b < l ∨ h ≤ b) (hyb : y.ownBlock ≠ some b) (hyh : ∀ k, y.ownBlock = some k → k < h)
    (hb3 : Below w.heap.size w w3) (hu : OwB w3 w.heap.size w3.heap.size u zs) (hwa : wa = w3.alloc o)
    (ho5 : w5.ownsRow l 75 2 (.slice (some ⟨g5, 0, none⟩) (m + 1) c5) (m + 1) (C ++ [.int .i64 p, u])) (hg5 : wa.grownBy w5 y.ownBlock) (ha5 : y.ownBlock = some g5 ∨ g5 = wa.heap.size) (hl5 : g5 < w5.heap.size) :
    ∃ xs', OwX (w5.setCell ⟨b, 1, none⟩ (.slice (some ⟨g5, 0, none⟩) (m + 1) c5)) l (w5.setCell ⟨b, 1, none⟩ (.slice (some ⟨g5, 0, none⟩) (m + 1) c5)).heap.size x d1 vs ∧
      OwY (w5.setCell ⟨b, 1, none⟩ (.slice (some ⟨g5, 0, none⟩) (m + 1) c5)) l (w5.setCell ⟨b, 1, none⟩ (.slice (some ⟨g5, 0, none⟩) (m + 1) c5)).heap.size (.slice (some ⟨g5, 0, none⟩) (m + 1) c5) (d2 ++ [(p, zs)]) xs' ∧ (∀ q, Blk vs q → ¬ Blk xs' q) ∧
      VarD (w5.setCell ⟨b, 1, none⟩ (.slice (some ⟨g5, 0, none⟩) (m + 1) c5)) b x (.slice (some ⟨g5, 0, none⟩) (m + 1) c5) ∧
      (∀ k, k < w.heap.size → k ≠ b → y.ownBlock ≠ some k → (w5.setCell ⟨b, 1, none⟩ (.slice (some ⟨g5, 0, none⟩) (m + 1) c5)).heap[k]? = w.heap[k]?) ∧
      ((w5.setCell ⟨b, 1, none⟩ (.slice (some ⟨g5, 0, none⟩) (m + 1) c5)).os = w.os ∧ (w5.setCell ⟨b, 1, none⟩ (.slice (some ⟨g5, 0, none⟩) (m + 1) c5)).tape = w.tape ∧ (w5.setCell ⟨b, 1, none⟩ (.slice (some ⟨g5, 0, none⟩) (m + 1) c5)).output = w.output ∧ w.heap.size ≤ (w5.setCell ⟨b, 1, none⟩ (.slice (some ⟨g5, 0, none⟩) (m + 1) c5)).heap.size) := by
  subst hm
  have hbw := hv.lt
  have hs3 := hb3.size
  have ha3 : Below w3.heap.size w3 wa := by rw [hwa]; exact Below.new _
  have hba : Below w.heap.size w wa := hb3.trans (ha3.mono hs3)
  have hsa := ha3.size
  have hs5 := hg5.size
  have far : ∀ k, k < w.heap.size → y.ownBlock ≠ some k → w5.heap[k]? = w.heap[k]? := fun k hk hne => (hg5.block k (by omega) (fun e => hne e.symm)).trans (hba.block k hk)
  have far6 : ∀ k, k < w.heap.size → k ≠ b → y.ownBlock ≠ some k → (w5.setCell ⟨b, 1, none⟩ (.slice (some ⟨g5, 0, none⟩) (xs.length + 1) c5)).heap[k]? = w.heap[k]? := fun k hk hne hy => (heap_setCell_other _ _ _ _ hne).trans (far k hk hy)
  have hY := OwY.snoc (h := h) hxl ho hC he hd hh hba ho5 hg5 hl5 ((hu.same (SameIn.ofBelow ha3 (Nat.le_refl _))).wide (Nat.le_refl _) hsa) hlw
  have hub := hu.2.1.lt
  refine ⟨xs ++ [u], ?_, ?_, ?_, ?_, far6, ⟨hg5.os.trans hba.os, hg5.tape.trans hba.tape, hg5.output.trans hba.output, by simp; omega⟩⟩
  · have h1 := o1.keep (w' := w5.setCell ⟨b, 1, none⟩ (.slice (some ⟨g5, 0, none⟩) (xs.length + 1) c5)) (fun q hq => far6 q (by have := o1.2.2.1 q hq; omega) (by have := o1.2.2.1 q hq; have := (o1.2.1.lt q hq).1; omega) (fun e => ?_)) (fun q hq => far6 q (by have := o1.lt q hq; omega) (by have := o1.lt q hq; omega) (fun e => ?_))
    · exact h1.wide (Nat.le_refl _) (by simp; omega)
    · rcases o1.2.1.2 with ⟨h0, _⟩ | ⟨g, c, cur, h0, _, hh1, _⟩
      · rw [h0] at hq; cases hq
      · rw [h0] at hq; cases hq
        rcases ho.2 with ⟨e1, _⟩ | ⟨g', c', cur', e1, _, hh', _⟩
        · rw [e1] at e; cases e
        · rw [e1] at e; cases e
          rw [hh1] at hh'
          simp at hh'
    · obtain ⟨j, hj, hjk⟩ := hq
      exact tag_ne ho (o1.2.2.2.1 j hj).2.1 (by decide) q e hjk
  · have h1 := hY.keep (w' := w5.setCell ⟨b, 1, none⟩ (.slice (some ⟨g5, 0, none⟩) (xs.length + 1) c5)) (fun q hq => heap_setCell_other _ _ _ _ (fun e => ?_))
    · simpa using h1
    · have e' : q = b := e
      subst e'
      obtain ⟨i, hi, hk⟩ := hq
      cases i with
      | zero =>
        have e2 : g5 = q := by have := slice_block (show (Value.slice (some ⟨g5, 0, none⟩) (xs.length + 1) c5).ownBlock = some q by simpa using hk); simpa using this
        subst e2
        rcases ha5 with ha5 | ha5
        · exact hyb ha5
        · omega
      | succ i =>
        have hk' : ((xs ++ [u])[i]?.getD undef).ownBlock = some q := by simpa using hk
        rw [getD_snoc] at hk'
        have hi' : i < xs.length + 1 := by simpa using hi
        by_cases h1 : i < xs.length
        · rw [if_pos h1] at hk'
          have h2 := (he i h1).2.2 q hk'
          have h3 := ((he i h1).2.1.lt q hk').1
          omega
        · rw [if_neg h1, if_pos (by omega)] at hk'
          have := (hub q hk').1
          omega
  · rintro q hq ⟨i, hi, hk⟩
    rw [getD_snoc] at hk
    have hql := o1.lt q hq
    have hi' : i < xs.length + 1 := by simpa using hi
    by_cases h1 : i < xs.length
    · rw [if_pos h1] at hk
      exact ha q hq ⟨i, h1, hk⟩
    · rw [if_neg h1, if_pos (by omega)] at hk
      have := (hub q hk).1
      omega
  · show _ = _
    rw [heap_setCell_same _ _ _ _ _ _ ((far b hbw hyb).trans hv)]; rfl

set_option maxHeartbeats 2000000 in
theorem write_in (b q : Nat) (x y : Value) (d : Dk) (vs xs : List Value) (l h : Nat) (sl : Value) (zs : List Int) (l' h' : Nat) (w : World) (hv : VarD w b x y) (o1 : OwX w l h x d.1 vs) (o2 : OwY w l h y d.2 xs) (ha : ∀ q, Blk vs q → ¬ Blk xs q)
    (hh : h ≤ w.heap.size) (hlb : l ≤ w.heap.size) (r : RdB w l' h' sl zs) (hh' : h' ≤ w.heap.size) (hq : q < d.1.length) (hn : d.1.length ≤ 2000) (hm : d.2.length < 2000) (hz : zs.length = 32) (hby : ∀ k, y.ownBlock = some k → k ≠ b) (hbl : b < l ∨ h ≤ b) :
    Calls Tryd.prog 54 #[.pointer (some ⟨b, 0, none⟩), .int .i64 q, sl] w fun e w' => e = .returned .nilIface ∧ ∃ y' xs', OwX w' l w'.heap.size x d.1 vs ∧ OwY w' l w'.heap.size y' (d.2 ++ [((q : Int), zs)]) xs' ∧ (∀ q, Blk vs q → ¬ Blk xs' q) ∧ VarD w' b x y' ∧
      (∀ k, k < w.heap.size → k ≠ b → y.ownBlock ≠ some k → w'.heap[k]? = w.heap[k]?) ∧ (w'.os = w.os ∧ w'.tape = w.tape ∧ w'.output = w.output ∧ w.heap.size ≤ w'.heap.size) := by
  obtain ⟨d1, d2⟩ := d
  obtain ⟨xa, n, xc, us, rfl, hnx, _, hcx, _⟩ := o1.bb.rd
  replace hnx : n = d1.length := hnx
  obtain ⟨gx, ox, rfl, hgx0, hgx1, hcc⟩ := hcx.resolve_left (by have : q < d1.length := hq; omega)
  have hqn : q < n := by rw [hnx]; exact hq
  have HSA : Hid _ := safeAt_in b gx ox q n xc (us q) w hv.c0 (hcc q hqn) hqn (by have : d1.length ≤ 2000 := hn; omega)
  obtain ⟨sa, sn, sc, rfl⟩ := r.sliced
  have hsn : sn = 32 := by obtain ⟨_, a', n', c', he, hl', _⟩ := r; simp only [Value.slice.injEq] at he; omega
  subst hsn
  obtain ⟨C, hxl, ho, hbf, hC, he, hdd⟩ := o2
  obtain ⟨ya, yc, hye⟩ : ∃ a c, y = .slice a xs.length c := by
    rcases ho.2 with ⟨h0, hz0⟩ | ⟨g, c, cur, h0, _⟩
    · exact ⟨none, 0, by rw [h0, hz0]⟩
    · exact ⟨_, _, h0⟩
  subst hye
  have hm2 : xs.length < 2000 := by have : d2.length < 2000 := hm; omega
  have hd2 : decide ((2000 : Int) ≤ (xs.length : Int)) = false := by simp; omega
  have c1 := hv.c1
  have f1 := hv.f 1
  have hbw := hv.lt
  generalize hxn : xs.length = m at c1 ho hbf hC he hdd hm2 hd2 hby hv
  have HRE : Hid (RdB w.drew l' h' (.slice sa 32 sc) zs) := r.same SameIn.drew
  have hhd : h' ≤ w.drew.heap.size := hh'
  have HO : Hid (w.ownsRow l 75 2 (.slice ya m yc) m C) := ho
  have HYB : Hid (Value.ownBlock (.slice ya m yc) ≠ some b) := fun e => hby b e rfl
  have hylt := fun k hk => (ho.lt k hk).2
  have HYL : Hid _ := hylt
  have HYH : Hid (∀ k, Value.ownBlock (.slice ya m yc) = some k → k < h) := fun k hk => hbf k hk
  have HX : Hid (OwX w l h (.slice (some ⟨gx, ox, none⟩) n xc) d1 vs) := o1
  have HREST : Hid _ := And.intro hxl (And.intro hC (And.intro he hdd))
  have HXN : Hid _ := hxn
  have HV : Hid (VarD w b _ _) := hv
  have HAP : Hid _ := ha
  have hmb : m ≤ 4194304 := by omega
  clear r o1 ho hbf hC he hdd hxl ha hcc hcx hv hxn hby hylt hnx
  go_enter Tryd.func54, Tryd.ntmps54
  go_wp2_with fail
  refine Calls.mono HSA.out ?_
  rintro e w2 ⟨rfl, hw2⟩
  subst hw2
  go_wp2
  refine wp_region_noPanic ?_
  refine wp_region_held_drew (S := fun _ => True) (by kernel_rfl) trivial (fun hHeld => ?_)
  clear hHeld
  refine wpAnyH_take (i := 0) (v := ?_) rfl (by kernel_rfl) (by kernel_rfl) (by kernel_rfl) (fun _ _ _ h => h) (Or.inl ⟨by rfl, ?_⟩) trivial ?_
  rotate_left
  · (intro w_ hSw_; go_simp; try with_reducible rfl)
  try simp only [Act.put, List.setIfInBounds_toArray, List.set_cons_zero, List.set_cons_succ, List.getElem_toArray, List.getElem_cons_zero, List.getElem_cons_succ]
  refine wpAnyH_take (i := 1) (v := ?_) rfl (by kernel_rfl) (by kernel_rfl) (by kernel_rfl) (fun _ _ _ h => h) (Or.inl ⟨by rfl, ?_⟩) trivial ?_
  rotate_left
  · (intro w_ hSw_; go_simp; try with_reducible rfl)
  try simp only [Act.put, List.setIfInBounds_toArray, List.set_cons_zero, List.set_cons_succ, List.getElem_toArray, List.getElem_cons_zero, List.getElem_cons_succ]
  refine wpAnyH_take (i := 2) (v := ?_) rfl (by kernel_rfl) (by kernel_rfl) (by kernel_rfl) (fun _ _ _ h => h) (Or.inl ⟨by rfl, ?_⟩) trivial ?_
  rotate_left
  · (intro w_ hSw_; go_simp; try with_reducible rfl)
  try simp only [Act.put, List.setIfInBounds_toArray, List.set_cons_zero, List.set_cons_succ, List.getElem_toArray, List.getElem_cons_zero, List.getElem_cons_succ]
  refine wpAnyH_take (i := 3) (v := ?_) rfl (by kernel_rfl) (by kernel_rfl) (by kernel_rfl) (fun _ _ _ h => h) (Or.inl ⟨by rfl, ?_⟩) trivial ?_
  rotate_left
  · (intro w_ hSw_; go_simp; try with_reducible rfl)
  try simp only [Act.put, List.setIfInBounds_toArray, List.set_cons_zero, List.set_cons_succ, List.getElem_toArray, List.getElem_cons_zero, List.getElem_cons_succ]
  refine wpAnyH_take (i := 5) (v := ?_) rfl (by kernel_rfl) (by kernel_rfl) (by kernel_rfl) (fun _ _ _ h => h) (Or.inl ⟨by rfl, ?_⟩) trivial ?_
  rotate_left
  · (intro w_ hSw_; go_simp; try with_reducible rfl)
  try simp only [Act.put, List.setIfInBounds_toArray, List.set_cons_zero, List.set_cons_succ, List.getElem_toArray, List.getElem_cons_zero, List.getElem_cons_succ]
  refine wpAnyH_take (i := 6) (v := ?_) rfl (by kernel_rfl) (by kernel_rfl) (by kernel_rfl) (fun _ _ _ h => h) (Or.inl ⟨by rfl, ?_⟩) trivial ?_
  rotate_left
  · (intro w_ hSw_; go_simp; try with_reducible rfl)
  try simp only [Act.put, List.setIfInBounds_toArray, List.set_cons_zero, List.set_cons_succ, List.getElem_toArray, List.getElem_cons_zero, List.getElem_cons_succ]
  refine wpAnyH_ready (rs := [4, 7]) (by kernel_rfl) (by simp) ?_
  refine AllReadyH.cons rfl (fun K hK => ?_) ?_
  · go_simp
    refine hK.out _ _ trivial (fun hHeld => ?_)
    clear hK K hHeld
    try simp only [Act.put, List.setIfInBounds_toArray, List.set_cons_zero, List.set_cons_succ, List.getElem_toArray, List.getElem_cons_zero, List.getElem_cons_succ]
    refine wpAnyH_ready (rs := [7]) (by kernel_rfl) (by simp) ?_
    refine AllReadyH.cons rfl (fun K hK => ?_) AllReadyH.nil
    go_simp
    refine (newSector_any _ zs l' h' _ HRE.out hhd).mono ?_
    rintro e w3 ⟨u, rfl, ho3, hb3⟩
    obtain ⟨ua, un, uc, rfl⟩ := ho3.sliced
    have hb3' : Below w2.heap.size w2 w3 := (Below.drew (Below.refl _ _)).trans hb3
    have k1 := (VarD.step HV.out hb3').c1
    have g1 := (VarD.step HV.out hb3').f 1
    have hbw3 := Nat.lt_of_lt_of_le hbw hb3'.size
    have nb3 : ¬ b = w3.heap.size := Nat.ne_of_lt hbw3
    go_wp2_with fail
    refine hK.out _ _ trivial (fun hHeld => ?_)
    clear hK K hHeld
    try simp only [Act.put, List.setIfInBounds_toArray, List.set_cons_zero, List.set_cons_succ, List.getElem_toArray, List.getElem_cons_zero, List.getElem_cons_succ]
    refine wpAnyH_take (i := 8) (v := ?_) rfl (by kernel_rfl) (by kernel_rfl) (by kernel_rfl) (fun _ _ _ h => h) (Or.inl ⟨by rfl, ?_⟩) trivial ?_
    rotate_left
    · (intro w_ hSw_; go_simp; try with_reducible rfl)
    try simp only [Act.put, List.setIfInBounds_toArray, List.set_cons_zero, List.set_cons_succ, List.getElem_toArray, List.getElem_cons_zero, List.getElem_cons_succ]
    refine wpAnyH_ready (rs := [9]) (by kernel_rfl) (by simp) ?_
    refine AllReadyH.cons rfl (fun K hK => ?_) AllReadyH.nil
    go_simp
    refine hK.out _ _ trivial (fun hHeld => ?_)
    clear hK K hHeld
    try simp only [Act.put, List.setIfInBounds_toArray, List.set_cons_zero, List.set_cons_succ, List.getElem_toArray, List.getElem_cons_zero, List.getElem_cons_succ]
    refine wpAnyH_ready (rs := [10]) (by kernel_rfl) (by simp) ?_
    refine AllReadyH.cons rfl (fun K hK => ?_) AllReadyH.nil
    refine step_appW rfl (.tmp 33) (.tmp 38) (by rfl) l _ m C (by rfl) (World.ownsRow.alloc (ownsRow_kept2 HO.out (fun q hq => hb3'.block q (HYL.out q hq))) _) w3.heap.size (q : Int) (.slice ua un uc) (by rfl) (heap_alloc_new _ _) rfl hmb (Nat.le_trans hlb (Nat.le_trans hb3'.size (by simp))) ?_
    intro g5 c5 w5 ho5 hg5 ha5 hl5
    have hv5 : VarD w5 b _ _ := (hg5.block b (by simp; omega) (fun e => HYB.out e.symm)).trans ((Below.heap_alloc w3 _ b hbw3).trans (VarD.step HV.out hb3'))
    have k5 := hv5.c1
    have g5_ := hv5.f 1
    refine hK.out _ _ trivial (fun hHeld => ?_)
    clear hK K hHeld
    try simp only [Act.put, List.setIfInBounds_toArray, List.set_cons_zero, List.set_cons_succ, List.getElem_toArray, List.getElem_cons_zero, List.getElem_cons_succ]
    refine wpAnyH_take (i := 11) (v := ?_) rfl (by kernel_rfl) (by kernel_rfl) (by kernel_rfl) (fun _ _ _ h => h) (Or.inl ⟨by rfl, ?_⟩) trivial ?_
    rotate_left
    · (intro w_ hSw_; go_simp; try with_reducible rfl)
    try simp only [Act.put, List.setIfInBounds_toArray, List.set_cons_zero, List.set_cons_succ, List.getElem_toArray, List.getElem_cons_zero, List.getElem_cons_succ]
    refine wpAnyH_take (i := 12) (v := ?_) rfl (by kernel_rfl) (by kernel_rfl) (by kernel_rfl) (fun _ _ _ h => h) (Or.inl ⟨by rfl, ?_⟩) trivial ?_
    rotate_left
    · (intro w_ hSw_; go_simp; try with_reducible rfl)
    try simp only [Act.put, List.setIfInBounds_toArray, List.set_cons_zero, List.set_cons_succ, List.getElem_toArray, List.getElem_cons_zero, List.getElem_cons_succ]
    refine wpAnyH_ready (rs := [13]) (by kernel_rfl) (by simp) ?_
    refine AllReadyH.cons rfl (fun K hK => ?_) AllReadyH.nil
    go_simp
    refine hK.out _ _ trivial (fun hHeld => ?_)
    clear hK K hHeld
    try simp only [Act.put, List.setIfInBounds_toArray, List.set_cons_zero, List.set_cons_succ, List.getElem_toArray, List.getElem_cons_zero, List.getElem_cons_succ]
    refine wpAnyH_done (by kernel_rfl) (NoPanic.normal ?_) _
    rw [sec_full hz] at ho3
    have HL : Hid _ := write_leaf HV.out HX.out HREST.out.1 HO.out HXN.out HREST.out.2.1 HREST.out.2.2.1 HREST.out.2.2.2 HAP.out hh hlb hbl HYB.out HYH.out hb3' (OwB.of HRE.out.1 ho3) rfl ho5 hg5 ha5 hl5
    clear ho3 hb3 hb3' k1 g1 ho5 hg5 ha5 hv5 k5 g5_
    go_wp2
    go_ret
    obtain ⟨xs', h1, h2, h3, h4, h5, h6⟩ := HL.out
    exact ⟨rfl, _, xs', h1, h2, h3, h4, h5, h6⟩
  refine AllReadyH.cons rfl (fun K hK => ?_) AllReadyH.nil
  go_simp
  refine (newSector_any _ zs l' h' _ HRE.out hhd).mono ?_
  rintro e w3 ⟨u, rfl, ho3, hb3⟩
  obtain ⟨ua, un, uc, rfl⟩ := ho3.sliced
  have hb3' : Below w2.heap.size w2 w3 := (Below.drew (Below.refl _ _)).trans hb3
  have k1 := (VarD.step HV.out hb3').c1
  have g1 := (VarD.step HV.out hb3').f 1
  have hbw3 := Nat.lt_of_lt_of_le hbw hb3'.size
  have nb3 : ¬ b = w3.heap.size := Nat.ne_of_lt hbw3
  go_wp2_with fail
  refine hK.out _ _ trivial (fun hHeld => ?_)
  clear hK K hHeld
  try simp only [Act.put, List.setIfInBounds_toArray, List.set_cons_zero, List.set_cons_succ, List.getElem_toArray, List.getElem_cons_zero, List.getElem_cons_succ]
  refine wpAnyH_take (i := 8) (v := ?_) rfl (by kernel_rfl) (by kernel_rfl) (by kernel_rfl) (fun _ _ _ h => h) (Or.inl ⟨by rfl, ?_⟩) trivial ?_
  rotate_left
  · (intro w_ hSw_; go_simp; try with_reducible rfl)
  try simp only [Act.put, List.setIfInBounds_toArray, List.set_cons_zero, List.set_cons_succ, List.getElem_toArray, List.getElem_cons_zero, List.getElem_cons_succ]
  refine wpAnyH_ready (rs := [4, 9]) (by kernel_rfl) (by simp) ?_
  refine AllReadyH.cons rfl (fun K hK => ?_) ?_
  · go_simp
    refine hK.out _ _ trivial (fun hHeld => ?_)
    clear hK K hHeld
    try simp only [Act.put, List.setIfInBounds_toArray, List.set_cons_zero, List.set_cons_succ, List.getElem_toArray, List.getElem_cons_zero, List.getElem_cons_succ]
    refine wpAnyH_ready (rs := [9]) (by kernel_rfl) (by simp) ?_
    refine AllReadyH.cons rfl (fun K hK => ?_) AllReadyH.nil
    go_simp
    refine hK.out _ _ trivial (fun hHeld => ?_)
    clear hK K hHeld
    try simp only [Act.put, List.setIfInBounds_toArray, List.set_cons_zero, List.set_cons_succ, List.getElem_toArray, List.getElem_cons_zero, List.getElem_cons_succ]
    refine wpAnyH_ready (rs := [10]) (by kernel_rfl) (by simp) ?_
    refine AllReadyH.cons rfl (fun K hK => ?_) AllReadyH.nil
    refine step_appW rfl (.tmp 33) (.tmp 38) (by rfl) l _ m C (by rfl) (World.ownsRow.alloc (ownsRow_kept2 HO.out (fun q hq => hb3'.block q (HYL.out q hq))) _) w3.heap.size (q : Int) (.slice ua un uc) (by rfl) (heap_alloc_new _ _) rfl hmb (Nat.le_trans hlb (Nat.le_trans hb3'.size (by simp))) ?_
    intro g5 c5 w5 ho5 hg5 ha5 hl5
    have hv5 : VarD w5 b _ _ := (hg5.block b (by simp; omega) (fun e => HYB.out e.symm)).trans ((Below.heap_alloc w3 _ b hbw3).trans (VarD.step HV.out hb3'))
    have k5 := hv5.c1
    have g5_ := hv5.f 1
    refine hK.out _ _ trivial (fun hHeld => ?_)
    clear hK K hHeld
    try simp only [Act.put, List.setIfInBounds_toArray, List.set_cons_zero, List.set_cons_succ, List.getElem_toArray, List.getElem_cons_zero, List.getElem_cons_succ]
    refine wpAnyH_take (i := 11) (v := ?_) rfl (by kernel_rfl) (by kernel_rfl) (by kernel_rfl) (fun _ _ _ h => h) (Or.inl ⟨by rfl, ?_⟩) trivial ?_
    rotate_left
    · (intro w_ hSw_; go_simp; try with_reducible rfl)
    try simp only [Act.put, List.setIfInBounds_toArray, List.set_cons_zero, List.set_cons_succ, List.getElem_toArray, List.getElem_cons_zero, List.getElem_cons_succ]
    refine wpAnyH_take (i := 12) (v := ?_) rfl (by kernel_rfl) (by kernel_rfl) (by kernel_rfl) (fun _ _ _ h => h) (Or.inl ⟨by rfl, ?_⟩) trivial ?_
    rotate_left
    · (intro w_ hSw_; go_simp; try with_reducible rfl)
    try simp only [Act.put, List.setIfInBounds_toArray, List.set_cons_zero, List.set_cons_succ, List.getElem_toArray, List.getElem_cons_zero, List.getElem_cons_succ]
    refine wpAnyH_ready (rs := [13]) (by kernel_rfl) (by simp) ?_
    refine AllReadyH.cons rfl (fun K hK => ?_) AllReadyH.nil
    go_simp
    refine hK.out _ _ trivial (fun hHeld => ?_)
    clear hK K hHeld
    try simp only [Act.put, List.setIfInBounds_toArray, List.set_cons_zero, List.set_cons_succ, List.getElem_toArray, List.getElem_cons_zero, List.getElem_cons_succ]
    refine wpAnyH_done (by kernel_rfl) (NoPanic.normal ?_) _
    rw [sec_full hz] at ho3
    have HL : Hid _ := write_leaf HV.out HX.out HREST.out.1 HO.out HXN.out HREST.out.2.1 HREST.out.2.2.1 HREST.out.2.2.2 HAP.out hh hlb hbl HYB.out HYH.out hb3' (OwB.of HRE.out.1 ho3) rfl ho5 hg5 ha5 hl5
    clear ho3 hb3 hb3' k1 g1 ho5 hg5 ha5 hv5 k5 g5_
    go_wp2
    go_ret
    obtain ⟨xs', h1, h2, h3, h4, h5, h6⟩ := HL.out
    exact ⟨rfl, _, xs', h1, h2, h3, h4, h5, h6⟩
  refine AllReadyH.cons rfl (fun K hK => ?_) AllReadyH.nil
  go_simp
  refine hK.out _ _ trivial (fun hHeld => ?_)
  clear hK K hHeld
  try simp only [Act.put, List.setIfInBounds_toArray, List.set_cons_zero, List.set_cons_succ, List.getElem_toArray, List.getElem_cons_zero, List.getElem_cons_succ]
  refine wpAnyH_ready (rs := [4]) (by kernel_rfl) (by simp) ?_
  refine AllReadyH.cons rfl (fun K hK => ?_) AllReadyH.nil
  go_simp
  refine hK.out _ _ trivial (fun hHeld => ?_)
  clear hK K hHeld
  try simp only [Act.put, List.setIfInBounds_toArray, List.set_cons_zero, List.set_cons_succ, List.getElem_toArray, List.getElem_cons_zero, List.getElem_cons_succ]
  refine wpAnyH_ready (rs := [10]) (by kernel_rfl) (by simp) ?_
  refine AllReadyH.cons rfl (fun K hK => ?_) AllReadyH.nil
  refine step_appW rfl (.tmp 33) (.tmp 38) (by rfl) l _ m C (by rfl) (World.ownsRow.alloc (ownsRow_kept2 HO.out (fun q hq => hb3'.block q (HYL.out q hq))) _) w3.heap.size (q : Int) (.slice ua un uc) (by rfl) (heap_alloc_new _ _) rfl hmb (Nat.le_trans hlb (Nat.le_trans hb3'.size (by simp))) ?_
  intro g5 c5 w5 ho5 hg5 ha5 hl5
  have hv5 : VarD w5 b _ _ := (hg5.block b (by simp; omega) (fun e => HYB.out e.symm)).trans ((Below.heap_alloc w3 _ b hbw3).trans (VarD.step HV.out hb3'))
  have k5 := hv5.c1
  have g5_ := hv5.f 1
  refine hK.out _ _ trivial (fun hHeld => ?_)
  clear hK K hHeld
  try simp only [Act.put, List.setIfInBounds_toArray, List.set_cons_zero, List.set_cons_succ, List.getElem_toArray, List.getElem_cons_zero, List.getElem_cons_succ]
  refine wpAnyH_take (i := 11) (v := ?_) rfl (by kernel_rfl) (by kernel_rfl) (by kernel_rfl) (fun _ _ _ h => h) (Or.inl ⟨by rfl, ?_⟩) trivial ?_
  rotate_left
  · (intro w_ hSw_; go_simp; try with_reducible rfl)
  try simp only [Act.put, List.setIfInBounds_toArray, List.set_cons_zero, List.set_cons_succ, List.getElem_toArray, List.getElem_cons_zero, List.getElem_cons_succ]
  refine wpAnyH_take (i := 12) (v := ?_) rfl (by kernel_rfl) (by kernel_rfl) (by kernel_rfl) (fun _ _ _ h => h) (Or.inl ⟨by rfl, ?_⟩) trivial ?_
  rotate_left
  · (intro w_ hSw_; go_simp; try with_reducible rfl)
  try simp only [Act.put, List.setIfInBounds_toArray, List.set_cons_zero, List.set_cons_succ, List.getElem_toArray, List.getElem_cons_zero, List.getElem_cons_succ]
  refine wpAnyH_ready (rs := [13]) (by kernel_rfl) (by simp) ?_
  refine AllReadyH.cons rfl (fun K hK => ?_) AllReadyH.nil
  go_simp
  refine hK.out _ _ trivial (fun hHeld => ?_)
  clear hK K hHeld
  try simp only [Act.put, List.setIfInBounds_toArray, List.set_cons_zero, List.set_cons_succ, List.getElem_toArray, List.getElem_cons_zero, List.getElem_cons_succ]
  refine wpAnyH_done (by kernel_rfl) (NoPanic.normal ?_) _
  rw [sec_full hz] at ho3
  have HL : Hid _ := write_leaf HV.out HX.out HREST.out.1 HO.out HXN.out HREST.out.2.1 HREST.out.2.2.1 HREST.out.2.2.2 HAP.out hh hlb hbl HYB.out HYH.out hb3' (OwB.of HRE.out.1 ho3) rfl ho5 hg5 ha5 hl5
  clear ho3 hb3 hb3' k1 g1 ho5 hg5 ha5 hv5 k5 g5_
  go_wp2
  go_ret
  obtain ⟨xs', h1, h2, h3, h4, h5, h6⟩ := HL.out
  exact ⟨rfl, _, xs', h1, h2, h3, h4, h5, h6⟩
end Go.Proofs.YtjhaanenkeceiaaDoor
