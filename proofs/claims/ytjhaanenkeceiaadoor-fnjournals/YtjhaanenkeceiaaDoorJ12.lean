/- Joined: SpecOpen RangeSt ImplFrame. -/
import Derived.Test.YtjhaanenkeceiaaDoorJ11
import Derived.Test.YtjhaanenkeceiaaDoorJ10
import Derived.Deep.AppendLies
import Derived.RangeFuncNested
import Derived.RangeFuncBound
import Derived.RangeFuncCalls
import Derived.RangeFuncLeaves
import Derived.RangeFuncRecord
import Derived.Shelf.Abstract
import Derived.WalkKit
import Derived.OwnWalkIn
import Derived.TacticsInMore
import Derived.LoopNIn
import Derived.LoopIn
import Derived.Test.YtjhaanenkeceiaaDoorJ01
import Derived.Test.YtjhaanenkeceiaaDoorJ09
import Derived.Test.YtjhaanenkeceiaaDoorJ05
import Derived.Test.YtjhaanenkeceiaaDoorJ02
import Derived.Laws.CopyOwn

section
/- Opening a disk, the specification's way. Conditions: the disk is DiskOk. -/
namespace Go.Proofs.YtjhaanenkeceiaaDoor
open Go.RowKit
set_option linter.unusedVariables false
set_option linter.unusedSimpArgs false
attribute [local go_sem ↓] Go.wp_at_zero Go.wp_at_succ

def leftS (b n : Nat) (w : World) : Nat := n - (intOf ((w.cell? ⟨b, 2, none⟩).getD undef)).toNat
theorem leftS_eq {b n : Nat} {x y : Value} {P q : Nat} {w : World} (h : VarJ 30 w b x y (P : Int) (q : Int)) : leftS b n w = n - P := by unfold leftS; rw [h.c2]; simp [intOf]
def SORel (w : World) (b c L0 : Nat) (x y : Value) (S : List (List Int)) (o : Value) (wr : World) : Prop :=
  ∃ P q acc, Hid (VarJ 30 wr b x y ((P : Nat) : Int) ((q : Nat) : Int)) ∧ Hid (VarJ 30 wr c (.slice none 0 0) (.slice none 0 0) 0 0) ∧ Hid (GrBB wr L0 o acc) ∧ Below w.heap.size w wr ∧ L0 ≤ wr.heap.size ∧ Hid (OpenAt S P q acc)

set_option maxRecDepth 100000 in
set_option maxHeartbeats 4000000 in
theorem open3_any (v : Value) (d : Dk) (l h : Nat) (w : World) (r : RdD w l h v d) (hh : h ≤ w.heap.size) (hS : d.1.length ≤ 2000) (hw32 : ∀ i, i < d.1.length → (d.1[i]?.getD []).length = 32) (hbz : ∀ i : Nat, isBytes (d.1[i]?.getD [])) :
    Calls Tryd.prog 46 #[v] w fun e w' => ∃ X V, e = .returned (.tuple #[X, V]) ∧ RdJ w' l h X (d, ((openS d.1).1 : Int), ((openS d.1).2.1 : Int)) ∧ RdBB w' w.heap.size w'.heap.size V (openS d.1).2.2 ∧ Below w.heap.size w w' := by
  obtain ⟨xa, xn, xc, ya, yn, yc, rfl⟩ := r.open
  have hrp := r
  obtain ⟨x', y', he, r1, r2⟩ := hrp
  simp only [Value.agg.injEq, Array.mk.injEq, List.cons.injEq, and_true] at he
  obtain ⟨rfl, rfl⟩ := he
  have b0 := Below.new (w := w) (.cells #[.slice xa xn xc, .slice ya yn yc] 26)
  generalize hw0 : w.alloc (.cells #[.slice xa xn xc, .slice ya yn yc] 26) = w0 at b0
  have s0 : w0.heap.size = w.heap.size + 1 := by rw [← hw0]; simp
  have b1 := Below.new (w := w0) (.cells #[.slice none 0 0, .slice none 0 0, .int .i64 0, .int .i64 0] 30)
  have vR := VarJ.new (T := 30) w0 (.slice none 0 0) (.slice none 0 0) 0 0
  rw [s0] at vR
  generalize hw1 : w0.alloc (.cells #[.slice none 0 0, .slice none 0 0, .int .i64 0, .int .i64 0] 30) = w1 at b1 vR
  have s1 : w1.heap.size = w.heap.size + 2 := by rw [← hw1]; simp; omega
  have b2 := Below.new (w := w1) (.cells #[.slice xa xn xc, .slice ya yn yc, .int .i64 0, .int .i64 0] 30)
  have vJ := VarJ.new (T := 30) w1 (.slice xa xn xc) (.slice ya yn yc) 0 0
  rw [s1] at vJ
  have vR2 := vR.step b2
  generalize hw2 : w1.alloc (.cells #[.slice xa xn xc, .slice ya yn yc, .int .i64 0, .int .i64 0] 30) = w2 at b2 vJ vR2
  have s2 : w2.heap.size = w.heap.size + 3 := by rw [← hw2]; simp; omega
  have B2 : Below w.heap.size w w2 := (b0.trans (b1.mono (by omega))).trans (b2.mono (by omega))
  have HW : Hid (((w.alloc (.cells #[.slice xa xn xc, .slice ya yn yc] 26)).alloc (.cells #[.slice none 0 0, .slice none 0 0, .int .i64 0, .int .i64 0] 30)).alloc (.cells #[.slice xa xn xc, .slice ya yn yc, .int .i64 0, .int .i64 0] 30) = w2) := by show _ = _; rw [hw0, hw1, hw2]
  have HST : Hid (SORel w (w.heap.size + 2) (w.heap.size + 1) (w.heap.size + 3) (.slice xa xn xc) (.slice ya yn yc) d.1 (.slice none 0 0) w2) := ⟨0, 0, [], vJ, vR2, GrBB_nil _ _, B2, by omega, OpenAt.start _⟩
  have HR1 : Hid _ := r1
  have HRD : Hid (∀ W, Below w.heap.size w W → RdD W l h (.agg #[.slice xa xn xc, .slice ya yn yc]) d) := fun W hW => r.step hh hW
  have HW32 : Hid _ := hw32
  have HBZ : Hid _ := hbz
  obtain ⟨j0, hj, hy0, hy1, hy2⟩ := info_parts Tryd.infoBB
  clear hw0 hw1 hw2 b0 b1 b2 vR vJ vR2 B2 s0 s1 s2 r1 r2 r hw32 hbz
  go_enter Tryd.func46, Tryd.ntmps46
  go_wp2
  rw [HW.out]
  go_loopw [5] (fun o wr => SORel w (w.heap.size + 2) (w.heap.size + 1) (w.heap.size + 3) (.slice xa xn xc) (.slice ya yn yc) d.1 o wr) (fun _ wr => leftS (w.heap.size + 2) d.1.length wr)
  case atStart => exact HST.out
  case round =>
    clear HST
    obtain ⟨P, q, acc, HV, HVR, HG, hB, hL0, HO⟩ := hrel
    have hV := HV.out
    have hO := HO.out
    have hP : P ≤ d.1.length := hO.1
    have hqP : q ≤ P := hO.2.1
    have hac : acc.length ≤ P := hO.2.2.1
    have hsB := hB.size
    have HRD3 : Hid _ := read3_any (w.heap.size + 2) _ d.1 P q l h wr hV.c0 hV.lt (RdBB.same HR1.out (SameIn.ofBelow hB hh)) (by omega) hS hP (by omega) HW32.out HBZ.out
    have c2 := hV.c2
    have c3 := hV.c3
    have HVV : Hid (VarJ _ wr _ _ _ _ _) := hV
    clear hV
    go_wp2_with fail
    refine Calls.mono HRD3.out ?_
    rintro e w3 ⟨b3, hcase⟩
    clear HRD3 c2 c3
    have s3 := b3.size
    have B3 : Below w.heap.size w w3 := hB.trans (b3.mono hsB)
    have v3 := VarJ.step HV.out b3
    have vr3 := VarJ.step HVR.out b3
    rcases hcase with ⟨hno, rfl⟩ | ⟨rc, u, hsm, rfl, rU, fU, bU⟩
    · have hst := hO.stop hno
      have k0 := v3.c0
      have k1 := v3.c1
      have k2 := v3.c2
      have k3 := v3.c3
      have e0 := vr3.c0
      have e1 := vr3.c1
      have e2 := vr3.c2
      have e3 := vr3.c3
      have f0 := vr3.f 0
      have f1 := vr3.f 1
      have f2 := vr3.f 2
      have f3 := vr3.f 3
      obtain ⟨ga, gc, hge⟩ := HG.out.sliced
      have HST2 : Hid _ := hst
      have HGR : Hid (RdBB w3 (w.heap.size + 3) wr.heap.size _ acc) := RdBB.same HG.out.rd (SameIn.ofBelow b3 (Nat.le_refl _))
      subst hge
      have HB3 : Hid _ := B3
      clear hO HO HG HV HVR v3 vr3 b3 B3 hB hno hst
      go_wp2
      refine bodyPost_ret (v := .tuple #[.agg #[.slice xa xn xc, .slice ya yn yc, .int .i64 (P : Int), .int .i64 (q : Int)], .slice ga acc.length gc]) (by simp [results, Tryd.results46, go_sem, e0, e1, e2, e3]) rfl ⟨_, _, rfl, ?_, ?_, ?_⟩
      · rw [HST2.out]
        refine ⟨_, _, rfl, HRD.out _ ?_⟩
        exact (((HB3.out.setCell (Nat.le_succ _) _).setCell (Nat.le_succ _) _).setCell (Nat.le_succ _) _).setCell (Nat.le_succ _) _
      · rw [HST2.out]
        have h9 := RdBB.same HGR.out (w' := (((w3.setCell ⟨w.heap.size + 1, 0, none⟩ (.slice xa xn xc)).setCell ⟨w.heap.size + 1, 1, none⟩ (.slice ya yn yc)).setCell ⟨w.heap.size + 1, 2, none⟩ (.int .i64 (P : Int))).setCell ⟨w.heap.size + 1, 3, none⟩ (.int .i64 (q : Int))) ⟨by simp, fun k h1 _ => by rw [heap_setCell_other _ _ _ _ (by show k ≠ w.heap.size + 1; omega), heap_setCell_other _ _ _ _ (by show k ≠ w.heap.size + 1; omega), heap_setCell_other _ _ _ _ (by show k ≠ w.heap.size + 1; omega), heap_setCell_other _ _ _ _ (by show k ≠ w.heap.size + 1; omega)]⟩
        exact h9.wide (by omega) (by simp; omega)
      · exact (((HB3.out.setCell (Nat.le_succ _) _).setCell (Nat.le_succ _) _).setCell (Nat.le_succ _) _).setCell (Nat.le_succ _) _
    · have hnx := OpenAt.next HW32.out hO hsm
      obtain ⟨m, hm⟩ : ∃ m, manyN rc.length = m := ⟨_, rfl⟩
      have hm0 := manyN_pos rc.length
      rw [hm] at hnx hm0
      rw [hm]
      have hPm : P + m ≤ d.1.length := hnx.1
      have en : ((m : Int) == 0) = false := by simp; omega
      have hwm := wrap_id ((P : Int) + (m : Int)) (by omega) (by omega)
      obtain ⟨ua, un, uc, rfl⟩ := rU.sliced
      obtain ⟨vs, hvl, hrow, hee⟩ := HG.out
      obtain ⟨ga, gc, hge⟩ := HG.out.sliced
      subst hge
      have hrow3 : w3.ownsRow (w.heap.size + 3) 22 1 (.slice ga acc.length gc) acc.length vs := ownsRow_same hrow (fun q hq => (hrow.lt q hq).2) (SameIn.ofBelow b3 (Nat.le_refl _))
      have HRW : Hid _ := hrow3
      have HROW : Hid _ := And.intro hvl (And.intro hrow hee)
      have HRU : Hid _ := rU
      have HFU : Hid _ := And.intro fU bU
      have HB3 : Hid _ := b3
      have HBW : Hid _ := B3
      have HV3 : Hid (VarJ _ w3 _ _ _ _ _) := v3
      have HVR3 : Hid (VarJ _ w3 _ _ _ _ _) := vr3
      have HNX : Hid _ := hnx
      clear hO HO HG HV HVR v3 vr3 b3 B3 hB hnx hm hsm rU fU bU hvl hrow hee hrow3
      go_wp2_with (at_builtin; go_must (refine wpList_append_lies _ rfl (.tmp 23) (.tmp 25) 23 rfl (w.heap.size + 3) 22 j0 (.slice none 0 0) 1 24 Tryd.underlying23 hj hy0 hy1 hy2 rfl (by decide) _ acc.length vs rfl (World.ownsRow.alloc HRW.out _) ⟨w3.heap.size, 0, none⟩ 1 1 [.slice ua un uc] rfl rfl (one_slice w3 _) (one_slice1 _) (by decide) (by unfold maxLen; omega) (by omega) (by simp; omega) _ rfl ?_; intro g9 c9 w9 ho9 hg9 ha9 hl9; have v9 : VarJ 30 w9 (w.heap.size + 2) (.slice xa xn xc) (.slice ya yn yc) (P : Int) (q : Int) := (hg9.block _ (by simp; omega) (fun e => by have := (World.ownsRow.lt HRW.out _ e.symm).1; omega)).trans ((Below.heap_alloc w3 _ _ (by omega)).trans HV3.out); have c92 := v9.c2; have c93 := v9.c3; have f92 := v9.f 2; have f93 := v9.f 3))
      have hbn := Below.new (w := w3) (.cells #[.slice ua un uc] 22)
      have hb9 : Below wr.heap.size wr (w3.alloc (.cells #[.slice ua un uc] 22)) := HB3.out.trans (hbn.mono s3)
      have hG := GrBB.next (zss := acc) HROW.out.1 HROW.out.2.1 HROW.out.2.2 hb9 ho9 hg9 ha9 ((RdB.same HRU.out (SameIn.ofBelow hbn (Nat.le_refl _))).wide (by omega) (by simp)) (fun q hq => ⟨HFU.out.1 q hq, by have := HFU.out.2 q hq; simp; omega⟩)
      have hs9 := hg9.size
      rw [World.size_alloc] at hs9
      have far9 : ∀ k, k < w.heap.size + 3 → w9.heap[k]? = w3.heap[k]? := fun k hk => (hg9.block k (by simp; omega) (fun e => by have := (World.ownsRow.lt HRW.out _ e.symm).1; omega)).trans (Below.heap_alloc w3 _ k (by omega))
      have V4 := (v9.set2 ((P : Int) + (m : Int))).set3 ((q : Int) + 1)
      have HR : Hid (SORel w (w.heap.size + 2) (w.heap.size + 1) (w.heap.size + 3) (.slice xa xn xc) (.slice ya yn yc) d.1 (.slice (some ⟨g9, 0, none⟩) (acc.length + 1) c9) ((w9.setCell ⟨w.heap.size + 2, 2, none⟩ (.int .i64 ((P : Int) + (m : Int)))).setCell ⟨w.heap.size + 2, 3, none⟩ (.int .i64 ((q : Int) + 1)))) := by
        refine ⟨P + m, q + 1, acc ++ [rc], ?_, ?_, ?_, ?_, by simp; omega, HNX.out⟩
        · show VarJ _ _ _ _ _ _ _
          rw [Int.natCast_add P m, Int.natCast_add q 1]
          exact V4
        · show _ = _
          rw [heap_setCell_other _ _ _ _ (by show w.heap.size + 1 ≠ w.heap.size + 2; omega), heap_setCell_other _ _ _ _ (by show w.heap.size + 1 ≠ w.heap.size + 2; omega), far9 _ (by omega)]
          exact HVR3.out
        · exact hG.same ⟨by simp, fun k h1 _ => by rw [heap_setCell_other _ _ _ _ (by show k ≠ w.heap.size + 2; omega), heap_setCell_other _ _ _ _ (by show k ≠ w.heap.size + 2; omega)]⟩
        · have hB9 : Below w.heap.size w w9 := ⟨hg9.os.trans HBW.out.os, hg9.tape.trans HBW.out.tape, hg9.output.trans HBW.out.output, by have := HBW.out.size; omega, fun k hk => (far9 k (by omega)).trans (HBW.out.block k hk)⟩
          exact (hB9.setCell (by show w.heap.size ≤ w.heap.size + 2; omega) _).setCell (by show w.heap.size ≤ w.heap.size + 2; omega) _
      have HMS : Hid (leftS (w.heap.size + 2) d.1.length ((w9.setCell ⟨w.heap.size + 2, 2, none⟩ (.int .i64 ((P : Int) + (m : Int)))).setCell ⟨w.heap.size + 2, 3, none⟩ (.int .i64 ((q : Int) + 1))) < leftS (w.heap.size + 2) d.1.length wr) := by
        show _ < _
        have h8 : VarJ 30 ((w9.setCell ⟨w.heap.size + 2, 2, none⟩ (.int .i64 ((P : Int) + (m : Int)))).setCell ⟨w.heap.size + 2, 3, none⟩ (.int .i64 ((q : Int) + 1))) (w.heap.size + 2) (.slice xa xn xc) (.slice ya yn yc) ((P + m : Nat) : Int) ((q + 1 : Nat) : Int) := by rw [Int.natCast_add P m, Int.natCast_add q 1]; exact V4
        rw [leftS_eq h8, leftS_eq HVV.out]; omega
      clear hG hb9 hbn far9 V4 v9 ho9 hg9 ha9 hl9 HRW HROW HRU HFU
      go_wp2
      exact ⟨HR.out, HMS.out⟩
end Go.Proofs.YtjhaanenkeceiaaDoor
end

section
/- A range over a function that keeps state of its own in cells: the statement, and one round, at the wide fence. No program's text is named here. -/
namespace Go.Proofs.YtjhaanenkeceiaaDoor
open Go.RowKit Go.Shelf
set_option linter.unusedVariables false

/-- The record of a loop that lies outermost. -/
def recOf (fn : FuncId) (tmps : Array Value) (ps : Array Tmp) (assign body : Code) (D : Nat) (st : LoopState) : Loop := { state := st, pending := none, fn := fn, tmps := tmps, params := ps, assign := assign, body := body, defers := D }

theorem range_st {P : Program} {g : Operand} {ps : Array Tmp} {assign body : Code} {Q : Exit → Act → World → Prop} {a : Act} {w : World} {gf : Nat} {bnd : Array Value} (hg : a.eval g = .func (.func gf) bnd #[])
    (eg : Enters P gf) (Fin : World → Prop)
    (hiter : ∀ fn, Calls P gf (bnd ++ #[.func (.yield (w.heap.size + 1)) #[] #[]]) ((w.alloc (.deferred (some []))).alloc (.loop (recOf fn a.tmps ps assign body w.heap.size .ready))) fun e W' => (∃ v, e = .returned v) ∧ W'.heap[w.heap.size + 1]? = some (.loop (recOf fn a.tmps ps assign body w.heap.size .ready)) ∧ Fin W')
    (hdone : ∀ (r : Loop) (W : World), Fin W → w.heap.size + 1 < W.heap.size → Q .normal { a with defers := { target := .collected w.heap.size, args := #[] } :: a.defers } (W.putObj (w.heap.size + 1) (.loop r))) :
    (Code.rangeFunc g ps assign body).wp P Q a w := by
  refine (wpIn_wide (n := 3)).1 (wpIn_rangeFunc ?_)
  intro fn hfn
  obtain ⟨W1, hW1⟩ : ∃ W1, (w.alloc (.deferred (some []))).alloc (.loop (recOf fn a.tmps ps assign body w.heap.size .ready)) = W1 := ⟨_, rfl⟩
  have hi := hiter fn
  rw [hW1] at hi
  refine ⟨w.heap.size + 1, [{ target := .collected w.heap.size, args := #[] }], W1, { target := .fn (.func gf) #[], args := bnd ++ #[.func (.yield (w.heap.size + 1)) #[] #[]] }, W1, gf, bnd ++ #[.func (.yield (w.heap.size + 1)) #[] #[]], W1, by rw [← hW1]; exact run_enterLoop_outer fn a.tmps ps assign body, ?_, fun _ _ => trivial, ?_, fun _ => by omega, ?_⟩
  · simp only [resolve, hg]
    simp [go_sem]
  · simp [invoke, go_sem, eg _ _]
  · refine callsIn_wide.2 (hi.mono ?_)
    rintro e W' ⟨⟨v, rfl⟩, hl, hF⟩
    exact ⟨none, _, run_endLoop hl (by simp [recOf]), hdone _ _ hF (Array.getElem?_eq_some_iff.1 hl).1⟩

theorem round_st {P : Program} {m L : Nat} {fn : FuncId} {tmps : Array Value} {ps : Array Tmp} {assign body : Code} {D : Nat} {args : Array Value} {W : World} {R : Ending → World → Prop} (hl : W.heap[L]? = some (.loop (recOf fn tmps ps assign body D .ready))) (hs : args.size = ps.size) (a₁ : Act)
    (hassign : ∀ K : Act → World → Prop, K a₁ W → assign.wpIn (Fence.wide.inRound L) m P (Exit.then K (fun _ _ _ => False)) { tmps := (ps.zip args).foldl (fun t (p, v) => t.setIfInBounds p v) tmps, defers := [] } W)
    (hbody : body.wpIn (Fence.wide.inRound L) m P (fun e a' W3 => e = .normal ∧ W3.heap[L]? = some (.loop (recOf fn tmps ps assign body D .busy)) ∧ R (.returned (.bool true)) (W3.putObj L (.loop (recOf fn tmps ps assign body D .ready)))) a₁ (W.putObj L (.loop (recOf fn tmps ps assign body D .busy)))) :
    YieldAt Fence.wide m P L args W R := by
  refine ⟨fn, _, assign, body, run_yield hl hs, roundIn_of_wpIn trivial (hassign _ ⟨_, run_beginRound hl rfl, ?_⟩)⟩
  refine wpIn_mono hbody ?_
  rintro e a3 W3 ⟨rfl, hl3, hR⟩
  exact ⟨_, _, run_endRound none hl3, hR⟩
end Go.Proofs.YtjhaanenkeceiaaDoor
end

section
/- A record in sectors, the program's way. No condition: where the number or the record is not as it should be, there is none. -/
namespace Go.Proofs.YtjhaanenkeceiaaDoor
open Go.RowKit
set_option linter.unusedVariables false
set_option linter.unusedSimpArgs false
attribute [local go_sem ↓] Go.wp_at_zero Go.wp_at_succ

theorem sectorsFor_any (n : Nat) (hn : n ≤ 1000000) (w : World) : Calls Tryd.prog 51 #[.int .i64 n] w fun e w' => e = .returned (.int .i64 (manyN n)) ∧ w' = w := by
  have hm : manyN n = if n = 0 then 1 else (n + 23) / 24 := rfl
  have HM : Hid _ := hm
  clear hm
  go_enter Tryd.func51, Tryd.ntmps51
  go_wp2
  · go_ret
    refine ⟨?_, rfl⟩
    have hm := HM.out
    rw [show (((n : Int) + 24 - 1) / 24) = ((manyN n : Nat) : Int) by rw [hm]; split <;> omega]
    rfl
  · go_ret
    refine ⟨?_, rfl⟩
    have hm := HM.out
    rw [show (1 : Int) = ((manyN n : Nat) : Int) by rw [hm]; split <;> omega]
    rfl

theorem putPair_any (g o m c : Nat) (n : Int) (C : List Value) (w : World) (hg : w.heap[g]? = some (.cells C.toArray 5 (0, 0))) (ho : o + 1 < C.length) (hm : 2 ≤ m) (hm2 : m ≤ 32) (hn0 : 0 ≤ n) (hn : n ≤ 60000) :
    Calls Tryd.prog 52 #[.slice (some ⟨g, o, none⟩) m c, .int .i64 n] w fun e w' => (∃ u, e = .returned u) ∧ w' = (w.setCell ⟨g, o, none⟩ (.int .u8 (n % 256))).setCell ⟨g, o + 1, none⟩ (.int .u8 (n / 256)) := by
  have z0 := row_cell (j := o) hg (by omega)
  have f0 : w.frozen? ⟨g, o, none⟩ = false := frozen_of_row _ _ _ _ _ hg
  have HG2 := row_set (j := o) (v := .int .u8 (n % 256)) hg
  have z1 := row_cell (j := o + 1) HG2 (by simp; omega)
  have f1 : (w.setCell ⟨g, o, none⟩ (.int .u8 (n % 256))).frozen? ⟨g, o + 1, none⟩ = false := frozen_of_row _ _ _ _ _ HG2
  generalize C[o]'(by omega) = y0 at z0
  generalize (C.set o (.int .u8 (n % 256)))[o + 1]'(by simp; omega) = y1 at z1
  clear HG2 hg
  go_enter Tryd.func52, Tryd.ntmps52
  go_wp2
  refine bodyPost_end (v := .tuple #[]) (by simp [results, Tryd.results52, go_sem]) rfl ⟨⟨_, rfl⟩, rfl⟩

/-- What pieceOf hands back: so many bytes from there on. -/
def PieceOut (a : Option Addr) (n k : Nat) (w : World) (e : Ending) (w' : World) : Prop :=
  ∃ a' c', e = .returned (.slice a' (Nat.min (n - 24 * k) 24) c') ∧ w' = w ∧ Nat.min (n - 24 * k) 24 ≤ c' ∧ c' ≤ 9223372036854775807 ∧ ∀ rb ro, 0 < n → a = some ⟨rb, ro, none⟩ → a' = some ⟨rb, ro + 24 * k, none⟩
theorem pieceOf_any (a : Option Addr) (n c k : Nat) (w : World) (hh : Headed a n c) (hn : n ≤ 255) (h1 : 24 * k ≤ n) (h2 : 0 < n → 24 * k < n ∧ ∃ rb ro, a = some ⟨rb, ro, none⟩) (h3 : n = 0 → k = 0) :
    Calls Tryd.prog 53 #[.slice a n c, .int .i64 k] w (PieceOut a n k w) := by
  have hnc := hh.1
  have hcm : c ≤ 9223372036854775807 := by have := hh.2.1; unfold maxLen at this; omega
  by_cases hn0 : n = 0
  · have hk0 : k = 0 := h3 hn0
    subst hk0
    subst hn0
    have hwr : IntKind.i64.wrap 0 = 0 := by decide
    cases a with
    | none =>
      obtain ⟨_, hc9⟩ := hh.2.2 rfl
      subst hc9
      clear hh h1 h2 h3
      go_enter Tryd.func53, Tryd.ntmps53
      go_wp2
      go_ret
      exact ⟨_, _, rfl, rfl, Nat.le_refl _, Nat.zero_le _, fun _ _ h => absurd h (Nat.lt_irrefl _)⟩
    | some ad =>
      obtain ⟨rb, ro, rs⟩ := ad
      by_cases hc0 : c = 0
      · subst hc0
        clear hh h1 h2 h3
        go_enter Tryd.func53, Tryd.ntmps53
        go_wp2
        go_ret
        exact ⟨_, _, rfl, rfl, Nat.le_refl _, Nat.zero_le _, fun _ _ h => absurd h (Nat.lt_irrefl _)⟩
      · clear hh h1 h2 h3
        go_enter Tryd.func53, Tryd.ntmps53
        go_wp2
        go_ret
        exact ⟨_, _, rfl, rfl, Nat.zero_le _, by omega, fun _ _ h => absurd h (Nat.lt_irrefl _)⟩
  · obtain ⟨h4, rb, ro, rfl⟩ := h2 (by omega)
    have hkc : ¬ c = k * 24 := by omega
    clear hh h2 h3
    go_enter Tryd.func53, Tryd.ntmps53
    go_wp2
    · go_ret
      have e1 : n - k * 24 = Nat.min (n - 24 * k) 24 := by
        show _ = min _ _
        omega
      refine ⟨some ⟨rb, ro + k * 24, none⟩, c - k * 24, by rw [← e1]; rfl, rfl, by omega, by omega, fun b2 o2 _ h => ?_⟩
      simp only [Option.some.injEq, Addr.mk.injEq, and_true] at h
      obtain ⟨rfl, rfl⟩ := h
      rw [Nat.mul_comm]
    · go_ret
      have e1 : ((k : Int) * 24 + 24).toNat - k * 24 = Nat.min (n - 24 * k) 24 := by
        show _ = min _ _
        omega
      refine ⟨some ⟨rb, ro + k * 24, none⟩, c - k * 24, by rw [← e1]; rfl, rfl, by omega, by omega, fun b2 o2 _ h => ?_⟩
      simp only [Option.some.injEq, Addr.mk.injEq, and_true] at h
      obtain ⟨rfl, rfl⟩ := h
      rw [Nat.mul_comm]

set_option maxHeartbeats 400000 in
theorem newSector_nil (w : World) :
    Calls Tryd.prog 35 #[.slice none 0 0] w fun e w' => e = .returned (.slice (some ⟨w.heap.size, 0, none⟩) 32 32) ∧ w'.heap[w.heap.size]? = some (.cells (bcells (List.replicate 32 0)).toArray 5 (0, 0)) ∧ Below w.heap.size w w' := by
  obtain ⟨i0, hi, hz0, hz1, hz2⟩ := info_parts Tryd.infoB
  go_enter Tryd.func35, Tryd.ntmps35
  go_wp2_with (first
    | (at_make; refine wpList_make_full _ rfl _ _ 22 rfl w.heap.size 5 i0 (.int .u8 0) 1 Tryd.underlying22 hi hz0 hz1 .i64 .i64 _ _ 32 rfl rfl rfl rfl (by rw [hz2]; omega) (by unfold maxLen; omega) (Nat.le_refl _) ?_; intro w1 hown hgrow; have hb1 : Below w.heap.size w w1 := (Below.refl _ _).grown hgrow (Nat.le_refl _) (fun k h => by cases h); rw [madeCells_bytes] at hown; have HG1 : Hid _ := full_heap hown; clear hown hgrow)
    | (refine wpList_copy_splice rfl (.tmp 5) (.tmp 6) 22 22 rfl 5 Tryd.underlying22 Tryd.sizeB _ _ _ _ _ _ rfl rfl w.heap.size 0 _ 5 HG1.out [] rfl (fun h0 => absurd h0 (Nat.lt_irrefl _)) (Nat.zero_le _) (fun _ h => by cases h) w.heap.size w hb1 (Nat.le_refl _) ?_; intro w2 HG2 hb2))
  all_goals
    go_ret
    exact ⟨rfl, by have := HG2.out; simpa [splice] using this, hb2⟩

def FIRel (w w1 : World) (p : Nat) (zs : List Int) (m : Nat) (i : Value) (wr : World) : Prop :=
  ∃ (k : Nat) (vs : List Value), k ≤ m ∧ i = .int .i64 k ∧ Hid (PartX wr w.heap.size w.heap.size w1.heap.size m (frameN p zs) k vs) ∧ Below w.heap.size w wr

set_option maxRecDepth 100000 in
set_option maxHeartbeats 4000000 in
theorem implFrame_in (p : Nat) (hp : p < 60000) (sv : Value) (zs : List Int) (lz hz : Nat) (w : World) (rz : RdB w lz hz sv zs) (hhz : hz ≤ w.heap.size) (hn200 : zs.length ≤ 200) :
    Calls Tryd.prog 16 #[.int .i64 p, sv] w fun e w' => ∃ x vs, e = .returned x ∧ OwX w' w.heap.size w'.heap.size x (frameN p zs) vs ∧ Below w.heap.size w w' := by
  obtain ⟨hzb, a, n, c, rfl, hn, hhd, hrr⟩ := rz.reads
  obtain ⟨j0, hj, hy0, hy1, hy2⟩ := info_parts Tryd.infoBB
  have HN : Hid _ := hn
  have HRR : Hid _ := hrr
  have HZB : Hid _ := hzb
  have HHD : Hid _ := hhd
  have hnc := hhd.1
  have hcm : c ≤ 9223372036854775807 := by have := hhd.2.1; unfold maxLen at this; omega
  have hn9 : n ≤ 200 := by omega
  have hm9 := manyN_le n hn9
  have hma : ∀ k, k < manyN n → 24 * k ≤ n ∧ (0 < n → 24 * k < n) ∧ (n = 0 → k = 0) := manyN_at n
  have HMA : Hid _ := hma
  have HSF : Hid _ := sectorsFor_any n (by omega) w
  obtain ⟨m, hm⟩ : ∃ m, manyN n = m := ⟨_, rfl⟩
  rw [hm] at HMA hm9 HSF
  have hmz : manyN zs.length = m := by rw [← hn]; exact hm
  have HM : Hid (manyN n = m) := hm
  have HMZ : Hid (manyN zs.length = m) := hmz
  have HFL : Hid ((frameN p zs).length = m) := by show _ = _; unfold frameN; rw [List.length_map, List.length_range, hmz]
  have hd0 : decide ((p : Int) < 0) = false := by simp
  have hd1 : decide ((60000 : Int) ≤ (p : Int)) = false := by simp; omega
  have hd2 : decide ((200 : Int) < (n : Int)) = false := by simp; omega
  clear hn hrr hzb hhd hma hm hmz rz hn200
  go_enter Tryd.func16, Tryd.ntmps16
  go_wp2_with fail
  refine Calls.mono HSF.out ?_
  rintro e w9 ⟨rfl, hw9⟩
  subst hw9
  clear HSF
  go_wp2_with (at_make; refine wpList_make_full _ rfl _ _ 23 rfl w9.heap.size 22 j0 (.slice none 0 0) 1 Tryd.underlying23 hj hy0 hy1 .i64 .i64 _ _ m rfl rfl rfl rfl (by rw [hy2]; omega) (by unfold maxLen; omega) (Nat.le_refl _) ?_; intro w1 hown hgrow)
  have hb1 : Below w9.heap.size w9 w1 := (Below.refl _ _).grown hgrow (Nat.le_refl _) (fun k h => by cases h)
  have hs1 : w9.heap.size < w1.heap.size := (hown.lt _ rfl).2
  have HST : Hid (FIRel w9 w1 p zs m (.int .i64 0) w1) := by
    refine ⟨0, [], Nat.zero_le _, rfl, ⟨rfl, ?_, ⟨Nat.le_refl _, hs1⟩, fun i hi => absurd hi (Nat.not_lt_zero _), fun i j q _ hj => absurd hj (Nat.not_lt_zero _)⟩, hb1⟩
    rw [List.nil_append, Nat.sub_zero, ← madeCells_nil]; exact hown
  clear hgrow hown hb1
  go_loopw [25] (fun i wr => FIRel w9 w1 p zs m i wr) (fun i _ => m - (intOf i).toNat)
  case atStart => exact HST.out
  case round =>
    clear HST
    obtain ⟨k, vs, hk, rfl, HP, hbel⟩ := hrel
    have hs0 := hbel.size
    by_cases hlt : k < m
    · obtain ⟨hk1, hk2, hk3⟩ := HMA.out k hlt
      have hlt9 : (k : Int) < (m : Int) := by omega
      have hpl := pieceN_length zs k
      rw [← HN.out] at hpl
      have hpl2 : (pieceN zs k).length ≤ 24 := by rw [hpl]; exact Nat.min_le_right _ _
      have hsl := sec_laid ((p : Int) % 256) ((p : Int) / 256) (k : Int) (m : Int) (n : Int) (((p : Int) + 1) % 256) (((p : Int) + 1) / 256) (pieceN zs k) hpl2
      have hse : [((p : Int) % 256), ((p : Int) / 256), (k : Int), (m : Int), (n : Int), 0] ++ (pieceN zs k ++ (List.replicate (24 - (pieceN zs k).length) 0 ++ [(((p : Int) + 1) % 256), (((p : Int) + 1) / 256)])) = secN p zs k := by unfold secN; rw [HMZ.out, ← HN.out]
      rw [hse] at hsl
      obtain ⟨X, hX⟩ : ∃ X, X = bcells (pieceN zs k) := ⟨_, rfl⟩
      rw [← hX] at hsl
      have hXl : X.length = Nat.min (n - 24 * k) 24 := by rw [hX, bcells_length]; exact hpl
      have hX24 : X.length ≤ 24 := by rw [hX, bcells_length]; exact hpl2
      have HX1 : Hid (∀ v ∈ X, v.oneCell' = true) := by show ∀ v ∈ X, v.oneCell' = true; rw [hX]; exact bcells_one _
      have HXM : Hid (X.length = Nat.min (Nat.min (n - 24 * k) 24) 26) := by
        show _ = _
        rw [hXl]
        show min (n - 24 * k) 24 = min (min (n - 24 * k) 24) 26
        omega
      have HXS : Hid (∀ W, Below wr.heap.size wr W → 0 < X.length → ∃ rb ro, a = some ⟨rb, ro, none⟩ ∧ ∀ j v, X[j]? = some v → W.cell? ⟨rb, ro + 24 * k + j, none⟩ = some v) := fun W hW h0 => by
        rcases HRR.out.2 with e | ⟨rb, ro, ha, hrb, hrc⟩
        · rw [hX, bcells_length, pieceN_length, e] at h0; simp at h0
        · refine ⟨rb, ro, ha, fun j v hv => ?_⟩
          have hj : j < X.length := by rcases Nat.lt_or_ge j X.length with h9 | h9
                                       · exact h9
                                       · rw [List.getElem?_eq_none h9] at hv; cases hv
          have hj2 : j < n - 24 * k := by rw [hXl] at hj; exact Nat.lt_of_lt_of_le hj (Nat.min_le_left _ _)
          have hj3 : j < 24 := by rw [hXl] at hj; exact Nat.lt_of_lt_of_le hj (Nat.min_le_right _ _)
          have h9 := hrc (24 * k + j) (by rw [← HN.out]; omega)
          have h8 : W.cell? ⟨rb, ro + 24 * k + j, none⟩ = w9.cell? ⟨rb, ro + 24 * k + j, none⟩ := World.cell?_of_block (a := ⟨rb, ro + 24 * k + j, none⟩) ((hW.block rb (by omega)).trans (hbel.block rb hrb))
          rw [h8, Nat.add_assoc, h9]
          rw [hX] at hv
          unfold bcells pieceN at hv
          rw [List.getElem?_map, List.getElem?_take, if_pos hj3, List.getElem?_drop] at hv
          have h7 : 24 * k + j < zs.length := by rw [← HN.out]; omega
          rw [List.getElem?_eq_getElem h7] at hv ⊢
          simpa using hv
      have hn0X : 0 < X.length → 0 < n := fun h => by
        rw [hXl] at h
        have h2 := Nat.lt_of_lt_of_le h (Nat.min_le_left _ _)
        omega
      have HSL : Hid _ := hsl
      have HN0 : Hid _ := hn0X
      have HNS : Hid _ := newSector_nil wr
      clear hpl hpl2 hsl hse hX hXl hn0X
      go_wp2_with fail
      refine Calls.mono HNS.out ?_
      rintro e w2 ⟨rfl, hg1, hb2⟩
      have hs2 : wr.heap.size < w2.heap.size := lt_of_block hg1
      have HPP : Hid _ := putPair_any wr.heap.size 0 32 32 (p : Int) _ w2 hg1 (by simp) (by omega) (by omega) (by omega) (by omega)
      have HG3 : Hid _ := row_set (j := 1) (v := .int .u8 ((p : Int) / 256)) (row_set (j := 0) (v := .int .u8 ((p : Int) % 256)) hg1)
      have hb3 : Below wr.heap.size wr ((w2.setCell ⟨wr.heap.size, 0, none⟩ (.int .u8 ((p : Int) % 256))).setCell ⟨wr.heap.size, 1, none⟩ (.int .u8 ((p : Int) / 256))) := (hb2.setCell (Nat.le_refl _) _).setCell (Nat.le_refl _) _
      generalize (w2.setCell ⟨wr.heap.size, 0, none⟩ (.int .u8 ((p : Int) % 256))).setCell ⟨wr.heap.size, 0 + 1, none⟩ (.int .u8 ((p : Int) / 256)) = w3 at HG3 hb3 HPP
      have hs3 : wr.heap.size < w3.heap.size := lt_of_block HG3.out
      clear hg1 hb2 HNS
      go_wp2_with fail
      refine Calls.mono HPP.out ?_
      rintro e w4 ⟨⟨u, rfl⟩, hw4⟩
      subst hw4
      have z2 := row_cell (j := 2) HG3.out (by simp)
      have z3 := row_cell (j := 3) HG3.out (by simp)
      have z4 := row_cell (j := 4) HG3.out (by simp)
      have q2 : w4.frozen? ⟨wr.heap.size, 2, none⟩ = false := frozen_of_row _ _ _ _ _ HG3.out
      have q3 : w4.frozen? ⟨wr.heap.size, 3, none⟩ = false := frozen_of_row _ _ _ _ _ HG3.out
      have q4 : w4.frozen? ⟨wr.heap.size, 4, none⟩ = false := frozen_of_row _ _ _ _ _ HG3.out
      have HB3 : Hid _ := hb3
      clear HPP hb3
      go_wp2
      have HG5 : Hid _ := row_set (j := 4) (v := .int .u8 (n : Int)) (row_set (j := 3) (v := .int .u8 (m : Int)) (row_set (j := 2) (v := .int .u8 (k : Int)) HG3.out))
      have hb5 : Below wr.heap.size wr (((w4.setCell ⟨wr.heap.size, 2, none⟩ (.int .u8 (k : Int))).setCell ⟨wr.heap.size, 3, none⟩ (.int .u8 (m : Int))).setCell ⟨wr.heap.size, 4, none⟩ (.int .u8 (n : Int))) := ((HB3.out.setCell (Nat.le_refl _) _).setCell (Nat.le_refl _) _).setCell (Nat.le_refl _) _
      generalize (((w4.setCell ⟨wr.heap.size, 2, none⟩ (.int .u8 (k : Int))).setCell ⟨wr.heap.size, 3, none⟩ (.int .u8 (m : Int))).setCell ⟨wr.heap.size, 4, none⟩ (.int .u8 (n : Int))) = w5 at HG5 hb5 ⊢
      generalize (((((bcells (List.replicate 32 0)).set 0 (.int .u8 ((p : Int) % 256))).set 1 (.int .u8 ((p : Int) / 256))).set 2 (.int .u8 (k : Int))).set 3 (.int .u8 (m : Int))).set 4 (.int .u8 (n : Int)) = C5 at HG5 HSL
      have HC5 : Hid (C5.length = 32) := by
        show _ = _
        have h9 := congrArg List.length HSL.out
        rw [List.length_set, List.length_set, bcells_length, secN_length] at h9
        unfold splice at h9
        simp only [List.length_append, List.length_take, List.length_drop] at h9
        omega
      have HPO : Hid _ := pieceOf_any a n c k w5.drew HHD.out (by omega) hk1 (fun h0 => ⟨hk2 h0, by
        rcases HRR.out.2 with e | ⟨rb, ro, ha, _⟩
        · have := HN.out; rw [e] at this; simp at this; omega
        · exact ⟨rb, ro, ha⟩⟩) hk3
      have HSRC : Hid (∀ a9 : Option Addr, (∀ rb ro, 0 < n → a = some ⟨rb, ro, none⟩ → a9 = some ⟨rb, ro + 24 * k, none⟩) → 0 < X.length → ∃ ad, a9 = some ad ∧ ∀ j v, X[j]? = some v → w5.drew.cell? (ad.add j) = some v) := fun a9 hA h0 => by
        obtain ⟨rb, ro, h1, h2⟩ := HXS.out _ (Below.drew hb5) h0
        exact ⟨_, hA rb ro (HN0.out h0) h1, fun j v hv => by rw [add_at]; exact h2 j v hv⟩
      clear HXS HN0 HB3 z2 z3 z4 q2 q3 q4 hs3 HG3
      refine wp_region_noPanic ?_
      refine wp_region_held_drew (S := fun _ => True) (by kernel_rfl) trivial (fun hHeld => ?_)
      clear hHeld
      refine wpAnyH_take (i := 0) (v := ?_) rfl (by kernel_rfl) (by kernel_rfl) (by kernel_rfl) (fun _ _ _ h => h) (Or.inl ⟨by rfl, ?_⟩) trivial ?_
      rotate_left
      · (intro w_ hSw_; (try dsimp only at hSw_); go_simp; try with_reducible rfl)
      try simp only [Act.put, List.setIfInBounds_toArray, List.set_cons_zero, List.set_cons_succ, List.getElem_toArray, List.getElem_cons_zero, List.getElem_cons_succ]
      refine wpAnyH_take (i := 1) (v := ?_) rfl (by kernel_rfl) (by kernel_rfl) (by kernel_rfl) (fun _ _ _ h => h) (Or.inl ⟨by rfl, ?_⟩) trivial ?_
      rotate_left
      · (intro w_ hSw_; (try dsimp only at hSw_); go_simp; try with_reducible rfl)
      try simp only [Act.put, List.setIfInBounds_toArray, List.set_cons_zero, List.set_cons_succ, List.getElem_toArray, List.getElem_cons_zero, List.getElem_cons_succ]
      refine wpAnyH_take (i := 2) (v := ?_) rfl (by kernel_rfl) (by kernel_rfl) (by kernel_rfl) (fun _ _ _ h => h) (Or.inl ⟨by rfl, ?_⟩) trivial ?_
      rotate_left
      · (intro w_ hSw_; (try dsimp only at hSw_); go_simp; try with_reducible rfl)
      try simp only [Act.put, List.setIfInBounds_toArray, List.set_cons_zero, List.set_cons_succ, List.getElem_toArray, List.getElem_cons_zero, List.getElem_cons_succ]
      refine wpAnyH_take (i := 3) (v := ?_) rfl (by kernel_rfl) (by kernel_rfl) (by kernel_rfl) (fun _ _ _ h => h) (Or.inl ⟨by rfl, ?_⟩) trivial ?_
      rotate_left
      · (intro w_ hSw_; (try dsimp only at hSw_); go_simp; try with_reducible rfl)
      try simp only [Act.put, List.setIfInBounds_toArray, List.set_cons_zero, List.set_cons_succ, List.getElem_toArray, List.getElem_cons_zero, List.getElem_cons_succ]
      refine wpAnyH_ready (rs := [4]) (by kernel_rfl) (by simp) ?_
      refine AllReadyH.cons rfl (fun K hK => ?_) AllReadyH.nil
      go_simp
      refine Calls.mono HPO.out ?_
      rintro e w7 ⟨a9, c9, rfl, hw7, hc91, hc92, hA9⟩
      subst hw7
      have HA9 : Hid _ := hA9
      clear hA9
      go_wp2_with fail
      refine hK.out _ _ trivial (fun hHeld => ?_)
      clear hK K hHeld
      try simp only [Act.put, List.setIfInBounds_toArray, List.set_cons_zero, List.set_cons_succ, List.getElem_toArray, List.getElem_cons_zero, List.getElem_cons_succ]
      refine wpAnyH_ready (rs := [5]) (by kernel_rfl) (by simp) ?_
      refine AllReadyH.cons rfl (fun K hK => ?_) AllReadyH.nil
      refine step_copy_splice rfl (.tmp 48) (.tmp 51) 22 22 rfl 5 Tryd.underlying22 Tryd.sizeB _ _ _ _ _ _ (by rfl) (by rfl) wr.heap.size 6 C5 5 HG5.out X HXM.out (fun h0 => ⟨rfl, HSRC.out a9 HA9.out h0⟩) (by rw [HC5.out]; omega) HX1.out wr.heap.size wr (Below.drew hb5) (Nat.le_refl _) ?_
      intro w6 HG6 hb6
      refine hK.out _ _ trivial (fun hHeld => ?_)
      clear hK K hHeld
      try simp only [Act.put, List.setIfInBounds_toArray, List.set_cons_zero, List.set_cons_succ, List.getElem_toArray, List.getElem_cons_zero, List.getElem_cons_succ]
      refine wpAnyH_done (by kernel_rfl) (NoPanic.normal ?_) _
      have hl6 : (splice C5 6 X).length = 32 := by rw [length_splice _ _ _ (by rw [HC5.out]; omega)]; exact HC5.out
      have HPP : Hid _ := putPair_any wr.heap.size 30 2 2 ((p : Int) + 1) (splice C5 6 X) w6 HG6.out (by rw [hl6]; omega) (by omega) (by omega) (by omega) (by omega)
      have HG8 : Hid _ := row_set (j := 31) (v := .int .u8 (((p : Int) + 1) / 256)) (row_set (j := 30) (v := .int .u8 (((p : Int) + 1) % 256)) HG6.out)
      rw [HSL.out] at HG8
      have hb8 : Below wr.heap.size wr ((w6.setCell ⟨wr.heap.size, 30, none⟩ (.int .u8 (((p : Int) + 1) % 256))).setCell ⟨wr.heap.size, 31, none⟩ (.int .u8 (((p : Int) + 1) / 256))) := (hb6.setCell (Nat.le_refl _) _).setCell (Nat.le_refl _) _
      have ho8 := full_owns (base := wr.heap.size) (n := 32) (secN_length p zs k).symm (Nat.le_refl _) (by rw [secN_length]; omega) HG8.out
      generalize (w6.setCell ⟨wr.heap.size, 30, none⟩ (.int .u8 (((p : Int) + 1) % 256))).setCell ⟨wr.heap.size, 30 + 1, none⟩ (.int .u8 (((p : Int) + 1) / 256)) = w8 at hb8 ho8 HPP
      have hP8 := PartX.below HP.out hb8
      obtain ⟨⟨v0, hv0⟩, hfz⟩ := hP8.slot hlt
      have HR : Hid (FIRel w9 w1 p zs m (.int .i64 ((k : Int) + 1)) (w8.setCell ⟨w9.heap.size, k, none⟩ (.slice (some ⟨wr.heap.size, 0, none⟩) 32 32))) := by
        have hk9 := HMZ.out
        refine ⟨k + 1, _, by omega, by go_num, PartX.next HP.out hlt hb8 (secN_bytes p (by omega) zs HZB.out (by rw [← HN.out]; exact hn9) k (by omega)) ho8 ?_, ?_⟩
        · unfold frameN
          rw [List.getElem?_map, List.getElem?_range (by omega)]; rfl
        · exact (hbel.trans (hb8.mono hbel.size)).setCell (Nat.le_refl _) _
      have hi0 : (0 : Int) ≤ (k : Int) := by omega
      clear hl6 hb8 ho8 hP8 HG6 HG5 HG8 hb6 hb5 HC5 HSL HP hbel HXM HX1 HSRC HPO HA9
      go_wp2_with fail
      refine Calls.mono HPP.out ?_
      rintro e w10 ⟨⟨u, rfl⟩, hw10⟩
      subst hw10
      clear HPP
      go_wp2
      refine ⟨?_, by simp [intOf]; omega⟩
      first | exact HR.out | exact ⟨_, HR.out, rfl⟩ | exact ⟨_, _, HR.out, rfl⟩ | exact ⟨_, _, _, HR.out, rfl⟩ | exact ⟨_, _, _, _, HR.out, rfl⟩ | exact ⟨_, _, _, _, _, HR.out, rfl⟩ | exact ⟨_, _, _, _, _, _, HR.out, rfl⟩ | exact ⟨_, _, _, _, _, _, _, HR.out, rfl⟩ | exact ⟨_, _, _, _, _, _, _, _, HR.out, rfl⟩ | exact ⟨_, _, _, _, _, _, _, _, _, HR.out, rfl⟩ | exact ⟨_, _, _, _, _, _, _, _, _, _, HR.out, rfl⟩ | exact ⟨_, _, _, _, _, _, _, _, _, _, _, HR.out, rfl⟩ | exact ⟨_, _, _, _, _, _, _, _, _, _, _, _, HR.out, rfl⟩ | exact ⟨_, _, _, _, _, _, _, _, _, _, _, _, _, HR.out, rfl⟩ | exact ⟨_, _, _, _, _, _, _, _, _, _, _, _, _, _, HR.out, rfl⟩ | exact ⟨_, _, _, _, _, _, _, _, _, _, _, _, _, _, _, HR.out, rfl⟩ | exact ⟨_, _, _, _, _, _, _, _, _, _, _, _, _, _, _, _, HR.out, rfl⟩ | exact ⟨_, _, _, _, _, _, _, _, _, _, _, _, _, _, _, _, _, HR.out, rfl⟩ | exact ⟨_, _, _, _, _, _, _, _, _, _, _, _, _, _, _, _, _, _, HR.out, rfl⟩ | exact ⟨_, _, _, _, _, _, _, _, _, _, _, _, _, _, _, _, _, _, _, HR.out, rfl⟩ | exact ⟨_, _, _, _, _, _, _, _, _, _, _, _, _, _, _, _, _, _, _, _, HR.out, rfl⟩ | exact ⟨_, _, _, _, _, _, _, _, _, _, _, _, _, _, _, _, _, _, _, _, _, HR.out, rfl⟩ | exact ⟨_, _, _, _, _, _, _, _, _, _, _, _, _, _, _, _, _, _, _, _, _, _, HR.out, rfl⟩ | exact ⟨_, _, _, _, _, _, _, _, _, _, _, _, _, _, _, _, _, _, _, _, _, _, _, HR.out, rfl⟩ | exact ⟨_, _, _, _, _, _, _, _, _, _, _, _, _, _, _, _, _, _, _, _, _, _, _, _, HR.out, rfl⟩ | exact ⟨_, _, _, _, _, _, _, _, _, _, _, _, _, _, _, _, _, _, _, _, _, _, _, _, _, HR.out, rfl⟩ | exact ⟨_, _, _, _, _, _, _, _, _, _, _, _, _, _, _, _, _, _, _, _, _, _, _, _, _, _, HR.out, rfl⟩ | exact ⟨_, _, _, _, _, _, _, _, _, _, _, _, _, _, _, _, _, _, _, _, _, _, _, _, _, _, _, HR.out, rfl⟩ | exact ⟨_, _, _, _, _, _, _, _, _, _, _, _, _, _, _, _, _, _, _, _, _, _, _, _, _, _, _, _, HR.out, rfl⟩ | exact ⟨_, _, _, _, _, _, _, _, _, _, _, _, _, _, _, _, _, _, _, _, _, _, _, _, _, _, _, _, _, HR.out, rfl⟩ | exact ⟨_, _, _, _, _, _, _, _, _, _, _, _, _, _, _, _, _, _, _, _, _, _, _, _, _, _, _, _, _, _, HR.out, rfl⟩ | exact ⟨_, _, _, _, _, _, _, _, _, _, _, _, _, _, _, _, _, _, _, _, _, _, _, _, _, _, _, _, _, _, _, HR.out, rfl⟩ | exact ⟨_, _, _, _, _, _, _, _, _, _, _, _, _, _, _, _, _, _, _, _, _, _, _, _, _, _, _, _, _, _, _, _, HR.out, rfl⟩ | exact ⟨_, _, _, _, _, _, _, _, _, _, _, _, _, _, _, _, _, _, _, _, _, _, _, _, _, _, _, _, _, _, _, _, _, HR.out, rfl⟩ | exact ⟨_, _, _, _, _, _, _, _, _, _, _, _, _, _, _, _, _, _, _, _, _, _, _, _, _, _, _, _, _, _, _, _, _, _, HR.out, rfl⟩ | exact ⟨_, _, _, _, _, _, _, _, _, _, _, _, _, _, _, _, _, _, _, _, _, _, _, _, _, _, _, _, _, _, _, _, _, _, _, HR.out, rfl⟩ | exact ⟨_, _, _, _, _, _, _, _, _, _, _, _, _, _, _, _, _, _, _, _, _, _, _, _, _, _, _, _, _, _, _, _, _, _, _, _, HR.out, rfl⟩ | exact ⟨_, _, _, _, _, _, _, _, _, _, _, _, _, _, _, _, _, _, _, _, _, _, _, _, _, _, _, _, _, _, _, _, _, _, _, _, _, HR.out, rfl⟩ | exact ⟨_, _, _, _, _, _, _, _, _, _, _, _, _, _, _, _, _, _, _, _, _, _, _, _, _, _, _, _, _, _, _, _, _, _, _, _, _, _, HR.out, rfl⟩ | exact ⟨_, _, _, _, _, _, _, _, _, _, _, _, _, _, _, _, _, _, _, _, _, _, _, _, _, _, _, _, _, _, _, _, _, _, _, _, _, _, _, HR.out, rfl⟩ | exact ⟨_, _, _, _, _, _, _, _, _, _, _, _, _, _, _, _, _, _, _, _, _, _, _, _, _, _, _, _, _, _, _, _, _, _, _, _, _, _, _, _, HR.out, rfl⟩ | exact ⟨_, _, _, _, _, _, _, _, _, _, _, _, _, _, _, _, _, _, _, _, _, _, _, _, _, _, _, _, _, _, _, _, _, _, _, _, _, _, _, _, _, HR.out, rfl⟩ | exact ⟨_, _, _, _, _, _, _, _, _, _, _, _, _, _, _, _, _, _, _, _, _, _, _, _, _, _, _, _, _, _, _, _, _, _, _, _, _, _, _, _, _, _, HR.out, rfl⟩ | exact ⟨_, _, _, _, _, _, _, _, _, _, _, _, _, _, _, _, _, _, _, _, _, _, _, _, _, _, _, _, _, _, _, _, _, _, _, _, _, _, _, _, _, _, _, HR.out, rfl⟩ | exact ⟨_, _, _, _, _, _, _, _, _, _, _, _, _, _, _, _, _, _, _, _, _, _, _, _, _, _, _, _, _, _, _, _, _, _, _, _, _, _, _, _, _, _, _, _, HR.out, rfl⟩ | exact ⟨_, _, _, _, _, _, _, _, _, _, _, _, _, _, _, _, _, _, _, _, _, _, _, _, _, _, _, _, _, _, _, _, _, _, _, _, _, _, _, _, _, _, _, _, _, HR.out, rfl⟩ | exact ⟨_, _, _, _, _, _, _, _, _, _, _, _, _, _, _, _, _, _, _, _, _, _, _, _, _, _, _, _, _, _, _, _, _, _, _, _, _, _, _, _, _, _, _, _, _, _, HR.out, rfl⟩ | exact ⟨_, _, _, _, _, _, _, _, _, _, _, _, _, _, _, _, _, _, _, _, _, _, _, _, _, _, _, _, _, _, _, _, _, _, _, _, _, _, _, _, _, _, _, _, _, _, _, HR.out, rfl⟩ | exact ⟨_, _, _, _, _, _, _, _, _, _, _, _, _, _, _, _, _, _, _, _, _, _, _, _, _, _, _, _, _, _, _, _, _, _, _, _, _, _, _, _, _, _, _, _, _, _, _, _, HR.out, rfl⟩ | exact ⟨_, _, _, _, _, _, _, _, _, _, _, _, _, _, _, _, _, _, _, _, _, _, _, _, _, _, _, _, _, _, _, _, _, _, _, _, _, _, _, _, _, _, _, _, _, _, _, _, _, HR.out, rfl⟩ | exact ⟨_, _, _, _, _, _, _, _, _, _, _, _, _, _, _, _, _, _, _, _, _, _, _, _, _, _, _, _, _, _, _, _, _, _, _, _, _, _, _, _, _, _, _, _, _, _, _, _, _, _, HR.out, rfl⟩ | exact ⟨_, _, _, _, _, _, _, _, _, _, _, _, _, _, _, _, _, _, _, _, _, _, _, _, _, _, _, _, _, _, _, _, _, _, _, _, _, _, _, _, _, _, _, _, _, _, _, _, _, _, _, HR.out, rfl⟩ | exact ⟨_, _, _, _, _, _, _, _, _, _, _, _, _, _, _, _, _, _, _, _, _, _, _, _, _, _, _, _, _, _, _, _, _, _, _, _, _, _, _, _, _, _, _, _, _, _, _, _, _, _, _, _, HR.out, rfl⟩ | exact ⟨_, _, _, _, _, _, _, _, _, _, _, _, _, _, _, _, _, _, _, _, _, _, _, _, _, _, _, _, _, _, _, _, _, _, _, _, _, _, _, _, _, _, _, _, _, _, _, _, _, _, _, _, _, HR.out, rfl⟩ | exact ⟨_, _, _, _, _, _, _, _, _, _, _, _, _, _, _, _, _, _, _, _, _, _, _, _, _, _, _, _, _, _, _, _, _, _, _, _, _, _, _, _, _, _, _, _, _, _, _, _, _, _, _, _, _, _, HR.out, rfl⟩ | exact ⟨_, _, _, _, _, _, _, _, _, _, _, _, _, _, _, _, _, _, _, _, _, _, _, _, _, _, _, _, _, _, _, _, _, _, _, _, _, _, _, _, _, _, _, _, _, _, _, _, _, _, _, _, _, _, _, HR.out, rfl⟩ | exact ⟨_, _, _, _, _, _, _, _, _, _, _, _, _, _, _, _, _, _, _, _, _, _, _, _, _, _, _, _, _, _, _, _, _, _, _, _, _, _, _, _, _, _, _, _, _, _, _, _, _, _, _, _, _, _, _, _, HR.out, rfl⟩ | exact ⟨_, _, _, _, _, _, _, _, _, _, _, _, _, _, _, _, _, _, _, _, _, _, _, _, _, _, _, _, _, _, _, _, _, _, _, _, _, _, _, _, _, _, _, _, _, _, _, _, _, _, _, _, _, _, _, _, _, HR.out, rfl⟩ | exact ⟨_, _, _, _, _, _, _, _, _, _, _, _, _, _, _, _, _, _, _, _, _, _, _, _, _, _, _, _, _, _, _, _, _, _, _, _, _, _, _, _, _, _, _, _, _, _, _, _, _, _, _, _, _, _, _, _, _, _, HR.out, rfl⟩ | exact ⟨_, _, _, _, _, _, _, _, _, _, _, _, _, _, _, _, _, _, _, _, _, _, _, _, _, _, _, _, _, _, _, _, _, _, _, _, _, _, _, _, _, _, _, _, _, _, _, _, _, _, _, _, _, _, _, _, _, _, _, HR.out, rfl⟩ | exact ⟨_, _, _, _, _, _, _, _, _, _, _, _, _, _, _, _, _, _, _, _, _, _, _, _, _, _, _, _, _, _, _, _, _, _, _, _, _, _, _, _, _, _, _, _, _, _, _, _, _, _, _, _, _, _, _, _, _, _, _, _, HR.out, rfl⟩ | exact ⟨_, _, _, _, _, _, _, _, _, _, _, _, _, _, _, _, _, _, _, _, _, _, _, _, _, _, _, _, _, _, _, _, _, _, _, _, _, _, _, _, _, _, _, _, _, _, _, _, _, _, _, _, _, _, _, _, _, _, _, _, _, HR.out, rfl⟩ | exact ⟨_, _, _, _, _, _, _, _, _, _, _, _, _, _, _, _, _, _, _, _, _, _, _, _, _, _, _, _, _, _, _, _, _, _, _, _, _, _, _, _, _, _, _, _, _, _, _, _, _, _, _, _, _, _, _, _, _, _, _, _, _, _, HR.out, rfl⟩ | exact ⟨_, _, _, _, _, _, _, _, _, _, _, _, _, _, _, _, _, _, _, _, _, _, _, _, _, _, _, _, _, _, _, _, _, _, _, _, _, _, _, _, _, _, _, _, _, _, _, _, _, _, _, _, _, _, _, _, _, _, _, _, _, _, _, HR.out, rfl⟩ | exact ⟨_, _, _, _, _, _, _, _, _, _, _, _, _, _, _, _, _, _, _, _, _, _, _, _, _, _, _, _, _, _, _, _, _, _, _, _, _, _, _, _, _, _, _, _, _, _, _, _, _, _, _, _, _, _, _, _, _, _, _, _, _, _, _, _, HR.out, rfl⟩ | exact ⟨_, _, _, _, _, _, _, _, _, _, _, _, _, _, _, _, _, _, _, _, _, _, _, _, _, _, _, _, _, _, _, _, _, _, _, _, _, _, _, _, _, _, _, _, _, _, _, _, _, _, _, _, _, _, _, _, _, _, _, _, _, _, _, _, _, HR.out, rfl⟩
    · have hkm : k = m := by omega
      have hk9 : ¬ (k : Int) < (m : Int) := by omega
      subst hkm
      have HF : Hid (OwX wr w9.heap.size wr.heap.size (.slice (some ⟨w9.heap.size, 0, none⟩) k k) (frameN p zs) vs) := PartX.done HP.out HFL.out.symm (by omega)
      have HB : Hid _ := hbel
      clear HP hbel
      go_wp2
      go_ret
      first | exact ⟨_, _, rfl, HF.out, HB.out⟩ | exact ⟨_, rfl, ⟨_, HF.out⟩, HB.out⟩

set_option maxHeartbeats 1000000 in
theorem implFrame_all (p : Int) (sv : Value) (zs : List Int) (lz hz : Nat) (w : World) (rz : RdB w lz hz sv zs) (hhz : hz ≤ w.heap.size) :
    Calls Tryd.prog 16 #[.int .i64 p, sv] w fun e w' => ∃ x vs, e = .returned x ∧ OwX w' w.heap.size w'.heap.size x (frameD p zs) vs ∧ Below w.heap.size w w' := by
  by_cases hc : 0 ≤ p ∧ p < 60000 ∧ zs.length ≤ 200
  · obtain ⟨q, rfl⟩ : ∃ q : Nat, p = (q : Int) := ⟨p.toNat, by omega⟩
    have hf : frameD (q : Int) zs = frameN q zs := by unfold frameD; rw [if_pos hc, Int.toNat_natCast]
    rw [hf]
    exact implFrame_in q (by omega) sv zs lz hz w rz hhz hc.2.2
  · have hf : frameD p zs = [] := by unfold frameD; rw [if_neg hc]
    rw [hf]
    obtain ⟨_, a, n, c, rfl, hn, hhd, _⟩ := rz
    have hcm : n ≤ 9223372036854775807 := by have := hhd.1; have := hhd.2.1; unfold maxLen at this; omega
    have HC : Hid (p < 0 ∨ 60000 ≤ p ∨ (200 : Int) < (n : Int)) := by
      show _ ∨ _
      omega
    have HO : Hid (OwX w w.heap.size w.heap.size (.slice none 0 0) [] []) := ⟨rfl, World.ownsRow_nil _ _ _ _, fun k h => by simp [Value.ownBlock] at h, fun i hi => absurd hi (Nat.not_lt_zero _), fun i j q _ hj => absurd hj (Nat.not_lt_zero _)⟩
    clear hn hhd hf hc
    rcases HC.out with h0 | h0 | h0
    · have hd0 : decide (p < 0) = true := by simpa using h0
      clear HC
      go_enter Tryd.func16, Tryd.ntmps16
      go_wp2
      go_ret
      first | exact ⟨_, _, rfl, HO.out, Below.refl _ _⟩ | exact ⟨_, rfl, ⟨_, HO.out⟩, Below.refl _ _⟩
    · have hd0 : decide (p < 0) = false := by simp; omega
      have hd1 : decide (60000 ≤ p) = true := by simpa using h0
      clear HC
      go_enter Tryd.func16, Tryd.ntmps16
      go_wp2
      go_ret
      first | exact ⟨_, _, rfl, HO.out, Below.refl _ _⟩ | exact ⟨_, rfl, ⟨_, HO.out⟩, Below.refl _ _⟩
    · have hd2 : decide ((200 : Int) < (n : Int)) = true := by simpa using h0
      clear HC
      by_cases h1 : p < 0
      · have hd0 : decide (p < 0) = true := by simpa using h1
        go_enter Tryd.func16, Tryd.ntmps16
        go_wp2
        go_ret
        first | exact ⟨_, _, rfl, HO.out, Below.refl _ _⟩ | exact ⟨_, rfl, ⟨_, HO.out⟩, Below.refl _ _⟩
      · have hd0 : decide (p < 0) = false := by simpa using h1
        by_cases h2 : 60000 ≤ p
        · have hd1 : decide (60000 ≤ p) = true := by simpa using h2
          go_enter Tryd.func16, Tryd.ntmps16
          go_wp2
          go_ret
          first | exact ⟨_, _, rfl, HO.out, Below.refl _ _⟩ | exact ⟨_, rfl, ⟨_, HO.out⟩, Below.refl _ _⟩
        · have hd1 : decide (60000 ≤ p) = false := by simpa using h2
          go_enter Tryd.func16, Tryd.ntmps16
          go_wp2
          go_ret
          first | exact ⟨_, _, rfl, HO.out, Below.refl _ _⟩ | exact ⟨_, rfl, ⟨_, HO.out⟩, Below.refl _ _⟩
end Go.Proofs.YtjhaanenkeceiaaDoor
end
