/- The program's Open as a plain function; it leans on the package's error errNoSector. No condition of ours. -/
import Derived.Test.YtjhaanenkeceiaaDoorRecords
import Derived.Test.YtjhaanenkeceiaaDoorJBase
namespace Go.Proofs.YtjhaanenkeceiaaDoor
open Go.RowKit Go.Shelf
set_option linter.unusedVariables false
set_option linter.unusedSimpArgs false
attribute [local go_sem] Oper.semAt_some
attribute [local go_sem ↓] Go.wp_at_zero Go.wp_at_succ

def openOk (d : Dk) : Bool := okD d && d.2.isEmpty
def openJ (d : Dk) : Jn := if openOk d then (d, ((openS d.1).1 : Int), ((openS d.1).2.1 : Int)) else (([], []), 0, 0)
def openR (d : Dk) : List (List Int) := if openOk d then (openS d.1).2.2 else []

theorem OwX.snoc {W wa w1 : World} {l h0 h1 n : Nat} {v v' u : Value} {zss : List (List Int)} {zs : List Int} {vs : List Value} (o : OwX W l h0 v zss vs) (hu : OwB W h0 h1 u zs) (hlh : l ≤ h0) (h01 : h0 ≤ h1) (hsame : SameIn l h1 W wa)
    (hs : h1 ≤ wa.heap.size) (hn : n = zss.length + 1) (ho : w1.ownsRow l 22 1 v' n (vs ++ [u])) (hg : wa.grownBy w1 v.ownBlock) : OwX w1 l w1.heap.size v' (zss ++ [zs]) (vs ++ [u]) := by
  obtain ⟨hl, hrow, hbf, he, hd⟩ := o
  have hs1 := hg.size
  have far : ∀ q, l ≤ q → q < h1 → v.ownBlock ≠ some q → w1.heap[q]? = W.heap[q]? := fun q h1' h2 hne => (hg.block q (by omega) (fun e => hne e.symm)).trans (hsame.2 q h1' h2)
  have hlen : (vs ++ [u]).length = n := by rw [List.length_append, hl, hn]; rfl
  refine ⟨by rw [hlen, hn]; simp, by rw [hlen]; exact ho, fun k hk => (ho.lt k hk).2, fun i hi => ?_, fun i j k hij hj hk => ?_⟩
  · rw [getD_snoc, getD_snoc]
    by_cases h2 : i < vs.length
    · rw [if_pos h2, if_pos (by omega)]
      have hei := he i h2
      have k2 : Owns w1 l (vs[i]?.getD undef) (zss[i]?.getD []) := hei.2.1.kept2 (fun q hq => far q (hei.2.1.lt q hq).1 (by have := hei.2.2 q hq; omega) (row_row hei.2.1 hrow (by decide) q hq))
      exact ⟨hei.1, k2, fun q hq => (k2.lt q hq).2⟩
    · have e : i = vs.length := by rw [List.length_append] at hi; simp at hi; omega
      rw [if_neg h2, if_pos e, if_neg (by omega), if_pos (by omega)]
      have k2 : Owns w1 h0 u zs := hu.2.1.kept2 (fun q hq => far q (by have := (hu.2.1.lt q hq).1; omega) (hu.2.2 q hq) (row_row hu.2.1 hrow (by decide) q hq))
      exact ⟨hu.1, k2.base hlh, fun q hq => (k2.lt q hq).2⟩
  · rw [getD_snoc] at hk ⊢
    have hj' : j < vs.length + 1 := by simpa using hj
    rw [if_pos (by omega)] at hk
    by_cases h2 : j < vs.length
    · rw [if_pos h2]; exact hd i j k hij h2 hk
    · rw [if_neg h2, if_pos (by omega)]
      intro e
      have a1 := (he i (by omega)).2.2 k hk
      have a2 := (hu.2.1.lt k e).1
      omega

set_option maxRecDepth 100000 in
set_option maxHeartbeats 2000000 in
theorem implOpen_no (v : Value) (d : Dk) (l h : Nat) (w : World) (r : RdD w l h v d) (hh : h ≤ w.heap.size) (a : Addr) (hg : Glob w a) (hok : openOk d = false) :
    Calls Tryd.prog 13 #[v] w fun e w' => e = .returned (.tuple #[.agg #[.slice none 0 0, .slice none 0 0, .int .i64 0, .int .i64 0], .slice none 0 0, .bool false]) ∧ Below w.heap.size w w' := by
  obtain ⟨xa, xn, xc, ya, yn, yc, rfl⟩ := r.open
  have hyn : yn = d.2.length ∧ yn ≤ 9223372036854775807 := by
    obtain ⟨x', y', he, _, rb⟩ := r
    simp only [Value.agg.injEq, Array.mk.injEq, List.cons.injEq, and_true] at he
    obtain ⟨rfl, rfl⟩ := he
    exact rb.len
  have hlt := hg.lt
  have b0 := Below.new (w := w) (.cells #[.slice xa xn xc, .slice ya yn yc] 26)
  have v0 := VarD.new w (.slice xa xn xc) (.slice ya yn yc)
  generalize hw0 : w.alloc (.cells #[.slice xa xn xc, .slice ya yn yc] 26) = w0 at b0 v0
  have s0 : w0.heap.size = w.heap.size + 1 := by rw [← hw0]; simp
  have b1 := Below.new (w := w0) (.cells #[.slice none 0 0, .slice none 0 0, .int .i64 0, .int .i64 0] 30)
  have vR := VarJ.new (T := 30) w0 (.slice none 0 0) (.slice none 0 0) 0 0
  rw [s0] at vR
  have v1 := v0.step b1
  generalize hw1 : w0.alloc (.cells #[.slice none 0 0, .slice none 0 0, .int .i64 0, .int .i64 0] 30) = w1 at b1 vR v1
  have B1 : Below w.heap.size w w1 := b0.trans (b1.mono (by omega))
  have sR := vR.lt
  have HOK : Hid _ := implOk_any _ d l h a w1 (r.step hh B1) (by have := B1.size; omega) (hg.step B1 hlt)
  have HW : Hid ((w.alloc (.cells #[.slice xa xn xc, .slice ya yn yc] 26)).alloc (.cells #[.slice none 0 0, .slice none 0 0, .int .i64 0, .int .i64 0] 30) = w1) := by show _ = _; rw [hw0, hw1]
  have HV1 : Hid (VarD w1 w.heap.size _ _) := v1
  have HVR : Hid (VarJ _ w1 (w.heap.size + 1) _ _ _ _) := vR
  have HB1 : Hid (Below w.heap.size w w1) := B1
  have c0 := v1.c0
  have c1 := v1.c1
  have hym := hyn.2
  have HCS : Hid (okD d = false ∨ (okD d = true ∧ 0 < yn)) := by
    show _ ∨ _
    cases hk : okD d with
    | false => exact .inl rfl
    | true =>
      refine .inr ⟨rfl, ?_⟩
      unfold openOk at hok
      rw [hk, Bool.true_and] at hok
      rw [hyn.1]
      cases hd : d.2 with
      | nil => rw [hd] at hok; simp at hok
      | cons _ _ => simp
  clear hw0 hw1 r hg b0 v0 b1 vR v1 B1 s0 hyn hok
  rcases HCS.out with hk | ⟨hk, hy0⟩
  · rw [hk] at HOK
    clear hk HCS
    go_enter Tryd.func13, Tryd.ntmps13
    go_wp2_with fail
    rw [HW.out]
    refine Calls.mono HOK.out ?_
    rintro e w2 ⟨rfl, b2⟩
    have vR2 := VarJ.step HVR.out b2
    have e0 := vR2.c0
    have e1 := vR2.c1
    have e2 := vR2.c2
    have e3 := vR2.c3
    have f0 := vR2.f 0
    have f1 := vR2.f 1
    have f2 := vR2.f 2
    have f3 := vR2.f 3
    have HB2 : Hid (Below w.heap.size w w2) := HB1.out.trans (b2.mono HB1.out.size)
    clear b2 vR2 HOK HV1 HVR HB1 c0 c1
    go_wp2
    refine bodyPost_ret (v := .tuple #[.agg #[.slice none 0 0, .slice none 0 0, .int .i64 0, .int .i64 0], .slice none 0 0, .bool false]) (by simp [results, Tryd.results13, go_sem, e0, e1, e2, e3]) rfl ⟨rfl, ?_⟩
    exact (((HB2.out.setCell (Nat.le_succ _) _).setCell (Nat.le_succ _) _).setCell (Nat.le_succ _) _).setCell (Nat.le_succ _) _
  · rw [hk] at HOK
    have hd0 : decide (0 < (yn : Int)) = true := by simp; omega
    clear hk HCS
    go_enter Tryd.func13, Tryd.ntmps13
    go_wp2_with fail
    rw [HW.out]
    refine Calls.mono HOK.out ?_
    rintro e w2 ⟨rfl, b2⟩
    have vR2 := VarJ.step HVR.out b2
    have v2 := VarD.step HV1.out b2
    have k1 := v2.c1
    have e0 := vR2.c0
    have e1 := vR2.c1
    have e2 := vR2.c2
    have e3 := vR2.c3
    have f0 := vR2.f 0
    have f1 := vR2.f 1
    have f2 := vR2.f 2
    have f3 := vR2.f 3
    have HB2 : Hid (Below w.heap.size w w2) := HB1.out.trans (b2.mono HB1.out.size)
    clear b2 vR2 v2 HOK HV1 HVR HB1 c0 c1
    go_wp2
    refine bodyPost_ret (v := .tuple #[.agg #[.slice none 0 0, .slice none 0 0, .int .i64 0, .int .i64 0], .slice none 0 0, .bool false]) (by simp [results, Tryd.results13, go_sem, e0, e1, e2, e3]) rfl ⟨rfl, ?_⟩
    exact (((HB2.out.setCell (Nat.le_succ _) _).setCell (Nat.le_succ _) _).setCell (Nat.le_succ _) _).setCell (Nat.le_succ _) _
end Go.Proofs.YtjhaanenkeceiaaDoor
