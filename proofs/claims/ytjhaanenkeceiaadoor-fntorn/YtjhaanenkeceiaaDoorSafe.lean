/- One write is made safe: the program's makeSafe, over a disk of the call's own. Conditions: the sector is there, both are whole sectors, at most a sector's bytes are copied. -/
import Derived.Test.YtjhaanenkeceiaaDoorApart
import Derived.Test.YtjhaanenkeceiaaDoorImplSec
import Derived.Test.YtjhaanenkeceiaaDoorWalkBase
import Derived.Deep.DrawnRows
namespace Go.Proofs.YtjhaanenkeceiaaDoor
open Go.RowKit
set_option linter.unusedVariables false
attribute [local go_sem ↓] Go.wp_at_zero Go.wp_at_succ

/-- copy into one row, as one step of a region that draws its order: no other block turns. -/
theorem step_copy_one {ops : Array Oper} {o : Oper} {a : Act} {w : World} {K : Act → World → Prop} {Q : Exit → Act → World → Prop} {E : Prop} (hgd : o.guard = none) (d s : Operand)
    (ho : o.op = .call { callee := .builtin .copy, args := #[d, s], argTypes := #[22, 22] })
    (g dLen dCap : Nat) (sp : Option Addr) (sLen sCap : Nat) (hd : a.eval d = .slice (some ⟨g, 0, none⟩) dLen dCap) (hs : a.eval s = .slice sp sLen sCap)
    (cur : Array Value) (hg : w.heap[g]? = some (.cells cur 5 (0, 0))) (cs : List Value) (hn : cs.length = Nat.min sLen dLen)
    (hpos : 0 < cs.length → ∃ ad, sp = some ad ∧ ∀ j v, cs[j]? = some v → w.cell? (ad.add j) = some v)
    (hfit : cs.length ≤ cur.size) (h1 : ∀ v ∈ cs, v.oneCell' = true)
    (h : ∀ w', Hid (w'.heap[g]? = some (.cells (splice cur.toList 0 cs).toArray 5 (0, 0))) → w.grownBy w' (some g) → K (a.put o.dst (goInt cs.length)) w') :
    if Region.wanted o (yielded ops a.tmps) = true then Oper.wp Tryd.prog o a w K Q else E := by
  have hw : Region.wanted o (yielded ops a.tmps) = true := by simp [Region.wanted, hgd]
  rw [if_pos hw]
  by_cases h0 : cs.length = 0
  · obtain rfl : cs = [] := List.eq_nil_of_length_eq_zero h0
    have hrun := run_copy_none (P := Tryd.prog) w 22 22 o.type 5 (some ⟨g, 0, none⟩) sp dLen dCap sLen sCap Tryd.underlying22 Tryd.sizeB (by simpa using hn.symm)
    unfold Oper.wp
    simp [execOp, ho, resolve, invoke, builtin, hd, hs, hrun, Result.andThen]
    exact h w (show _ = _ by simpa [splice] using hg) ⟨rfl, rfl, rfl, Nat.le_refl _, fun _ _ _ => rfl⟩
  · obtain ⟨ad, rfl, hsrc⟩ := hpos (by omega)
    have hrun := run_copy_row (P := Tryd.prog) w 22 22 o.type 5 g 0 dLen dCap ad sLen sCap cur 5 cs Tryd.underlying22 Tryd.sizeB hg hn hsrc (by omega) h1
    unfold Oper.wp
    simp [execOp, ho, resolve, invoke, builtin, hd, hs, hrun, Result.andThen]
    refine h _ (show _ = _ by simpa [splice] using setRow_heap w g _ _ 5 _ hg) ⟨rfl, rfl, rfl, by simp [World.setRow], fun k hk hne => setRow_other w g k _ (fun e => hne (by rw [e]))⟩

/-- The first bytes of a row of the call's own were written. -/
theorem Owns.spliced {w w' : World} {base g n cap : Nat} {cur : Array Value} {zs ys : List Int} (h : Owns w base (.slice (some ⟨g, 0, none⟩) n cap) zs) (hc : w.heap[g]? = some (.cells cur 5 (0, 0)))
    (hy : ys.length ≤ zs.length) (hh : w'.heap[g]? = some (.cells (splice cur.toList 0 (bcells ys)).toArray 5 (0, 0))) : Owns w' base (.slice (some ⟨g, 0, none⟩) n cap) (ys ++ zs.drop ys.length) := by
  rcases h.2 with ⟨hv, _⟩ | ⟨g', c, cur', hv, hg, hh', hnc, hm, hs, ht⟩
  · cases hv
  simp only [Value.slice.injEq, Option.some.injEq, Addr.mk.injEq, and_true] at hv
  obtain ⟨rfl, rfl, rfl⟩ := hv
  rw [hc] at hh'
  simp only [Option.some.injEq, Obj.cells.injEq, and_true] at hh'
  obtain rfl := hh'
  have hlen : (ys ++ zs.drop ys.length).length = zs.length := by simp; omega
  have hcl : cur.toList.length = cap := by simpa using hs
  refine ⟨by rw [bcells_length]; omega, .inr ⟨g, cap, _, by rw [hlen], hg, hh, by omega, hm, ?_, ?_⟩⟩
  · simp [splice]; omega
  · rw [hlen]
    simp only [Nat.mul_one] at ht ⊢
    unfold splice
    simp only [List.take_zero, List.nil_append, Nat.zero_add, bcells_length]
    rw [List.toList_toArray, List.take_append, bcells_length, List.take_of_length_le (by simp; omega), List.take_drop, show ys.length + (zs.length - ys.length) = zs.length by omega, ht]
    simp [bcells]

/-- The sector, its first c bytes as zs has them. -/
def mixed (old zs : List Int) (c : Nat) : List Int := zs.take c ++ old.drop c
theorem mixed_length {old zs : List Int} {c : Nat} (h1 : old.length = 32) (h2 : zs.length = 32) (hc : c ≤ 32) : (mixed old zs c).length = 32 := by simp [mixed]; omega
theorem mixed_all {old zs : List Int} (h1 : old.length = 32) (h2 : zs.length = 32) : mixed old zs 32 = zs := by
  unfold mixed; rw [List.take_of_length_le (by omega), List.drop_eq_nil_of_le (by omega), List.append_nil]
theorem mixed_bytes {old zs : List Int} {c : Nat} (h1 : isBytes old) (h2 : isBytes zs) : isBytes (mixed old zs c) := isBytes_append (isBytes_take h2 c) (isBytes_drop h1 c)

set_option maxHeartbeats 2000000 in
theorem makeSafe_any (b q c : Nat) (x y : Value) (zss : List (List Int)) (vs : List Value) (l h : Nat) (sl : Value) (zs : List Int) (l' h' : Nat) (w : World) (hv : VarD w b x y) (o : OwX w l h x zss vs) (hq : q < zss.length)
    (hz : (zss[q]?.getD []).length = 32) (r : RdB w l' h' sl zs) (hl : zs.length = 32) (hc : c ≤ 32) (hh : h ≤ w.heap.size) (hh' : h' ≤ w.heap.size) (hn : zss.length ≤ 2000) :
    Calls Tryd.prog 78 #[.pointer (some ⟨b, 0, none⟩), .agg #[.int .i64 q, sl], .int .i64 c] w fun e w' => (∃ u, e = .returned u) ∧ OwX w' l h x (zss.set q (mixed (zss[q]?.getD []) zs c)) vs ∧ w.grownBy w' (vs[q]?.getD undef).ownBlock := by
  have b1 := Below.new (w := w) (.cells #[.int .i64 (q : Int), sl] 75)
  have o1 := o.same (SameIn.ofBelow b1 hh)
  have r1 := r.same (SameIn.ofBelow b1 hh')
  have v1 := hv.step b1
  have hgrow : w.grownBy (w.alloc (.cells #[.int .i64 (q : Int), sl] 75)) (vs[q]?.getD undef).ownBlock := World.grownBy_alloc w _ _
  obtain ⟨sa, sn, sc, rfl⟩ := r.sliced
  have q0 : (w.alloc (.cells #[.int .i64 (q : Int), .slice sa sn sc] 75)).cell? ⟨w.heap.size, 0, none⟩ = some (.int .i64 (q : Int)) := by rw [World.cell?_alloc_at _ _ _ _ rfl]; rfl
  have q1 : (w.alloc (.cells #[.int .i64 (q : Int), .slice sa sn sc] 75)).cell? ⟨w.heap.size, 1, none⟩ = some (.slice sa sn sc) := by rw [World.cell?_alloc_at _ _ _ _ rfl]; rfl
  generalize hw1 : w.alloc (.cells #[.int .i64 (q : Int), .slice sa sn sc] 75) = w1 at b1 o1 r1 v1 hgrow q0 q1
  have HW1 : Hid _ := hw1
  have s1 := b1.size
  obtain ⟨gr, cr, u, hxv, hcell, hue, hub, hput⟩ := OwX.put (w' := w1) (new := []) o1 hq
  subst hxv
  obtain ⟨hubb, huo, hubf⟩ := hub
  rcases huo.2 with ⟨_, h0⟩ | ⟨g, cap, cur, huv, hgl, hgh, hnc, hm, hs, ht⟩
  · omega
  rw [hz] at huv hnc
  obtain ⟨hzb, sa', sn', sc', hse, hsn, hsh, hsr⟩ := r1.reads
  simp only [Value.slice.injEq] at hse
  obtain ⟨rfl, rfl, rfl⟩ := hse
  have hlen : sn = 32 := by omega
  subst hlen
  have hcap : 32 ≤ sc := hsh.1
  have hcapm : sc ≤ 9223372036854775807 := by have := hsh.2.1; unfold maxLen at this; omega
  have c0 := v1.c0
  have hi0 : (0 : Int) ≤ (q : Int) := by omega
  have hi1 : (q : Int) < (zss.length : Int) := by omega
  have hk0 : (0 : Int) ≤ (c : Int) := by omega
  have hk1 : (c : Int) ≤ (sc : Int) := by omega
  have hbr : b < w1.heap.size := v1.lt
  have hrlt : gr < w1.heap.size := block_lt_of_cell (a := ⟨gr, q, none⟩) hcell
  have hwlt : w.heap.size < w1.heap.size := block_lt_of_cell (a := ⟨w.heap.size, 0, none⟩) q0
  have HU : Hid (u = .slice (some ⟨g, 0, none⟩) 32 cap) := huv
  have HPUT : Hid _ := hput
  have HOWN : Hid (Owns w1 l (.slice (some ⟨g, 0, none⟩) 32 cap) (zss[q]?.getD [])) := by rw [← huv]; exact huo
  have HUE : Hid _ := hue
  rw [huv] at hcell
  have HGH : Hid (w1.drew.heap[g]? = some (.cells cur 5 (0, 0))) := hgh
  have HLN : Hid ((bcells (zs.take c)).length = Nat.min c 32) := by show _ = _; rw [bcells_length, List.length_take, hl]
  have HFIT : Hid ((bcells (zs.take c)).length ≤ cur.size) := by show _ ≤ _; rw [bcells_length, List.length_take, hs]; omega
  have HPOS : Hid (0 < (bcells (zs.take c)).length → ∃ ad, sa = some ad ∧ ∀ j v, (bcells (zs.take c))[j]? = some v → w1.drew.cell? (ad.add j) = some v) := fun h0 => by
    obtain ⟨a', l2, c2, e, _, qq⟩ := r1.cells c
    simp only [Value.slice.injEq] at e
    obtain ⟨rfl, rfl, rfl⟩ := e
    exact qq h0
  have HGR : Hid _ := hgrow
  have HZB : Hid _ := And.intro hubb hzb
  have nb : ¬ b = g := fun e => by
    subst e
    have := v1; unfold VarD at this
    rw [hgh] at this; simp at this
  have nw : ¬ w.heap.size = g := fun e => by have := (o.2.2.1); have h3 := hubf g (by rw [huv]; rfl); omega
  have nr : ¬ gr = g := fun e => by
    subst e
    rcases o1.2.1.2 with ⟨hv0, _⟩ | ⟨g', c', cur', hv0, _, hh1, _⟩
    · cases hv0
    · simp only [Value.slice.injEq, Option.some.injEq, Addr.mk.injEq, and_true] at hv0
      obtain ⟨rfl, _⟩ := hv0
      rw [hgh] at hh1; simp at hh1
  have HNE : Hid _ := And.intro nb (And.intro nw nr)
  clear hw1 b1 o1 o r1 r v1 hv hgrow huo ht hs hm hnc hgh hput huv hsr hsh hsn hubb hzb hgl hubf hue
  go_enter Tryd.func78, Tryd.ntmps78
  go_wp2_with fail
  rw [HW1.out]
  go_region_held3 (fun w' => w'.cell? ⟨b, 0, none⟩ = some (.slice (some ⟨gr, 0, none⟩) zss.length cr) ∧ w'.cell? ⟨w.heap.size, 0, none⟩ = some (.int .i64 (q : Int)) ∧ w'.cell? ⟨w.heap.size, 1, none⟩ = some (.slice sa 32 sc) ∧ w'.cell? ⟨gr, q, none⟩ = some (.slice (some ⟨g, 0, none⟩) 32 cap)) (first | go_keep | (refine ⟨?_, ?_, ?_, ?_⟩ <;> assumption)) (first | (refine step_copy_one rfl (.tmp 13) (.tmp 17) (by rfl) g 32 cap sa c sc (by rfl) (by rfl) cur HGH.out (bcells (zs.take c)) HLN.out HPOS.out HFIT.out (bcells_one _) ?_; intro w5 HG5 hg5; have k1 := (hg5.cell_far ⟨b, 0, none⟩ hbr (fun e => HNE.out.1 (by simpa using e))).trans c0; have k2 := (hg5.cell_far ⟨w.heap.size, 0, none⟩ hwlt (fun e => HNE.out.2.1 (by simpa using e))).trans q0; have k3 := (hg5.cell_far ⟨w.heap.size, 1, none⟩ hwlt (fun e => HNE.out.2.1 (by simpa using e))).trans q1; have k4 := (hg5.cell_far ⟨gr, q, none⟩ hrlt (fun e => HNE.out.2.2 (by simpa using e))).trans hcell))
  have HF : Hid (OwX w5 l h (.slice (some ⟨gr, 0, none⟩) zss.length cr) (zss.set q (mixed (zss[q]?.getD []) zs c)) vs) := by
    refine HPUT.out w5 _ (mixed_bytes HZB.out.1 HZB.out.2) ?_ ?_
    · rw [HU.out]
      have h5 := HOWN.out.spliced (w' := w5) (ys := zs.take c) HGH.out (by rw [List.length_take, hl, hz]; omega) HG5.out
      have e : (zs.take c).length = c := by rw [List.length_take, hl]; omega
      rw [e] at h5
      exact h5
    · rw [HU.out]; exact ⟨hg5.os, hg5.tape, hg5.output, hg5.size, hg5.block⟩
  have HGF : Hid (w.grownBy w5 (vs[q]?.getD undef).ownBlock) := by
    refine grown_trans HGR.out ?_
    rw [← HUE.out, HU.out]
    exact ⟨hg5.os, hg5.tape, hg5.output, hg5.size, hg5.block⟩
  clear k1 k2 k3 k4 c0 q0 q1 hcell
  go_wp2
  refine bodyPost_end (v := .tuple #[]) (by simp [results, Tryd.results78, go_sem]) rfl ⟨⟨_, rfl⟩, HF.out, HGF.out⟩
end Go.Proofs.YtjhaanenkeceiaaDoor
