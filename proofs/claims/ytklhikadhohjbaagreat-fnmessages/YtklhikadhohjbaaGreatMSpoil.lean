/- Drawn bytes that are spoilt are bytes again, at most one more, in memory of their own. Condition: at most 1000 bytes come in. -/
import Derived.Test.YtklhikadhohjbaaGreatMA01
import Derived.Test.YtklhikadhohjbaaGreatMA02
import Derived.Deep.RegionLaw
import Derived.Deep.RegionHeld3
namespace Go.Proofs.YtklhikadhohjbaaGreat
open Go.RowKit
set_option linter.unusedVariables false

theorem step_app {ops : Array Oper} {o : Oper} {a : Act} {w : World} {K : Act → World → Prop} {Q : Exit → Act → World → Prop} {E : Prop} (hgd : o.guard = none) (s x : Operand)
  (ho : o.op = .call { callee := .builtin .append, args := #[s, x], argTypes := #[22, 22] })
  (base : Nat) (v : Value) (zs ys : List Int) (hs : a.eval s = v) (hown : Owns w base v zs) (ad : Addr) (m c : Nat) (hx : a.eval x = .slice (some ad) m c) (hm : m = ys.length) (hr : Reads w (some ad) ys)
  (hl : zs.length ≤ 4194304) (hl' : ys.length ≤ 4194304) (hbase : base ≤ w.heap.size)
  (h : ∀ v' w', Owns w' base v' (zs ++ ys) → w.grownBy w' v.ownBlock → K (a.put o.dst v') w') : if Region.wanted o (yielded ops a.tmps) = true then Oper.wp Tryz.prog o a w K Q else E := by
 have hw : Region.wanted o (yielded ops a.tmps) = true := by simp [Region.wanted, hgd]
 rw [if_pos hw]
 obtain ⟨i0, hi, hz0, hz1, hz2⟩ := info_parts Tryz.infoB
 refine wp_append_own w s x 22 ho base 5 i0 (.int .u8 0) 1 1 Tryz.underlying22 hi hz0 hz1 hz2 rfl (by decide) v zs.length (bcells zs) hs hown ad m c (bcells ys) hx (by simp [hm]) hr.srcAt (bcells_one ys) (by unfold maxLen; omega) (by omega) hbase ?_
 intro v' w' ho' hg _
 refine h v' w' ?_ hg
 unfold Owns
 rw [List.length_append, ← hm]
 simpa [bcells] using ho'

theorem Owns.cut {w : World} {base g n cap : Nat} {zs : List Int} (h : Owns w base (.slice (some ⟨g, 0, none⟩) n cap) zs) (k : Nat) (hk : k ≤ zs.length) : Owns w base (.slice (some ⟨g, 0, none⟩) k cap) (zs.take k) := by
 rcases h.2 with ⟨hv, _⟩ | ⟨g', c, cur, hv, hg, hh, hnc, hm, hs, ht⟩
 ·cases hv
 ·simp only [Value.slice.injEq, Option.some.injEq, Addr.mk.injEq, and_true] at hv
  obtain ⟨rfl, rfl, rfl⟩ := hv
  have e : (zs.take k).length = k := by simp; omega
  refine ⟨by simp, .inr ⟨g, cap, cur, by rw [e], hg, hh, by rw [e]; omega, hm, hs, ?_⟩⟩
  rw [e]
  have : cur.toList.take (k * 1) = (cur.toList.take (zs.length * 1)).take k := by rw [List.take_take, Nat.min_eq_left (by omega), Nat.mul_one]
  rw [this, ht]
  simp [bcells, List.map_take]
theorem isBytes_set {zs : List Int} (h : isBytes zs) (k : Nat) {x : Int} (h0 : 0 ≤ x) (h1 : x ≤ 255) : isBytes (zs.set k x) := by
 intro j
 rw [List.getElem?_set]
 by_cases hk : k = j
 ·subst hk
  rw [if_pos rfl]
  by_cases hl : k < zs.length
  ·simp [hl]; omega
  ·simp [hl]
 ·rw [if_neg hk]; exact h j
theorem Owns.put {w : World} {base g n cap : Nat} {zs : List Int} (h : Owns w base (.slice (some ⟨g, 0, none⟩) n cap) zs) (k : Nat) (x : Int) : Owns (w.setCell ⟨g, k, none⟩ (.int .u8 x)) base (.slice (some ⟨g, 0, none⟩) n cap) (zs.set k x) ∧ w.grownBy (w.setCell ⟨g, k, none⟩ (.int .u8 x)) (some g) := by
 obtain ⟨a, c, e, _, _⟩ := h.shape
 simp only [Value.slice.injEq] at e
 obtain ⟨_, rfl, _⟩ := e
 have := World.ownsRow.stored h k (.int .u8 x)
 refine ⟨?_, this.2⟩
 unfold Owns
 rw [List.length_set]
 simpa [bcells, List.map_set] using this.1

theorem Owns.form {w : World} {base : Nat} {v : Value} {zs : List Int} (h : Owns w base v zs) : ∃ a L c, v = .slice a L c ∧ Hid (L = zs.length) ∧ Hid (a = none → L = 0 ∧ c = 0) ∧ Hid (L = 0 ∨ ∃ g, a = some ⟨g, 0, none⟩ ∧ base ≤ g ∧ g < w.heap.size ∧ L ≤ c ∧ c ≤ maxLen) := by
 rcases h.2 with ⟨rfl, h0⟩ | ⟨g, c, cur, rfl, hg, hh, hnc, hm, _⟩
 ·exact ⟨none, 0, 0, rfl, h0.symm, fun _ => ⟨rfl, rfl⟩, .inl rfl⟩
 ·exact ⟨_, _, c, rfl, rfl, (fun e => by simp at e), Or.inr ⟨g, rfl, hg, lt_of_block hh, hnc, hm⟩⟩

theorem xor_u8 (a b : Int) : 0 ≤ bits .xor .u8 a b ∧ bits .xor .u8 a b ≤ 255 := by
 have e : bits .xor .u8 a b = IntKind.u8.wrap ((BitVec.ofInt 8 a ^^^ BitVec.ofInt 8 b).toNat : Int) := rfl
 rw [e]
 simp only [IntKind.wrap, IntKind.bits, IntKind.signed]
 simp
 omega
theorem kept_at {w w' : World} {pb g k : Nat} {v : Value} (hg : w.drew.grownBy w' (some pb)) (hl : g < w.heap.size) (hne : g ≠ pb) (hc : w.cell? ⟨g, k, none⟩ = some v) (hf : w.frozen? ⟨g, k, none⟩ = false) : w'.cell? ⟨g, k, none⟩ = some v ∧ w'.frozen? ⟨g, k, none⟩ = false := by
 have hb : w'.heap[g]? = w.heap[g]? := hg.block g hl (by simpa using hne)
 exact ⟨(World.cell?_of_block (w := w) (w' := w') (a := ⟨g, k, none⟩) hb).trans hc, (World.frozen?_of_block (w := w) (w' := w') (a := ⟨g, k, none⟩) hb).trans hf⟩
theorem Owns.drew1 {w : World} {base : Nat} {v : Value} {zs : List Int} (h : Owns w base v zs) : Owns w.drew base v zs := h.step (Below.drew (Below.refl _ _))
theorem Owns.at {w : World} {base g L cap : Nat} {zs : List Int} (h : Owns w base (.slice (some ⟨g, 0, none⟩) L cap) zs) (k : Nat) (hk : k < zs.length) : (∃ v, w.cell? ⟨g, k, none⟩ = some v) ∧ w.frozen? ⟨g, k, none⟩ = false := by
 obtain ⟨a, c, e, _, _⟩ := h.shape
 simp only [Value.slice.injEq] at e
 obtain ⟨_, rfl, _⟩ := e
 refine ⟨?_, World.ownsRow.frozenAt h k⟩
 rw [World.ownsRow.cellAt h k (by omega)]
 exact ⟨_, List.getElem?_eq_getElem (by simpa using hk)⟩

def Spoilt (w : World) (pb n : Nat) (v : Value) (w' : World) : Prop := ∃ ys, Owns w' w.heap.size v ys ∧ isBytes ys ∧ ys.length ≤ n + 1 ∧ CurAt w' pb ∧ w.grownBy w' (some pb)

set_option maxHeartbeats 2000000 in
theorem spoil_any (pb : Nat) (a : Option Addr) (zs : List Int) (len cap : Nat) (w : World) (h : CurAt w pb) (hr : Reads w a zs) (hlen : len = zs.length) (hl : zs.length ≤ 1000) (hnil : a = none → len = 0 ∧ cap = 0) :
  Calls Tryz.prog 74 #[.pointer (some ⟨pb, 0, none⟩), .slice a len cap] w fun e w' => ∃ v, e = .returned v ∧ Spoilt w pb zs.length v w' := by
 have hpb := h.lt
 have HE : Hid _ := hlen
 have HX : Hid (Reads (w.alloc (.cells #[] 5)) a zs) := hr.below ((Below.refl _ _).alloc (Nat.le_refl _) _)
 have HNIL : Hid _ := hnil
 have HL : Hid _ := hl
 have hb := hr.1
 have HZ : Hid _ := hb
 have hc0 := h.alloc (.cells #[] 5)
 clear hlen hr hnil hl hb h
 go_enter Tryz.func74, Tryz.ntmps74
 go_wp2_with (at_builtin; go_must (refine wpList_app _ rfl (.tmp 7) (.tmp 8) rfl w.heap.size _ [] zs rfl (owns_empty w) a len cap rfl HE.out HX.out (by simp) (by have := HL.out; omega) (by simp) HNIL.out ?_; intro v w1 ho hg; rw [List.nil_append] at ho; obtain ⟨a1, L, c1, rfl, HLL, HNN, HFF⟩ := ho.form))
 ·have hcur := hc0.grown hg (fun q hq => by have := ((owns_empty w).lt q hq).1; omega)
  have HG1 : Hid (w.grownBy w1 (some pb)) := grown_new (grown_alloc (grown_refl w (some pb)) _) hg (fun q hq => ((owns_empty w).lt q hq).1)
  have HO : Hid _ := ho
  clear ho hg hc0 HX
  refine (byte_any pb _ hcur).mono ?_
  rintro e w2 ⟨x, rfl, hx0, hx1, hc2, hg2⟩
  have HO2 : Hid (Owns w2 w.heap.size (.slice a1 L c1) zs) := Owns.cur HO.out hg2 hpb
  have HG2 : Hid _ := grown_trans HG1.out hg2
  have hs2 := HG2.out.size
  go_wp2_with (at_builtin; go_must (refine wpList_app _ rfl (.tmp 13) (.tmp 17) rfl w.heap.size _ zs [x] rfl (HO2.out.alloc _) _ 1 1 rfl rfl (one_new _ x (by omega) (by omega)) (by have := HL.out; omega) (by simp) (by simp; omega) (fun h => by cases h) ?_; intro v3 w3 ho3 hg3))
  go_ret
  exact ⟨v3, rfl, zs ++ [x], ho3, isBytes_snoc HZ.out hx0 hx1, by simp, (hc2.alloc _).grown hg3 (fun q hq => by have := (HO2.out.lt q hq).1; omega), grown_new (grown_alloc HG2.out _) hg3 (fun q hq => (HO2.out.lt q hq).1)⟩
 ·have hne : L ≠ 0 := by
   have hh : ((L : Int) == 0) = false := by assumption
   simpa using hh
  obtain ⟨g, rfl, hg1, hg2, hc1, hc2⟩ := HFF.out.resolve_left hne
  have hcur := hc0.grown hg (fun q hq => by have := ((owns_empty w).lt q hq).1; omega)
  have HG1 : Hid (w.grownBy w1 (some pb)) := grown_new (grown_alloc (grown_refl w (some pb)) _) hg (fun q hq => ((owns_empty w).lt q hq).1)
  have HO : Hid _ := ho
  have hL : L ≤ 1000 := by rw [HLL.out]; exact HL.out
  clear ho hg hc0 HX HFF HNN
  refine (below_any pb _ _ hcur (by omega) (by omega)).mono ?_
  rintro e w2 ⟨x, rfl, hx0, hx1, hcur2, hgr2⟩
  obtain ⟨k, rfl⟩ : ∃ k : Nat, x = (k : Int) := ⟨x.toNat, by omega⟩
  have HO2 : Hid (Owns w2 w.heap.size (.slice (some ⟨g, 0, none⟩) L c1) zs) := Owns.cur HO.out hgr2 hpb
  have HG2 : Hid _ := grown_trans HG1.out hgr2
  clear HO HG1 hgr2 hcur
  go_wp2_with fail
  refine (below_any pb _ _ hcur2 (by omega) (by omega)).mono ?_
  rintro e w3 ⟨y, rfl, hy0, hy1, hcur3, hgr3⟩
  have HO3 : Hid (Owns w3 w.heap.size (.slice (some ⟨g, 0, none⟩) L c1) zs) := Owns.cur HO2.out hgr3 hpb
  have HG3 : Hid _ := grown_trans HG2.out hgr3
  have hs3 := HG3.out.size
  have hkl : k < L := by omega
  clear HO2 HG2 hgr3 hcur2
  rcases (show y = 0 ∨ y = 1 ∨ y = 2 ∨ y = 3 ∨ y = 4 from by omega) with rfl | rfl | rfl | rfl | rfl
  ·go_wp2
   go_ret
   exact ⟨_, rfl, zs.take k, HO3.out.cut k (by rw [← HLL.out]; omega), isBytes_take HZ.out k, by simp; omega, hcur3, HG3.out⟩
  ·go_wp2_with fail
   refine (byte_any pb _ hcur3).mono ?_
   rintro e w4 ⟨x, rfl, hx0, hx1, hc4, hg4⟩
   have HO4 : Hid (Owns w4 w.heap.size (.slice (some ⟨g, 0, none⟩) L c1) zs) := Owns.cur HO3.out hg4 hpb
   have HG4 : Hid _ := grown_trans HG3.out hg4
   have hs4 := HG4.out.size
   go_wp2_with (at_builtin; go_must (refine wpList_app _ rfl (.tmp 43) (.tmp 47) rfl w.heap.size _ zs [x] rfl (HO4.out.alloc _) _ 1 1 rfl rfl (one_new _ x (by omega) (by omega)) (by have := HL.out; omega) (by simp) (by simp; omega) (fun h => by cases h) ?_; intro v5 w5 ho5 hg5))
   go_ret
   exact ⟨v5, rfl, zs ++ [x], ho5, isBytes_snoc HZ.out hx0 hx1, by simp, (hc4.alloc _).grown hg5 (fun q hq => by have := (HO4.out.lt q hq).1; omega), grown_new (grown_alloc HG4.out _) hg5 (fun q hq => (HO4.out.lt q hq).1)⟩
  ·go_wp2_with fail
   refine (byte_any pb _ hcur3).mono ?_
   rintro e w4 ⟨x, rfl, hx0, hx1, hc4, hg4⟩
   have HO4 : Hid (Owns w4 w.heap.size (.slice (some ⟨g, 0, none⟩) L c1) zs) := Owns.cur HO3.out hg4 hpb
   have HG4 : Hid _ := grown_trans HG3.out hg4
   obtain ⟨⟨v0, hv0⟩, hfz⟩ := HO4.out.at k (by rw [← HLL.out]; exact hkl)
   go_wp2
   go_ret
   have hp := HO4.out.put k x
   exact ⟨_, rfl, zs.set k x, hp.1, isBytes_set HZ.out k hx0 hx1, by simp, hc4.grown hp.2 (fun q hq => by cases hq; omega), grown_new HG4.out hp.2 (fun q hq => by cases hq; exact hg1)⟩
  ·have hrd : Reads w3 (some ⟨g, 0, none⟩) zs := (Owns.reads HZ.out HO3.out).2
   obtain ⟨X, hX⟩ : ∃ X, X = zs.take k := ⟨_, rfl⟩
   obtain ⟨Y, hY⟩ : ∃ Y, Y = zs.drop (k + 1) := ⟨_, rfl⟩
   have hXl : k = X.length := by rw [hX, List.length_take, ← HLL.out]; omega
   have hYl : L - (k + 1) = Y.length := by rw [hY, List.length_drop, ← HLL.out]
   have HX1 : Hid (Reads (w3.alloc (.cells #[] 5)).drew (some ⟨g, 0, none⟩) X) := by
    have := (hrd.part 0 k (by rw [← HLL.out]; omega)).below (((Below.refl _ _).alloc (Nat.le_refl _) (.cells #[] 5)).drew)
    rw [List.drop_zero, ← hX] at this
    exact this
   have HY1 : Hid (∀ w', Below w3.heap.size w3 w' → Reads w' (some ⟨g, k + 1, none⟩) Y) := by
    intro w' hb
    have := (hrd.part (k + 1) (L - (k + 1)) (by rw [← HLL.out]; omega)).below hb
    rw [List.take_of_length_le (by rw [List.length_drop, ← HLL.out]; exact Nat.le_refl _), ← hY, Nat.zero_add] at this
    exact this
   have HOE : Hid (Owns (w3.alloc (.cells #[] 5)).drew w3.heap.size (.slice (some ⟨w3.heap.size, 0, none⟩) 0 0) []) := (owns_empty w3).drew1
   have HBE : Hid (Below w3.heap.size w3 (w3.alloc (.cells #[] 5)).drew) := ((Below.refl _ _).alloc (Nat.le_refl _) _).drew
   have HSZ : Hid (w3.heap.size ≤ (w3.alloc (.cells #[] 5)).drew.heap.size) := HBE.out.size
   have hXn : X.length ≤ 4194304 := by omega
   have hYn : Y.length ≤ 4194304 := by omega
   have hYb : isBytes Y := by rw [hY]; exact isBytes_drop HZ.out _
   have hXb : isBytes X := by rw [hX]; exact isBytes_take HZ.out _
   have HXl : Hid _ := hXl
   have HYl : Hid _ := hYl
   have HXY : Hid _ := And.intro hXb hYb
   clear hrd hX hY hXl hYl hYb hXb
   have hkc : k + 1 < c1 ∨ k + 1 = c1 := by omega
   rcases hkc with hkc | hkc
   ·have hk1 : k ≤ c1 := by omega
    have hk2 : k + 1 ≤ c1 := by omega
    have hk3 : k + 1 ≤ L := by omega
    have hk4 : ¬ c1 = k + 1 := by omega
    have hk5 : IntKind.i64.wrap ((k : Int) + 1) = (k : Int) + 1 := by simp [IntKind.wrap, IntKind.bits, IntKind.signed]; omega
    have hk6 : ((k : Int) + 1).toNat = k + 1 := by omega
    have hk7 : (0 : Int) ≤ (k : Int) + 1 := by omega
    have hk8 : (k : Int) + 1 ≤ (L : Int) := by omega
    go_wp2
    go_region_law (first | (refine step_app rfl (.tmp 59) (.tmp 62) (by rfl) w3.heap.size _ [] X (by rfl) HOE.out ⟨g, 0, none⟩ k c1 (by rfl) HXl.out HX1.out (Nat.zero_le _) hXn HSZ.out ?_; intro v4 w4 ho4 hg4) | (refine step_app rfl (.tmp 63) (.tmp 67) (by rfl) w3.heap.size _ ([] ++ X) Y (by rfl) ho4 ⟨g, k + 1, none⟩ (L - (k + 1)) (c1 - (k + 1)) (by rfl) HYl.out (HY1.out _ (HBE.out.grown hg4 HSZ.out (fun q hq => (HOE.out.lt q hq).1))) hXn hYn (Nat.le_trans HSZ.out hg4.size) ?_; intro v5 w5 ho5 hg5))
    go_wp2
    go_ret
    refine ⟨v5, rfl, X ++ Y, ?_, isBytes_append HXY.out.1 HXY.out.2, ?_, ?_, ?_⟩
    ·rw [List.nil_append] at ho5; exact Owns.base ho5 hs3
    ·rw [List.length_append, ← HXl.out, ← HYl.out, ← HLL.out]; omega
    ·refine CurAt.grown (CurAt.grown (CurAt.below hcur3 HBE.out) hg4 (fun q hq => ?_)) hg5 (fun q hq => ?_)
     ·have := (HOE.out.lt q hq).1; omega
     ·have := (Owns.lt ho4 q hq).1; omega
    ·exact grown_new (grown_new (grown_trans HG3.out (grown_below HBE.out)) hg4 (fun q hq => by have := (HOE.out.lt q hq).1; omega)) hg5 (fun q hq => by have := (Owns.lt ho4 q hq).1; omega)
   ·have HY0 : Hid (∀ w', Reads w' (some ⟨g, 0, none⟩) Y) := by
     have : Y = [] := List.eq_nil_of_length_eq_zero (by rw [← HYl.out]; omega)
     intro w'; rw [this]; exact reads_none _ _
    have HY2 : Hid (0 = Y.length) := by have := HYl.out; show _ = _; omega
    obtain rfl : L = k + 1 := by omega
    subst hkc
    have hk1 : (k : Int) ≤ (k : Int) + 1 := by omega
    have hk5 : IntKind.i64.wrap ((k : Int) + 1) = (k : Int) + 1 := by simp [IntKind.wrap, IntKind.bits, IntKind.signed]; omega
    have hk6 : ((k : Int) + 1).toNat = k + 1 := by omega
    have hk7 : (0 : Int) ≤ (k : Int) + 1 := by omega
    have hk8 : (k : Int) + 1 ≤ (k : Int) + 1 := by omega
    go_wp2
    go_region_law (first | (refine step_app rfl (.tmp 59) (.tmp 62) (by rfl) w3.heap.size _ [] X (by rfl) HOE.out ⟨g, 0, none⟩ k (k + 1) (by rfl) HXl.out HX1.out (Nat.zero_le _) hXn HSZ.out ?_; intro v4 w4 ho4 hg4) | (refine step_app rfl (.tmp 63) (.tmp 67) (by rfl) w3.heap.size _ ([] ++ X) Y (by rfl) ho4 ⟨g, 0, none⟩ 0 0 (by rfl) HY2.out (HY0.out _) hXn hYn (Nat.le_trans HSZ.out hg4.size) ?_; intro v5 w5 ho5 hg5))
    go_wp2
    go_ret
    refine ⟨v5, rfl, X ++ Y, ?_, isBytes_append HXY.out.1 HXY.out.2, ?_, ?_, ?_⟩
    ·rw [List.nil_append] at ho5; exact Owns.base ho5 hs3
    ·rw [List.length_append, ← HXl.out, ← HYl.out, ← HLL.out]; omega
    ·refine CurAt.grown (CurAt.grown (CurAt.below hcur3 HBE.out) hg4 (fun q hq => ?_)) hg5 (fun q hq => ?_)
     ·have := (HOE.out.lt q hq).1; omega
     ·have := (Owns.lt ho4 q hq).1; omega
    ·exact grown_new (grown_new (grown_trans HG3.out (grown_below HBE.out)) hg4 (fun q hq => by have := (HOE.out.lt q hq).1; omega)) hg5 (fun q hq => by have := (Owns.lt ho4 q hq).1; omega)
  ·obtain ⟨⟨v0, hv0⟩, hfz⟩ := HO3.out.at k (by rw [← HLL.out]; exact hkl)
   obtain ⟨c, hc0, hc1'⟩ : ∃ c : Int, w3.cell? ⟨g, k, none⟩ = some (.int .u8 c) ∧ True := by
    have hrd : Reads w3 (some ⟨g, 0, none⟩) zs := (Owns.reads HZ.out HO3.out).2
    rcases hrd.2 with h0 | ⟨b, off, e, _, hcc⟩
    ·have := HLL.out; rw [h0] at this; simp at this; omega
    ·simp only [Option.some.injEq, Addr.mk.injEq, and_true] at e
     obtain ⟨rfl, rfl⟩ := e
     have := hcc k (by rw [← HLL.out]; exact hkl)
     rw [Nat.zero_add] at this
     exact ⟨_, this, trivial⟩
   clear hv0 v0 hc1'
   have hi0 : (0 : Int) ≤ (k : Int) := by omega
   have hi1 : (k : Int) < (L : Int) := by omega
   have hgp : g ≠ pb := by omega
   have hg2' : g < w3.heap.size := (HO3.out.lt g rfl).2
   have hb0 : (0 : Int) ≤ 8 := by omega
   go_wp2
   go_region_with (go_at_call 138; refine (below_any pb _ _ (hcur3.below (Below.drew (Below.refl _ _))) (by omega) (by omega)).mono ?_; rintro e w4 ⟨x, rfl, hx0, hx1, hcur4, hgr4⟩; have hk4 := kept_at hgr4 (k := k) hg2' hgp hc0 hfz; obtain ⟨hc4, hf4⟩ := hk4)
   all_goals
    go_wp2
    go_ret
    have HO4 : Owns w4 w.heap.size (.slice (some ⟨g, 0, none⟩) L c1) zs := Owns.cur (Owns.drew1 HO3.out) hgr4 hpb
    have HG4 : w.grownBy w4 (some pb) := grown_trans HG3.out (grown_trans (grown_drewN (grown_refl _ _) 1) hgr4)
    have hy := xor_u8 c (IntKind.u8.wrap (2 ^ x.toNat))
    have hp := HO4.put k (bits BinOp.xor IntKind.u8 c (IntKind.u8.wrap (2 ^ x.toNat)))
    exact ⟨_, rfl, _, hp.1, isBytes_set HZ.out k hy.1 hy.2, by simp, hcur4.grown hp.2 (fun q hq => by cases hq; omega), grown_new HG4 hp.2 (fun q hq => by cases hq; exact hg1)⟩
end Go.Proofs.YtklhikadhohjbaaGreat
