/- The cursor over the bytes of a draw: what it answers lies in its bounds, and nothing but the cursor's own block turns. No condition. -/
import Derived.Test.YtklhikadhohjbaaGreatRA00
namespace Go.Proofs.YtklhikadhohjbaaGreat
open Go.RowKit
set_option linter.unusedVariables false

theorem and255 (y : Int) : 0 ≤ bits .and .i64 y 255 ∧ bits .and .i64 y 255 ≤ 255 := by
 have h : (BitVec.ofInt 64 y &&& BitVec.ofInt 64 255).toNat ≤ 255 := by
  rw [BitVec.toNat_and]; exact Nat.le_trans Nat.and_le_right (by decide)
 have e : bits .and .i64 y 255 = IntKind.i64.wrap ((BitVec.ofInt 64 y &&& BitVec.ofInt 64 255).toNat : Int) := rfl
 rw [e]
 simp only [IntKind.wrap, IntKind.bits, IntKind.signed]
 generalize (BitVec.ofInt 64 y &&& BitVec.ofInt 64 255).toNat = n at h
 simp
 omega

def CurAt (w : World) (pb : Nat) : Prop :=
 ∃ (a : Option Addr) (zs : List Int) (cap i : Nat) (h : Int), isBytes zs ∧ zs.length ≤ maxLen ∧ i ≤ zs.length ∧
  (zs = [] ∨ ∃ b off, a = some ⟨b, off, none⟩ ∧ b < pb ∧ ∀ j, j < zs.length → w.cell? ⟨b, off + j, none⟩ = some (.int .u8 (zs[j]?.getD 0))) ∧
  w.heap[pb]? = some (.cells #[.slice a zs.length cap, .int .i64 i, .int .i64 h] 184 (0, 0))

theorem grown_refl (w : World) (r : Option Nat) : w.grownBy w r := ⟨rfl, rfl, rfl, Nat.le_refl _, fun _ _ _ => rfl⟩

theorem grown_drewN {a w : World} {r : Option Nat} (h : a.grownBy w r) (n : Nat) : a.grownBy (w.drewN n) r := ⟨h.os, h.tape, h.output, h.size, h.block⟩

theorem grown_set {a w : World} {p j : Nat} (h : a.grownBy w (some p)) (u : Value) : a.grownBy (w.setCell ⟨p, j, none⟩ u) (some p) :=
 grown_trans h ⟨rfl, rfl, rfl, by simp, fun k _ hk => heap_setCell_other w ⟨p, j, none⟩ k u (fun e => hk (by simp [e]))⟩

theorem grown_below {w w' : World} {r : Option Nat} (h : Below w.heap.size w w') : w.grownBy w' r := ⟨h.os, h.tape, h.output, h.size, fun k hk _ => h.block k hk⟩

theorem below_grown {w0 w w' : World} {B p : Nat} (h : Below B w0 w) (hg : w.grownBy w' (some p)) (hB : B ≤ w.heap.size) (hp : B ≤ p) : Below B w0 w' := h.grown hg hB (fun k hk => by cases hk; exact hp)

theorem CurAt.lt {w : World} {pb : Nat} (h : CurAt w pb) : pb < w.heap.size := by
 obtain ⟨_, _, _, _, _, _, _, _, _, hh⟩ := h
 exact lt_of_block hh

theorem CurAt.grown {w w' : World} {pb : Nat} {r : Option Nat} (h : CurAt w pb) (hg : w.grownBy w' r) (hr : ∀ k, r = some k → pb < k) : CurAt w' pb := by
 have hlt := h.lt
 obtain ⟨a, zs, cap, i, hh, h1, h2, h3, h4, h5⟩ := h
 refine ⟨a, zs, cap, i, hh, h1, h2, h3, ?_, ?_⟩
 ·rcases h4 with h4 | ⟨b, off, ha, hb, hc⟩
  ·exact .inl h4
  ·exact .inr ⟨b, off, ha, hb, fun j hj => hg.cell (hc j hj) (fun e => by have := hr _ e.symm; simp at this; omega)⟩
 ·rw [hg.block pb hlt (fun e => by have := hr _ e.symm; omega)]; exact h5

theorem CurAt.below {w w' : World} {pb : Nat} (h : CurAt w pb) (hb : Below w.heap.size w w') : CurAt w' pb := h.grown (r := none) (grown_below hb) (fun k hk => by cases hk)

theorem cur_turned {w w' : World} {pb : Nat} {a : Option Addr} {zs : List Int} {cap i : Nat} {h : Int} (hzb : isBytes zs) (hzl : zs.length ≤ maxLen) (hi : i ≤ zs.length)
  (hc : zs = [] ∨ ∃ b off, a = some ⟨b, off, none⟩ ∧ b < pb ∧ ∀ j, j < zs.length → w.cell? ⟨b, off + j, none⟩ = some (.int .u8 (zs[j]?.getD 0)))
  (hg : w.grownBy w' (some pb)) (hh : w'.heap[pb]? = some (.cells #[.slice a zs.length cap, .int .i64 i, .int .i64 h] 184 (0, 0))) : CurAt w' pb := by
 refine ⟨a, zs, cap, i, h, hzb, hzl, hi, ?_, hh⟩
 rcases hc with h0 | ⟨b, off, ha, hb, hc⟩
 ·exact .inl h0
 ·exact .inr ⟨b, off, ha, hb, fun j hj => hg.cell (hc j hj) (fun e => by simp at e; omega)⟩

set_option maxHeartbeats 1000000 in
theorem byte_any (pb : Nat) (w : World) (h : CurAt w pb) :
  Calls Tryz.prog 158 #[.pointer (some ⟨pb, 0, none⟩)] w fun e w' => ∃ x : Int, e = .returned (.int .i64 x) ∧ 0 ≤ x ∧ x ≤ 255 ∧ CurAt w' pb ∧ w.grownBy w' (some pb) := by
 obtain ⟨a, zs, cap, i, hh, hzb, hzl, hi, hcode, hheap⟩ := h
 obtain ⟨L, hL⟩ : ∃ L, zs.length = L := ⟨_, rfl⟩
 have c0 : w.cell? ⟨pb, 0, none⟩ = some (.slice a L cap) := by rw [cell_of_row w pb 0 _ _ _ hheap, ← hL]; rfl
 have c1 : w.cell? ⟨pb, 1, none⟩ = some (.int .i64 i) := by rw [cell_of_row w pb 1 _ _ _ hheap]; rfl
 have c2 : w.cell? ⟨pb, 2, none⟩ = some (.int .i64 hh) := by rw [cell_of_row w pb 2 _ _ _ hheap]; rfl
 have f1 : w.frozen? ⟨pb, 1, none⟩ = false := frozen_of_row w pb 1 _ _ hheap
 have f2 : w.frozen? ⟨pb, 2, none⟩ = false := frozen_of_row w pb 2 _ _ hheap
 have HH : Hid _ := hheap
 have HC : Hid _ := hcode
 have HL : Hid _ := hL
 have hLi : i ≤ L := by omega
 have hLm : L ≤ 9223372036854775807 := by unfold maxLen at hzl; omega
 clear hheap hcode hi hzl hL
 go_enter Tryz.func158, Tryz.ntmps158
 go_wp2
 generalize wrap64 (wrap64 (hh * 6364136223846793005) + 1442695040888963407) = H
 go_quiet (fail)
 go_wp2
 have hx := and255 (bits BinOp.xor IntKind.i64 (H / 8589934592) (H / 35184372088832))
 generalize bits BinOp.and IntKind.i64 (bits BinOp.xor IntKind.i64 (H / 8589934592) (H / 35184372088832)) 255 = x at hx
 by_cases hlt : i < L
 ·rcases HC.out with h0 | ⟨b, off, rfl, hb, hc⟩
  ·have := HL.out; rw [h0] at this; simp at this; omega
  have hc1 := hc i (by rw [HL.out]; exact hlt)
  have hcb := hzb i
  generalize zs[i]?.getD 0 = c at hc1 hcb
  clear hc
  go_quiet (fail)
  go_wp2
  go_quiet (fail)
  go_wp2
  go_ret
  have hy := and255 (x + c)
  have e1 := heap_setCell_same w pb 2 _ _ (.int .i64 H) HH.out
  have e2 := fun n => heap_setCell_same ((w.setCell ⟨pb, 2, none⟩ (.int .i64 H)).drewN n) pb 1 _ _ (.int .i64 ((i : Int) + 1)) e1
  have hgr := fun n => grown_set (j := 1) (grown_drewN (grown_set (j := 2) (grown_refl w (some pb)) (.int .i64 H)) n) (.int .i64 ((i : Int) + 1))
  exact ⟨_, rfl, hy.1, hy.2, cur_turned (i := i + 1) (h := H) hzb (by rw [HL.out]; unfold maxLen; omega) (by rw [HL.out]; omega) HC.out (hgr _) (e2 _), hgr _⟩
 ·go_quiet (fail)
  go_wp2
  go_ret
  have e1 := heap_setCell_same w pb 2 _ _ (.int .i64 H) HH.out
  have hgr := fun n m => grown_drewN (grown_drewN (grown_set (j := 2) (grown_refl w (some pb)) (.int .i64 H)) n) m
  exact ⟨_, rfl, hx.1, hx.2, cur_turned (i := i) (h := H) hzb (by rw [HL.out]; unfold maxLen; omega) (by rw [HL.out]; omega) HC.out (hgr _ _) e1, hgr _ _⟩

set_option maxHeartbeats 1000000 in
theorem below_any (pb : Nat) (n : Int) (w : World) (h : CurAt w pb) (h0 : 0 < n) (hn : n ≤ 9223372036854775807) :
  Calls Tryz.prog 138 #[.pointer (some ⟨pb, 0, none⟩), .int .i64 n] w fun e w' => ∃ x : Int, e = .returned (.int .i64 x) ∧ 0 ≤ x ∧ x < n ∧ CurAt w' pb ∧ w.grownBy w' (some pb) := by
 by_cases h256 : n ≤ 256
 ·go_enter Tryz.func138, Tryz.ntmps138
  go_wp2_with fail
  refine (byte_any pb w h).mono ?_
  rintro e w1 ⟨x, rfl, hx0, hx1, hc1, hg1⟩
  go_wp2
  go_ret
  exact ⟨_, rfl, Int.emod_nonneg _ (by omega), Int.emod_lt_of_pos _ h0, hc1, hg1⟩
 ·go_enter Tryz.func138, Tryz.ntmps138
  go_wp2_with fail
  refine (byte_any pb w h).mono ?_
  rintro e w1 ⟨x, rfl, hx0, hx1, hc1, hg1⟩
  go_wp2_with fail
  refine (byte_any pb w1 hc1).mono ?_
  rintro e w2 ⟨y, rfl, hy0, hy1, hc2, hg2⟩
  go_wp2_with fail
  refine (byte_any pb w2 hc2).mono ?_
  rintro e w3 ⟨z, rfl, hz0, hz1, hc3, hg3⟩
  go_wp2_with fail
  refine (byte_any pb w3 hc3).mono ?_
  rintro e w4 ⟨u, rfl, hu0, hu1, hc4, hg4⟩
  go_wp2
  go_ret
  exact ⟨_, rfl, Int.emod_nonneg _ (by omega), Int.emod_lt_of_pos _ h0, hc4, grown_trans (grown_trans (grown_trans hg1 hg2) hg3) hg4⟩

theorem once_any (pb : Nat) (n : Int) (w : World) (h : CurAt w pb) (h0 : 0 < n) (hn : n ≤ 9223372036854775807) :
  Calls Tryz.prog 73 #[.pointer (some ⟨pb, 0, none⟩), .int .i64 n] w fun e w' => ∃ x : Bool, e = .returned (.bool x) ∧ CurAt w' pb ∧ w.grownBy w' (some pb) := by
 go_enter Tryz.func73, Tryz.ntmps73
 go_wp2_with fail
 refine (below_any pb n w h h0 hn).mono ?_
 rintro e w1 ⟨x, rfl, hx0, hx1, hc1, hg1⟩
 go_wp2
 go_ret
 exact ⟨_, rfl, hc1, hg1⟩

theorem pick_any (pb g : Nat) (xs : List Int) (w : World) (h : CurAt w pb) (h0 : 0 < xs.length) (hl : xs.length ≤ 100) (hne : g ≠ pb) (hg : w.heap[g]? = some (.cells (xs.map (Value.int .i64)).toArray 3 (0, 0))) :
  Calls Tryz.prog 87 #[.pointer (some ⟨pb, 0, none⟩), .slice (some ⟨g, 0, none⟩) xs.length xs.length] w fun e w' => ∃ x : Int, e = .returned (.int .i64 x) ∧ x ∈ xs ∧ CurAt w' pb ∧ w.grownBy w' (some pb) := by
 obtain ⟨L, hL⟩ : ∃ L, xs.length = L := ⟨_, rfl⟩
 have HL : Hid _ := hL
 rw [hL] at h0 hl ⊢
 have HG : Hid _ := hg
 clear hL hg
 go_enter Tryz.func87, Tryz.ntmps87
 go_wp2_with fail
 refine (below_any pb (L : Int) w h (by omega) (by omega)).mono ?_
 rintro e w1 ⟨x, rfl, hx0, hx1, hc1, hg1⟩
 obtain ⟨k, rfl⟩ : ∃ k : Nat, x = (k : Int) := ⟨x.toNat, by omega⟩
 have hk : k < xs.length := by rw [HL.out]; omega
 have hcell : w1.cell? ⟨g, k, none⟩ = some (.int .i64 xs[k]) := by
  refine hg1.cell ?_ (by simpa using hne)
  rw [cell_of_row w g k _ _ _ HG.out]
  simp [hk]
 have hmem : xs[k] ∈ xs := List.getElem_mem hk
 generalize xs[k] = y at hcell hmem
 go_wp2
 go_ret
 exact ⟨_, rfl, hmem, hc1, hg1⟩

theorem grown_new {a b c : World} {r r' : Option Nat} (h : a.grownBy b r) (k : b.grownBy c r') (hr : ∀ k, r' = some k → a.heap.size ≤ k) : a.grownBy c r :=
 ⟨k.os.trans h.os, k.tape.trans h.tape, k.output.trans h.output, Nat.le_trans h.size k.size, fun i hi hne => (k.block i (Nat.lt_of_lt_of_le hi h.size) (fun e => by have := hr i e.symm; omega)).trans (h.block i hi hne)⟩

theorem grown_alloc {a b : World} {r : Option Nat} (h : a.grownBy b r) (o : Obj) : a.grownBy (b.alloc o) r := grown_trans h (World.grownBy_alloc b o r)

theorem CurAt.alloc {w : World} {pb : Nat} (h : CurAt w pb) (o : Obj) : CurAt (w.alloc o) pb := h.grown (r := none) (World.grownBy_alloc w o none) (fun k hk => by cases hk)

theorem Owns.cur {w w' : World} {base pb : Nat} {v : Value} {zs : List Int} (h : Owns w base v zs) (hg : w.grownBy w' (some pb)) (hb : pb < base) : Owns w' base v zs := by
 refine World.ownsRow.kept h hg ?_
 cases hk : v.ownBlock with
 | none => exact .inl rfl
 | some k => exact .inr (fun e => by simp only [Option.some.injEq] at e; have := (h.lt k hk).1; omega)

theorem isBytes_snoc {ys : List Int} {x : Int} (h : isBytes ys) (h0 : 0 ≤ x) (h1 : x ≤ 255) : isBytes (ys ++ [x]) := isBytes_append h (isBytes_cons h0 h1 isBytes_nil)

theorem cur_new (w : World) (a : Option Addr) (zs : List Int) (len cap : Nat) (x : Int) (h : Reads w a zs) (hlen : len = zs.length) (hm : zs.length ≤ maxLen) : CurAt (w.alloc (.cells #[.slice a len cap, .int .i64 0, .int .i64 x] 184)) w.heap.size := by
 subst hlen
 refine ⟨a, zs, cap, 0, x, h.1, hm, Nat.zero_le _, ?_, heap_alloc_new w _⟩
 rcases h.2 with h0 | ⟨b, off, ha, hb, hc⟩
 ·exact .inl h0
 ·exact .inr ⟨b, off, ha, hb, fun j hj => (World.cell?_alloc_past _ b (off + j) hb).trans (hc j hj)⟩

set_option maxHeartbeats 1000000 in
set_option maxRecDepth 100000 in
theorem new_any (a : Option Addr) (zs : List Int) (len cap : Nat) (w : World) (h : Reads w a zs) (hlen : len = zs.length) (hm : zs.length ≤ maxLen) :
  Calls Tryz.prog 51 #[.slice a len cap] w fun e w' => e = .returned (.pointer (some ⟨w.heap.size, 0, none⟩)) ∧ CurAt w' w.heap.size ∧ Below w.heap.size w w' := by
 have HLEN : Hid _ := hlen
 have hmm : len ≤ 9223372036854775807 := by unfold maxLen at hm; omega
 have HM : Hid _ := hm
 have HR : Hid _ := h
 clear h hlen hm
 go_enter Tryz.func51, Tryz.ntmps51
 go_wp2
 go_loop [3, 4] (fun q i => ∃ (k : Nat) (x : Int), k ≤ len ∧ k ≤ 4000 ∧ i = .int .i64 k ∧ q = .int .i64 x) (fun _ i => 4000 - (intOf i).toNat)
 case atStart => exact ⟨0, _, Nat.zero_le _, Nat.zero_le _, rfl, rfl⟩
 case round =>
  obtain ⟨k, x, hk, hk4, rfl, rfl⟩ := hrel
  by_cases hlt : k < len ∧ k < 4000
  ·obtain ⟨hlt, hlt4⟩ := hlt
   rcases HR.out.2 with h0 | ⟨b, off, rfl, hb, hc⟩
   ·have := HLEN.out; rw [h0] at this; simp at this; omega
   have hc1 := hc k (by rw [← HLEN.out]; exact hlt)
   generalize zs[k]?.getD 0 = c at hc1
   clear hc
   go_wp2
   go_round
   case rel => exact ⟨k + 1, _, by omega, by omega, by go_num, rfl⟩
   case measure => simp [intOf]; omega
  ·by_cases hlt1 : k < len
   ·have hge : 4000 ≤ k := by omega
    go_wp2
    go_ret
    exact ⟨rfl, cur_new w a zs len cap x HR.out HLEN.out HM.out, (Below.refl _ _).alloc (Nat.le_refl _) _⟩
   ·go_wp2
    go_ret
    exact ⟨rfl, cur_new w a zs len cap x HR.out HLEN.out HM.out, (Below.refl _ _).alloc (Nat.le_refl _) _⟩
end Go.Proofs.YtklhikadhohjbaaGreat
