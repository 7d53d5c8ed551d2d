/- What is drawn in chapter 1: bytes and numbers in their bounds, in memory of their own; no condition. -/
import Derived.Test.YtglpijcfnapdlaaCursor
namespace Go.Proofs.Ytglpijcfnapdlaa
open Go.RowKit
set_option linter.unusedVariables false

theorem grown_new {a b c : World} {r r' : Option Nat} (h : a.grownBy b r) (k : b.grownBy c r') (hr : ∀ k, r' = some k → a.heap.size ≤ k) : a.grownBy c r :=
  ⟨k.os.trans h.os, k.tape.trans h.tape, k.output.trans h.output, Nat.le_trans h.size k.size, fun i hi hne => (k.block i (Nat.lt_of_lt_of_le hi h.size) (fun e => by have := hr i e.symm; omega)).trans (h.block i hi hne)⟩
theorem grown_alloc {a b : World} {r : Option Nat} (h : a.grownBy b r) (o : Obj) : a.grownBy (b.alloc o) r := grown_trans h (World.grownBy_alloc b o r)
theorem CurAt.alloc {w : World} {pb : Nat} (h : CurAt w pb) (o : Obj) : CurAt (w.alloc o) pb := h.grown (r := none) (World.grownBy_alloc w o none) (fun k hk => by cases hk)
/-- A slice of the call's own, behind the cursor, is left by the cursor's steps. -/
theorem Owns.cur {w w' : World} {base pb : Nat} {v : Value} {zs : List Int} (h : Owns w base v zs) (hg : w.grownBy w' (some pb)) (hb : pb < base) : Owns w' base v zs := by
  refine World.ownsRow.kept h hg ?_
  cases hk : v.ownBlock with
  | none => exact .inl rfl
  | some k => exact .inr (fun e => by simp only [Option.some.injEq] at e; have := (h.lt k hk).1; omega)

def SomeRel (w : World) (pb N : Nat) (o i : Value) (wr : World) : Prop :=
  ∃ (k : Nat) (ys : List Int), k ≤ N ∧ i = .int .i64 k ∧ ys.length = k ∧ isBytes ys ∧ Owns wr w.heap.size o ys ∧ CurAt wr pb ∧ w.grownBy wr (some pb)

theorem isBytes_snoc {ys : List Int} {x : Int} (h : isBytes ys) (h0 : 0 ≤ x) (h1 : x ≤ 255) : isBytes (ys ++ [x]) := isBytes_append h (isBytes_cons h0 h1 isBytes_nil)

set_option maxHeartbeats 1000000 in
theorem some_any (pb : Nat) (most : Nat) (w : World) (h : CurAt w pb) (hm : most ≤ 100000) :
    Calls Try.prog 25 #[.pointer (some ⟨pb, 0, none⟩), .int .i64 most] w fun e w' => ∃ v ys, e = .returned v ∧ Owns w' w.heap.size v ys ∧ isBytes ys ∧ ys.length ≤ most ∧ CurAt w' pb ∧ w.grownBy w' (some pb) := by
  have hpb := h.lt
  go_enter Try.func25, Try.ntmps25
  go_wp2_with fail
  refine (below_any pb _ w h (by omega) (by omega)).mono ?_
  rintro e w1 ⟨x, rfl, hx0, hx1, hc1, hg1⟩
  obtain ⟨N, rfl⟩ : ∃ N : Nat, x = (N : Int) := ⟨x.toNat, by omega⟩
  have hNm : N ≤ most := by omega
  go_wp2
  go_loopw [5, 7] (fun o i wr => SomeRel w pb N o i wr) (fun _ i _ => N - (intOf i).toNat)
  case atStart => exact ⟨0, [], Nat.zero_le _, rfl, rfl, isBytes_nil, World.ownsRow_nil _ _ _ _, hc1, hg1⟩
  case round =>
    clear hc1 hg1 h
    obtain ⟨k, ys, hk, rfl, hyl, hyb, hown, hcur, hgr⟩ := hrel
    have HO : Hid _ := hown
    have HGR : Hid _ := hgr
    have HB : Hid _ := hyb
    have HY : Hid _ := hyl
    clear hown hgr hyb hyl
    by_cases hlt : k < N
    · go_wp2_with fail
      refine (byte_any pb _ hcur).mono ?_
      rintro e w2 ⟨x, rfl, hx0, hx1, hc2, hg2⟩
      have HO2 : Hid (Owns w2 w.heap.size u5 ys) := Owns.cur HO.out hg2 hpb
      have HG2 : Hid _ := grown_trans HGR.out hg2
      have hs2 := HG2.out.size
      go_wp2_with (at_builtin; go_must (refine wpList_app _ rfl (.tmp 17) (.tmp 21) rfl w.heap.size _ ys [x] rfl (HO2.out.alloc _) _ 1 1 rfl rfl (one_new _ x (by omega) (by omega)) (by have := HY.out; omega) (by simp) (by simp; omega) (fun h => by cases h) ?_; intro v3 w3 ho3 hg3))
      have HR : SomeRel w pb N v3 (.int .i64 ((k : Int) + 1)) w3 := by
        refine ⟨k + 1, ys ++ [x], by omega, by go_num, by simp [HY.out], isBytes_snoc HB.out hx0 hx1, ho3, ?_, ?_⟩
        · exact (hc2.alloc _).grown hg3 (fun q hq => by have := (HO2.out.lt q hq).1; omega)
        · exact grown_new (grown_alloc HG2.out _) hg3 (fun q hq => (HO2.out.lt q hq).1)
      refine ⟨?_, by simp [intOf]; omega⟩
      first | exact HR | exact ⟨_, _, HR, rfl, rfl⟩
    · go_wp2
      go_ret
      exact ⟨_, ys, rfl, HO.out, HB.out, by have := HY.out; omega, hcur, HGR.out⟩

set_option maxHeartbeats 1000000 in
theorem num_any (pb : Nat) (w : World) (h : CurAt w pb) :
    Calls Try.prog 26 #[.pointer (some ⟨pb, 0, none⟩)] w fun e w' => ∃ n : Int, e = .returned (.int .i64 n) ∧ -9223372036854775808 ≤ n ∧ n ≤ 9223372036854775807 ∧ CurAt w' pb ∧ w.grownBy w' (some pb) := by
  have hpb := h.lt
  go_enter Try.func26, Try.ntmps26
  go_wp2_with fail
  refine (below_any pb _ w h (by omega) (by omega)).mono ?_
  rintro e w1 ⟨x, rfl, hx0, hx1, hc1, hg1⟩
  have hs1 := hg1.size
  by_cases hx : x = 0
  · subst hx
    go_wp2_with fail
    refine (pick_any pb w1.heap.size [0, 1, 127, 128, 16383, 16384, 2147483647, 2147483646] _ (hc1.alloc _) (by simp) (by simp) (by omega) (heap_alloc_new w1 _)).mono ?_
    rintro e w2 ⟨y, rfl, hm, hc2, hg2⟩
    go_wp2
    go_ret
    exact ⟨y, rfl, by simp at hm; omega, by simp at hm; omega, hc2, grown_trans (grown_alloc hg1 _) hg2⟩
  · by_cases hx1' : x = 1
    · subst hx1'
      go_wp2_with fail
      refine (pick_any pb w1.heap.size [-1, 2147483648, 4611686018427387904, -9223372036854775808, 9223372036854775807] _ (hc1.alloc _) (by simp) (by simp) (by omega) (heap_alloc_new w1 _)).mono ?_
      rintro e w2 ⟨y, rfl, hm, hc2, hg2⟩
      go_wp2
      go_ret
      exact ⟨y, rfl, by simp at hm; omega, by simp at hm; omega, hc2, grown_trans (grown_alloc hg1 _) hg2⟩
    · have e0 : (x == 0) = false := beq_eq_false_iff_ne.2 hx
      have e1 : (x == 1) = false := beq_eq_false_iff_ne.2 hx1'
      go_wp2_with fail
      refine (below_any pb _ w1 hc1 (by omega) (by omega)).mono ?_
      rintro e w2 ⟨y, rfl, hy0, hy1, hc2, hg2⟩
      go_wp2
      go_ret
      exact ⟨y, rfl, by omega, by omega, hc2, grown_trans hg1 hg2⟩

theorem cur_new (w : World) (a : Option Addr) (zs : List Int) (len cap : Nat) (x : Int) (h : Reads w a zs) (hlen : len = zs.length) (hm : zs.length ≤ maxLen) : CurAt (w.alloc (.cells #[.slice a len cap, .int .i64 0, .int .i64 x] 50)) w.heap.size := by
  subst hlen
  refine ⟨a, zs, cap, 0, x, h.1, hm, Nat.zero_le _, ?_, heap_alloc_new w _⟩
  rcases h.2 with h0 | ⟨b, off, ha, hb, hc⟩
  · exact .inl h0
  · exact .inr ⟨b, off, ha, hb, fun j hj => (World.cell?_alloc_past _ b (off + j) hb).trans (hc j hj)⟩

set_option maxHeartbeats 1000000 in
set_option maxRecDepth 100000 in
theorem new_any (a : Option Addr) (zs : List Int) (len cap : Nat) (w : World) (h : Reads w a zs) (hlen : len = zs.length) (hm : zs.length ≤ maxLen) :
    Calls Try.prog 24 #[.slice a len cap] w fun e w' => e = .returned (.pointer (some ⟨w.heap.size, 0, none⟩)) ∧ CurAt w' w.heap.size ∧ Below w.heap.size w w' := by
  have HLEN : Hid _ := hlen
  have hmm : len ≤ 9223372036854775807 := by unfold maxLen at hm; omega
  have HM : Hid _ := hm
  have HR : Hid _ := h
  clear h hlen hm
  go_enter Try.func24, Try.ntmps24
  go_wp2
  go_loop [3, 4] (fun q i => ∃ (k : Nat) (x : Int), k ≤ len ∧ k ≤ 4000 ∧ i = .int .i64 k ∧ q = .int .i64 x) (fun _ i => 4000 - (intOf i).toNat)
  case atStart => exact ⟨0, _, Nat.zero_le _, Nat.zero_le _, rfl, rfl⟩
  case round =>
    obtain ⟨k, x, hk, hk4, rfl, rfl⟩ := hrel
    by_cases hlt : k < len ∧ k < 4000
    · obtain ⟨hlt, hlt4⟩ := hlt
      rcases HR.out.2 with h0 | ⟨b, off, rfl, hb, hc⟩
      · have := HLEN.out; rw [h0] at this; simp at this; omega
      have hc1 := hc k (by rw [← HLEN.out]; exact hlt)
      generalize zs[k]?.getD 0 = c at hc1
      clear hc
      go_wp2
      go_round
      case rel => exact ⟨k + 1, _, by omega, by omega, by go_num, rfl⟩
      case measure => simp [intOf]; omega
    · by_cases hlt1 : k < len
      · have hge : 4000 ≤ k := by omega
        go_wp2
        go_ret
        exact ⟨rfl, cur_new w a zs len cap x HR.out HLEN.out HM.out, (Below.refl _ _).alloc (Nat.le_refl _) _⟩
      · go_wp2
        go_ret
        exact ⟨rfl, cur_new w a zs len cap x HR.out HLEN.out HM.out, (Below.refl _ _).alloc (Nat.le_refl _) _⟩
end Go.Proofs.Ytglpijcfnapdlaa
