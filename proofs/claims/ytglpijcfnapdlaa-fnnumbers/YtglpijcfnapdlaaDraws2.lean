/- What chapter 1's draws answer: bytes in memory of their own, and numbers; no condition. -/
import Derived.Test.YtglpijcfnapdlaaSpoil
namespace Go.Proofs.Ytglpijcfnapdlaa
open Go.RowKit
set_option linter.unusedVariables false

set_option maxHeartbeats 1000000 in
theorem drawPutNum_any (a : Option Addr) (zs : List Int) (len cap : Nat) (w : World) (h : Reads w a zs) (hlen : len = zs.length) (hm : zs.length ≤ maxLen) :
    Calls Try.prog 8 #[.slice a len cap] w fun e w' => ∃ v ys n, e = .returned (.tuple #[v, .int .i64 n]) ∧ Owns w' w.heap.size v ys ∧ isBytes ys ∧ ys.length ≤ 4 ∧ Below w.heap.size w w' := by
  have HLEN : Hid _ := hlen
  clear hlen
  go_enter Try.func8, Try.ntmps8
  go_wp2_with fail
  refine (new_any a zs _ _ w h HLEN.out hm).mono ?_
  rintro e w1 ⟨rfl, hc1, hb1⟩
  have hlt := hc1.lt
  generalize hpb : w.heap.size = pb at hc1 hlt
  have HPB : Hid _ := hpb
  clear hpb
  go_wp2_with fail
  refine (some_any pb 4 w1 hc1 (by omega)).mono ?_
  rintro e w2 ⟨v, ys, rfl, ho2, hyb, hyl, hc2, hg2⟩
  go_wp2_with fail
  refine (num_any pb w2 hc2).mono ?_
  rintro e w3 ⟨n, rfl, hn0, hn1, hc3, hg3⟩
  have ho3 := ho2.cur hg3 hlt
  go_wp2
  go_ret2
  refine ⟨v, ys, n, rfl, ho3.base (by have := HPB.out; omega), hyb, hyl, ?_⟩
  exact below_grown hb1 (grown_trans hg2 hg3) hb1.size (by have := HPB.out; omega)

theorem Owns.new {w w' : World} {base : Nat} {v : Value} {zs : List Int} (h : Owns w base v zs) (hg : w.grownBy w' none) : Owns w' base v zs :=
  World.ownsRow.kept h hg (by cases hk : v.ownBlock with | none => exact .inl rfl | some k => exact .inr (by simp))
theorem isBytes_zeros (n : Nat) : isBytes (List.replicate n 0) := by
  intro j
  rw [List.getElem?_replicate]
  split <;> simp

set_option maxHeartbeats 1000000 in
theorem drawPutText_any (a : Option Addr) (zs : List Int) (len cap : Nat) (w : World) (h : Reads w a zs) (hlen : len = zs.length) (hm : zs.length ≤ maxLen) :
    Calls Try.prog 11 #[.slice a len cap] w fun e w' => ∃ v u ys ts, e = .returned (.tuple #[v, u]) ∧ Owns w' w.heap.size v ys ∧ Owns w' w.heap.size u ts ∧ isBytes ys ∧ isBytes ts ∧ ys.length ≤ 3 ∧ ts.length ≤ 41 ∧ Below w.heap.size w w' := by
  have HLEN : Hid _ := hlen
  obtain ⟨i0, hi, hz0, hz1, hz2⟩ := info_parts Try.infoB
  clear hlen
  go_enter Try.func11, Try.ntmps11
  go_wp2_with fail
  refine (new_any a zs _ _ w h HLEN.out hm).mono ?_
  rintro e w1 ⟨rfl, hc1, hb1⟩
  have hlt := hc1.lt
  generalize hpb : w.heap.size = pb at hc1 hlt
  have HPB : Hid _ := hpb
  clear hpb
  go_wp2_with fail
  refine (some_any pb 3 w1 hc1 (by omega)).mono ?_
  rintro e w2 ⟨v, ys, rfl, ho2, hyb, hyl, hc2, hg2⟩
  go_wp2_with fail
  refine (some_any pb 6 w2 hc2 (by omega)).mono ?_
  rintro e w3 ⟨u, ts, rfl, hu3, htb, htl, hc3, hg3⟩
  have ho3 := ho2.cur hg3 hlt
  have hs2 := hg2.size
  go_wp2_with fail
  refine (once_any pb _ w3 hc3 (by omega) (by omega)).mono ?_
  rintro e w4 ⟨x, rfl, hc4, hg4⟩
  have ho4 := ho3.cur hg4 hlt
  have hu4 := hu3.cur hg4 (by omega)
  have HG : Hid _ := grown_trans (grown_trans hg2 hg3) hg4
  have HB : Hid _ := hb1
  have hb1s := hb1.size
  cases x with
  | false =>
    go_wp2
    go_ret2
    refine ⟨v, u, ys, ts, rfl, ho4.base (by have := HPB.out; omega), hu4.base (by have := HPB.out; omega), hyb, htb, hyl, by omega, ?_⟩
    exact below_grown HB.out HG.out HB.out.size (by have := HPB.out; omega)
  | true =>
    go_wp2_with fail
    refine (below_any pb _ w4 hc4 (by omega) (by omega)).mono ?_
    rintro e w5 ⟨x, rfl, hx0, hx1, hc5, hg5⟩
    obtain ⟨q, rfl⟩ : ∃ q : Nat, x = (q : Int) := ⟨x.toNat, by omega⟩
    have ho5 := ho4.cur hg5 hlt
    have HG5 : Hid _ := grown_trans HG.out hg5
    have hs5 := HG5.out.size
    go_wp2_with (at_make; refine wpList_make_full _ rfl _ _ 22 rfl w5.heap.size 5 i0 (.int .u8 0) 1 Try.underlying22 hi hz0 hz1 .i64 .i64 _ _ (40 + q) rfl rfl (by omega) (by omega) (by rw [hz2]; omega) (by unfold maxLen; omega) (Nat.le_refl _) ?_; intro w6 hown hgrow)
    go_ret2
    rw [madeCells_bytes] at hown
    have hO : Owns w6 w5.heap.size (.slice (some ⟨w5.heap.size, 0, none⟩) (40 + q) (40 + q)) (List.replicate (40 + q) 0) := by
      unfold Owns; rw [List.length_replicate]; exact hown
    refine ⟨v, _, ys, List.replicate (40 + q) 0, rfl, ?_, hO.base (by have := HPB.out; omega), hyb, isBytes_zeros _, hyl, by simp; omega, ?_⟩
    · exact Owns.base (Owns.new ho5 hgrow) (by have := HPB.out; omega)
    · exact (below_grown HB.out HG5.out HB.out.size (by have := HPB.out; omega)).grown hgrow (by have := HPB.out; omega) (fun k hk => by cases hk)

set_option maxHeartbeats 4000000 in
theorem drawGetNum_any (a : Option Addr) (zs : List Int) (len cap : Nat) (w : World) (h : Reads w a zs) (hlen : len = zs.length) (hm : zs.length ≤ maxLen) :
    Calls Try.prog 15 #[.slice a len cap] w fun e w' => ∃ v ys p, e = .returned (.tuple #[v, .int .i64 p]) ∧ Owns w' w.heap.size v ys ∧ isBytes ys ∧ ys.length ≤ 20 ∧ p ≤ 9223372036854775807 ∧ Below w.heap.size w w' := by
  have HLEN : Hid _ := hlen
  clear hlen
  go_enter Try.func15, Try.ntmps15
  go_wp2_with fail
  refine (new_any a zs _ _ w h HLEN.out hm).mono ?_
  rintro e w1 ⟨rfl, hc1, hb1⟩
  have hlt := hc1.lt
  generalize hpb : w.heap.size = pb at hc1 hlt
  have HPB : Hid _ := hpb
  clear hpb
  go_wp2_with fail
  refine (some_any pb 3 w1 hc1 (by omega)).mono ?_
  rintro e w2 ⟨v, ys, rfl, ho2, hyb, hyl, hc2, hg2⟩
  obtain ⟨a2, L2, c2, rfl, HL2, HN2, HF2⟩ := ho2.form
  go_wp2_with fail
  refine (num_any pb w2 hc2).mono ?_
  rintro e w3 ⟨n, rfl, hn0, hn1, hc3, hg3⟩
  have ho3 := ho2.cur hg3 hlt
  have hp := putB_len n
  have hs2 := hg2.size
  have hs3 := hg3.size
  go_wp2_with fail
  refine (specPut_any a2 ys L2 c2 n w3 (ho3.reads hyb).2 HL2.out (by omega) HN2.out).mono ?_
  rintro e w4 ⟨v4, rfl, ho4, hb4⟩
  have hb4' : isBytes (ys ++ putB n) := isBytes_append hyb (putB_bytes n)
  have hl4 : (ys ++ putB n).length ≤ 8 := by rw [List.length_append]; omega
  generalize ys ++ putB n = zs4 at ho4 hb4' hl4
  have hc4 := hc3.below hb4
  have HG4 : Hid _ := grown_trans (grown_trans hg2 hg3) (grown_below hb4)
  have hs4 := hb4.size
  clear ho2 ho3 hg2 hg3 hb4 hc3 hc2 hc1
  go_wp2_with fail
  refine (some_any pb 3 w4 hc4 (by omega)).mono ?_
  rintro e w5 ⟨v5, xs, rfl, ho5, hxb, hxl, hc5, hg5⟩
  obtain ⟨a5, L5, c5, rfl, HL5, HN5, HF5⟩ := ho5.form
  have ho45 := ho4.cur hg5 (by omega)
  have hr5 := (ho5.reads hxb).2
  have hs5 := hg5.size
  go_wp2_with (at_builtin; go_must (refine wpList_app _ rfl (.tmp 17) (.tmp 19) rfl w3.heap.size v4 zs4 xs rfl ho45 a5 L5 c5 rfl HL5.out hr5 (by omega) (by omega) (by omega) HN5.out ?_; intro v6 w6 ho6 hg6))
  have hb6' : isBytes (zs4 ++ xs) := isBytes_append hb4' hxb
  have hl6 : (zs4 ++ xs).length ≤ 11 := by rw [List.length_append]; omega
  generalize zs4 ++ xs = zs6 at ho6 hb6' hl6
  have hc6 := hc5.grown hg6 (fun q hq => by have := (ho45.lt q hq).1; omega)
  have HG6 : Hid (w1.grownBy w6 (some pb)) := grown_new (grown_trans HG4.out hg5) hg6 (fun q hq => by have := (ho45.lt q hq).1; omega)
  have hs6 := hg6.size
  clear ho45 hr5 ho5 ho4 hg5 hg6 HG4 hc5 hc4
  refine (once_any pb _ w6 hc6 (by omega) (by omega)).mono ?_
  rintro e w7 ⟨x7, rfl, hc7, hg7⟩
  have ho7 : Owns w7 w1.heap.size v6 zs6 := Owns.base (ho6.cur hg7 (by omega)) (by omega)
  have HG7 : Hid _ := grown_trans HG6.out hg7
  have hs7 := hg7.size
  have HB1 : Hid _ := hb1
  have hs0 := hb1.size
  obtain ⟨a6, L6, c6, rfl, HL6, HN6, HF6⟩ := ho7.form
  clear ho6 hg7 HG6 hc6 hb1
  cases x7 with
  | false =>
    go_wp2_with fail
    refine (once_any pb _ w7 hc7 (by omega) (by omega)).mono ?_
    rintro e w8 ⟨x8, rfl, hc8, hg8⟩
    have ho8 := ho7.cur hg8 hlt
    have HG8 : Hid _ := grown_trans HG7.out hg8
    cases x8 with
    | false =>
      go_wp2
      go_ret2
      exact ⟨_, zs6, _, rfl, ho8.base (by have := HPB.out; omega), hb6', by omega, by have := HL2.out; omega, below_grown HB1.out HG8.out HB1.out.size (by have := HPB.out; omega)⟩
    | true =>
      have hL6 : L6 ≤ 11 := by rw [HL6.out]; exact hl6
      go_wp2_with fail
      refine (pick_any pb w8.heap.size [-1, 0, (L6 : Int), (L6 : Int) + 1, 9223372036854775807, -9223372036854775808] _ (hc8.alloc _) (by simp) (by simp) (by have := hc8.lt; omega) (heap_alloc_new w8 _)).mono ?_
      rintro e w9 ⟨y, rfl, hm9, hc9, hg9⟩
      have ho9 := (ho8.alloc (.cells ([-1, 0, (L6 : Int), (L6 : Int) + 1, 9223372036854775807, -9223372036854775808].map (Value.int .i64)).toArray 3)).cur hg9 hlt
      have HG9 : Hid _ := grown_trans (grown_alloc HG8.out _) hg9
      go_wp2
      go_ret2
      exact ⟨_, zs6, y, rfl, ho9.base (by have := HPB.out; omega), hb6', by omega, by simp at hm9; omega, below_grown HB1.out HG9.out HB1.out.size (by have := HPB.out; omega)⟩
  | true =>
    go_wp2_with fail
    refine (spoil_any pb a6 zs6 L6 c6 w7 hc7 (ho7.reads hb6').2 HL6.out (by omega) HN6.out).mono ?_
    rintro e wS ⟨vS, rfl, zS, hoS', hbS, hlS, hcS, hgS⟩
    have hsW := hgS.size
    have hoS : Owns wS w1.heap.size vS zS := hoS'.base (by omega)
    have HGS : Hid _ := grown_trans HG7.out hgS
    obtain ⟨aS, LS, cS, rfl, HLS, HNS, HFS⟩ := hoS.form
    clear ho7 HG7 hgS hoS' hc7
    go_wp2_with fail
    refine (once_any pb _ wS hcS (by omega) (by omega)).mono ?_
    rintro e w8 ⟨x8, rfl, hc8, hg8⟩
    have ho8 := hoS.cur hg8 hlt
    have HG8 : Hid _ := grown_trans HGS.out hg8
    cases x8 with
    | false =>
      go_wp2
      go_ret2
      exact ⟨_, zS, _, rfl, ho8.base (by have := HPB.out; omega), hbS, by omega, by have := HL2.out; omega, below_grown HB1.out HG8.out HB1.out.size (by have := HPB.out; omega)⟩
    | true =>
      have hLS : LS ≤ 12 := by rw [HLS.out]; omega
      go_wp2_with fail
      refine (pick_any pb w8.heap.size [-1, 0, (LS : Int), (LS : Int) + 1, 9223372036854775807, -9223372036854775808] _ (hc8.alloc _) (by simp) (by simp) (by have := hc8.lt; omega) (heap_alloc_new w8 _)).mono ?_
      rintro e w9 ⟨y, rfl, hm9, hc9, hg9⟩
      have ho9 := (ho8.alloc (.cells ([-1, 0, (LS : Int), (LS : Int) + 1, 9223372036854775807, -9223372036854775808].map (Value.int .i64)).toArray 3)).cur hg9 hlt
      have HG9 : Hid _ := grown_trans (grown_alloc HG8.out _) hg9
      go_wp2
      go_ret2
      exact ⟨_, zS, y, rfl, ho9.base (by have := HPB.out; omega), hbS, by omega, by simp at hm9; omega, below_grown HB1.out HG9.out HB1.out.size (by have := HPB.out; omega)⟩
end Go.Proofs.Ytglpijcfnapdlaa
