/- The program's PutNum and the specification's PutNum answer the bytes that came in and the number's bytes behind them, in memory of their own. Conditions: at most 2^20 + 100 bytes come in. -/
import Derived.Test.YtglpijcfnapdlaaPuts
import Derived.WalkSpells
import Derived.Laws.AppendOwnNone
namespace Go.Proofs.Ytglpijcfnapdlaa
open Go.RowKit
set_option linter.unusedVariables false

theorem Owns.base {w : World} {base b' : Nat} {v : Value} {zs : List Int} (h : Owns w base v zs) (hb : b' ≤ base) : Owns w b' v zs := by
  obtain ⟨h1, h2⟩ := h
  refine ⟨h1, ?_⟩
  rcases h2 with h2 | ⟨g, c, cur, hv, hg, r⟩
  · exact .inl h2
  · exact .inr ⟨g, c, cur, hv, by omega, r⟩
theorem slice5 (b c : Nat) (W : World) (h : c ≤ 5) : (Instr.sliceAt 41 (.pointer (some ⟨b, 0, none⟩)) none (some (.int .i64 (c : Int))) none).run Try.prog W = .ok (.slice (some ⟨b, 0, none⟩) c 5) W := by
  have hal : Try.prog.arrayLen 41 = 5 := by simp [Program.arrayLen, Try.underlying41]
  rw [run_sliceAt_array_h W 41 ⟨b, 0, none⟩ (by simp [Program.arrayLen, Program.elem, Try.underlying41]) .i64 (c : Int) (by omega) (by rw [hal]; omega)]
  go_simp
theorem reads_none (w : World) (a : Option Addr) : Reads w a [] := ⟨isBytes_nil, .inl rfl⟩
theorem take5 {d0 d1 d2 d3 d4 : Int} {c : Nat} {ys : List Int} (hc : c ≤ 5) (h : [d0, d1, d2, d3, d4].take c = ys) : ys.length = c ∧ ∀ i, i < c → ys[i]?.getD 0 = [d0, d1, d2, d3, d4][i]?.getD 0 := by
  subst h
  refine ⟨by simp; omega, fun i hi => ?_⟩
  rw [List.getElem?_take, if_pos hi]
theorem reads_array (w : World) (d0 d1 d2 d3 d4 : Int) (c : Nat) (t : TypeId) (ys : List Int) (hb : isBytes ys) (hc : c ≤ 5) (h : [d0, d1, d2, d3, d4].take c = ys) :
    Reads (w.alloc (.cells #[.int .u8 d0, .int .u8 d1, .int .u8 d2, .int .u8 d3, .int .u8 d4] t)) (some ⟨w.heap.size, 0, none⟩) ys := by
  obtain ⟨hl, hi⟩ := take5 hc h
  refine ⟨hb, .inr ⟨w.heap.size, 0, rfl, by simp, fun i hlt => ?_⟩⟩
  rw [World.cell?_alloc_at _ _ _ _ rfl, hi i (by omega), Nat.zero_add]
  have h5 : i < 5 := by omega
  rcases (show i = 0 ∨ i = 1 ∨ i = 2 ∨ i = 3 ∨ i = 4 from by omega) with rfl | rfl | rfl | rfl | rfl <;> rfl

theorem joined_v (a b : Option Addr) (xs ys : List Int) (m n ca cb : Nat) (w : World) (hx : Reads w a xs) (hy : Reads w b ys) (hm : m = xs.length) (hn : n = ys.length) (hl : xs.length ≤ 2097152) (hl' : ys.length ≤ 2097152) :
    Calls Try.prog 27 #[.slice a m ca, .slice b n cb] w fun e w' => ∃ v, e = .returned v ∧ Owns w' w.heap.size v (xs ++ ys) ∧ Below w.heap.size w w' := by
  subst hm; subst hn
  exact (joined_any a b xs ys ca cb w hx hy hl hl').mono fun e w' ⟨he, ho, hb, _⟩ => ⟨_, he, ho, hb⟩

set_option maxHeartbeats 1000000 in
theorem implPut_any (a : Option Addr) (xs : List Int) (len cap : Nat) (n : Int) (w : World) (hx : Reads w a xs) (hlen : len = xs.length) (hl : xs.length ≤ 2097152) :
    Calls Try.prog 9 #[.slice a len cap, .int .i64 n] w fun e w' => ∃ v, e = .returned v ∧ Owns w' w.heap.size v (xs ++ putB n) ∧ Below w.heap.size w w' := by
  by_cases hn : n < 0 ∨ 2147483647 < n
  · have hp : putB n = [] := by unfold putB; rw [if_pos hn]
    rw [hp]
    clear hp
    have HE : Hid _ := hlen
    clear hlen
    rcases hn with hn | hn
    all_goals
      go_enter Try.func9, Try.ntmps9
      go_wp2_with fail
      refine (joined_v a none xs [] _ _ _ _ w hx (reads_none _ _) HE.out rfl hl (by simp)).mono ?_
      rintro e w1 ⟨v, rfl, ho, hb⟩
      go_wp2
      go_ret
      exact ⟨v, rfl, ho, hb⟩
  · have h0 : 0 ≤ n := by omega
    have h1 : n ≤ 2147483647 := by omega
    have hp : putB n = numB 4 n := by unfold putB; rw [if_neg hn]
    have hbB := putB_bytes n
    rw [hp] at hbB ⊢
    have HE : Hid _ := hlen
    clear hp hn hlen
    go_enter Try.func9, Try.ntmps9
    go_wp2_with fail
    refine (numBytes_any n w h0 h1).mono ?_
    rintro e w1 ⟨d0, d1, d2, d3, d4, c, rfl, hc1, hc5, htake, hb1⟩
    have hlen := (take5 hc5 htake).1
    have hrY := reads_array w1 d0 d1 d2 d3 d4 _ 41 _ hbB hc5 htake
    have hb2 : Below w1.heap.size w1 (w1.alloc (.cells #[.int .u8 d0, .int .u8 d1, .int .u8 d2, .int .u8 d3, .int .u8 d4] 41)) := (Below.refl _ _).alloc (Nat.le_refl _) _
    have hsl := fun W => slice5 w1.heap.size c W hc5
    have HB2 : Hid _ := hb2
    have HRY : Hid _ := hrY
    have HC : Hid _ := hlen
    clear htake hb2 hrY hlen
    go_wp2_with fail
    refine (joined_v a (some ⟨w1.heap.size, 0, none⟩) xs (numB 4 n) _ _ _ _ _ ((hx.below hb1).below HB2.out) HRY.out HE.out HC.out.symm hl (by rw [HC.out]; omega)).mono ?_
    rintro e w3 ⟨v, rfl, ho, hb3⟩
    have hs1 := hb1.size
    have HF : Hid (Owns w3 w.heap.size v (xs ++ numB 4 n) ∧ Below w.heap.size w w3) := ⟨ho.base (by simp; omega), (hb1.trans (HB2.out.mono hs1)).trans (hb3.mono (by simp; omega))⟩
    clear ho hb3 HB2 HRY hsl
    go_wp2
    go_ret
    exact ⟨v, rfl, HF.out.1, HF.out.2⟩

theorem Owns.shape {w : World} {base : Nat} {v : Value} {zs : List Int} (h : Owns w base v zs) : ∃ a cap, v = .slice a zs.length cap ∧ zs.length ≤ cap ∧ cap ≤ maxLen := by
  rcases h.2 with ⟨rfl, h0⟩ | ⟨g, c, cur, hv, hg, hh, hnc, hm, r⟩
  · exact ⟨none, 0, by rw [h0], by omega, Nat.zero_le _⟩
  · exact ⟨_, c, hv, hnc, hm⟩

/-- What holds at the head of each round of the specification's loop. -/
def SRel (xs : List Int) (n : Int) (w : World) (o q : Value) (wr : World) : Prop :=
  ∃ (f : Nat) (m : Int) (pre : List Int), f ≤ 4 ∧ 0 ≤ m ∧ m < wt (f + 1) ∧ q = .int .i64 m ∧ pre.length + f = 4 ∧ numB 4 n = pre ++ numB f m ∧ Owns wr w.heap.size o (xs ++ pre) ∧ Below w.heap.size w wr

theorem Reads.srcAt {w : World} {ad : Addr} {xs : List Int} (h : Reads w (some ad) xs) : ∀ j v, (bcells xs)[j]? = some v → w.cell? (ad.add j) = some v := by
  by_cases h0 : 0 < (bcells xs).length
  · obtain ⟨ad', ha, hc⟩ := h.src h0
    simp only [Option.some.injEq] at ha
    subst ha
    exact hc
  · intro j v hv
    rw [List.getElem?_eq_none (by omega)] at hv; cases hv

/-- append(v, x...), v the call's own bytes, x whatever bytes. -/
theorem wpList_app {ops : Array Oper} {rest : List Oper} {o : Oper} {a : Act} {Q : Exit → Act → World → Prop} (w : World) (hgd : o.guard = none) (s x : Operand)
    (ho : o.op = .call { callee := .builtin .append, args := #[s, x], argTypes := #[22, 22] })
    (base : Nat) (v : Value) (zs ys : List Int) (hs : a.eval s = v) (hown : Owns w base v zs) (ao : Option Addr) (m c : Nat) (hx : a.eval x = .slice ao m c) (hm : m = ys.length) (hr : Reads w ao ys)
    (hl : zs.length ≤ 4194304) (hl' : ys.length ≤ 4194304) (hbase : base ≤ w.heap.size)
    (hnil : ao = none → m = 0 ∧ c = 0)
    (h : ∀ v' w', Owns w' base v' (zs ++ ys) → w.grownBy w' v.ownBlock → wpList Try.prog ops Q rest (a.put o.dst v') w') : wpList Try.prog ops Q (o :: rest) a w := by
  obtain ⟨i0, hi, hz0, hz1, hz2⟩ := info_parts Try.infoB
  cases ao with
  | none =>
    obtain ⟨h0, hc0⟩ := hnil rfl
    have : ys = [] := List.eq_nil_of_length_eq_zero (by omega)
    subst this
    subst hm
    subst hc0
    refine wpList_append_own_none (w := w) hgd s x 22 ho base 5 i0 1 Try.underlying22 hi v zs.length (bcells zs) hs hown hx ?_
    have := h v w (by rw [List.append_nil]; exact hown) ⟨rfl, rfl, rfl, Nat.le_refl _, fun _ _ _ => rfl⟩
    exact this
  | some ad =>
    refine wpList_append_own w hgd s x 22 ho base 5 i0 (.int .u8 0) 1 1 Try.underlying22 hi hz0 hz1 hz2 rfl (by decide) v zs.length (bcells zs) hs hown ad m c (bcells ys) hx (by simp [hm]) hr.srcAt (bcells_one ys) (by unfold maxLen; omega) (by omega) hbase ?_
    intro v' w' ho' hg _
    refine h v' w' ?_ hg
    unfold Owns
    rw [List.length_append, ← hm]
    simpa [bcells] using ho'

theorem one_new (w : World) (x : Int) (h0 : 0 ≤ x) (h1 : x ≤ 255) : Reads (w.alloc (.cells #[.int .u8 x] 5)) (some ⟨w.heap.size, 0, none⟩) [x] := by
  refine ⟨isBytes_cons h0 h1 isBytes_nil, .inr ⟨w.heap.size, 0, rfl, by simp, fun i hi => ?_⟩⟩
  obtain rfl : i = 0 := by simpa using hi
  rw [World.cell?_alloc_at _ _ _ _ rfl]; rfl
theorem Owns.alloc {w : World} {base : Nat} {v : Value} {zs : List Int} (h : Owns w base v zs) (o : Obj) : Owns (w.alloc o) base v zs := World.ownsRow.alloc h o
theorem Owns.lt {w : World} {base : Nat} {v : Value} {zs : List Int} (h : Owns w base v zs) : ∀ k, v.ownBlock = some k → base ≤ k ∧ k < w.heap.size := World.ownsRow.lt h
theorem owns_empty (w : World) : Owns (w.alloc (.cells #[] 5)) w.heap.size (.slice (some ⟨w.heap.size, 0, none⟩) 0 0) [] := World.ownsRow_lit w #[] 0 (Nat.le_refl _) (Nat.zero_le _) rfl

set_option maxHeartbeats 1000000 in
theorem specPut_any (a : Option Addr) (xs : List Int) (len cap : Nat) (n : Int) (w : World) (hx : Reads w a xs) (hlen : len = xs.length) (hl : xs.length ≤ 2097152) (hnil : a = none → len = 0 ∧ cap = 0) :
    Calls Try.prog 16 #[.slice a len cap, .int .i64 n] w fun e w' => ∃ v, e = .returned v ∧ Owns w' w.heap.size v (xs ++ putB n) ∧ Below w.heap.size w w' := by
  have HE : Hid _ := hlen
  have HX : Hid (Reads (w.alloc (.cells #[] 5)) a xs) := hx.below ((Below.refl _ _).alloc (Nat.le_refl _) _)
  have HNIL : Hid _ := hnil
  have HL : Hid _ := hl
  have HB1 : Hid (Below w.heap.size w (w.alloc (.cells #[] 5))) := (Below.refl _ _).alloc (Nat.le_refl _) _
  clear hlen hx hnil hl
  by_cases hn : n < 0 ∨ 2147483647 < n
  · have hp : putB n = [] := by unfold putB; rw [if_pos hn]
    rw [hp, List.append_nil]
    clear hp
    rcases hn with hn | hn
    all_goals
      go_enter Try.func16, Try.ntmps16
      go_wp2_with (at_builtin; go_must (refine wpList_app _ rfl (.tmp 6) (.tmp 7) rfl w.heap.size _ [] xs rfl (owns_empty w) a len cap rfl HE.out HX.out (by simp) (by have := HL.out; omega) (by simp) HNIL.out ?_; intro v w1 ho hg))
      go_ret
      exact ⟨v, rfl, by simpa using ho, HB1.out.grown hg (by simp) (fun k hk => ((owns_empty w).lt k hk).1)⟩
  · have h0 : 0 ≤ n := by omega
    have h1 : n ≤ 2147483647 := by omega
    have hp : putB n = numB 4 n := by unfold putB; rw [if_neg hn]
    rw [hp]
    clear hp hn
    go_enter Try.func16, Try.ntmps16
    go_wp2_with (at_builtin; go_must (refine wpList_app _ rfl (.tmp 6) (.tmp 7) rfl w.heap.size _ [] xs rfl (owns_empty w) a len cap rfl HE.out HX.out (by simp) (by have := HL.out; omega) (by simp) HNIL.out ?_; intro v w1 ho hg))
    go_loopw [5, 1] (fun o q wr => SRel xs n w o q wr) (fun _ q _ => (intOf q).toNat)
    case atStart => exact ⟨4, n, [], by omega, h0, by show n < 34359738368; omega, rfl, rfl, rfl, by simpa using ho, HB1.out.grown hg (by simp) (fun k hk => ((owns_empty w).lt k hk).1)⟩
    case round =>
      clear ho hg
      obtain ⟨f, m, pre, hf, hm0, hm1, rfl, hpf, hpre, hown, hbel⟩ := hrel
      have hsz := hbel.size
      have HO : Hid _ := hown
      have HP : Hid _ := hpre
      have HBE : Hid _ := hbel
      have HM1 : Hid _ := hm1
      have hmt : m ≤ 34359738368 := by
        have : wt (f + 1) ≤ 34359738368 := by
          rcases (show f = 0 ∨ f = 1 ∨ f = 2 ∨ f = 3 ∨ f = 4 from by omega) with rfl | rfl | rfl | rfl | rfl <;> decide
        omega
      clear hown hpre hbel hm1
      by_cases hge : 127 < m
      · go_wp2_with (at_builtin; go_must (refine wpList_app _ rfl (.tmp 18) (.tmp 23) rfl w.heap.size _ (xs ++ pre) [m % 128 + 128] rfl (HO.out.alloc _) _ 1 1 rfl rfl (one_new _ (m % 128 + 128) (by omega) (by omega)) (by have := HL.out; simp; omega) (by simp) (by simp; omega) (fun h => by cases h) ?_; intro v2 w2 ho2 hg2))
        have HR : SRel xs n w v2 (.int .i64 (m / 128)) w2 := by
          have hm1 := HM1.out
          obtain ⟨f, rfl⟩ : ∃ g, f = g + 1 := by
            cases f with
            | zero => exact absurd hm1 (by show ¬ m < 128; omega)
            | succ g => exact ⟨g, rfl⟩
          have hw := wt_succ (f + 1) (by omega)
          refine ⟨f, m / 128, pre ++ [m % 128 + 128], by omega, by omega, by omega, rfl, by simp; omega, ?_, ?_, (HBE.out.alloc hsz _).grown hg2 (by simp; omega) (fun k hk => (HO.out.lt k hk).1)⟩
          · rw [HP.out, numB_more f m (by omega), List.append_assoc]; rfl
          · rw [← List.append_assoc]; exact ho2
        refine ⟨?_, by simp [intOf]; omega⟩
        first | exact HR | exact ⟨_, _, HR, rfl, rfl⟩
      · have hm1 := HM1.out
        go_wp2_with (at_builtin; go_must (refine wpList_app _ rfl (.tmp 27) (.tmp 30) rfl w.heap.size _ (xs ++ pre) [m] rfl (HO.out.alloc _) _ 1 1 rfl rfl (one_new _ m (by omega) (by omega)) (by have := HL.out; simp; omega) (by simp) (by simp; omega) (fun h => by cases h) ?_; intro v2 w2 ho2 hg2))
        go_ret
        refine ⟨v2, rfl, ?_, ?_⟩
        · rw [HP.out, numB_small f m (by omega), ← List.append_assoc]; exact ho2
        · exact (HBE.out.alloc hsz _).grown hg2 (by simp; omega) (fun k hk => (HO.out.lt k hk).1)
end Go.Proofs.Ytglpijcfnapdlaa
