/- The program's order of handles, of nodes. Condition: at most 2^21 nodes. -/
import Derived.Test.YtaaongjnpnanmaaSpecT1
import Derived.Test.YtaaongjnpnanmaaCls
import Derived.Deep.RegionHeld3
namespace Go.Proofs.Ytaaongjnpnanmaa
open Go.RowKit
set_option linter.unusedVariables false
set_option linter.unusedSimpArgs false

def cmpI (a b : Int) : Int := if a < b then -1 else if b < a then 1 else 0
theorem isNaN_any (a : Int) (w : World) : Calls Try.prog 124 #[.int .i64 a] w fun e w' => e = .returned (.bool false) ∧ w' = w := by
  go_enter Try.func124, Try.ntmps124
  go_wp2
  go_ret
  exact ⟨by simp, rfl⟩
theorem compare_any (a b : Int) (w : World) : Calls Try.prog 116 #[.int .i64 a, .int .i64 b] w fun e w' => e = .returned (.int .i64 (cmpI a b)) ∧ w' = w := by
  have H1 : Hid (∀ W, _) := fun W => isNaN_any a W
  have H2 : Hid (∀ W, _) := fun W => isNaN_any b W
  go_enter Try.func116, Try.ntmps116
  go_wp2_with fail
  refine Calls.mono (H1.out _) ?_
  rintro e w2 ⟨rfl, rfl⟩
  go_wp2_with fail
  refine Calls.mono (H2.out _) ?_
  rintro e w2 ⟨rfl, rfl⟩
  go_wp2
  all_goals (go_ret; exact ⟨by unfold cmpI; first | (rw [if_pos (by omega)]; rfl) | (rw [if_neg (by omega), if_pos (by omega)]; rfl) | (rw [if_neg (by omega), if_neg (by omega)]; rfl), rfl⟩)
def orI (x y : Int) : Int := if x = 0 then y else x
theorem or_any (B : Nat) (x y : Int) (w : World) (h0 : w.cell? ⟨B, 0, none⟩ = some (.int .i64 x)) (h1 : w.cell? ⟨B, 1, none⟩ = some (.int .i64 y)) :
    Calls Try.prog 115 #[.slice (some ⟨B, 0, none⟩) 2 2] w fun e w' => e = .returned (.int .i64 (orI x y)) ∧ w' = w := by
  unfold orI
  by_cases hx : x = 0
  · subst hx
    by_cases hy : y = 0
    · subst hy
      go_enter Try.func115, Try.ntmps115
      go_wp2
      refine wp_loop_rounds 3 ?_
      rw [rounds_succ]
      go_wp2
      rw [rounds_succ]
      go_wp2
      rw [rounds_succ]
      go_wp2
      go_ret
      exact ⟨rfl, rfl⟩
    · have hd : (y != 0) = true := by simpa using hy
      go_enter Try.func115, Try.ntmps115
      go_wp2
      refine wp_loop_rounds 2 ?_
      rw [rounds_succ]
      go_wp2
      rw [rounds_succ]
      go_wp2
      go_ret
      exact ⟨rfl, rfl⟩
  · have hd : (x != 0) = true := by simpa using hx
    rw [if_neg hx]
    go_enter Try.func115, Try.ntmps115
    go_wp2
    refine wp_loop_rounds 1 ?_
    rw [rounds_succ]
    go_wp2
    go_ret
    exact ⟨rfl, rfl⟩
def byP (a b : Hd) : Int := if cmpI a.sh b.sh = 0 then cmpI a.ino b.ino else cmpI a.sh b.sh
theorem byP_less (a b : Hd) : decide (byP a b ≥ 0) = !lessH a b := by
  obtain ⟨s, i, d⟩ := a
  obtain ⟨s2, i2, d2⟩ := b
  simp only [byP, cmpI, lessH, Hd.sh, Hd.ino]
  by_cases h1 : s < s2
  · simp [h1]
  · by_cases h2 : s2 < s
    · have h3 : s ≠ s2 := by omega
      simp [h1, h2, h3]
    · have h3 : s = s2 := by omega
      subst h3
      by_cases h4 : i < i2
      · simp [h4]
      · by_cases h5 : i2 < i
        · simp [h4, h5]
        · simp [h4, h5]

set_option maxHeartbeats 400000 in
theorem byPlace_any (a b : Hd) (w : World) : Calls Try.prog 93 #[a.v, b.v] w fun e w' => e = .returned (.int .i64 (byP a b)) ∧ Below w.heap.size w w' := by
  obtain ⟨s, i, d⟩ := a
  obtain ⟨s2, i2, d2⟩ := b
  have HB : Hid (byP (s, i, d) (s2, i2, d2) = orI (cmpI s s2) (cmpI i i2)) := rfl
  rw [HB.out]
  clear HB
  go_enter Try.func93, Try.ntmps93
  go_wp2
  go_region_held3 (fun w' => w'.cell? ⟨w.heap.size, 0, none⟩ = some (.int .i64 s) ∧ w'.cell? ⟨w.heap.size, 1, none⟩ = some (.int .i64 i) ∧ w'.cell? ⟨w.heap.size + 1, 0, none⟩ = some (.int .i64 s2) ∧ w'.cell? ⟨w.heap.size + 1, 1, none⟩ = some (.int .i64 i2)) (first | go_keep) (first
    | (go_at_call 116; refine Calls.mono (compare_any _ _ _) ?_; rintro e w' ⟨rfl, rfl⟩)
    | (go_at_call 115; refine Calls.mono (or_any _ (cmpI s s2) (cmpI i i2) _ (by simp [go_sem]) (by simp [go_sem])) ?_; rintro e w' ⟨rfl, rfl⟩))
  all_goals go_wp2
  all_goals go_ret
  all_goals exact ⟨rfl, ((Below.newH2 (w := w) _ _).alloc (by simp; omega) _).drew⟩

def ascAt (l : List Nd) (i : Nat) : Bool := decide (i = 0) || lessH (l[i - 1]?.getD nd0).h (l[i]?.getD nd0).h
theorem range_all_nextT (f : Nat → Bool) (k : Nat) (h : (List.range k).all f = true) (hk : f k = true) : (List.range (k + 1)).all f = true := by rw [List.range_succ, List.all_append, h]; simp [hk]
theorem range_all_falseT (f : Nat → Bool) (n k : Nat) (hk : k < n) (h : f k = false) : (List.range n).all f = false := by
  rw [List.all_eq_false]
  exact ⟨k, by simpa using hk, by simp [h]⟩
def ascL (l : List Nd) : Bool := (List.range l.length).all (ascAt l)

set_option maxRecDepth 100000 in
set_option maxHeartbeats 2000000 in
theorem ascending_any (x : Value) (l : List Nd) (S : Nat → Prop) (w : World) (r : RdV w S x (ndsDt l)) (hl : l.length ≤ 2097152) :
    Calls Try.prog 46 #[x] w fun e w' => e = .returned (.bool (ascL l)) ∧ Below w.heap.size w w' := by
  obtain ⟨a, cap, rfl, _⟩ := RdV.sliced r
  have HR : Hid (∀ W, Below w.heap.size w W → RdV W S (.slice a l.length cap) (.rows 83 9 l.length (fun i j => ndCell (l[i]?.getD nd0) j))) := RdV.old r
  obtain ⟨n, hn⟩ : ∃ n, l.length = n := ⟨_, rfl⟩
  have HN : Hid _ := hn
  have HAS : Hid (ascL l = (List.range n).all (ascAt l)) := by show _ = _; unfold ascL; rw [hn]
  rw [hn] at hl HR ⊢
  rw [HAS.out]
  clear r hn HAS
  go_enter Try.func46, Try.ntmps46
  go_wp2
  go_loopw [3] (fun i wr => ∃ k : Nat, 1 ≤ k ∧ i = .int .i64 k ∧ k ≤ n + 1 ∧ Below w.heap.size w wr ∧ Hid ((List.range k).all (ascAt l) = true)) (fun i _ => n - (intOf i).toNat)
  case atStart => exact ⟨1, Nat.le_refl _, rfl, by omega, Below.refl _ _, by show _ = _; simp [ascAt]⟩
  case round =>
    obtain ⟨k, hk1, rfl, hk, hbel, HA⟩ := hrel
    by_cases hlt : k < n
    · obtain ⟨j, rfl⟩ : ∃ j, k = j + 1 := ⟨k - 1, by omega⟩
      obtain ⟨b, off, rfl, hbl, _, hx⟩ := RdV.at (HR.out wr hbel) hlt
      obtain ⟨b9, off9, hbb, hbl9, _, hz⟩ := RdV.at (HR.out wr hbel) (show j < n by omega)
      simp only [Option.some.injEq, Addr.mk.injEq, and_true] at hbb
      obtain ⟨rfl, rfl⟩ := hbb
      obtain ⟨x0, g0, s0⟩ := hx 0 (by omega)
      obtain ⟨x1, g1, s1⟩ := hx 1 (by omega)
      obtain ⟨x2, g2, s2⟩ := hx 2 (by omega)
      obtain ⟨z0, u0, r0⟩ := hz 0 (by omega)
      obtain ⟨z1, u1, r1⟩ := hz 1 (by omega)
      obtain ⟨z2, u2, r2⟩ := hz 2 (by omega)
      have HAT : Hid (ascAt l (j + 1) = lessH (l[j]?.getD nd0).h (l[j + 1]?.getD nd0).h) := by show _ = _; simp [ascAt]
      generalize l[j]?.getD nd0 = ef at r0 r1 r2 HAT
      generalize l[j + 1]?.getD nd0 = eg at s0 s1 s2 HAT
      obtain ⟨⟨pp, qq, dp⟩, parf, lkf, vlf, esf⟩ := ef
      obtain ⟨⟨p, q, d⟩, parg, lkg, vlg, esg⟩ := eg
      obtain rfl : z0 = .int .i64 pp := r0
      obtain rfl : z1 = .int .i64 qq := r1
      obtain rfl : z2 = .bool dp := r2
      obtain rfl : x0 = .int .i64 p := s0
      obtain rfl : x1 = .int .i64 q := s1
      obtain rfl : x2 = .bool d := s2
      simp only [Nat.add_zero] at u0 g0
      dsimp only at HAT
      have HBP : Hid (∀ W, _) := fun W => byPlace_any (pp, qq, dp) (p, q, d) W
      have hbp := byP_less (pp, qq, dp) (p, q, d)
      generalize byP (pp, qq, dp) (p, q, d) = bp at HBP hbp
      haveI : Nonempty (Cls wr) := Cls.ne wr
      have k0 := Cls.cell hbl g0
      have k1 := Cls.cell hbl g1
      have k2 := Cls.cell hbl g2
      have j0 := Cls.cell hbl u0
      have j1 := Cls.cell hbl u1
      have j2 := Cls.cell hbl u2
      clear hx hz g0 g1 g2 u0 u1 u2 hbl9
      have i1 : (0 : Int) ≤ (j : Int) := by omega
      have i2 : (j : Int) < (n : Int) := by omega
      cases hbl : lessH (pp, qq, dp) (p, q, d) with
      | false =>
        rw [hbl] at HAT hbp
        have HF : Hid ((List.range n).all (ascAt l) = false) := range_all_falseT _ _ (j + 1) hlt HAT.out
        have hge : (0 : Int) ≤ bp := by simpa using hbp
        have hge2 : decide ((0 : Int) ≤ bp) = true := by simpa using hge
        clear hbp HAT HA
        go_wp2
        refine wp_region_cls (by kernel_rfl) (by kernel_rfl) ?_
        repeat (go_big_quiet_step (first | (go_at_call 93; exact Calls.cls (HBP.out _))))
        refine wpQuiet_nil ?_
        rintro w' ⟨⟨w', hb'⟩, rfl⟩
        go_wp2
        go_ret
        exact ⟨by rw [HF.out]; rfl, hbel.trans (hb'.mono hbel.size)⟩
      | true =>
        rw [hbl] at HAT hbp
        have HF : Hid ((List.range (j + 1 + 1)).all (ascAt l) = true) := range_all_nextT _ _ HA.out HAT.out
        have hge : bp < 0 := by simpa using hbp
        have hge2 : decide ((0 : Int) ≤ bp) = false := by simpa using hge
        clear hbp HAT HA
        go_wp2
        refine wp_region_cls (by kernel_rfl) (by kernel_rfl) ?_
        repeat (go_big_quiet_step (first | (go_at_call 93; exact Calls.cls (HBP.out _))))
        refine wpQuiet_nil ?_
        rintro w' ⟨⟨w', hb'⟩, rfl⟩
        go_wp2
        go_roundw
        case rel => exact ⟨j + 1 + 1, by omega, by go_num, by omega, hbel.trans (hb'.mono hbel.size), HF.out⟩
        case measure => simp [intOf]; omega
    · have HF : Hid ((List.range n).all (ascAt l) = true) := by
        have := HA.out
        rw [List.all_eq_true] at this
        show _ = _
        rw [List.all_eq_true]
        exact fun i hi => this i (by simp at hi ⊢; omega)
      go_wp2
      go_ret
      exact ⟨by rw [HF.out]; rfl, hbel⟩
end Go.Proofs.Ytaaongjnpnanmaa
