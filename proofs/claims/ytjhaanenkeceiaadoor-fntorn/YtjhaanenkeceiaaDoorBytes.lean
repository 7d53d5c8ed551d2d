/- What the verifier's small helpers on byte slices do: copying, comparing, marking. Conditions: at most 2^21 bytes. -/
import Derived.Test.YtjhaanenkeceiaaDoorBase
import Derived.Deep.Draws
import Derived.Deep.QuietTactic
import Derived.BigQuiet
namespace Go.Proofs.YtjhaanenkeceiaaDoor
open Go.RowKit
set_option linter.unusedVariables false

set_option maxHeartbeats 400000 in
theorem toByteS_any (a : Option Addr) (zs : List Int) (cap : Nat) (w : World) (h : Reads w a zs) (hl : zs.length ≤ 2097152) :
    Calls Tryd.prog 22 #[.slice a zs.length cap] w fun e w' => e = .returned (.slice (some ⟨w.heap.size, 0, none⟩) zs.length zs.length) ∧
      Owns w' w.heap.size (.slice (some ⟨w.heap.size, 0, none⟩) zs.length zs.length) zs ∧ Below w.heap.size w w' ∧ w.heap.size < w'.heap.size := by
  obtain ⟨hb, hc⟩ := h
  obtain ⟨i0, hi, hz0, hz1, hz2⟩ := info_parts Tryd.infoB
  go_enter Tryd.func22, Tryd.ntmps22
  go_wp2_with (at_make; refine wpList_make_full _ rfl _ _ 22 rfl w.heap.size 5 i0 (.int .u8 0) 1 Tryd.underlying22 hi hz0 hz1 .i64 .i64 _ _ zs.length rfl rfl rfl rfl (by rw [hz2]; omega) (by unfold maxLen; omega) (Nat.le_refl _) ?_; intro w1 hown hgrow)
  have hb1 : Below w.heap.size w w1 := (Below.refl _ _).grown hgrow (Nat.le_refl _) (fun k h => by cases h)
  have hs1 : w.heap.size < w1.heap.size := (hown.lt _ rfl).2
  rw [madeCells_bytes, ← laid_none] at hown
  clear hgrow
  go_loopw [4] (fun i wr => ∃ k : Nat, k ≤ zs.length ∧ i = .int .i64 k ∧ wr.ownsRow w.heap.size 5 1 (.slice (some ⟨w.heap.size, 0, none⟩) zs.length zs.length) zs.length (bcells (laid zs k)) ∧ Below w.heap.size w wr ∧ w.heap.size < wr.heap.size)
    (fun i _ => zs.length - (intOf i).toNat)
  case atStart => exact ⟨0, Nat.zero_le _, rfl, hown, hb1, hs1⟩
  case round =>
    clear hown hb1 hs1
    obtain ⟨k, hk, rfl, hown, hbel, hsz⟩ := hrel
    by_cases hlt : k < zs.length
    · rcases hc with rfl | ⟨b, off, rfl, hbl, hcell⟩
      · simp at hlt
      have hls := laid_set zs k hlt
      have hc1 : wr.cell? ⟨b, off + k, none⟩ = some (.int .u8 (zs[k]?.getD 0)) := (hbel.cell (p := ⟨b, off + k, none⟩) hbl).trans (hcell k hlt)
      generalize zs[k]?.getD 0 = c at hc1 hls
      have hfz := hown.frozenAt k
      have hold : ∃ v, wr.cell? ⟨w.heap.size, k, none⟩ = some v := by
        rw [hown.cellAt k (by omega)]; exact ⟨_, List.getElem?_eq_getElem (by rw [bcells_length, laid_length _ _ hk]; exact hlt)⟩
      obtain ⟨v0, hv0⟩ := hold
      have hst := (hown.stored k (.int .u8 c)).1
      rw [show (bcells (laid zs k)).set k (.int .u8 c) = bcells (laid zs (k + 1)) by rw [← hls, bcells, bcells, List.map_set]] at hst
      have HS : Hid _ := hst
      clear hst hown hls hcell
      go_wp2
      go_roundw
      case rel => exact ⟨k + 1, by omega, by go_num, HS.out, hbel.setCell (Nat.le_refl _) _, by simpa using hsz⟩
      case measure => simp [intOf]; omega
    · have he : k = zs.length := by omega
      subst he
      rw [laid_all] at hown
      go_wp2
      go_ret
      exact ⟨rfl, hown, hbel, hsz⟩

theorem below_drewN2 {B : Nat} {a w : World} (h : Below B a w) (n : Nat) : Below B a (w.drewN n) := ⟨h.os, h.tape, h.output, h.size, h.block⟩
theorem take_eq_step (xs ys : List Int) (k : Nat) (hx : k < xs.length) (hy : k < ys.length) (h : xs.take k = ys.take k) :
    (xs[k]?.getD 0 = ys[k]?.getD 0 → xs.take (k + 1) = ys.take (k + 1)) ∧ (xs[k]?.getD 0 ≠ ys[k]?.getD 0 → (xs == ys) = false) := by
  constructor
  · intro e
    rw [List.take_succ_eq_append_getElem hx, List.take_succ_eq_append_getElem hy, h]
    simp [hx, hy] at e
    rw [e]
  · intro e
    apply beq_eq_false_iff_ne.2
    rintro rfl
    exact e rfl
set_option maxHeartbeats 400000 in
theorem eqByteS_any (a b : Option Addr) (xs ys : List Int) (ca cb : Nat) (w : World) (hx : Reads w a xs) (hy : Reads w b ys) (hl : xs.length ≤ 2097152) (hm : ys.length ≤ 2097152) :
    Calls Tryd.prog 24 #[.slice a xs.length ca, .slice b ys.length cb] w fun e w' => e = .returned (.bool (xs == ys)) ∧ ∃ n, w' = w.drewN n := by
  obtain ⟨bx, cx⟩ := hx
  obtain ⟨by_, cy⟩ := hy
  by_cases hne : xs.length = ys.length
  · obtain ⟨N, hN⟩ : ∃ N, xs.length = N := ⟨_, rfl⟩
    have hN' : ys.length = N := by omega
    rw [hN, hN']
    rw [hN] at hl
    rw [hN'] at hm
    have HX : Hid (xs.length = N) := hN
    have HY : Hid (ys.length = N) := hN'
    clear hne hN hN'
    go_enter Tryd.func24, Tryd.ntmps24
    go_wp2
    go_loopw [5] (fun i wr => ∃ k m : Nat, k ≤ N ∧ i = .int .i64 k ∧ wr = w.drewN m ∧ Hid (xs.take k = ys.take k)) (fun i _ => N - (intOf i).toNat)
    case atStart => exact ⟨0, 0, Nat.zero_le _, rfl, rfl, by show _ = _; simp⟩
    case round =>
      obtain ⟨k, m, hk, rfl, rfl, hE⟩ := hrel
      by_cases hlt : k < N
      · rcases cx with rfl | ⟨bx', ox, rfl, hbx, hcx⟩
        · have := HX.out; simp at this; omega
        rcases cy with rfl | ⟨by', oy, rfl, hby, hcy⟩
        · have := HY.out; simp at this; omega
        have h1 := hcx k (by rw [HX.out]; exact hlt)
        have h2 := hcy k (by rw [HY.out]; exact hlt)
        have hstep := take_eq_step xs ys k (by rw [HX.out]; exact hlt) (by rw [HY.out]; exact hlt) hE.out
        have HST : Hid _ := hstep
        clear hstep
        clear bx by_ hcx hcy
        generalize xs[k]?.getD 0 = c at h1 HST
        generalize ys[k]?.getD 0 = d at h2 HST
        go_wp2
        go_quiet (fail)
        all_goals go_wp2
        · have hne : c ≠ d := by
            have hh : (c != d) = true := by assumption
            simpa using hh
          go_ret
          exact ⟨by rw [HST.out.2 hne]; rfl, _, World.drewN_drewN _ _ _⟩
        · have heq : c = d := by
            have hh : (c != d) = false := by assumption
            simpa using hh
          go_roundw
          case rel => exact ⟨k + 1, _, by omega, by go_num, rfl, HST.out.1 heq⟩
          case measure => simp [intOf]; omega
      · have he : k = N := by omega
        subst he
        have ht : xs = ys := by
          have := hE.out
          rwa [List.take_of_length_le (by rw [HX.out]; exact Nat.le_refl _), List.take_of_length_le (by rw [HY.out]; exact Nat.le_refl _)] at this
        go_wp2
        go_ret
        exact ⟨by rw [ht]; simp, m, rfl⟩
  · have : (xs == ys) = false := by
      apply beq_eq_false_iff_ne.2; intro h; exact hne (by rw [h])
    rw [this]
    clear this
    have hd : ((xs.length : Int) == (ys.length : Int)) = false := by simp; omega
    go_enter Tryd.func24, Tryd.ntmps24
    go_wp2
    go_ret
    exact ⟨rfl, (0 : Nat), rfl⟩

/-- What 'mark' lays into n bytes, from k on. -/
def marks (n : Nat) (k : Nat) : List Int := (List.range n).map (fun i => ((k + i : Nat) : Int) % 256)
@[simp] theorem marks_length (n k : Nat) : (marks n k).length = n := by simp [marks]
theorem marks_isBytes (n k : Nat) : isBytes (marks n k) := by
  intro j
  by_cases h : j < n
  · simp [marks, h]; omega
  · simp [marks, h]
theorem marks_at (n k j : Nat) (h : j < n) : (marks n k)[j]?.getD 0 = ((k + j : Nat) : Int) % 256 := by simp [marks, h]
/-- The first j marked, the others as they were. -/
def marked (zs : List Int) (k j : Nat) : List Int := marks j k ++ zs.drop j
theorem marked_length (zs : List Int) (k j : Nat) (h : j ≤ zs.length) : (marked zs k j).length = zs.length := by simp [marked]; omega
theorem marked_none (zs : List Int) (k : Nat) : marked zs k 0 = zs := by simp [marked, marks]
theorem marked_all (zs : List Int) (k : Nat) : marked zs k zs.length = marks zs.length k := by simp [marked]
theorem marked_set (zs : List Int) (k j : Nat) (h : j < zs.length) : (marked zs k j).set j (((k : Int) + (j : Int)) % 256) = marked zs k (j + 1) := by
  have e : marks (j + 1) k = marks j k ++ [((k : Int) + (j : Int)) % 256] := by simp [marks, List.range_succ]
  unfold marked
  rw [e, List.set_append, if_neg (by simp), marks_length, Nat.sub_self, List.drop_eq_getElem_cons h, List.set_cons_zero, List.append_assoc]
  rfl

set_option maxHeartbeats 400000 in
theorem mark_any (v : Value) (zs : List Int) (k base : Nat) (w : World) (h : Owns w base v zs) (hl : zs.length ≤ 2097152) (hk : k ≤ 1099511627776) :
    Calls Tryd.prog 26 #[v, .int .i64 k] w fun e w' => e = .returned (.int .i64 ((k + zs.length : Nat) : Int)) ∧ Owns w' base v (marks zs.length k) ∧ w.grownBy w' v.ownBlock := by
  rcases h.2 with ⟨rfl, h0⟩ | ⟨g, cap, cur, rfl, hg, hh, r⟩
  · have : zs = [] := List.eq_nil_of_length_eq_zero h0
    subst this
    go_enter Tryd.func26, Tryd.ntmps26
    go_wp2
    refine wp_loop_rounds 1 ?_
    rw [rounds_succ]
    go_wp2
    go_ret
    exact ⟨by simp, h, ⟨rfl, rfl, rfl, Nat.le_refl _, fun _ _ _ => rfl⟩⟩
  · clear hg hh r
    go_enter Tryd.func26, Tryd.ntmps26
    go_wp2
    go_loopw [1, 5] (fun q i wr => ∃ j : Nat, j ≤ zs.length ∧ i = .int .i64 j ∧ q = .int .i64 ((k : Int) + (j : Int)) ∧ Hid (wr.ownsRow base 5 1 (.slice (some ⟨g, 0, none⟩) zs.length cap) zs.length (bcells (marked zs k j))) ∧ w.grownBy wr (some g))
      (fun _ i _ => zs.length - (intOf i).toNat)
    case atStart => exact ⟨0, Nat.zero_le _, rfl, by simp, by rw [marked_none]; exact h, ⟨rfl, rfl, rfl, Nat.le_refl _, fun _ _ _ => rfl⟩⟩
    case round =>
      clear h
      obtain ⟨j, hj, rfl, rfl, HO, hgr⟩ := hrel
      have hown := HO.out
      by_cases hlt : j < zs.length
      · have hfz := hown.frozenAt j
        have hold : ∃ v, wr.cell? ⟨g, j, none⟩ = some v := by
          rw [hown.cellAt j (by omega)]; exact ⟨_, List.getElem?_eq_getElem (by rw [bcells_length, marked_length _ _ _ hj]; exact hlt)⟩
        obtain ⟨v0, hv0⟩ := hold
        have hst := (hown.stored j (.int .u8 (((k : Int) + (j : Int)) % 256))).1
        have hgg := (hown.stored j (.int .u8 (((k : Int) + (j : Int)) % 256))).2
        rw [show (bcells (marked zs k j)).set j (.int .u8 (((k : Int) + (j : Int)) % 256)) = bcells (marked zs k (j + 1)) by rw [← marked_set _ _ _ hlt, bcells, bcells, List.map_set]] at hst
        have HS : Hid _ := hst
        have HG : Hid _ := grown_trans hgr hgg
        clear hst hgg hown HO hgr
        go_wp2
        go_roundw
        case rel => exact ⟨j + 1, by omega, by go_num, by first | go_num | (congr 1; omega), HS.out, HG.out⟩
        case measure => simp [intOf]; omega
      · have he : j = zs.length := by omega
        subst he
        rw [marked_all] at hown
        have HO2 : Hid _ := hown
        have HG : Hid _ := hgr
        clear hown HO hgr
        go_wp2
        go_ret
        refine ⟨by simp, ?_, HG.out⟩
        have := HO2.out
        unfold Owns
        rw [marks_length]
        exact this

set_option maxHeartbeats 400000 in
theorem held_any (a : Option Addr) (n k cap : Nat) (w : World) (h : Reads w a (marks n k)) (hl : n ≤ 2097152) (hk : k ≤ 1099511627776) :
    Calls Tryd.prog 66 #[.slice a n cap, .int .i64 k] w fun e w' => e = .returned (.int .i64 ((k + n : Nat) : Int)) ∧ w' = w := by
  obtain ⟨hb, hc⟩ := h
  go_enter Tryd.func66, Tryd.ntmps66
  go_wp2
  go_loop [1, 5] (fun q i => ∃ j : Nat, j ≤ n ∧ i = .int .i64 j ∧ q = .int .i64 ((k : Int) + (j : Int))) (fun _ i => n - (intOf i).toNat)
  case atStart => exact ⟨0, Nat.zero_le _, rfl, by simp⟩
  case round =>
    obtain ⟨j, hj, rfl, rfl⟩ := hrel
    by_cases hlt : j < n
    · rcases hc with hc | ⟨b, off, rfl, hbl, hcell⟩
      · have := congrArg List.length hc; simp at this; omega
      have hc1 := hcell j (by simpa using hlt)
      rw [marks_at _ _ _ hlt] at hc1
      clear hcell hb
      have hc2 : w.cell? ⟨b, off + j, none⟩ = some (.int .u8 (((k : Int) + (j : Int)) % 256)) := by rw [hc1]; simp
      clear hc1
      have hq : ((((k : Int) + (j : Int)) % 256) != (((k : Int) + (j : Int)) % 256)) = false := by simp
      go_wp2
      go_round
      case rel => exact ⟨j + 1, by omega, by go_num, by first | go_num | (congr 1; omega)⟩
      case measure => simp [intOf]; omega
    · have he : j = n := by omega
      subst he
      clear hc hb
      go_wp2
      go_ret
      exact ⟨by simp, rfl⟩
end Go.Proofs.YtjhaanenkeceiaaDoor
