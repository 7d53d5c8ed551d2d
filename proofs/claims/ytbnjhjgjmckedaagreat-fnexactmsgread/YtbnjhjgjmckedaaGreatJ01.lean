/- Joined: Base Bytes Own Mem. -/
import Derived.Test.YtbnjhjgjmckedaaGreatProg
import Derived.WalkKit
import Derived.Deep.Draws
import Derived.Deep.QuietTactic
import Derived.BigQuiet
import Derived.Laws.CopyOwn
import Derived.WalkSpells
import Derived.Laws.AppendOwnNone

section
/- Small facts on byte slices that lie in memory, for the walks of this seat; no condition. -/
namespace Go.Proofs.YtbnjhjgjmckedaaGreat
open Go.RowKit
set_option linter.unusedVariables false

theorem Tryz.infoB : (Tryz.prog.info? 5).map (fun i => (i.zero, i.size, i.bytes)) = some (some (.int .u8 0), 1, 1) := by kernel_rfl

/-- The bytes, as cells. -/
def bcells (zs : List Int) : List Value := zs.map (Value.int .u8)
@[simp] theorem bcells_length (zs : List Int) : (bcells zs).length = zs.length := by simp [bcells]

def isBytes (zs : List Int) : Prop := ∀ j : Nat, 0 ≤ zs[j]?.getD 0 ∧ zs[j]?.getD 0 ≤ 255

/-- In this world a slice that begins at 'a' and has as many elements as 'zs' reads as 'zs'. -/
def Reads (w : World) (a : Option Addr) (zs : List Int) : Prop :=
  isBytes zs ∧ (zs = [] ∨ ∃ b off, a = some ⟨b, off, none⟩ ∧ b < w.heap.size ∧ ∀ i, i < zs.length → w.cell? ⟨b, off + i, none⟩ = some (.int .u8 (zs[i]?.getD 0)))

theorem Reads.below {w w' : World} {a : Option Addr} {zs : List Int} (h : Reads w a zs) (hb : Below w.heap.size w w') : Reads w' a zs := by
  obtain ⟨h1, h2⟩ := h
  refine ⟨h1, ?_⟩
  rcases h2 with h2 | ⟨b, off, ha, hlt, hc⟩
  · exact .inl h2
  · refine .inr ⟨b, off, ha, by have := hb.size; omega, fun i hi => ?_⟩
    rw [hb.cell (p := ⟨b, off + i, none⟩) hlt]; exact hc i hi

/-- A slice that the call made, from 'base' on, with just these bytes. -/
def Owns (w : World) (base : Nat) (v : Value) (zs : List Int) : Prop := w.ownsRow base 5 1 v zs.length (bcells zs)

theorem Owns.reads {w : World} {base : Nat} {a : Option Addr} {n cap : Nat} {zs : List Int} (hz : isBytes zs) (h : Owns w base (.slice a n cap) zs) : n = zs.length ∧ Reads w a zs := by
  rcases h.2 with ⟨hv, h0⟩ | ⟨g, c, cur, hv, hg, hh, hnc, hm, hs, ht⟩
  · simp only [Value.slice.injEq] at hv
    obtain ⟨rfl, rfl, rfl⟩ := hv
    exact ⟨h0.symm, hz, .inl (List.eq_nil_of_length_eq_zero h0)⟩
  · simp only [Value.slice.injEq] at hv
    obtain ⟨rfl, rfl, rfl⟩ := hv
    refine ⟨rfl, hz, .inr ⟨g, 0, rfl, lt_of_block hh, fun i hi => ?_⟩⟩
    have := World.ownsRow.cellAt h i (by omega)
    rw [Nat.zero_add, this]
    simp [bcells, hi]

theorem Owns.below {w w' : World} {base B : Nat} {v : Value} {zs : List Int} (h : Owns w base v zs) (hb : Below B w w') (hB : ∀ k, v.ownBlock = some k → k < B) : Owns w' base v zs := by
  obtain ⟨h1, h2⟩ := h
  refine ⟨h1, ?_⟩
  rcases h2 with h2 | ⟨g, c, cur, hv, hg, hh, r⟩
  · exact .inl h2
  · exact .inr ⟨g, c, cur, hv, hg, by rw [hb.block g (hB g (by rw [hv]; rfl))]; exact hh, r⟩

/-- The first k bytes laid, the others still nought. -/
def laid (zs : List Int) (k : Nat) : List Int := zs.take k ++ List.replicate (zs.length - k) 0
theorem laid_length (zs : List Int) (k : Nat) (h : k ≤ zs.length) : (laid zs k).length = zs.length := by simp [laid]; omega
theorem laid_all (zs : List Int) : laid zs zs.length = zs := by simp [laid]
theorem laid_none (zs : List Int) : laid zs 0 = List.replicate zs.length 0 := by simp [laid]
theorem laid_set (zs : List Int) (k : Nat) (h : k < zs.length) : (laid zs k).set k (zs[k]?.getD 0) = laid zs (k + 1) := by
  obtain ⟨m, hm⟩ : ∃ m, zs.length - k = m + 1 := ⟨zs.length - k - 1, by omega⟩
  have hm' : zs.length - (k + 1) = m := by omega
  unfold laid
  rw [hm, hm', List.replicate_succ, List.set_append, if_neg (by simp; omega), List.length_take, Nat.min_eq_left (by omega), Nat.sub_self, List.set_cons_zero]
  have e : zs.take (k + 1) = zs.take k ++ [zs[k]] := List.take_succ_eq_append_getElem h
  rw [e, List.append_assoc]
  simp [h]
theorem madeCells_bytes (n : Nat) : (madeCells (Value.int .u8 0).cells (n * 1)).toList = bcells (List.replicate n 0) := by
  simp [madeCells, bcells, Value.cells]
  apply List.ext_getElem?
  intro i
  simp [List.getElem?_map, List.getElem?_replicate]
  by_cases h : i < n <;> simp [h, Nat.mod_one]

theorem grown_trans {a b c : World} {r : Option Nat} (h : a.grownBy b r) (k : b.grownBy c r) : a.grownBy c r :=
  ⟨k.os.trans h.os, k.tape.trans h.tape, k.output.trans h.output, Nat.le_trans h.size k.size, fun i hi hne => (k.block i (Nat.lt_of_lt_of_le hi h.size) hne).trans (h.block i hi hne)⟩
theorem isBytes_nil : isBytes [] := fun j => by simp
end Go.Proofs.YtbnjhjgjmckedaaGreat
end

section
/- What the verifier's small helpers on byte slices do: copying, comparing, marking. Conditions: at most 2^21 bytes. -/
namespace Go.Proofs.YtbnjhjgjmckedaaGreat
open Go.RowKit
set_option linter.unusedVariables false

set_option maxHeartbeats 400000 in
theorem toByteS_any (a : Option Addr) (zs : List Int) (cap : Nat) (w : World) (h : Reads w a zs) (hl : zs.length ≤ 2097152) :
    Calls Tryz.prog 14 #[.slice a zs.length cap] w fun e w' => e = .returned (.slice (some ⟨w.heap.size, 0, none⟩) zs.length zs.length) ∧
      Owns w' w.heap.size (.slice (some ⟨w.heap.size, 0, none⟩) zs.length zs.length) zs ∧ Below w.heap.size w w' ∧ w.heap.size < w'.heap.size := by
  obtain ⟨hb, hc⟩ := h
  obtain ⟨i0, hi, hz0, hz1, hz2⟩ := info_parts Tryz.infoB
  go_enter Tryz.func14, Tryz.ntmps14
  go_wp2_with (at_make; refine wpList_make_full _ rfl _ _ 22 rfl w.heap.size 5 i0 (.int .u8 0) 1 Tryz.underlying22 hi hz0 hz1 .i64 .i64 _ _ zs.length rfl rfl rfl rfl (by rw [hz2]; omega) (by unfold maxLen; omega) (Nat.le_refl _) ?_; intro w1 hown hgrow)
  have hb1 : Below w.heap.size w w1 := (Below.refl _ _).grown hgrow (Nat.le_refl _) (fun k h => by cases h)
  have hs1 : w.heap.size < w1.heap.size := (hown.lt _ rfl).2
  rw [madeCells_bytes, ← laid_none] at hown
  clear hgrow
  go_loopw [4] (fun i wr => ∃ k : Nat, k ≤ zs.length ∧ i = .int .i64 k ∧ wr.ownsRow w.heap.size 5 1 (.slice (some ⟨w.heap.size, 0, none⟩) zs.length zs.length) zs.length (bcells (laid zs k)) ∧ Below w.heap.size w wr ∧ w.heap.size < wr.heap.size)
    (fun i _ => zs.length - (intOf i).toNat)
  case atStart => exact ⟨0, Nat.zero_le _, rfl, hown, hb1, hs1⟩
  case round =>
    clear hown hb1 hs1
    obtain ⟨k, hk, rfl, hown, hbel, hsz⟩ := hrel
    by_cases hlt : k < zs.length
    · rcases hc with rfl | ⟨b, off, rfl, hbl, hcell⟩
      · simp at hlt
      have hls := laid_set zs k hlt
      have hc1 : wr.cell? ⟨b, off + k, none⟩ = some (.int .u8 (zs[k]?.getD 0)) := (hbel.cell (p := ⟨b, off + k, none⟩) hbl).trans (hcell k hlt)
      generalize zs[k]?.getD 0 = c at hc1 hls
      have hfz := hown.frozenAt k
      have hold : ∃ v, wr.cell? ⟨w.heap.size, k, none⟩ = some v := by
        rw [hown.cellAt k (by omega)]; exact ⟨_, List.getElem?_eq_getElem (by rw [bcells_length, laid_length _ _ hk]; exact hlt)⟩
      obtain ⟨v0, hv0⟩ := hold
      have hst := (hown.stored k (.int .u8 c)).1
      rw [show (bcells (laid zs k)).set k (.int .u8 c) = bcells (laid zs (k + 1)) by rw [← hls, bcells, bcells, List.map_set]] at hst
      have HS : Hid _ := hst
      clear hst hown hls hcell
      go_wp2
      go_roundw
      case rel => exact ⟨k + 1, by omega, by go_num, HS.out, hbel.setCell (Nat.le_refl _) _, by simpa using hsz⟩
      case measure => simp [intOf]; omega
    · have he : k = zs.length := by omega
      subst he
      rw [laid_all] at hown
      go_wp2
      go_ret
      exact ⟨rfl, hown, hbel, hsz⟩

theorem below_drewN2 {B : Nat} {a w : World} (h : Below B a w) (n : Nat) : Below B a (w.drewN n) := ⟨h.os, h.tape, h.output, h.size, h.block⟩
theorem take_eq_step (xs ys : List Int) (k : Nat) (hx : k < xs.length) (hy : k < ys.length) (h : xs.take k = ys.take k) :
    (xs[k]?.getD 0 = ys[k]?.getD 0 → xs.take (k + 1) = ys.take (k + 1)) ∧ (xs[k]?.getD 0 ≠ ys[k]?.getD 0 → (xs == ys) = false) := by
  constructor
  · intro e
    rw [List.take_succ_eq_append_getElem hx, List.take_succ_eq_append_getElem hy, h]
    simp [hx, hy] at e
    rw [e]
  · intro e
    apply beq_eq_false_iff_ne.2
    rintro rfl
    exact e rfl
set_option maxHeartbeats 400000 in
theorem eqByteS_any (a b : Option Addr) (xs ys : List Int) (ca cb : Nat) (w : World) (hx : Reads w a xs) (hy : Reads w b ys) (hl : xs.length ≤ 2097152) (hm : ys.length ≤ 2097152) :
    Calls Tryz.prog 16 #[.slice a xs.length ca, .slice b ys.length cb] w fun e w' => e = .returned (.bool (xs == ys)) ∧ ∃ n, w' = w.drewN n := by
  obtain ⟨bx, cx⟩ := hx
  obtain ⟨by_, cy⟩ := hy
  by_cases hne : xs.length = ys.length
  · obtain ⟨N, hN⟩ : ∃ N, xs.length = N := ⟨_, rfl⟩
    have hN' : ys.length = N := by omega
    rw [hN, hN']
    rw [hN] at hl
    rw [hN'] at hm
    have HX : Hid (xs.length = N) := hN
    have HY : Hid (ys.length = N) := hN'
    clear hne hN hN'
    go_enter Tryz.func16, Tryz.ntmps16
    go_wp2
    go_loopw [5] (fun i wr => ∃ k m : Nat, k ≤ N ∧ i = .int .i64 k ∧ wr = w.drewN m ∧ Hid (xs.take k = ys.take k)) (fun i _ => N - (intOf i).toNat)
    case atStart => exact ⟨0, 0, Nat.zero_le _, rfl, rfl, by show _ = _; simp⟩
    case round =>
      obtain ⟨k, m, hk, rfl, rfl, hE⟩ := hrel
      by_cases hlt : k < N
      · rcases cx with rfl | ⟨bx', ox, rfl, hbx, hcx⟩
        · have := HX.out; simp at this; omega
        rcases cy with rfl | ⟨by', oy, rfl, hby, hcy⟩
        · have := HY.out; simp at this; omega
        have h1 := hcx k (by rw [HX.out]; exact hlt)
        have h2 := hcy k (by rw [HY.out]; exact hlt)
        have hstep := take_eq_step xs ys k (by rw [HX.out]; exact hlt) (by rw [HY.out]; exact hlt) hE.out
        have HST : Hid _ := hstep
        clear hstep
        clear bx by_ hcx hcy
        generalize xs[k]?.getD 0 = c at h1 HST
        generalize ys[k]?.getD 0 = d at h2 HST
        go_wp2
        go_quiet (fail)
        all_goals go_wp2
        · have hne : c ≠ d := by
            have hh : (c != d) = true := by assumption
            simpa using hh
          go_ret
          exact ⟨by rw [HST.out.2 hne]; rfl, _, World.drewN_drewN _ _ _⟩
        · have heq : c = d := by
            have hh : (c != d) = false := by assumption
            simpa using hh
          go_roundw
          case rel => exact ⟨k + 1, _, by omega, by go_num, rfl, HST.out.1 heq⟩
          case measure => simp [intOf]; omega
      · have he : k = N := by omega
        subst he
        have ht : xs = ys := by
          have := hE.out
          rwa [List.take_of_length_le (by rw [HX.out]; exact Nat.le_refl _), List.take_of_length_le (by rw [HY.out]; exact Nat.le_refl _)] at this
        go_wp2
        go_ret
        exact ⟨by rw [ht]; simp, m, rfl⟩
  · have : (xs == ys) = false := by
      apply beq_eq_false_iff_ne.2; intro h; exact hne (by rw [h])
    rw [this]
    clear this
    have hd : ((xs.length : Int) == (ys.length : Int)) = false := by simp; omega
    go_enter Tryz.func16, Tryz.ntmps16
    go_wp2
    go_ret
    exact ⟨rfl, (0 : Nat), rfl⟩

/-- What 'mark' lays into n bytes, from k on. -/
def marks (n : Nat) (k : Nat) : List Int := (List.range n).map (fun i => ((k + i : Nat) : Int) % 256)
@[simp] theorem marks_length (n k : Nat) : (marks n k).length = n := by simp [marks]
theorem marks_isBytes (n k : Nat) : isBytes (marks n k) := by
  intro j
  by_cases h : j < n
  · simp [marks, h]; omega
  · simp [marks, h]
theorem marks_at (n k j : Nat) (h : j < n) : (marks n k)[j]?.getD 0 = ((k + j : Nat) : Int) % 256 := by simp [marks, h]
/-- The first j marked, the others as they were. -/
def marked (zs : List Int) (k j : Nat) : List Int := marks j k ++ zs.drop j
theorem marked_length (zs : List Int) (k j : Nat) (h : j ≤ zs.length) : (marked zs k j).length = zs.length := by simp [marked]; omega
theorem marked_none (zs : List Int) (k : Nat) : marked zs k 0 = zs := by simp [marked, marks]
theorem marked_all (zs : List Int) (k : Nat) : marked zs k zs.length = marks zs.length k := by simp [marked]
theorem marked_set (zs : List Int) (k j : Nat) (h : j < zs.length) : (marked zs k j).set j (((k : Int) + (j : Int)) % 256) = marked zs k (j + 1) := by
  have e : marks (j + 1) k = marks j k ++ [((k : Int) + (j : Int)) % 256] := by simp [marks, List.range_succ]
  unfold marked
  rw [e, List.set_append, if_neg (by simp), marks_length, Nat.sub_self, List.drop_eq_getElem_cons h, List.set_cons_zero, List.append_assoc]
  rfl

set_option maxHeartbeats 400000 in
theorem mark_any (v : Value) (zs : List Int) (k base : Nat) (w : World) (h : Owns w base v zs) (hl : zs.length ≤ 2097152) (hk : k ≤ 1099511627776) :
    Calls Tryz.prog 17 #[v, .int .i64 k] w fun e w' => e = .returned (.int .i64 ((k + zs.length : Nat) : Int)) ∧ Owns w' base v (marks zs.length k) ∧ w.grownBy w' v.ownBlock := by
  rcases h.2 with ⟨rfl, h0⟩ | ⟨g, cap, cur, rfl, hg, hh, r⟩
  · have : zs = [] := List.eq_nil_of_length_eq_zero h0
    subst this
    go_enter Tryz.func17, Tryz.ntmps17
    go_wp2
    refine wp_loop_rounds 1 ?_
    rw [rounds_succ]
    go_wp2
    go_ret
    exact ⟨by simp, h, ⟨rfl, rfl, rfl, Nat.le_refl _, fun _ _ _ => rfl⟩⟩
  · clear hg hh r
    go_enter Tryz.func17, Tryz.ntmps17
    go_wp2
    go_loopw [1, 5] (fun q i wr => ∃ j : Nat, j ≤ zs.length ∧ i = .int .i64 j ∧ q = .int .i64 ((k : Int) + (j : Int)) ∧ Hid (wr.ownsRow base 5 1 (.slice (some ⟨g, 0, none⟩) zs.length cap) zs.length (bcells (marked zs k j))) ∧ w.grownBy wr (some g))
      (fun _ i _ => zs.length - (intOf i).toNat)
    case atStart => exact ⟨0, Nat.zero_le _, rfl, by simp, by rw [marked_none]; exact h, ⟨rfl, rfl, rfl, Nat.le_refl _, fun _ _ _ => rfl⟩⟩
    case round =>
      clear h
      obtain ⟨j, hj, rfl, rfl, HO, hgr⟩ := hrel
      have hown := HO.out
      by_cases hlt : j < zs.length
      · have hfz := hown.frozenAt j
        have hold : ∃ v, wr.cell? ⟨g, j, none⟩ = some v := by
          rw [hown.cellAt j (by omega)]; exact ⟨_, List.getElem?_eq_getElem (by rw [bcells_length, marked_length _ _ _ hj]; exact hlt)⟩
        obtain ⟨v0, hv0⟩ := hold
        have hst := (hown.stored j (.int .u8 (((k : Int) + (j : Int)) % 256))).1
        have hgg := (hown.stored j (.int .u8 (((k : Int) + (j : Int)) % 256))).2
        rw [show (bcells (marked zs k j)).set j (.int .u8 (((k : Int) + (j : Int)) % 256)) = bcells (marked zs k (j + 1)) by rw [← marked_set _ _ _ hlt, bcells, bcells, List.map_set]] at hst
        have HS : Hid _ := hst
        have HG : Hid _ := grown_trans hgr hgg
        clear hst hgg hown HO hgr
        go_wp2
        go_roundw
        case rel => exact ⟨j + 1, by omega, by go_num, by first | go_num | (congr 1; omega), HS.out, HG.out⟩
        case measure => simp [intOf]; omega
      · have he : j = zs.length := by omega
        subst he
        rw [marked_all] at hown
        have HO2 : Hid _ := hown
        have HG : Hid _ := hgr
        clear hown HO hgr
        go_wp2
        go_ret
        refine ⟨by simp, ?_, HG.out⟩
        have := HO2.out
        unfold Owns
        rw [marks_length]
        exact this

set_option maxHeartbeats 400000 in
theorem held_any (a : Option Addr) (n k cap : Nat) (w : World) (h : Reads w a (marks n k)) (hl : n ≤ 2097152) (hk : k ≤ 1099511627776) :
    Calls Tryz.prog 102 #[.slice a n cap, .int .i64 k] w fun e w' => e = .returned (.int .i64 ((k + n : Nat) : Int)) ∧ w' = w := by
  obtain ⟨hb, hc⟩ := h
  go_enter Tryz.func102, Tryz.ntmps102
  go_wp2
  go_loop [1, 5] (fun q i => ∃ j : Nat, j ≤ n ∧ i = .int .i64 j ∧ q = .int .i64 ((k : Int) + (j : Int))) (fun _ i => n - (intOf i).toNat)
  case atStart => exact ⟨0, Nat.zero_le _, rfl, by simp⟩
  case round =>
    obtain ⟨j, hj, rfl, rfl⟩ := hrel
    by_cases hlt : j < n
    · rcases hc with hc | ⟨b, off, rfl, hbl, hcell⟩
      · have := congrArg List.length hc; simp at this; omega
      have hc1 := hcell j (by simpa using hlt)
      rw [marks_at _ _ _ hlt] at hc1
      clear hcell hb
      have hc2 : w.cell? ⟨b, off + j, none⟩ = some (.int .u8 (((k : Int) + (j : Int)) % 256)) := by rw [hc1]; simp
      clear hc1
      have hq : ((((k : Int) + (j : Int)) % 256) != (((k : Int) + (j : Int)) % 256)) = false := by simp
      go_wp2
      go_round
      case rel => exact ⟨j + 1, by omega, by go_num, by first | go_num | (congr 1; omega)⟩
      case measure => simp [intOf]; omega
    · have he : j = n := by omega
      subst he
      clear hc hb
      go_wp2
      go_ret
      exact ⟨by simp, rfl⟩
end Go.Proofs.YtbnjhjgjmckedaaGreat
end

section
/- Byte slices of a call's own: how they are read, grown and carried over its steps, and the helpers of the verifier over them. Conditions: at most 2^21 bytes. -/
namespace Go.Proofs.YtbnjhjgjmckedaaGreat
open Go.RowKit
set_option linter.unusedVariables false

theorem Tryz.sizeB : (Tryz.prog.info? 5).map (·.size) = some 1 := by kernel_rfl

theorem full_heap {w : World} {base : Nat} {e : TypeId} {g n : Nat} {xs : List Value} (h : w.ownsRow base e 1 (.slice (some ⟨g, 0, none⟩) n n) n xs) : w.heap[g]? = some (.cells xs.toArray e (0, 0)) := by
  rcases h.2 with ⟨hv, _⟩ | ⟨g', c, cur, hv, hg, hh, hnc, hm, hs, ht⟩
  · cases hv
  · simp only [Value.slice.injEq, Option.some.injEq, Addr.mk.injEq, and_true, true_and] at hv
    obtain ⟨rfl, rfl⟩ := hv
    rw [hh, ← ht, List.take_of_length_le (by simp; omega)]

theorem full_owns {w : World} {base g : Nat} {zs : List Int} {n : Nat} (hn : n = zs.length) (hg : base ≤ g) (hl : zs.length ≤ 4194304) (h : w.heap[g]? = some (.cells (bcells zs).toArray 5 (0, 0))) : Owns w base (.slice (some ⟨g, 0, none⟩) n n) zs := by
  subst hn
  exact ⟨by simp, .inr ⟨g, zs.length, _, rfl, hg, h, Nat.le_refl _, by unfold maxLen; omega, by simp, by simp [List.take_of_length_le]⟩⟩

theorem Reads.src {w : World} {a : Option Addr} {xs : List Int} (h : Reads w a xs) : 0 < (bcells xs).length → ∃ ad, a = some ad ∧ ∀ j v, (bcells xs)[j]? = some v → w.cell? (ad.add j) = some v := by
  intro h0
  rcases h.2 with rfl | ⟨b, off, rfl, hb, hc⟩
  · simp at h0
  · refine ⟨_, rfl, fun j v hv => ?_⟩
    have hj : j < xs.length := by
      rcases Nat.lt_or_ge j xs.length with h1 | h1
      · exact h1
      · rw [List.getElem?_eq_none (by simpa using h1)] at hv; cases hv
    have := hc j hj
    have e : ((⟨b, off, none⟩ : Addr).add j) = ⟨b, off + j, none⟩ := by
      by_cases h0 : j = 0
      · subst h0; simp [Addr.add]
      · simp [Addr.add, h0]
    rw [e, this, ← hv]
    simp [bcells, hj]

theorem bcells_one (xs : List Int) : ∀ v ∈ bcells xs, v.oneCell' = true := by
  intro v hv
  simp only [bcells, List.mem_map] at hv
  obtain ⟨x, _, rfl⟩ := hv
  rfl

theorem splice_two {α : Type} (Z X Y : List α) (k : Nat) (hk : X.length = k) (hZ : Z.length = k + Y.length) : splice (splice Z 0 X) k Y = X ++ Y := by
  subst hk
  unfold splice
  simp only [List.take_zero, List.nil_append, Nat.zero_add, List.take_left]
  rw [List.drop_append, List.drop_drop]
  have e1 : List.drop (X.length + Y.length) X = [] := List.drop_eq_nil_of_le (by omega)
  have e2 : List.drop (X.length + (X.length + Y.length - X.length)) Z = [] := List.drop_eq_nil_of_le (by omega)
  rw [e1, e2]; simp

theorem isBytes_append {xs ys : List Int} (h : isBytes xs) (k : isBytes ys) : isBytes (xs ++ ys) := by
  intro j
  rw [List.getElem?_append]
  split
  · exact h j
  · exact k _

theorem isBytes_cons {x : Int} {xs : List Int} (h0 : 0 ≤ x) (h1 : x ≤ 255) (h : isBytes xs) : isBytes (x :: xs) := by
  intro j
  cases j with
  | zero => simp; omega
  | succ j => simpa using h j

theorem Owns.base {w : World} {base b' : Nat} {v : Value} {zs : List Int} (h : Owns w base v zs) (hb : b' ≤ base) : Owns w b' v zs := by
  obtain ⟨h1, h2⟩ := h
  refine ⟨h1, ?_⟩
  rcases h2 with h2 | ⟨g, c, cur, hv, hg, r⟩
  · exact .inl h2
  · exact .inr ⟨g, c, cur, hv, by omega, r⟩

theorem reads_none (w : World) (a : Option Addr) : Reads w a [] := ⟨isBytes_nil, .inl rfl⟩

theorem Owns.shape {w : World} {base : Nat} {v : Value} {zs : List Int} (h : Owns w base v zs) : ∃ a cap, v = .slice a zs.length cap ∧ zs.length ≤ cap ∧ cap ≤ maxLen := by
  rcases h.2 with ⟨rfl, h0⟩ | ⟨g, c, cur, hv, hg, hh, hnc, hm, r⟩
  · exact ⟨none, 0, by rw [h0], by omega, Nat.zero_le _⟩
  · exact ⟨_, c, hv, hnc, hm⟩

theorem Reads.srcAt {w : World} {ad : Addr} {xs : List Int} (h : Reads w (some ad) xs) : ∀ j v, (bcells xs)[j]? = some v → w.cell? (ad.add j) = some v := by
  by_cases h0 : 0 < (bcells xs).length
  · obtain ⟨ad', ha, hc⟩ := h.src h0
    simp only [Option.some.injEq] at ha
    subst ha
    exact hc
  · intro j v hv
    rw [List.getElem?_eq_none (by omega)] at hv; cases hv

/-- append(v, x...), v the call's own bytes, x whatever bytes. -/
theorem wpList_app {ops : Array Oper} {rest : List Oper} {o : Oper} {a : Act} {Q : Exit → Act → World → Prop} (w : World) (hgd : o.guard = none) (s x : Operand)
    (ho : o.op = .call { callee := .builtin .append, args := #[s, x], argTypes := #[22, 22] })
    (base : Nat) (v : Value) (zs ys : List Int) (hs : a.eval s = v) (hown : Owns w base v zs) (ao : Option Addr) (m c : Nat) (hx : a.eval x = .slice ao m c) (hm : m = ys.length) (hr : Reads w ao ys)
    (hl : zs.length ≤ 4194304) (hl' : ys.length ≤ 4194304) (hbase : base ≤ w.heap.size)
    (hnil : ao = none → m = 0 ∧ c = 0)
    (h : ∀ v' w', Owns w' base v' (zs ++ ys) → w.grownBy w' v.ownBlock → wpList Tryz.prog ops Q rest (a.put o.dst v') w') : wpList Tryz.prog ops Q (o :: rest) a w := by
  obtain ⟨i0, hi, hz0, hz1, hz2⟩ := info_parts Tryz.infoB
  cases ao with
  | none =>
    obtain ⟨h0, hc0⟩ := hnil rfl
    have : ys = [] := List.eq_nil_of_length_eq_zero (by omega)
    subst this
    subst hm
    subst hc0
    refine wpList_append_own_none (w := w) hgd s x 22 ho base 5 i0 1 Tryz.underlying22 hi v zs.length (bcells zs) hs hown hx ?_
    have := h v w (by rw [List.append_nil]; exact hown) ⟨rfl, rfl, rfl, Nat.le_refl _, fun _ _ _ => rfl⟩
    exact this
  | some ad =>
    refine wpList_append_own w hgd s x 22 ho base 5 i0 (.int .u8 0) 1 1 Tryz.underlying22 hi hz0 hz1 hz2 rfl (by decide) v zs.length (bcells zs) hs hown ad m c (bcells ys) hx (by simp [hm]) hr.srcAt (bcells_one ys) (by unfold maxLen; omega) (by omega) hbase ?_
    intro v' w' ho' hg _
    refine h v' w' ?_ hg
    unfold Owns
    rw [List.length_append, ← hm]
    simpa [bcells] using ho'

theorem one_new (w : World) (x : Int) (h0 : 0 ≤ x) (h1 : x ≤ 255) : Reads (w.alloc (.cells #[.int .u8 x] 5)) (some ⟨w.heap.size, 0, none⟩) [x] := by
  refine ⟨isBytes_cons h0 h1 isBytes_nil, .inr ⟨w.heap.size, 0, rfl, by simp, fun i hi => ?_⟩⟩
  obtain rfl : i = 0 := by simpa using hi
  rw [World.cell?_alloc_at _ _ _ _ rfl]; rfl

theorem Owns.alloc {w : World} {base : Nat} {v : Value} {zs : List Int} (h : Owns w base v zs) (o : Obj) : Owns (w.alloc o) base v zs := World.ownsRow.alloc h o

theorem Owns.lt {w : World} {base : Nat} {v : Value} {zs : List Int} (h : Owns w base v zs) : ∀ k, v.ownBlock = some k → base ≤ k ∧ k < w.heap.size := World.ownsRow.lt h

theorem owns_empty (w : World) : Owns (w.alloc (.cells #[] 5)) w.heap.size (.slice (some ⟨w.heap.size, 0, none⟩) 0 0) [] := World.ownsRow_lit w #[] 0 (Nat.le_refl _) (Nat.zero_le _) rfl

theorem Owns.step {w w' : World} {base : Nat} {v : Value} {zs : List Int} (h : Owns w base v zs) (hb : Below w.heap.size w w') : Owns w' base v zs := h.below hb (fun k hk => (h.lt k hk).2)

theorem Owns.draw {w : World} {base : Nat} {v : Value} {zs : List Int} (h : Owns w base v zs) (n : Nat) : Owns (w.drewN n) base v zs := h.step (below_drewN2 (Below.refl _ _) n)

theorem Owns.other {w w' : World} {base : Nat} {v u : Value} {zs : List Int} (h : Owns w base v zs) (hg : w.grownBy w' u.ownBlock) (hne : ∀ k, v.ownBlock = some k → u.ownBlock ≠ some k) : Owns w' base v zs := by
  refine World.ownsRow.kept h hg ?_
  cases hk : v.ownBlock with
  | none => exact .inl rfl
  | some k => exact .inr (fun e => hne k hk e.symm)

/-- Its block lies before b. -/
def Before (v : Value) (b : Nat) : Prop := ∀ k, v.ownBlock = some k → k < b

/-- Its block lies from b on. -/
def From (v : Value) (b : Nat) : Prop := ∀ k, v.ownBlock = some k → b ≤ k

theorem Owns.before {w : World} {base : Nat} {v : Value} {zs : List Int} (h : Owns w base v zs) : Before v w.heap.size := fun k hk => (h.lt k hk).2

theorem Owns.from {w : World} {base : Nat} {v : Value} {zs : List Int} (h : Owns w base v zs) : From v base := fun k hk => (h.lt k hk).1

theorem Before.le {v : Value} {b c : Nat} (h : Before v b) (hc : b ≤ c) : Before v c := fun k hk => Nat.lt_of_lt_of_le (h k hk) hc

theorem From.le {v : Value} {b c : Nat} (h : From v b) (hc : c ≤ b) : From v c := fun k hk => Nat.le_trans hc (h k hk)

/-- What is left of a slice of the call's own once its value is opened. -/
theorem Owns.open {w : World} {base : Nat} {v : Value} {zs : List Int} (hz : isBytes zs) (h : Owns w base v zs) : ∃ a cap, v = .slice a zs.length cap ∧ zs.length ≤ cap ∧ cap ≤ maxLen ∧ Reads w a zs := by
  obtain ⟨a, cap, rfl, h1, h2⟩ := h.shape
  exact ⟨a, cap, rfl, h1, h2, (h.reads hz).2⟩

theorem toByteS_v (a : Option Addr) (zs : List Int) (len cap : Nat) (w : World) (h : Reads w a zs) (hlen : len = zs.length) (hl : zs.length ≤ 2097152) :
    Calls Tryz.prog 14 #[.slice a len cap] w fun e w' => ∃ v, e = .returned v ∧ Owns w' w.heap.size v zs ∧ Below w.heap.size w w' := by
  subst hlen
  exact (toByteS_any a zs cap w h hl).mono fun e w' ⟨he, ho, hb, _⟩ => ⟨_, he, ho, hb⟩

end Go.Proofs.YtbnjhjgjmckedaaGreat
end

section
/- Bytes, lists of bytes and what is read and owned of them, by the blocks in which they lie; no condition. -/
namespace Go.Proofs.YtbnjhjgjmckedaaGreat
open Go.RowKit
set_option linter.unusedVariables false

/-- Only blocks in lo .. hi-1, and new ones, have turned. -/
structure Turns (lo hi : Nat) (w w' : World) : Prop where
  os : w'.os = w.os
  tape : w'.tape = w.tape
  output : w'.output = w.output
  size : w.heap.size ≤ w'.heap.size
  block : ∀ k, k < w.heap.size → (k < lo ∨ hi ≤ k) → w'.heap[k]? = w.heap[k]?
theorem Turns.refl (lo hi : Nat) (w : World) : Turns lo hi w w := ⟨rfl, rfl, rfl, Nat.le_refl _, fun _ _ _ => rfl⟩
theorem Turns.trans {lo hi : Nat} {a b c : World} (h : Turns lo hi a b) (k : Turns lo hi b c) : Turns lo hi a c :=
  ⟨k.os.trans h.os, k.tape.trans h.tape, k.output.trans h.output, Nat.le_trans h.size k.size, fun i hi' hr => (k.block i (Nat.lt_of_lt_of_le hi' h.size) hr).trans (h.block i hi' hr)⟩
theorem Turns.wide {lo hi lo' hi' : Nat} {a b : World} (h : Turns lo hi a b) (h1 : lo' ≤ lo) (h2 : hi ≤ hi') : Turns lo' hi' a b :=
  ⟨h.os, h.tape, h.output, h.size, fun i hi hr => h.block i hi (by omega)⟩
theorem Turns.ofBelow {lo hi : Nat} {a b : World} (h : Below a.heap.size a b) : Turns lo hi a b := ⟨h.os, h.tape, h.output, h.size, fun i hi _ => h.block i hi⟩
theorem Turns.ofGrown {lo hi : Nat} {a b : World} {r : Option Nat} (h : a.grownBy b r) (hr : ∀ k, r = some k → lo ≤ k ∧ k < hi) : Turns lo hi a b :=
  ⟨h.os, h.tape, h.output, h.size, fun i hi ho => h.block i hi (fun e => by have := hr i e.symm; omega)⟩
theorem Turns.ofDrew {lo hi : Nat} (a : World) (n : Nat) : Turns lo hi a (a.drewN n) := ⟨rfl, rfl, rfl, Nat.le_refl _, fun _ _ _ => rfl⟩
theorem Turns.toBelow {lo hi B : Nat} {a b c : World} (h : Below B a b) (k : Turns lo hi b c) (hB : B ≤ b.heap.size) (hl : B ≤ lo) : Below B a c :=
  h.trans ⟨k.os, k.tape, k.output, k.size, fun i hi => k.block i (by omega) (.inl (by omega))⟩

/-- Blocks l .. h-1 are as they were. -/
def SameIn (l h : Nat) (w w' : World) : Prop := w.heap.size ≤ w'.heap.size ∧ ∀ k, l ≤ k → k < h → w'.heap[k]? = w.heap[k]?
theorem Turns.same {lo hi l h : Nat} {w w' : World} (t : Turns lo hi w w') (hs : h ≤ w.heap.size) (hd : h ≤ lo ∨ hi ≤ l) : SameIn l h w w' :=
  ⟨t.size, fun k h1 h2 => t.block k (by omega) (by omega)⟩
theorem SameIn.ofBelow {l h : Nat} {w w' : World} (t : Below w.heap.size w w') (hs : h ≤ w.heap.size) : SameIn l h w w' := ⟨t.size, fun k _ h2 => t.block k (by omega)⟩
theorem SameIn.cell {l h : Nat} {w w' : World} (t : SameIn l h w w') {b o : Nat} (h1 : l ≤ b) (h2 : b < h) : w'.cell? ⟨b, o, none⟩ = w.cell? ⟨b, o, none⟩ := World.cell?_of_block (w := w) (t.2 b h1 h2)
theorem SameIn.refl (l h : Nat) (w : World) : SameIn l h w w := ⟨Nat.le_refl _, fun _ _ _ => rfl⟩
theorem SameIn.trans {l h : Nat} {a b c : World} (x : SameIn l h a b) (y : SameIn l h b c) : SameIn l h a c := ⟨Nat.le_trans x.1 y.1, fun k h1 h2 => (y.2 k h1 h2).trans (x.2 k h1 h2)⟩

/-- A slice's head: nil has no length. -/
def Headed (a : Option Addr) (len cap : Nat) : Prop := len ≤ cap ∧ cap ≤ maxLen ∧ (a = none → len = 0 ∧ cap = 0)

/-- v reads as the bytes zs, which lie in blocks l .. h-1. -/
def RdB (w : World) (l h : Nat) (v : Value) (zs : List Int) : Prop :=
  isBytes zs ∧ ∃ a len cap, v = .slice a len cap ∧ len = zs.length ∧ Headed a len cap ∧
    (zs = [] ∨ ∃ b off, a = some ⟨b, off, none⟩ ∧ l ≤ b ∧ b < h ∧ ∀ i, i < zs.length → w.cell? ⟨b, off + i, none⟩ = some (.int .u8 (zs[i]?.getD 0)))
theorem RdB.same {w w' : World} {l h : Nat} {v : Value} {zs : List Int} (r : RdB w l h v zs) (t : SameIn l h w w') : RdB w' l h v zs := by
  obtain ⟨hb, a, len, cap, hv, hl, hh, hc⟩ := r
  refine ⟨hb, a, len, cap, hv, hl, hh, ?_⟩
  rcases hc with h0 | ⟨b, off, ha, h1, h2, hc⟩
  · exact .inl h0
  · exact .inr ⟨b, off, ha, h1, h2, fun i hi => by rw [t.cell h1 h2]; exact hc i hi⟩
theorem RdB.wide {w : World} {l h l' h' : Nat} {v : Value} {zs : List Int} (r : RdB w l h v zs) (h1 : l' ≤ l) (h2 : h ≤ h') : RdB w l' h' v zs := by
  obtain ⟨hb, a, len, cap, hv, hl, hh, hc⟩ := r
  refine ⟨hb, a, len, cap, hv, hl, hh, ?_⟩
  rcases hc with h0 | ⟨b, off, ha, h3, h4, hc⟩
  · exact .inl h0
  · exact .inr ⟨b, off, ha, by omega, by omega, hc⟩
theorem RdB.reads {w : World} {l h : Nat} {v : Value} {zs : List Int} (r : RdB w l h v zs) : isBytes zs ∧ ∃ a len cap, v = .slice a len cap ∧ len = zs.length ∧ Headed a len cap ∧ Reads w a zs := by
  obtain ⟨hb, a, len, cap, hv, hl, hh, hc⟩ := r
  refine ⟨hb, a, len, cap, hv, hl, hh, hb, ?_⟩
  rcases hc with h0 | ⟨b, off, ha, h3, h4, hc⟩
  · exact .inl h0
  · by_cases hz : zs = []
    · exact .inl hz
    · refine .inr ⟨b, off, ha, ?_, hc⟩
      exact block_lt_of_cell (hc 0 (by cases zs with | nil => exact absurd rfl hz | cons x r => simp))

/-- v is the call's own, with the bytes zs, in a block of l .. h-1. -/
def OwB (w : World) (l h : Nat) (v : Value) (zs : List Int) : Prop := isBytes zs ∧ Owns w l v zs ∧ Before v h
theorem OwB.rd {w : World} {l h : Nat} {v : Value} {zs : List Int} (o : OwB w l h v zs) : RdB w l h v zs := by
  obtain ⟨hz, ho, hb⟩ := o
  obtain ⟨a, cap, rfl, h1, h2⟩ := ho.shape
  refine ⟨hz, a, _, cap, rfl, rfl, ⟨h1, h2, ?_⟩, ?_⟩
  · rintro rfl
    rcases ho.2 with ⟨hv, h0⟩ | ⟨g, c, cur, hv, _⟩
    · simp only [Value.slice.injEq, true_and] at hv; omega
    · cases hv
  · rcases (ho.reads hz).2.2 with h0 | ⟨b, off, ha, _, hc⟩
    · exact .inl h0
    · subst ha
      exact .inr ⟨b, off, rfl, (ho.lt b rfl).1, hb b rfl, hc⟩
theorem OwB.same {w w' : World} {l h : Nat} {v : Value} {zs : List Int} (o : OwB w l h v zs) (t : SameIn l h w w') : OwB w' l h v zs := by
  obtain ⟨hz, ⟨h1, h2⟩, hb⟩ := o
  refine ⟨hz, ⟨h1, ?_⟩, hb⟩
  rcases h2 with h2 | ⟨g, c, cur, hv, hg, hh, r⟩
  · exact .inl h2
  · exact .inr ⟨g, c, cur, hv, hg, by rw [t.2 g hg (hb g (by rw [hv]; rfl))]; exact hh, r⟩
theorem OwB.wide {w : World} {l h l' h' : Nat} {v : Value} {zs : List Int} (r : OwB w l h v zs) (h1 : l' ≤ l) (h2 : h ≤ h') : OwB w l' h' v zs := ⟨r.1, r.2.1.base h1, r.2.2.le h2⟩
theorem OwB.of {w : World} {l : Nat} {v : Value} {zs : List Int} (hz : isBytes zs) (o : Owns w l v zs) : OwB w l w.heap.size v zs := ⟨hz, o, o.before⟩

/-- v reads as the list zss of bytes; all of it lies in blocks l .. h-1. -/
def RdBB (w : World) (l h : Nat) (v : Value) (zss : List (List Int)) : Prop :=
  ∃ a len cap, ∃ vs : Nat → Value, v = .slice a len cap ∧ len = zss.length ∧ Headed a len cap ∧
    (len = 0 ∨ ∃ b off, a = some ⟨b, off, none⟩ ∧ l ≤ b ∧ b < h ∧ ∀ i, i < len → w.cell? ⟨b, off + i, none⟩ = some (vs i)) ∧ ∀ i, i < len → RdB w l h (vs i) (zss[i]?.getD [])
theorem RdBB.same {w w' : World} {l h : Nat} {v : Value} {zss : List (List Int)} (r : RdBB w l h v zss) (t : SameIn l h w w') : RdBB w' l h v zss := by
  obtain ⟨a, len, cap, vs, hv, hl, hh, hc, he⟩ := r
  refine ⟨a, len, cap, vs, hv, hl, hh, ?_, fun i hi => (he i hi).same t⟩
  rcases hc with h0 | ⟨b, off, ha, h1, h2, hc⟩
  · exact .inl h0
  · exact .inr ⟨b, off, ha, h1, h2, fun i hi => by rw [t.cell h1 h2]; exact hc i hi⟩
theorem RdBB.wide {w : World} {l h l' h' : Nat} {v : Value} {zss : List (List Int)} (r : RdBB w l h v zss) (h1 : l' ≤ l) (h2 : h ≤ h') : RdBB w l' h' v zss := by
  obtain ⟨a, len, cap, vs, hv, hl, hh, hc, he⟩ := r
  refine ⟨a, len, cap, vs, hv, hl, hh, ?_, fun i hi => (he i hi).wide h1 h2⟩
  rcases hc with h0 | ⟨b, off, ha, h3, h4, hc⟩
  · exact .inl h0
  · exact .inr ⟨b, off, ha, by omega, by omega, hc⟩

/-- v is the call's own, with the list zss of bytes, each in a block of its own, all in blocks l .. h-1. -/
def OwBB (w : World) (l h : Nat) (v : Value) (zss : List (List Int)) : Prop :=
  ∃ vs : List Value, vs.length = zss.length ∧ w.ownsRow l 22 1 v vs.length vs ∧ Before v h ∧ (∀ i, i < vs.length → OwB w l h (vs[i]?.getD undef) (zss[i]?.getD [])) ∧
    ∀ i j k, i < j → j < vs.length → (vs[i]?.getD undef).ownBlock = some k → (vs[j]?.getD undef).ownBlock ≠ some k
theorem OwBB.rd {w : World} {l h : Nat} {v : Value} {zss : List (List Int)} (o : OwBB w l h v zss) : RdBB w l h v zss := by
  obtain ⟨vs, hl, ho, hb, he, hd⟩ := o
  rcases ho.2 with ⟨hv, h0⟩ | ⟨g, c, cur, hv, hg, hh, hnc, hm, _⟩
  · subst hv
    exact ⟨none, 0, 0, fun i => vs[i]?.getD undef, rfl, by omega, ⟨Nat.le_refl _, Nat.zero_le _, fun _ => ⟨rfl, rfl⟩⟩, .inl rfl, fun i hi => absurd hi (Nat.not_lt_zero _)⟩
  · subst hv
    refine ⟨_, vs.length, c, fun i => vs[i]?.getD undef, rfl, hl, ⟨hnc, hm, fun e => by cases e⟩, .inr ⟨g, 0, rfl, hg, hb g rfl, fun i hi => ?_⟩, fun i hi => (he i hi).rd⟩
    rw [Nat.zero_add, World.ownsRow.cellAt ho i (by omega)]
    simp [hi]
theorem ownsRow_same {w w' : World} {l h : Nat} {e : TypeId} {size : Nat} {v : Value} {n : Nat} {xs : List Value} (o : w.ownsRow l e size v n xs) (hb : Before v h) (t : SameIn l h w w') : w'.ownsRow l e size v n xs := by
  obtain ⟨h1, h2⟩ := o
  refine ⟨h1, ?_⟩
  rcases h2 with h2 | ⟨g, c, cur, hv, hg, hh, r⟩
  · exact .inl h2
  · exact .inr ⟨g, c, cur, hv, hg, by rw [t.2 g hg (hb g (by rw [hv]; rfl))]; exact hh, r⟩
theorem OwBB.same {w w' : World} {l h : Nat} {v : Value} {zss : List (List Int)} (o : OwBB w l h v zss) (t : SameIn l h w w') : OwBB w' l h v zss := by
  obtain ⟨vs, hl, ho, hb, he, hd⟩ := o
  exact ⟨vs, hl, ownsRow_same ho hb t, hb, fun i hi => (he i hi).same t, hd⟩
end Go.Proofs.YtbnjhjgjmckedaaGreat
end
