/- Joined: Base Bytes Own Mem Dt Hands Ents. -/
import Derived.Test.YtbnjhjgjmckedaaGreatProg
import Derived.WalkKit
import Derived.Deep.Draws
import Derived.Deep.QuietTactic
import Derived.BigQuiet
import Derived.Laws.CopyOwn
import Derived.WalkSpells
import Derived.Laws.AppendOwnNone

section
/- Small facts on byte slices that lie in memory, for the walks of this seat; no condition. -/
namespace Go.Proofs.YtbnjhjgjmckedaaGreat
open Go.RowKit
set_option linter.unusedVariables false

theorem Tryz.infoB : (Tryz.prog.info? 5).map (fun i => (i.zero, i.size, i.bytes)) = some (some (.int .u8 0), 1, 1) := by kernel_rfl

/-- The bytes, as cells. -/
def bcells (zs : List Int) : List Value := zs.map (Value.int .u8)
@[simp] theorem bcells_length (zs : List Int) : (bcells zs).length = zs.length := by simp [bcells]

def isBytes (zs : List Int) : Prop := ∀ j : Nat, 0 ≤ zs[j]?.getD 0 ∧ zs[j]?.getD 0 ≤ 255

/-- In this world a slice that begins at 'a' and has as many elements as 'zs' reads as 'zs'. -/
def Reads (w : World) (a : Option Addr) (zs : List Int) : Prop :=
  isBytes zs ∧ (zs = [] ∨ ∃ b off, a = some ⟨b, off, none⟩ ∧ b < w.heap.size ∧ ∀ i, i < zs.length → w.cell? ⟨b, off + i, none⟩ = some (.int .u8 (zs[i]?.getD 0)))

theorem Reads.below {w w' : World} {a : Option Addr} {zs : List Int} (h : Reads w a zs) (hb : Below w.heap.size w w') : Reads w' a zs := by
  obtain ⟨h1, h2⟩ := h
  refine ⟨h1, ?_⟩
  rcases h2 with h2 | ⟨b, off, ha, hlt, hc⟩
  · exact .inl h2
  · refine .inr ⟨b, off, ha, by have := hb.size; omega, fun i hi => ?_⟩
    rw [hb.cell (p := ⟨b, off + i, none⟩) hlt]; exact hc i hi

/-- A slice that the call made, from 'base' on, with just these bytes. -/
def Owns (w : World) (base : Nat) (v : Value) (zs : List Int) : Prop := w.ownsRow base 5 1 v zs.length (bcells zs)

theorem Owns.reads {w : World} {base : Nat} {a : Option Addr} {n cap : Nat} {zs : List Int} (hz : isBytes zs) (h : Owns w base (.slice a n cap) zs) : n = zs.length ∧ Reads w a zs := by
  rcases h.2 with ⟨hv, h0⟩ | ⟨g, c, cur, hv, hg, hh, hnc, hm, hs, ht⟩
  · simp only [Value.slice.injEq] at hv
    obtain ⟨rfl, rfl, rfl⟩ := hv
    exact ⟨h0.symm, hz, .inl (List.eq_nil_of_length_eq_zero h0)⟩
  · simp only [Value.slice.injEq] at hv
    obtain ⟨rfl, rfl, rfl⟩ := hv
    refine ⟨rfl, hz, .inr ⟨g, 0, rfl, lt_of_block hh, fun i hi => ?_⟩⟩
    have := World.ownsRow.cellAt h i (by omega)
    rw [Nat.zero_add, this]
    simp [bcells, hi]

theorem Owns.below {w w' : World} {base B : Nat} {v : Value} {zs : List Int} (h : Owns w base v zs) (hb : Below B w w') (hB : ∀ k, v.ownBlock = some k → k < B) : Owns w' base v zs := by
  obtain ⟨h1, h2⟩ := h
  refine ⟨h1, ?_⟩
  rcases h2 with h2 | ⟨g, c, cur, hv, hg, hh, r⟩
  · exact .inl h2
  · exact .inr ⟨g, c, cur, hv, hg, by rw [hb.block g (hB g (by rw [hv]; rfl))]; exact hh, r⟩

/-- The first k bytes laid, the others still nought. -/
def laid (zs : List Int) (k : Nat) : List Int := zs.take k ++ List.replicate (zs.length - k) 0
theorem laid_length (zs : List Int) (k : Nat) (h : k ≤ zs.length) : (laid zs k).length = zs.length := by simp [laid]; omega
theorem laid_all (zs : List Int) : laid zs zs.length = zs := by simp [laid]
theorem laid_none (zs : List Int) : laid zs 0 = List.replicate zs.length 0 := by simp [laid]
theorem laid_set (zs : List Int) (k : Nat) (h : k < zs.length) : (laid zs k).set k (zs[k]?.getD 0) = laid zs (k + 1) := by
  obtain ⟨m, hm⟩ : ∃ m, zs.length - k = m + 1 := ⟨zs.length - k - 1, by omega⟩
  have hm' : zs.length - (k + 1) = m := by omega
  unfold laid
  rw [hm, hm', List.replicate_succ, List.set_append, if_neg (by simp; omega), List.length_take, Nat.min_eq_left (by omega), Nat.sub_self, List.set_cons_zero]
  have e : zs.take (k + 1) = zs.take k ++ [zs[k]] := List.take_succ_eq_append_getElem h
  rw [e, List.append_assoc]
  simp [h]
theorem madeCells_bytes (n : Nat) : (madeCells (Value.int .u8 0).cells (n * 1)).toList = bcells (List.replicate n 0) := by
  simp [madeCells, bcells, Value.cells]
  apply List.ext_getElem?
  intro i
  simp [List.getElem?_map, List.getElem?_replicate]
  by_cases h : i < n <;> simp [h, Nat.mod_one]

theorem grown_trans {a b c : World} {r : Option Nat} (h : a.grownBy b r) (k : b.grownBy c r) : a.grownBy c r :=
  ⟨k.os.trans h.os, k.tape.trans h.tape, k.output.trans h.output, Nat.le_trans h.size k.size, fun i hi hne => (k.block i (Nat.lt_of_lt_of_le hi h.size) hne).trans (h.block i hi hne)⟩
theorem isBytes_nil : isBytes [] := fun j => by simp
end Go.Proofs.YtbnjhjgjmckedaaGreat
end

section
/- What the verifier's small helpers on byte slices do: copying, comparing, marking. Conditions: at most 2^21 bytes. -/
namespace Go.Proofs.YtbnjhjgjmckedaaGreat
open Go.RowKit
set_option linter.unusedVariables false

set_option maxHeartbeats 400000 in
theorem toByteS_any (a : Option Addr) (zs : List Int) (cap : Nat) (w : World) (h : Reads w a zs) (hl : zs.length ≤ 2097152) :
    Calls Tryz.prog 14 #[.slice a zs.length cap] w fun e w' => e = .returned (.slice (some ⟨w.heap.size, 0, none⟩) zs.length zs.length) ∧
      Owns w' w.heap.size (.slice (some ⟨w.heap.size, 0, none⟩) zs.length zs.length) zs ∧ Below w.heap.size w w' ∧ w.heap.size < w'.heap.size := by
  obtain ⟨hb, hc⟩ := h
  obtain ⟨i0, hi, hz0, hz1, hz2⟩ := info_parts Tryz.infoB
  go_enter Tryz.func14, Tryz.ntmps14
  go_wp2_with (at_make; refine wpList_make_full _ rfl _ _ 22 rfl w.heap.size 5 i0 (.int .u8 0) 1 Tryz.underlying22 hi hz0 hz1 .i64 .i64 _ _ zs.length rfl rfl rfl rfl (by rw [hz2]; omega) (by unfold maxLen; omega) (Nat.le_refl _) ?_; intro w1 hown hgrow)
  have hb1 : Below w.heap.size w w1 := (Below.refl _ _).grown hgrow (Nat.le_refl _) (fun k h => by cases h)
  have hs1 : w.heap.size < w1.heap.size := (hown.lt _ rfl).2
  rw [madeCells_bytes, ← laid_none] at hown
  clear hgrow
  go_loopw [4] (fun i wr => ∃ k : Nat, k ≤ zs.length ∧ i = .int .i64 k ∧ wr.ownsRow w.heap.size 5 1 (.slice (some ⟨w.heap.size, 0, none⟩) zs.length zs.length) zs.length (bcells (laid zs k)) ∧ Below w.heap.size w wr ∧ w.heap.size < wr.heap.size)
    (fun i _ => zs.length - (intOf i).toNat)
  case atStart => exact ⟨0, Nat.zero_le _, rfl, hown, hb1, hs1⟩
  case round =>
    clear hown hb1 hs1
    obtain ⟨k, hk, rfl, hown, hbel, hsz⟩ := hrel
    by_cases hlt : k < zs.length
    · rcases hc with rfl | ⟨b, off, rfl, hbl, hcell⟩
      · simp at hlt
      have hls := laid_set zs k hlt
      have hc1 : wr.cell? ⟨b, off + k, none⟩ = some (.int .u8 (zs[k]?.getD 0)) := (hbel.cell (p := ⟨b, off + k, none⟩) hbl).trans (hcell k hlt)
      generalize zs[k]?.getD 0 = c at hc1 hls
      have hfz := hown.frozenAt k
      have hold : ∃ v, wr.cell? ⟨w.heap.size, k, none⟩ = some v := by
        rw [hown.cellAt k (by omega)]; exact ⟨_, List.getElem?_eq_getElem (by rw [bcells_length, laid_length _ _ hk]; exact hlt)⟩
      obtain ⟨v0, hv0⟩ := hold
      have hst := (hown.stored k (.int .u8 c)).1
      rw [show (bcells (laid zs k)).set k (.int .u8 c) = bcells (laid zs (k + 1)) by rw [← hls, bcells, bcells, List.map_set]] at hst
      have HS : Hid _ := hst
      clear hst hown hls hcell
      go_wp2
      go_roundw
      case rel => exact ⟨k + 1, by omega, by go_num, HS.out, hbel.setCell (Nat.le_refl _) _, by simpa using hsz⟩
      case measure => simp [intOf]; omega
    · have he : k = zs.length := by omega
      subst he
      rw [laid_all] at hown
      go_wp2
      go_ret
      exact ⟨rfl, hown, hbel, hsz⟩

theorem below_drewN2 {B : Nat} {a w : World} (h : Below B a w) (n : Nat) : Below B a (w.drewN n) := ⟨h.os, h.tape, h.output, h.size, h.block⟩
theorem take_eq_step (xs ys : List Int) (k : Nat) (hx : k < xs.length) (hy : k < ys.length) (h : xs.take k = ys.take k) :
    (xs[k]?.getD 0 = ys[k]?.getD 0 → xs.take (k + 1) = ys.take (k + 1)) ∧ (xs[k]?.getD 0 ≠ ys[k]?.getD 0 → (xs == ys) = false) := by
  constructor
  · intro e
    rw [List.take_succ_eq_append_getElem hx, List.take_succ_eq_append_getElem hy, h]
    simp [hx, hy] at e
    rw [e]
  · intro e
    apply beq_eq_false_iff_ne.2
    rintro rfl
    exact e rfl
set_option maxHeartbeats 400000 in
theorem eqByteS_any (a b : Option Addr) (xs ys : List Int) (ca cb : Nat) (w : World) (hx : Reads w a xs) (hy : Reads w b ys) (hl : xs.length ≤ 2097152) (hm : ys.length ≤ 2097152) :
    Calls Tryz.prog 16 #[.slice a xs.length ca, .slice b ys.length cb] w fun e w' => e = .returned (.bool (xs == ys)) ∧ ∃ n, w' = w.drewN n := by
  obtain ⟨bx, cx⟩ := hx
  obtain ⟨by_, cy⟩ := hy
  by_cases hne : xs.length = ys.length
  · obtain ⟨N, hN⟩ : ∃ N, xs.length = N := ⟨_, rfl⟩
    have hN' : ys.length = N := by omega
    rw [hN, hN']
    rw [hN] at hl
    rw [hN'] at hm
    have HX : Hid (xs.length = N) := hN
    have HY : Hid (ys.length = N) := hN'
    clear hne hN hN'
    go_enter Tryz.func16, Tryz.ntmps16
    go_wp2
    go_loopw [5] (fun i wr => ∃ k m : Nat, k ≤ N ∧ i = .int .i64 k ∧ wr = w.drewN m ∧ Hid (xs.take k = ys.take k)) (fun i _ => N - (intOf i).toNat)
    case atStart => exact ⟨0, 0, Nat.zero_le _, rfl, rfl, by show _ = _; simp⟩
    case round =>
      obtain ⟨k, m, hk, rfl, rfl, hE⟩ := hrel
      by_cases hlt : k < N
      · rcases cx with rfl | ⟨bx', ox, rfl, hbx, hcx⟩
        · have := HX.out; simp at this; omega
        rcases cy with rfl | ⟨by', oy, rfl, hby, hcy⟩
        · have := HY.out; simp at this; omega
        have h1 := hcx k (by rw [HX.out]; exact hlt)
        have h2 := hcy k (by rw [HY.out]; exact hlt)
        have hstep := take_eq_step xs ys k (by rw [HX.out]; exact hlt) (by rw [HY.out]; exact hlt) hE.out
        have HST : Hid _ := hstep
        clear hstep
        clear bx by_ hcx hcy
        generalize xs[k]?.getD 0 = c at h1 HST
        generalize ys[k]?.getD 0 = d at h2 HST
        go_wp2
        go_quiet (fail)
        all_goals go_wp2
        · have hne : c ≠ d := by
            have hh : (c != d) = true := by assumption
            simpa using hh
          go_ret
          exact ⟨by rw [HST.out.2 hne]; rfl, _, World.drewN_drewN _ _ _⟩
        · have heq : c = d := by
            have hh : (c != d) = false := by assumption
            simpa using hh
          go_roundw
          case rel => exact ⟨k + 1, _, by omega, by go_num, rfl, HST.out.1 heq⟩
          case measure => simp [intOf]; omega
      · have he : k = N := by omega
        subst he
        have ht : xs = ys := by
          have := hE.out
          rwa [List.take_of_length_le (by rw [HX.out]; exact Nat.le_refl _), List.take_of_length_le (by rw [HY.out]; exact Nat.le_refl _)] at this
        go_wp2
        go_ret
        exact ⟨by rw [ht]; simp, m, rfl⟩
  · have : (xs == ys) = false := by
      apply beq_eq_false_iff_ne.2; intro h; exact hne (by rw [h])
    rw [this]
    clear this
    have hd : ((xs.length : Int) == (ys.length : Int)) = false := by simp; omega
    go_enter Tryz.func16, Tryz.ntmps16
    go_wp2
    go_ret
    exact ⟨rfl, (0 : Nat), rfl⟩

/-- What 'mark' lays into n bytes, from k on. -/
def marks (n : Nat) (k : Nat) : List Int := (List.range n).map (fun i => ((k + i : Nat) : Int) % 256)
@[simp] theorem marks_length (n k : Nat) : (marks n k).length = n := by simp [marks]
theorem marks_isBytes (n k : Nat) : isBytes (marks n k) := by
  intro j
  by_cases h : j < n
  · simp [marks, h]; omega
  · simp [marks, h]
theorem marks_at (n k j : Nat) (h : j < n) : (marks n k)[j]?.getD 0 = ((k + j : Nat) : Int) % 256 := by simp [marks, h]
/-- The first j marked, the others as they were. -/
def marked (zs : List Int) (k j : Nat) : List Int := marks j k ++ zs.drop j
theorem marked_length (zs : List Int) (k j : Nat) (h : j ≤ zs.length) : (marked zs k j).length = zs.length := by simp [marked]; omega
theorem marked_none (zs : List Int) (k : Nat) : marked zs k 0 = zs := by simp [marked, marks]
theorem marked_all (zs : List Int) (k : Nat) : marked zs k zs.length = marks zs.length k := by simp [marked]
theorem marked_set (zs : List Int) (k j : Nat) (h : j < zs.length) : (marked zs k j).set j (((k : Int) + (j : Int)) % 256) = marked zs k (j + 1) := by
  have e : marks (j + 1) k = marks j k ++ [((k : Int) + (j : Int)) % 256] := by simp [marks, List.range_succ]
  unfold marked
  rw [e, List.set_append, if_neg (by simp), marks_length, Nat.sub_self, List.drop_eq_getElem_cons h, List.set_cons_zero, List.append_assoc]
  rfl

set_option maxHeartbeats 400000 in
theorem mark_any (v : Value) (zs : List Int) (k base : Nat) (w : World) (h : Owns w base v zs) (hl : zs.length ≤ 2097152) (hk : k ≤ 1099511627776) :
    Calls Tryz.prog 17 #[v, .int .i64 k] w fun e w' => e = .returned (.int .i64 ((k + zs.length : Nat) : Int)) ∧ Owns w' base v (marks zs.length k) ∧ w.grownBy w' v.ownBlock := by
  rcases h.2 with ⟨rfl, h0⟩ | ⟨g, cap, cur, rfl, hg, hh, r⟩
  · have : zs = [] := List.eq_nil_of_length_eq_zero h0
    subst this
    go_enter Tryz.func17, Tryz.ntmps17
    go_wp2
    refine wp_loop_rounds 1 ?_
    rw [rounds_succ]
    go_wp2
    go_ret
    exact ⟨by simp, h, ⟨rfl, rfl, rfl, Nat.le_refl _, fun _ _ _ => rfl⟩⟩
  · clear hg hh r
    go_enter Tryz.func17, Tryz.ntmps17
    go_wp2
    go_loopw [1, 5] (fun q i wr => ∃ j : Nat, j ≤ zs.length ∧ i = .int .i64 j ∧ q = .int .i64 ((k : Int) + (j : Int)) ∧ Hid (wr.ownsRow base 5 1 (.slice (some ⟨g, 0, none⟩) zs.length cap) zs.length (bcells (marked zs k j))) ∧ w.grownBy wr (some g))
      (fun _ i _ => zs.length - (intOf i).toNat)
    case atStart => exact ⟨0, Nat.zero_le _, rfl, by simp, by rw [marked_none]; exact h, ⟨rfl, rfl, rfl, Nat.le_refl _, fun _ _ _ => rfl⟩⟩
    case round =>
      clear h
      obtain ⟨j, hj, rfl, rfl, HO, hgr⟩ := hrel
      have hown := HO.out
      by_cases hlt : j < zs.length
      · have hfz := hown.frozenAt j
        have hold : ∃ v, wr.cell? ⟨g, j, none⟩ = some v := by
          rw [hown.cellAt j (by omega)]; exact ⟨_, List.getElem?_eq_getElem (by rw [bcells_length, marked_length _ _ _ hj]; exact hlt)⟩
        obtain ⟨v0, hv0⟩ := hold
        have hst := (hown.stored j (.int .u8 (((k : Int) + (j : Int)) % 256))).1
        have hgg := (hown.stored j (.int .u8 (((k : Int) + (j : Int)) % 256))).2
        rw [show (bcells (marked zs k j)).set j (.int .u8 (((k : Int) + (j : Int)) % 256)) = bcells (marked zs k (j + 1)) by rw [← marked_set _ _ _ hlt, bcells, bcells, List.map_set]] at hst
        have HS : Hid _ := hst
        have HG : Hid _ := grown_trans hgr hgg
        clear hst hgg hown HO hgr
        go_wp2
        go_roundw
        case rel => exact ⟨j + 1, by omega, by go_num, by first | go_num | (congr 1; omega), HS.out, HG.out⟩
        case measure => simp [intOf]; omega
      · have he : j = zs.length := by omega
        subst he
        rw [marked_all] at hown
        have HO2 : Hid _ := hown
        have HG : Hid _ := hgr
        clear hown HO hgr
        go_wp2
        go_ret
        refine ⟨by simp, ?_, HG.out⟩
        have := HO2.out
        unfold Owns
        rw [marks_length]
        exact this

set_option maxHeartbeats 400000 in
theorem held_any (a : Option Addr) (n k cap : Nat) (w : World) (h : Reads w a (marks n k)) (hl : n ≤ 2097152) (hk : k ≤ 1099511627776) :
    Calls Tryz.prog 102 #[.slice a n cap, .int .i64 k] w fun e w' => e = .returned (.int .i64 ((k + n : Nat) : Int)) ∧ w' = w := by
  obtain ⟨hb, hc⟩ := h
  go_enter Tryz.func102, Tryz.ntmps102
  go_wp2
  go_loop [1, 5] (fun q i => ∃ j : Nat, j ≤ n ∧ i = .int .i64 j ∧ q = .int .i64 ((k : Int) + (j : Int))) (fun _ i => n - (intOf i).toNat)
  case atStart => exact ⟨0, Nat.zero_le _, rfl, by simp⟩
  case round =>
    obtain ⟨j, hj, rfl, rfl⟩ := hrel
    by_cases hlt : j < n
    · rcases hc with hc | ⟨b, off, rfl, hbl, hcell⟩
      · have := congrArg List.length hc; simp at this; omega
      have hc1 := hcell j (by simpa using hlt)
      rw [marks_at _ _ _ hlt] at hc1
      clear hcell hb
      have hc2 : w.cell? ⟨b, off + j, none⟩ = some (.int .u8 (((k : Int) + (j : Int)) % 256)) := by rw [hc1]; simp
      clear hc1
      have hq : ((((k : Int) + (j : Int)) % 256) != (((k : Int) + (j : Int)) % 256)) = false := by simp
      go_wp2
      go_round
      case rel => exact ⟨j + 1, by omega, by go_num, by first | go_num | (congr 1; omega)⟩
      case measure => simp [intOf]; omega
    · have he : j = n := by omega
      subst he
      clear hc hb
      go_wp2
      go_ret
      exact ⟨by simp, rfl⟩
end Go.Proofs.YtbnjhjgjmckedaaGreat
end

section
/- Byte slices of a call's own: how they are read, grown and carried over its steps, and the helpers of the verifier over them. Conditions: at most 2^21 bytes. -/
namespace Go.Proofs.YtbnjhjgjmckedaaGreat
open Go.RowKit
set_option linter.unusedVariables false

theorem Tryz.sizeB : (Tryz.prog.info? 5).map (·.size) = some 1 := by kernel_rfl

theorem full_heap {w : World} {base : Nat} {e : TypeId} {g n : Nat} {xs : List Value} (h : w.ownsRow base e 1 (.slice (some ⟨g, 0, none⟩) n n) n xs) : w.heap[g]? = some (.cells xs.toArray e (0, 0)) := by
  rcases h.2 with ⟨hv, _⟩ | ⟨g', c, cur, hv, hg, hh, hnc, hm, hs, ht⟩
  · cases hv
  · simp only [Value.slice.injEq, Option.some.injEq, Addr.mk.injEq, and_true, true_and] at hv
    obtain ⟨rfl, rfl⟩ := hv
    rw [hh, ← ht, List.take_of_length_le (by simp; omega)]

theorem full_owns {w : World} {base g : Nat} {zs : List Int} {n : Nat} (hn : n = zs.length) (hg : base ≤ g) (hl : zs.length ≤ 4194304) (h : w.heap[g]? = some (.cells (bcells zs).toArray 5 (0, 0))) : Owns w base (.slice (some ⟨g, 0, none⟩) n n) zs := by
  subst hn
  exact ⟨by simp, .inr ⟨g, zs.length, _, rfl, hg, h, Nat.le_refl _, by unfold maxLen; omega, by simp, by simp [List.take_of_length_le]⟩⟩

theorem Reads.src {w : World} {a : Option Addr} {xs : List Int} (h : Reads w a xs) : 0 < (bcells xs).length → ∃ ad, a = some ad ∧ ∀ j v, (bcells xs)[j]? = some v → w.cell? (ad.add j) = some v := by
  intro h0
  rcases h.2 with rfl | ⟨b, off, rfl, hb, hc⟩
  · simp at h0
  · refine ⟨_, rfl, fun j v hv => ?_⟩
    have hj : j < xs.length := by
      rcases Nat.lt_or_ge j xs.length with h1 | h1
      · exact h1
      · rw [List.getElem?_eq_none (by simpa using h1)] at hv; cases hv
    have := hc j hj
    have e : ((⟨b, off, none⟩ : Addr).add j) = ⟨b, off + j, none⟩ := by
      by_cases h0 : j = 0
      · subst h0; simp [Addr.add]
      · simp [Addr.add, h0]
    rw [e, this, ← hv]
    simp [bcells, hj]

theorem bcells_one (xs : List Int) : ∀ v ∈ bcells xs, v.oneCell' = true := by
  intro v hv
  simp only [bcells, List.mem_map] at hv
  obtain ⟨x, _, rfl⟩ := hv
  rfl

theorem splice_two {α : Type} (Z X Y : List α) (k : Nat) (hk : X.length = k) (hZ : Z.length = k + Y.length) : splice (splice Z 0 X) k Y = X ++ Y := by
  subst hk
  unfold splice
  simp only [List.take_zero, List.nil_append, Nat.zero_add, List.take_left]
  rw [List.drop_append, List.drop_drop]
  have e1 : List.drop (X.length + Y.length) X = [] := List.drop_eq_nil_of_le (by omega)
  have e2 : List.drop (X.length + (X.length + Y.length - X.length)) Z = [] := List.drop_eq_nil_of_le (by omega)
  rw [e1, e2]; simp

theorem isBytes_append {xs ys : List Int} (h : isBytes xs) (k : isBytes ys) : isBytes (xs ++ ys) := by
  intro j
  rw [List.getElem?_append]
  split
  · exact h j
  · exact k _

theorem isBytes_cons {x : Int} {xs : List Int} (h0 : 0 ≤ x) (h1 : x ≤ 255) (h : isBytes xs) : isBytes (x :: xs) := by
  intro j
  cases j with
  | zero => simp; omega
  | succ j => simpa using h j

theorem Owns.base {w : World} {base b' : Nat} {v : Value} {zs : List Int} (h : Owns w base v zs) (hb : b' ≤ base) : Owns w b' v zs := by
  obtain ⟨h1, h2⟩ := h
  refine ⟨h1, ?_⟩
  rcases h2 with h2 | ⟨g, c, cur, hv, hg, r⟩
  · exact .inl h2
  · exact .inr ⟨g, c, cur, hv, by omega, r⟩

theorem reads_none (w : World) (a : Option Addr) : Reads w a [] := ⟨isBytes_nil, .inl rfl⟩

theorem Owns.shape {w : World} {base : Nat} {v : Value} {zs : List Int} (h : Owns w base v zs) : ∃ a cap, v = .slice a zs.length cap ∧ zs.length ≤ cap ∧ cap ≤ maxLen := by
  rcases h.2 with ⟨rfl, h0⟩ | ⟨g, c, cur, hv, hg, hh, hnc, hm, r⟩
  · exact ⟨none, 0, by rw [h0], by omega, Nat.zero_le _⟩
  · exact ⟨_, c, hv, hnc, hm⟩

theorem Reads.srcAt {w : World} {ad : Addr} {xs : List Int} (h : Reads w (some ad) xs) : ∀ j v, (bcells xs)[j]? = some v → w.cell? (ad.add j) = some v := by
  by_cases h0 : 0 < (bcells xs).length
  · obtain ⟨ad', ha, hc⟩ := h.src h0
    simp only [Option.some.injEq] at ha
    subst ha
    exact hc
  · intro j v hv
    rw [List.getElem?_eq_none (by omega)] at hv; cases hv

/-- append(v, x...), v the call's own bytes, x whatever bytes. -/
theorem wpList_app {ops : Array Oper} {rest : List Oper} {o : Oper} {a : Act} {Q : Exit → Act → World → Prop} (w : World) (hgd : o.guard = none) (s x : Operand)
    (ho : o.op = .call { callee := .builtin .append, args := #[s, x], argTypes := #[22, 22] })
    (base : Nat) (v : Value) (zs ys : List Int) (hs : a.eval s = v) (hown : Owns w base v zs) (ao : Option Addr) (m c : Nat) (hx : a.eval x = .slice ao m c) (hm : m = ys.length) (hr : Reads w ao ys)
    (hl : zs.length ≤ 4194304) (hl' : ys.length ≤ 4194304) (hbase : base ≤ w.heap.size)
    (hnil : ao = none → m = 0 ∧ c = 0)
    (h : ∀ v' w', Owns w' base v' (zs ++ ys) → w.grownBy w' v.ownBlock → wpList Tryz.prog ops Q rest (a.put o.dst v') w') : wpList Tryz.prog ops Q (o :: rest) a w := by
  obtain ⟨i0, hi, hz0, hz1, hz2⟩ := info_parts Tryz.infoB
  cases ao with
  | none =>
    obtain ⟨h0, hc0⟩ := hnil rfl
    have : ys = [] := List.eq_nil_of_length_eq_zero (by omega)
    subst this
    subst hm
    subst hc0
    refine wpList_append_own_none (w := w) hgd s x 22 ho base 5 i0 1 Tryz.underlying22 hi v zs.length (bcells zs) hs hown hx ?_
    have := h v w (by rw [List.append_nil]; exact hown) ⟨rfl, rfl, rfl, Nat.le_refl _, fun _ _ _ => rfl⟩
    exact this
  | some ad =>
    refine wpList_append_own w hgd s x 22 ho base 5 i0 (.int .u8 0) 1 1 Tryz.underlying22 hi hz0 hz1 hz2 rfl (by decide) v zs.length (bcells zs) hs hown ad m c (bcells ys) hx (by simp [hm]) hr.srcAt (bcells_one ys) (by unfold maxLen; omega) (by omega) hbase ?_
    intro v' w' ho' hg _
    refine h v' w' ?_ hg
    unfold Owns
    rw [List.length_append, ← hm]
    simpa [bcells] using ho'

theorem one_new (w : World) (x : Int) (h0 : 0 ≤ x) (h1 : x ≤ 255) : Reads (w.alloc (.cells #[.int .u8 x] 5)) (some ⟨w.heap.size, 0, none⟩) [x] := by
  refine ⟨isBytes_cons h0 h1 isBytes_nil, .inr ⟨w.heap.size, 0, rfl, by simp, fun i hi => ?_⟩⟩
  obtain rfl : i = 0 := by simpa using hi
  rw [World.cell?_alloc_at _ _ _ _ rfl]; rfl

theorem Owns.alloc {w : World} {base : Nat} {v : Value} {zs : List Int} (h : Owns w base v zs) (o : Obj) : Owns (w.alloc o) base v zs := World.ownsRow.alloc h o

theorem Owns.lt {w : World} {base : Nat} {v : Value} {zs : List Int} (h : Owns w base v zs) : ∀ k, v.ownBlock = some k → base ≤ k ∧ k < w.heap.size := World.ownsRow.lt h

theorem owns_empty (w : World) : Owns (w.alloc (.cells #[] 5)) w.heap.size (.slice (some ⟨w.heap.size, 0, none⟩) 0 0) [] := World.ownsRow_lit w #[] 0 (Nat.le_refl _) (Nat.zero_le _) rfl

theorem Owns.step {w w' : World} {base : Nat} {v : Value} {zs : List Int} (h : Owns w base v zs) (hb : Below w.heap.size w w') : Owns w' base v zs := h.below hb (fun k hk => (h.lt k hk).2)

/-- Its block lies before b. -/
def Before (v : Value) (b : Nat) : Prop := ∀ k, v.ownBlock = some k → k < b

/-- Its block lies from b on. -/
def From (v : Value) (b : Nat) : Prop := ∀ k, v.ownBlock = some k → b ≤ k

theorem toByteS_v (a : Option Addr) (zs : List Int) (len cap : Nat) (w : World) (h : Reads w a zs) (hlen : len = zs.length) (hl : zs.length ≤ 2097152) :
    Calls Tryz.prog 14 #[.slice a len cap] w fun e w' => ∃ v, e = .returned v ∧ Owns w' w.heap.size v zs ∧ Below w.heap.size w w' := by
  subst hlen
  exact (toByteS_any a zs cap w h hl).mono fun e w' ⟨he, ho, hb, _⟩ => ⟨_, he, ho, hb⟩

end Go.Proofs.YtbnjhjgjmckedaaGreat
end

section
/- Bytes, lists of bytes and what is read and owned of them, by the blocks in which they lie; no condition. -/
namespace Go.Proofs.YtbnjhjgjmckedaaGreat
open Go.RowKit
set_option linter.unusedVariables false

/-- Only blocks in lo .. hi-1, and new ones, have turned. -/
structure Turns (lo hi : Nat) (w w' : World) : Prop where
  os : w'.os = w.os
  tape : w'.tape = w.tape
  output : w'.output = w.output
  size : w.heap.size ≤ w'.heap.size
  block : ∀ k, k < w.heap.size → (k < lo ∨ hi ≤ k) → w'.heap[k]? = w.heap[k]?
/-- Blocks l .. h-1 are as they were. -/
def SameIn (l h : Nat) (w w' : World) : Prop := w.heap.size ≤ w'.heap.size ∧ ∀ k, l ≤ k → k < h → w'.heap[k]? = w.heap[k]?
/-- A slice's head: nil has no length. -/
def Headed (a : Option Addr) (len cap : Nat) : Prop := len ≤ cap ∧ cap ≤ maxLen ∧ (a = none → len = 0 ∧ cap = 0)

/-- v reads as the bytes zs, which lie in blocks l .. h-1. -/
def RdB (w : World) (l h : Nat) (v : Value) (zs : List Int) : Prop :=
  isBytes zs ∧ ∃ a len cap, v = .slice a len cap ∧ len = zs.length ∧ Headed a len cap ∧
    (zs = [] ∨ ∃ b off, a = some ⟨b, off, none⟩ ∧ l ≤ b ∧ b < h ∧ ∀ i, i < zs.length → w.cell? ⟨b, off + i, none⟩ = some (.int .u8 (zs[i]?.getD 0)))
/-- v is the call's own, with the bytes zs, in a block of l .. h-1. -/
def OwB (w : World) (l h : Nat) (v : Value) (zs : List Int) : Prop := isBytes zs ∧ Owns w l v zs ∧ Before v h
/-- v reads as the list zss of bytes; all of it lies in blocks l .. h-1. -/
def RdBB (w : World) (l h : Nat) (v : Value) (zss : List (List Int)) : Prop :=
  ∃ a len cap, ∃ vs : Nat → Value, v = .slice a len cap ∧ len = zss.length ∧ Headed a len cap ∧
    (len = 0 ∨ ∃ b off, a = some ⟨b, off, none⟩ ∧ l ≤ b ∧ b < h ∧ ∀ i, i < len → w.cell? ⟨b, off + i, none⟩ = some (vs i)) ∧ ∀ i, i < len → RdB w l h (vs i) (zss[i]?.getD [])
/-- v is the call's own, with the list zss of bytes, each in a block of its own, all in blocks l .. h-1. -/
def OwBB (w : World) (l h : Nat) (v : Value) (zss : List (List Int)) : Prop :=
  ∃ vs : List Value, vs.length = zss.length ∧ w.ownsRow l 22 1 v vs.length vs ∧ Before v h ∧ (∀ i, i < vs.length → OwB w l h (vs[i]?.getD undef) (zss[i]?.getD [])) ∧
    ∀ i j k, i < j → j < vs.length → (vs[i]?.getD undef).ownBlock = some k → (vs[j]?.getD undef).ownBlock ≠ some k
end Go.Proofs.YtbnjhjgjmckedaaGreat
end

section
/- Data with depth: rows of cells, whatever lies in them, read and owned by the blocks in which they lie; no condition. -/
namespace Go.Proofs.YtbnjhjgjmckedaaGreat
open Go.RowKit
set_option linter.unusedVariables false

/-- Blocks of S are as they were. -/
def Keeps (S : Nat → Prop) (w w' : World) : Prop := w.heap.size ≤ w'.heap.size ∧ ∀ b, S b → b < w.heap.size → w'.heap[b]? = w.heap[b]?
/-- Only blocks of S, and new ones, have turned. -/
structure Turned (S : Nat → Prop) (w w' : World) : Prop where
  os : w'.os = w.os
  tape : w'.tape = w.tape
  output : w'.output = w.output
  size : w.heap.size ≤ w'.heap.size
  block : ∀ k, k < w.heap.size → ¬ S k → w'.heap[k]? = w.heap[k]?
theorem Turned.refl (S : Nat → Prop) (w : World) : Turned S w w := ⟨rfl, rfl, rfl, Nat.le_refl _, fun _ _ _ => rfl⟩
theorem Turned.trans {S : Nat → Prop} {a b c : World} (h : Turned S a b) (k : Turned S b c) : Turned S a c :=
  ⟨k.os.trans h.os, k.tape.trans h.tape, k.output.trans h.output, Nat.le_trans h.size k.size, fun i hi hr => (k.block i (Nat.lt_of_lt_of_le hi h.size) hr).trans (h.block i hi hr)⟩
theorem Turned.wide {S S' : Nat → Prop} {a b : World} (h : Turned S a b) (hs : ∀ k, S k → S' k) : Turned S' a b := ⟨h.os, h.tape, h.output, h.size, fun i hi hr => h.block i hi (fun e => hr (hs i e))⟩
theorem Turned.ofBelow {S : Nat → Prop} {a b : World} (h : Below a.heap.size a b) : Turned S a b := ⟨h.os, h.tape, h.output, h.size, fun i hi _ => h.block i hi⟩
theorem Turned.ofGrown {S : Nat → Prop} {a b : World} {r : Option Nat} (h : a.grownBy b r) (hr : ∀ k, r = some k → S k) : Turned S a b := ⟨h.os, h.tape, h.output, h.size, fun i hi ho => h.block i hi (fun e => ho (hr i e.symm))⟩
theorem Turned.set {S : Nat → Prop} {a b : World} (h : Turned S a b) (p : Addr) (u : Value) (hp : S p.block) : Turned S a (b.setCell p u) :=
  h.trans ⟨rfl, rfl, rfl, by simp, fun k _ hr => heap_setCell_other b p k u (fun e => hr (e ▸ hp))⟩
theorem Turned.alloc {S : Nat → Prop} {a b : World} (h : Turned S a b) (o : Obj) : Turned S a (b.alloc o) := h.trans (Turned.ofBelow ((Below.refl _ _).alloc (Nat.le_refl _) _))
theorem Turned.andThen {S : Nat → Prop} {a b c : World} (h : Turned S a b) (hb : Below b.heap.size b c) : Turned S a c := h.trans (Turned.ofBelow hb)
theorem Turned.below {S : Nat → Prop} {B : Nat} {a b c : World} (h : Below B a b) (k : Turned S b c) (hB : B ≤ b.heap.size) (hl : ∀ i, S i → B ≤ i) : Below B a c :=
  h.trans ⟨k.os, k.tape, k.output, k.size, fun i hi => k.block i (by omega) (fun e => by have := hl i e; omega)⟩
theorem Turned.keeps {S T : Nat → Prop} {a b : World} (h : Turned S a b) (hd : ∀ k, T k → ¬ S k) : Keeps T a b := ⟨h.size, fun k hk hlt => h.block k hlt (hd k hk)⟩
theorem Keeps.ofBelow {S : Nat → Prop} {a b : World} (h : Below a.heap.size a b) : Keeps S a b := ⟨h.size, fun k _ hlt => h.block k hlt⟩
theorem Keeps.refl (S : Nat → Prop) (w : World) : Keeps S w w := ⟨Nat.le_refl _, fun _ _ _ => rfl⟩
theorem Keeps.trans {S : Nat → Prop} {a b c : World} (x : Keeps S a b) (y : Keeps S b c) : Keeps S a c := ⟨Nat.le_trans x.1 y.1, fun k hk hlt => (y.2 k hk (Nat.lt_of_lt_of_le hlt x.1)).trans (x.2 k hk hlt)⟩
theorem Keeps.mono {S T : Nat → Prop} {a b : World} (h : Keeps S a b) (hs : ∀ k, T k → S k) : Keeps T a b := ⟨h.1, fun k hk hlt => h.2 k (hs k hk) hlt⟩

/-- v reads as the bytes zs, which lie in a block of S. -/
def RdS (w : World) (S : Nat → Prop) (v : Value) (zs : List Int) : Prop :=
  isBytes zs ∧ ∃ a len cap, v = .slice a len cap ∧ len = zs.length ∧ Headed a len cap ∧
    (zs = [] ∨ ∃ b off, a = some ⟨b, off, none⟩ ∧ S b ∧ b < w.heap.size ∧ ∀ i, i < zs.length → w.cell? ⟨b, off + i, none⟩ = some (.int .u8 (zs[i]?.getD 0)))
theorem RdS.keep {w w' : World} {S : Nat → Prop} {v : Value} {zs : List Int} (r : RdS w S v zs) (t : Keeps S w w') : RdS w' S v zs := by
  obtain ⟨hb, a, len, cap, hv, hl, hh, hc⟩ := r
  refine ⟨hb, a, len, cap, hv, hl, hh, ?_⟩
  rcases hc with h0 | ⟨b, off, ha, h1, h2, hc⟩
  · exact .inl h0
  · exact .inr ⟨b, off, ha, h1, Nat.lt_of_lt_of_le h2 t.1, fun i hi => by rw [World.cell?_of_block (w := w) (t.2 b h1 h2)]; exact hc i hi⟩
theorem RdS.mono {w : World} {S S' : Nat → Prop} {v : Value} {zs : List Int} (r : RdS w S v zs) (t : ∀ b, S b → S' b) : RdS w S' v zs := by
  obtain ⟨hb, a, len, cap, hv, hl, hh, hc⟩ := r
  refine ⟨hb, a, len, cap, hv, hl, hh, ?_⟩
  rcases hc with h0 | ⟨b, off, ha, h1, h2, hc⟩
  · exact .inl h0
  · exact .inr ⟨b, off, ha, t b h1, h2, hc⟩
theorem RdS.reads {w : World} {S : Nat → Prop} {v : Value} {zs : List Int} (r : RdS w S v zs) : ∃ a cap, v = .slice a zs.length cap ∧ Headed a zs.length cap ∧ Reads w a zs := by
  obtain ⟨hb, a, len, cap, hv, hl, hh, hc⟩ := r
  subst hl
  refine ⟨a, cap, hv, hh, hb, ?_⟩
  rcases hc with h0 | ⟨b, off, ha, h3, h4, hc⟩
  · exact .inl h0
  · exact .inr ⟨b, off, ha, h4, hc⟩
theorem ownsRow_keep {w w' : World} {l : Nat} {S : Nat → Prop} {e : TypeId} {size : Nat} {v : Value} {n : Nat} {xs : List Value} (o : w.ownsRow l e size v n xs) (hb : ∀ b, v.ownBlock = some b → S b) (t : Keeps S w w') : w'.ownsRow l e size v n xs := by
  obtain ⟨h1, h2⟩ := o
  refine ⟨h1, ?_⟩
  rcases h2 with h2 | ⟨g, c, cur, hv, hg, hh, r⟩
  · exact .inl h2
  · exact .inr ⟨g, c, cur, hv, hg, by rw [t.2 g (hb g (by rw [hv]; rfl)) (lt_of_block hh)]; exact hh, r⟩
theorem rdS_of_owns {w : World} {S : Nat → Prop} {v : Value} {zs : List Int} (hz : isBytes zs) (ho : Owns w 0 v zs) (hs : ∀ b, v.ownBlock = some b → S b) : RdS w S v zs := by
  obtain ⟨a, cap, rfl, h1, h2⟩ := ho.shape
  refine ⟨hz, a, _, cap, rfl, rfl, ⟨h1, h2, ?_⟩, ?_⟩
  · rintro rfl
    rcases ho.2 with ⟨hv, h0⟩ | ⟨g, c, cur, hv, _⟩
    · simp only [Value.slice.injEq, true_and] at hv; omega
    · cases hv
  · rcases (ho.reads hz).2.2 with h0 | ⟨b, off, ha, hb, hc⟩
    · exact .inl h0
    · subst ha
      exact .inr ⟨b, off, rfl, hs b rfl, hb, hc⟩
theorem place_inj {k i j i' j' : Nat} (hj : j < k) (hj' : j' < k) (h : i * k + j = i' * k + j') : i = i' ∧ j = j' := by
  have h1 : (i * k + j) / k = i := by rw [Nat.add_comm, Nat.mul_comm, Nat.add_mul_div_left _ _ (by omega), Nat.div_eq_of_lt hj]; omega
  have h2 : (i' * k + j') / k = i' := by rw [Nat.add_comm, Nat.mul_comm, Nat.add_mul_div_left _ _ (by omega), Nat.div_eq_of_lt hj']; omega
  have h3 : i = i' := by rw [← h1, ← h2, h]
  subst h3
  exact ⟨rfl, by omega⟩
theorem place_lt {k n i j : Nat} (hi : i < n) (hj : j < k) : i * k + j < n * k := by
  have : (i + 1) * k ≤ n * k := Nat.mul_le_mul_right k hi
  rw [Nat.add_mul, Nat.one_mul] at this
  omega

/-- What a cell holds, told by how it is read (rd: all of it in blocks of S) and owned (ow: no block of it outside S, none serving twice). -/
structure Dt where
  rd : World → (Nat → Prop) → Value → Prop
  ow : World → (Nat → Prop) → Value → Prop
  rdKeep : ∀ (w w' : World) (S : Nat → Prop) (v : Value), Keeps S w w' → rd w S v → rd w' S v
  rdMono : ∀ (w : World) (S S' : Nat → Prop) (v : Value), (∀ b, S b → S' b) → rd w S v → rd w S' v
  owKeep : ∀ (w w' : World) (S : Nat → Prop) (v : Value), Keeps S w w' → ow w S v → ow w' S v
  owMono : ∀ (w : World) (S S' : Nat → Prop) (v : Value), (∀ b, S b → S' b) → ow w S v → ow w S' v
  owRd : ∀ (w : World) (S : Nat → Prop) (v : Value), ow w S v → rd w S v
/-- v reads as d, and all of it lies in blocks of S. -/
def RdV (w : World) (S : Nat → Prop) (v : Value) (d : Dt) : Prop := d.rd w S v
/-- v is the call's own and holds d; no block of it lies outside S, none serves twice. -/
def OwV (w : World) (S : Nat → Prop) (v : Value) (d : Dt) : Prop := d.ow w S v
def Dt.int (n : Int) : Dt := ⟨fun _ _ v => v = .int .i64 n, fun _ _ v => v = .int .i64 n, fun _ _ _ _ _ h => h, fun _ _ _ _ _ h => h, fun _ _ _ _ _ h => h, fun _ _ _ _ _ h => h, fun _ _ _ h => h⟩
def Dt.bool (b : Bool) : Dt := ⟨fun _ _ v => v = .bool b, fun _ _ v => v = .bool b, fun _ _ _ _ _ h => h, fun _ _ _ _ _ h => h, fun _ _ _ _ _ h => h, fun _ _ _ _ _ h => h, fun _ _ _ h => h⟩
def Dt.bytes (zs : List Int) : Dt := ⟨fun w S v => RdS w S v zs, fun w S v => isBytes zs ∧ Owns w 0 v zs ∧ ∀ b, v.ownBlock = some b → S b,
  fun _ _ _ _ t h => h.keep t, fun _ _ _ _ t h => h.mono t, fun _ _ _ _ t h => ⟨h.1, ownsRow_keep h.2.1 h.2.2 t, h.2.2⟩, fun _ _ _ _ t h => ⟨h.1, h.2.1, fun b hb => t b (h.2.2 b hb)⟩, fun _ _ _ h => rdS_of_owns h.1 h.2.1 h.2.2⟩
/-- n rows of k cells each, of type t. -/
def RowsRd (k n : Nat) (f : Nat → Nat → Dt) (w : World) (S : Nat → Prop) (v : Value) : Prop :=
  ∃ a cap, ∃ V : Nat → Nat → Value, v = .slice a n cap ∧ Headed a n cap ∧
    (n = 0 ∨ ∃ b off, a = some ⟨b, off, none⟩ ∧ S b ∧ b < w.heap.size ∧ ∀ i j, i < n → j < k → w.cell? ⟨b, off + (i * k + j), none⟩ = some (V i j)) ∧ ∀ i j, i < n → j < k → RdV w S (V i j) (f i j)
def RowsOw (t : TypeId) (k n : Nat) (f : Nat → Nat → Dt) (w : World) (S : Nat → Prop) (v : Value) : Prop :=
  ∃ (V : Nat → Nat → Value) (C : List Value) (Q : Nat → Nat → Nat → Prop), w.ownsRow 0 t k v n C ∧ (∀ b, v.ownBlock = some b → S b) ∧
      (∀ i j, i < n → j < k → C[i * k + j]? = some (V i j)) ∧ (∀ i j, i < n → j < k → OwV w (Q i j) (V i j) (f i j)) ∧ (∀ i j b, i < n → j < k → Q i j b → S b ∧ v.ownBlock ≠ some b) ∧
      (∀ i j i' j' b, i < n → j < k → i' < n → j' < k → Q i j b → Q i' j' b → i = i' ∧ j = j')
theorem RowsRd.keep {k n : Nat} {f : Nat → Nat → Dt} (w w' : World) (S : Nat → Prop) (v : Value) (t : Keeps S w w') (r : RowsRd k n f w S v) : RowsRd k n f w' S v := by
  obtain ⟨a, cap, V, hv, hh, hc, he⟩ := r
  refine ⟨a, cap, V, hv, hh, ?_, fun i j hi hj => (f i j).rdKeep w w' S _ t (he i j hi hj)⟩
  rcases hc with h0 | ⟨b, off, ha, h1, h2, hc⟩
  · exact .inl h0
  · exact .inr ⟨b, off, ha, h1, Nat.lt_of_lt_of_le h2 t.1, fun i j hi hj => by rw [World.cell?_of_block (w := w) (t.2 b h1 h2)]; exact hc i j hi hj⟩
theorem RowsRd.mono {k n : Nat} {f : Nat → Nat → Dt} (w : World) (S S' : Nat → Prop) (v : Value) (t : ∀ b, S b → S' b) (r : RowsRd k n f w S v) : RowsRd k n f w S' v := by
  obtain ⟨a, cap, V, hv, hh, hc, he⟩ := r
  refine ⟨a, cap, V, hv, hh, ?_, fun i j hi hj => (f i j).rdMono w S S' _ t (he i j hi hj)⟩
  rcases hc with h0 | ⟨b, off, ha, h1, h2, hc⟩
  · exact .inl h0
  · exact .inr ⟨b, off, ha, t b h1, h2, hc⟩
theorem RowsOw.keep {t : TypeId} {k n : Nat} {f : Nat → Nat → Dt} (w w' : World) (S : Nat → Prop) (v : Value) (hk : Keeps S w w') (r : RowsOw t k n f w S v) : RowsOw t k n f w' S v := by
  obtain ⟨V, C, Q, h1, h2, h3, h4, h5, h6⟩ := r
  exact ⟨V, C, Q, ownsRow_keep h1 h2 hk, h2, h3, fun i j hi hj => (f i j).owKeep w w' _ _ (hk.mono (fun b hb => (h5 i j b hi hj hb).1)) (h4 i j hi hj), h5, h6⟩
theorem RowsOw.mono {t : TypeId} {k n : Nat} {f : Nat → Nat → Dt} (w : World) (S S' : Nat → Prop) (v : Value) (hs : ∀ b, S b → S' b) (r : RowsOw t k n f w S v) : RowsOw t k n f w S' v := by
  obtain ⟨V, C, Q, h1, h2, h3, h4, h5, h6⟩ := r
  exact ⟨V, C, Q, h1, fun b hb => hs b (h2 b hb), h3, h4, fun i j b hi hj hq => ⟨hs b (h5 i j b hi hj hq).1, (h5 i j b hi hj hq).2⟩, h6⟩
theorem RowsOw.rd {t : TypeId} {k n : Nat} {f : Nat → Nat → Dt} (w : World) (S : Nat → Prop) (v : Value) (r : RowsOw t k n f w S v) : RowsRd k n f w S v := by
  obtain ⟨V, C, Q, h1, h2, h3, h4, h5, h6⟩ := r
  rcases h1.2 with ⟨hv, h0⟩ | ⟨g, c, cur, hv, hg, hh, hnc, hm, _⟩
  · subst hv
    subst h0
    exact ⟨none, 0, V, rfl, ⟨Nat.le_refl _, Nat.zero_le _, fun _ => ⟨rfl, rfl⟩⟩, .inl rfl, fun i j hi => absurd hi (Nat.not_lt_zero _)⟩
  · subst hv
    refine ⟨_, c, V, rfl, ⟨hnc, hm, fun e => by cases e⟩, .inr ⟨g, 0, rfl, h2 g rfl, lt_of_block hh, fun i j hi hj => ?_⟩, fun i j hi hj => (f i j).rdMono w _ S _ (fun b hb => (h5 i j b hi hj hb).1) ((f i j).owRd w _ _ (h4 i j hi hj))⟩
    rw [Nat.zero_add, World.ownsRow.cellAt h1 (i * k + j) (place_lt hi hj)]
    exact h3 i j hi hj
def Dt.rows (t : TypeId) (k n : Nat) (f : Nat → Nat → Dt) : Dt := ⟨RowsRd k n f, RowsOw t k n f, RowsRd.keep, RowsRd.mono, RowsOw.keep, RowsOw.mono, RowsOw.rd⟩
theorem RdV.keep {w w' : World} {S : Nat → Prop} {v : Value} {d : Dt} (t : Keeps S w w') (r : RdV w S v d) : RdV w' S v d := d.rdKeep w w' S v t r
theorem RdV.mono {w : World} {S S' : Nat → Prop} {v : Value} {d : Dt} (t : ∀ b, S b → S' b) (r : RdV w S v d) : RdV w S' v d := d.rdMono w S S' v t r
theorem RdV.step {w w' : World} {S : Nat → Prop} {v : Value} {d : Dt} (r : RdV w S v d) (hb : Below w.heap.size w w') : RdV w' S v d := r.keep (Keeps.ofBelow hb)
theorem RdV.b {w : World} {S : Nat → Prop} {v : Value} {zs : List Int} (r : RdV w S v (.bytes zs)) : RdS w S v zs := r
theorem RdV.sliceB {w : World} {S : Nat → Prop} {v : Value} {zs : List Int} (r : RdV w S v (.bytes zs)) : ∃ a cap, v = .slice a zs.length cap := by obtain ⟨a, cap, h, _⟩ := r.b.reads; exact ⟨a, cap, h⟩
theorem RdV.inv {w : World} {S : Nat → Prop} {v : Value} {t : TypeId} {k n : Nat} {f : Nat → Nat → Dt} (r : RdV w S v (.rows t k n f)) : RowsRd k n f w S v := r
theorem RdV.at {w : World} {S : Nat → Prop} {a : Option Addr} {n cap : Nat} {t : TypeId} {k : Nat} {f : Nat → Nat → Dt} (r : RdV w S (.slice a n cap) (.rows t k n f)) {i : Nat} (hi : i < n) :
    ∃ b off, a = some ⟨b, off, none⟩ ∧ b < w.heap.size ∧ S b ∧ ∀ j, j < k → ∃ x, w.cell? ⟨b, off + i * k + j, none⟩ = some x ∧ RdV w S x (f i j) := by
  obtain ⟨a', cap', V, hv, hh, hc, he⟩ := r.inv
  simp only [Value.slice.injEq] at hv
  obtain ⟨rfl, _, rfl⟩ := hv
  rcases hc with h0 | ⟨b, off, ha, h1, h2, hc⟩
  · omega
  · exact ⟨b, off, ha, h2, h1, fun j hj => ⟨V i j, by rw [Nat.add_assoc]; exact hc i j hi hj, he i j hi hj⟩⟩
theorem RdV.sliced {w : World} {S : Nat → Prop} {v : Value} {t : TypeId} {k n : Nat} {f : Nat → Nat → Dt} (r : RdV w S v (.rows t k n f)) : ∃ a cap, v = .slice a n cap ∧ n ≤ maxLen := by
  obtain ⟨a, cap, V, hv, hh, _⟩ := r.inv
  exact ⟨a, cap, hv, Nat.le_trans hh.1 hh.2.1⟩
theorem RdV.congr {w : World} {S : Nat → Prop} {v : Value} {t t' : TypeId} {k n : Nat} {f g : Nat → Nat → Dt} (r : RdV w S v (.rows t k n f)) (h : ∀ i j, i < n → j < k → f i j = g i j) : RdV w S v (.rows t' k n g) := by
  obtain ⟨a, cap, V, rfl, hh, hc, he⟩ := r.inv
  exact ⟨a, cap, V, rfl, hh, hc, fun i j hi hj => h i j hi hj ▸ he i j hi hj⟩
theorem OwV.inv {w : World} {S : Nat → Prop} {v : Value} {t : TypeId} {k n : Nat} {f : Nat → Nat → Dt} (r : OwV w S v (.rows t k n f)) : RowsOw t k n f w S v := r
theorem OwV.mkRows {w : World} {S : Nat → Prop} {v : Value} {t : TypeId} {k n : Nat} {f : Nat → Nat → Dt} (r : RowsOw t k n f w S v) : OwV w S v (.rows t k n f) := r
theorem OwV.mono {w : World} {S S' : Nat → Prop} {v : Value} {d : Dt} (t : ∀ b, S b → S' b) (r : OwV w S v d) : OwV w S' v d := d.owMono w S S' v t r
theorem OwV.rd {w : World} {S : Nat → Prop} {v : Value} {d : Dt} (r : OwV w S v d) : RdV w S v d := d.owRd w S v r
theorem OwV.keep {w w' : World} {S : Nat → Prop} {v : Value} {d : Dt} (t : Keeps S w w') (r : OwV w S v d) : OwV w' S v d := d.owKeep w w' S v t r
theorem OwV.step {w w' : World} {S : Nat → Prop} {v : Value} {d : Dt} (r : OwV w S v d) (hb : Below w.heap.size w w') : OwV w' S v d := r.keep (Keeps.ofBelow hb)
theorem OwV.congr {w : World} {S : Nat → Prop} {v : Value} {t : TypeId} {k n : Nat} {f g : Nat → Nat → Dt} (r : OwV w S v (.rows t k n f)) (h : ∀ i j, i < n → j < k → f i j = g i j) : OwV w S v (.rows t k n g) := by
  obtain ⟨V, C, Q, h1, h2, h3, h4, h5, h6⟩ := r.inv
  exact ⟨V, C, Q, h1, h2, h3, fun i j hi hj => h i j hi hj ▸ h4 i j hi hj, h5, h6⟩
theorem OwV.b {w : World} {S : Nat → Prop} {v : Value} {zs : List Int} (r : OwV w S v (.bytes zs)) : isBytes zs ∧ Owns w 0 v zs ∧ ∀ b, v.ownBlock = some b → S b := r
theorem OwV.nilB (w : World) (S : Nat → Prop) : OwV w S (.slice none 0 0) (.bytes []) := ⟨isBytes_nil, World.ownsRow_nil _ _ _ _, fun b hb => by cases hb⟩
theorem OwV.nilR (w : World) (S : Nat → Prop) (t : TypeId) (k : Nat) (f : Nat → Nat → Dt) : OwV w S (.slice none 0 0) (.rows t k 0 f) :=
  ⟨fun _ _ => undef, [], fun _ _ _ => False, World.ownsRow_nil _ _ _ _, fun b hb => (by cases hb), fun i j hi => absurd hi (Nat.not_lt_zero _), fun i j hi => absurd hi (Nat.not_lt_zero _), fun i j b hi => absurd hi (Nat.not_lt_zero _), fun i j i' j' b hi => absurd hi (Nat.not_lt_zero _)⟩
theorem OwV.ofOwns {w : World} {B : Nat} {v : Value} {zs : List Int} (hz : isBytes zs) (h : Owns w B v zs) : OwV w (fun b => B ≤ b ∧ b < w.heap.size) v (.bytes zs) := ⟨hz, h.base (Nat.zero_le _), fun b hb => h.lt b hb⟩

/-- f, but d at (i, j). -/
def upd (f : Nat → Nat → Dt) (i j : Nat) (d : Dt) : Nat → Nat → Dt := fun i' j' => if i' = i ∧ j' = j then d else f i' j'
/-- A value that is laid into a cell of rows, with memory of its own. -/
theorem OwV.put {w : World} {S R : Nat → Prop} {g cap : Nat} {t : TypeId} {k n : Nat} {f : Nat → Nat → Dt} (r : OwV w S (.slice (some ⟨g, 0, none⟩) n cap) (.rows t k n f)) {i j : Nat} (hi : i < n) (hj : j < k) {u : Value} {d : Dt} (hu : OwV w R u d) (hd : ∀ b, R b → ¬ S b) :
    OwV (w.setCell ⟨g, i * k + j, none⟩ u) (fun b => S b ∨ R b) (.slice (some ⟨g, 0, none⟩) n cap) (.rows t k n (upd f i j d)) := by
  obtain ⟨V, C, Q, h1, h2, h3, h4, h5, h6⟩ := r.inv
  have hst := h1.stored (i * k + j) u
  have hCl : C.length = n * k := h1.1
  have hg : S g := h2 g rfl
  have kp : ∀ (T : Nat → Prop), (∀ b, T b → b ≠ g) → Keeps T w (w.setCell ⟨g, i * k + j, none⟩ u) := fun T hT => ⟨by simp, fun b hb _ => heap_setCell_other w _ b u (hT b hb)⟩
  refine OwV.mkRows ⟨fun i' j' => if i' = i ∧ j' = j then u else V i' j', C.set (i * k + j) u, fun i' j' => if i' = i ∧ j' = j then R else Q i' j', hst.1, fun b hb => .inl (h2 b hb), fun i' j' hi' hj' => ?_, fun i' j' hi' hj' => ?_, fun i' j' b hi' hj' hq => ?_, fun i1 j1 i2 j2 b hi1 hj1 hi2 hj2 hq1 hq2 => ?_⟩
  · dsimp only
    rw [List.getElem?_set]
    by_cases he : i' = i ∧ j' = j
    · obtain ⟨rfl, rfl⟩ := he
      rw [if_pos rfl, if_pos (by rw [hCl]; exact place_lt hi hj)]; simp
    · rw [if_neg (fun e => he (by have := place_inj hj hj' e; omega)), if_neg he]; exact h3 i' j' hi' hj'
  · dsimp only
    unfold upd
    by_cases he : i' = i ∧ j' = j
    · simp only [he, and_self, if_true]
      exact hu.keep (kp R (fun b hb e => hd b hb (e ▸ hg)))
    · rw [if_neg he, if_neg he, if_neg he]
      exact (h4 i' j' hi' hj').keep (kp _ (fun b hb e => by subst e; exact (h5 i' j' _ hi' hj' hb).2 rfl))
  · dsimp only at hq
    by_cases he : i' = i ∧ j' = j
    · rw [if_pos he] at hq
      exact ⟨.inr hq, fun e => hd b hq (h2 b e)⟩
    · rw [if_neg he] at hq
      exact ⟨.inl (h5 i' j' b hi' hj' hq).1, (h5 i' j' b hi' hj' hq).2⟩
  · dsimp only at hq1 hq2
    by_cases he1 : i1 = i ∧ j1 = j
    · by_cases he2 : i2 = i ∧ j2 = j
      · omega
      · rw [if_pos he1] at hq1; rw [if_neg he2] at hq2
        exact absurd (h5 i2 j2 b hi2 hj2 hq2).1 (hd b hq1)
    · by_cases he2 : i2 = i ∧ j2 = j
      · rw [if_neg he1] at hq1; rw [if_pos he2] at hq2
        exact absurd (h5 i1 j1 b hi1 hj1 hq1).1 (hd b hq2)
      · rw [if_neg he1] at hq1; rw [if_neg he2] at hq2
        exact h6 i1 j1 i2 j2 b hi1 hj1 hi2 hj2 hq1 hq2
/-- .. a number or a flag. -/
theorem OwV.put0 {w : World} {S : Nat → Prop} {g cap : Nat} {t : TypeId} {k n : Nat} {f : Nat → Nat → Dt} (r : OwV w S (.slice (some ⟨g, 0, none⟩) n cap) (.rows t k n f)) {i j : Nat} (hi : i < n) (hj : j < k) {u : Value} {d : Dt} (hu : OwV w (fun _ => False) u d) :
    OwV (w.setCell ⟨g, i * k + j, none⟩ u) S (.slice (some ⟨g, 0, none⟩) n cap) (.rows t k n (upd f i j d)) :=
  (r.put hi hj hu (fun b hb => hb.elim)).mono (fun b hb => hb.elim id False.elim)
/-- What lies in a cell of rows, and the way back. -/
theorem OwV.sub {w : World} {S : Nat → Prop} {v : Value} {t : TypeId} {k n : Nat} {f : Nat → Nat → Dt} (r : OwV w S v (.rows t k n f)) {i j : Nat} (hi : i < n) (hj : j < k) :
    ∃ (Q : Nat → Prop) (x : Value) (g cap : Nat), v = .slice (some ⟨g, 0, none⟩) n cap ∧ w.cell? ⟨g, i * k + j, none⟩ = some x ∧ OwV w Q x (f i j) ∧ (∀ b, Q b → S b ∧ b ≠ g) ∧
      ∀ w' d, Turned Q w w' → OwV w' Q x d → OwV w' S v (.rows t k n (upd f i j d)) := by
  obtain ⟨V, C, Q, h1, h2, h3, h4, h5, h6⟩ := r.inv
  rcases h1.2 with ⟨hv, h0⟩ | ⟨g, c, cur, hv, hg, hh, hnc, hm, _⟩
  · omega
  · subst hv
    refine ⟨Q i j, V i j, g, c, rfl, ?_, h4 i j hi hj, fun b hb => ⟨(h5 i j b hi hj hb).1, fun e => (h5 i j b hi hj hb).2 (by rw [e]; rfl)⟩, fun w' d ht hd => ?_⟩
    · rw [World.ownsRow.cellAt h1 (i * k + j) (place_lt hi hj)]; exact h3 i j hi hj
    · refine OwV.mkRows ⟨V, C, Q, ownsRow_keep (S := fun b => b = g) h1 (fun b hb => by cases hb; rfl) (ht.keeps (fun b hb hq => by subst hb; exact (h5 i j _ hi hj hq).2 rfl)), h2, h3, fun i' j' hi' hj' => ?_, h5, h6⟩
      unfold upd
      by_cases he : i' = i ∧ j' = j
      · obtain ⟨rfl, rfl⟩ := he
        rw [if_pos ⟨rfl, rfl⟩]; exact hd
      · rw [if_neg he]
        exact (h4 i' j' hi' hj').keep (ht.keeps (fun b hb hq => he (h6 i' j' i j b hi' hj' hi hj hb hq)))
/-- The head of rows that are the call's own. -/
theorem OwV.head {w : World} {S : Nat → Prop} {v : Value} {t : TypeId} {k n : Nat} {f : Nat → Nat → Dt} (r : OwV w S v (.rows t k n f)) : (v = .slice none 0 0 ∧ n = 0) ∨ ∃ g cap, v = .slice (some ⟨g, 0, none⟩) n cap ∧ S g ∧ g < w.heap.size ∧ (∀ j, w.frozen? ⟨g, j, none⟩ = false) ∧ ∀ j, j < n * k → ∃ u, w.cell? ⟨g, j, none⟩ = some u := by
  obtain ⟨V, C, Q, h1, h2, h3, h4, h5, h6⟩ := r.inv
  rcases h1.2 with ⟨hv, h0⟩ | ⟨g, c, cur, hv, hg, hh, hnc, hm, _⟩
  · exact .inl ⟨hv, h0⟩
  · subst hv
    exact .inr ⟨g, c, rfl, h2 g rfl, lt_of_block hh, fun j => h1.frozenAt j, fun j hj => by rw [h1.cellAt j hj]; exact ⟨_, List.getElem?_eq_getElem (by rw [h1.1]; exact hj)⟩⟩

/-- A variable of type T that holds the cells cs. -/
def VarA (w : World) (b : Nat) (T : TypeId) (cs : Array Value) : Prop := w.heap[b]? = some (.cells cs T (0, 0))
section
variable {w w' : World} {b : Nat} {T : TypeId} {cs : Array Value}
theorem VarA.c (h : VarA w b T cs) (j : Nat) {u : Value} (hu : cs[j]? = some u) : w.cell? ⟨b, j, none⟩ = some u := by rw [cell_of_row _ _ _ _ _ _ h]; exact hu
theorem VarA.f (h : VarA w b T cs) (j : Nat) : w.frozen? ⟨b, j, none⟩ = false := frozen_of_row _ _ _ _ _ h
theorem VarA.lt (h : VarA w b T cs) : b < w.heap.size := lt_of_block h
theorem VarA.step (h : VarA w b T cs) (hb : Below w.heap.size w w') : VarA w' b T cs := (hb.block b h.lt).trans h
theorem VarA.turn {S : Nat → Prop} (h : VarA w b T cs) (t : Turned S w w') (ho : ¬ S b) : VarA w' b T cs := (t.block b h.lt ho).trans h
theorem VarA.new (w : World) (T : TypeId) (cs : Array Value) : VarA (w.alloc (.cells cs T)) w.heap.size T cs := heap_alloc_new w _
theorem VarA.set (h : VarA w b T cs) (j : Nat) (u : Value) : VarA (w.setCell ⟨b, j, none⟩ u) b T (cs.setIfInBounds j u) := heap_setCell_same w b j cs T u h
theorem VarA.aside (h : VarA w b T cs) {p : Addr} (hp : b ≠ p.block) (u : Value) : VarA (w.setCell p u) b T cs := (heap_setCell_other w p b u hp).trans h
theorem VarA.l2 {x0 x1 : Value} (h : VarA w b T #[x0, x1]) : w.cell? ⟨b, 0, none⟩ = some x0 ∧ w.cell? ⟨b, 1, none⟩ = some x1 := ⟨h.c 0 rfl, h.c 1 rfl⟩
theorem VarA.l3 {x0 x1 x2 : Value} (h : VarA w b T #[x0, x1, x2]) : w.cell? ⟨b, 0, none⟩ = some x0 ∧ w.cell? ⟨b, 1, none⟩ = some x1 ∧ w.cell? ⟨b, 2, none⟩ = some x2 := ⟨h.c 0 rfl, h.c 1 rfl, h.c 2 rfl⟩
theorem VarA.l4 {x0 x1 x2 x3 : Value} (h : VarA w b T #[x0, x1, x2, x3]) : w.cell? ⟨b, 0, none⟩ = some x0 ∧ w.cell? ⟨b, 1, none⟩ = some x1 ∧ w.cell? ⟨b, 2, none⟩ = some x2 ∧ w.cell? ⟨b, 3, none⟩ = some x3 := ⟨h.c 0 rfl, h.c 1 rfl, h.c 2 rfl, h.c 3 rfl⟩
theorem VarA.l10 {x0 x1 x2 x3 x4 x5 x6 x7 x8 x9 : Value} (h : VarA w b T #[x0, x1, x2, x3, x4, x5, x6, x7, x8, x9]) : w.cell? ⟨b, 0, none⟩ = some x0 ∧ w.cell? ⟨b, 1, none⟩ = some x1 ∧ w.cell? ⟨b, 2, none⟩ = some x2 ∧ w.cell? ⟨b, 3, none⟩ = some x3 ∧ w.cell? ⟨b, 4, none⟩ = some x4 ∧ w.cell? ⟨b, 5, none⟩ = some x5 ∧ w.cell? ⟨b, 6, none⟩ = some x6 ∧ w.cell? ⟨b, 7, none⟩ = some x7 ∧ w.cell? ⟨b, 8, none⟩ = some x8 ∧ w.cell? ⟨b, 9, none⟩ = some x9 := ⟨h.c 0 rfl, h.c 1 rfl, h.c 2 rfl, h.c 3 rfl, h.c 4 rfl, h.c 5 rfl, h.c 6 rfl, h.c 7 rfl, h.c 8 rfl, h.c 9 rfl⟩
theorem VarA.fz (h : VarA w b T cs) : ∀ j, w.frozen? ⟨b, j, none⟩ = false := fun j => h.f j
theorem VarA.alloc (h : VarA w b T cs) (o : Obj) : VarA (w.alloc o) b T cs := ((World.grownBy_alloc w o none).block b h.lt (by simp)).trans h
end

theorem Below.new1 {w : World} (o : Obj) : Below w.heap.size w (w.alloc o) := (Below.refl _ _).alloc (Nat.le_refl _) _
theorem RdV.old {w : World} {S : Nat → Prop} {v : Value} {d : Dt} (r : RdV w S v d) : ∀ W, Below w.heap.size w W → RdV W S v d := fun W hW => r.step hW
end Go.Proofs.YtbnjhjgjmckedaaGreat
end

section
/- Handles: copied, compared, asked whether they may be; no condition. -/
namespace Go.Proofs.YtbnjhjgjmckedaaGreat
open Go.RowKit
set_option linter.unusedVariables false

/-- A handle, as data. -/
abbrev Hd := Int × Int × Bool
abbrev Hd.sh (h : Hd) : Int := h.1
abbrev Hd.ino (h : Hd) : Int := h.2.1
abbrev Hd.dir (h : Hd) : Bool := h.2.2
abbrev Hd.v (h : Hd) : Value := .agg #[.int .i64 h.sh, .int .i64 h.ino, .bool h.dir]

theorem Below.newH {w : World} (o : Obj) : Below w.heap.size w (w.alloc o) := (Below.refl _ _).alloc (Nat.le_refl _) _
theorem Below.newH2 {w : World} (o o' : Obj) : Below w.heap.size w ((w.alloc o).alloc o') := ((Below.refl _ _).alloc (Nat.le_refl _) _).alloc (by simp) _
def HOk (h : Hd) : Bool := decide (0 ≤ h.sh) && (decide (h.sh < 4) && (decide (1 ≤ h.ino) && decide (h.ino ≤ 2147483647)))

theorem specHandleOk_w (h : Hd) (w : World) : Calls Tryz.prog 34 #[h.v] w fun e w' => e = .returned (.bool (HOk h)) ∧ w' = w.alloc (.cells #[.int .i64 h.sh, .int .i64 h.ino, .bool h.dir] 24) := by
  obtain ⟨s, i, d⟩ := h
  go_enter Tryz.func34, Tryz.ntmps34
  go_wp2
  all_goals (go_ret; exact ⟨by first | rfl | (simp_all [HOk] <;> omega), rfl⟩)
theorem specHandleOk_any (h : Hd) (w : World) : Calls Tryz.prog 34 #[h.v] w fun e w' => e = .returned (.bool (HOk h)) ∧ Below w.heap.size w w' :=
  (specHandleOk_w h w).mono fun e w' ⟨he, hw⟩ => ⟨he, by rw [hw]; exact Below.newH _⟩
theorem implHandleOk_w (h : Hd) (w : World) : Calls Tryz.prog 156 #[h.v] w fun e w' => e = .returned (.bool (HOk h)) ∧ w' = w.alloc (.cells #[.int .i64 h.sh, .int .i64 h.ino, .bool h.dir] 24) := by
  obtain ⟨s, i, d⟩ := h
  go_enter Tryz.func156, Tryz.ntmps156
  go_wp2
  all_goals (go_ret; exact ⟨by first | rfl | (simp_all [HOk] <;> omega), rfl⟩)
theorem implHandleOk_any (h : Hd) (w : World) : Calls Tryz.prog 156 #[h.v] w fun e w' => e = .returned (.bool (HOk h)) ∧ Below w.heap.size w w' :=
  (implHandleOk_w h w).mono fun e w' ⟨he, hw⟩ => ⟨he, by rw [hw]; exact Below.newH _⟩
theorem eqHandle_same (h : Hd) (w : World) : Calls Tryz.prog 57 #[h.v, h.v] w fun e w' => e = .returned (.bool true) ∧ Below w.heap.size w w' := by
  obtain ⟨s, i, d⟩ := h
  go_enter Tryz.func57, Tryz.ntmps57
  go_wp2
  all_goals (go_ret; exact ⟨by first | rfl | (simp_all [HOk] <;> omega), by first | exact Below.refl _ _ | exact Below.newH _ | exact Below.newH2 _ _⟩)
end Go.Proofs.YtbnjhjgjmckedaaGreat
end

section
/- Entries, nodes, trees and operations as data; no condition. -/
namespace Go.Proofs.YtbnjhjgjmckedaaGreat
open Go.RowKit
set_option linter.unusedVariables false

structure En where
  nm : List Int
  h : Hd
structure Nd where
  h : Hd
  par : Hd
  links : Int
  val : Int
  es : List En
structure OpD where
  kind : Int
  dir : Hd
  nm : List Int
  to : Hd
  asn : List Int
  val : Int

def hd0 : Hd := (0, 0, false)
def en0 : En := ⟨[], hd0⟩
def nd0 : Nd := ⟨hd0, hd0, 0, 0, []⟩
def enCell (e : En) : Nat → Dt
  | 0 => .bytes e.nm
  | 1 => .int e.h.sh
  | 2 => .int e.h.ino
  | _ => .bool e.h.dir
def ensDt (l : List En) : Dt := .rows 132 4 l.length (fun i j => enCell (l[i]?.getD en0) j)
def ndCell (n : Nd) : Nat → Dt
  | 0 => .int n.h.sh
  | 1 => .int n.h.ino
  | 2 => .bool n.h.dir
  | 3 => .int n.par.sh
  | 4 => .int n.par.ino
  | 5 => .bool n.par.dir
  | 6 => .int n.links
  | 7 => .int n.val
  | _ => ensDt n.es
def ndsDt (l : List Nd) : Dt := .rows 153 9 l.length (fun i j => ndCell (l[i]?.getD nd0) j)

/-- An entry's value, its name's bytes at nm. -/
abbrev enV (nm : Value) (h : Hd) : Value := .agg #[nm, .int .i64 h.sh, .int .i64 h.ino, .bool h.dir]
/-- A node's value, its entries at es. -/
abbrev ndV (n : Nd) (es : Value) : Value := .agg #[.int .i64 n.h.sh, .int .i64 n.h.ino, .bool n.h.dir, .int .i64 n.par.sh, .int .i64 n.par.ino, .bool n.par.dir, .int .i64 n.links, .int .i64 n.val, es]
/-- An operation's value, its texts at x, y. -/
abbrev opV (o : OpD) (x y : Value) : Value := .agg #[.int .i64 o.kind, .int .i64 o.dir.sh, .int .i64 o.dir.ino, .bool o.dir.dir, x, .int .i64 o.to.sh, .int .i64 o.to.ino, .bool o.to.dir, y, .int .i64 o.val]

/-- How much there is of it. -/
def szEns (l : List En) : Nat := l.length + (l.map (fun e => e.nm.length)).sum
def szNds (l : List Nd) : Nat := l.length + (l.map (fun n => szEns n.es)).sum
theorem sum_at {α : Type} (f : α → Nat) : ∀ (l : List α) (i : Nat) (a : α), l[i]? = some a → f a ≤ (l.map f).sum
  | [], i, a, h => by simp at h
  | x :: r, 0, a, h => by simp at h; subst h; simp
  | x :: r, i + 1, a, h => by
    have := sum_at f r i a (by simpa using h)
    simp; omega
theorem szEns_at (l : List En) (i : Nat) : (l[i]?.getD en0).nm.length ≤ szEns l := by
  cases h : l[i]? with
  | none => simp [en0]
  | some a => have := sum_at (fun e : En => e.nm.length) l i a h; simp [szEns]; omega
end Go.Proofs.YtbnjhjgjmckedaaGreat
end
