/- Joined: Base Bytes Own Mem Dt Hands Ents Wires Szs Sh0 Ents2 WTo VarL ShTo2 ShTo3 Nodes2 Nums Puts PutNum Steps Texts Pure WBy0 PRead PRead2 GetTexts RdC RdE SpecD1 SpecD2 SpecD3 Roots SpecT1 Same Strs3 SpecT3 SpecD4 Cls SpecT5 EqH SpecD5 SpecD6 SpecD7 SpecD8 Names4 RegZ. -/
import Derived.Test.YtoaocjkapoemnaaGreatProg
import Derived.WalkKit
import Derived.Deep.Draws
import Derived.Deep.QuietTactic
import Derived.BigQuiet
import Derived.Laws.CopyOwn
import Derived.WalkSpells
import Derived.Laws.AppendOwnNone
import Derived.Deep.MidRow
import Derived.Laws.CopyRow
import Derived.Deep.RegionHeld3
import Derived.Deep.AppendLies
import Derived.Laws.BytesArg
import Derived.Lib.Bytes
import Derived.Maps.AppendAt

namespace Go.Proofs.YtoaocjkapoemnaaGreat
open Go.RowKit
set_option linter.unusedVariables false
set_option linter.unusedSimpArgs false
set_option maxRecDepth 100000
section
theorem Tryz.infoB : (Tryz.prog.info? 5).map (fun i => (i.zero, i.size, i.bytes)) = some (some (.int .u8 0), 1, 1) := by kernel_rfl

/-- The bytes, as cells. -/
def bcells (zs : List Int) : List Value := zs.map (Value.int .u8)
@[simp] theorem bcells_length (zs : List Int) : (bcells zs).length = zs.length := by simp [bcells]

def isBytes (zs : List Int) : Prop := ∀ j : Nat, 0 ≤ zs[j]?.getD 0 ∧ zs[j]?.getD 0 ≤ 255

/-- In this world a slice that begins at 'a' and has as many elements as 'zs' reads as 'zs'. -/
def Reads (w : World) (a : Option Addr) (zs : List Int) : Prop :=
  isBytes zs ∧ (zs = [] ∨ ∃ b off, a = some ⟨b, off, none⟩ ∧ b < w.heap.size ∧ ∀ i, i < zs.length → w.cell? ⟨b, off + i, none⟩ = some (.int .u8 (zs[i]?.getD 0)))

theorem Reads.below {w w' : World} {a : Option Addr} {zs : List Int} (h : Reads w a zs) (hb : Below w.heap.size w w') : Reads w' a zs := by
  obtain ⟨h1, h2⟩ := h
  refine ⟨h1, ?_⟩
  rcases h2 with h2 | ⟨b, off, ha, hlt, hc⟩
  · exact .inl h2
  · refine .inr ⟨b, off, ha, by have := hb.size; omega, fun i hi => ?_⟩
    rw [hb.cell (p := ⟨b, off + i, none⟩) hlt]; exact hc i hi

/-- A slice that the call made, from 'base' on, with just these bytes. -/
def Owns (w : World) (base : Nat) (v : Value) (zs : List Int) : Prop := w.ownsRow base 5 1 v zs.length (bcells zs)

theorem Owns.reads {w : World} {base : Nat} {a : Option Addr} {n cap : Nat} {zs : List Int} (hz : isBytes zs) (h : Owns w base (.slice a n cap) zs) : n = zs.length ∧ Reads w a zs := by
  rcases h.2 with ⟨hv, h0⟩ | ⟨g, c, cur, hv, hg, hh, hnc, hm, hs, ht⟩
  · simp only [Value.slice.injEq] at hv
    obtain ⟨rfl, rfl, rfl⟩ := hv
    exact ⟨h0.symm, hz, .inl (List.eq_nil_of_length_eq_zero h0)⟩
  · simp only [Value.slice.injEq] at hv
    obtain ⟨rfl, rfl, rfl⟩ := hv
    refine ⟨rfl, hz, .inr ⟨g, 0, rfl, lt_of_block hh, fun i hi => ?_⟩⟩
    have := World.ownsRow.cellAt h i (by omega)
    rw [Nat.zero_add, this]
    simp [bcells, hi]

/-- The first k bytes laid, the others still nought. -/
def laid (zs : List Int) (k : Nat) : List Int := zs.take k ++ List.replicate (zs.length - k) 0
theorem laid_length (zs : List Int) (k : Nat) (h : k ≤ zs.length) : (laid zs k).length = zs.length := by simp [laid]; omega
theorem laid_all (zs : List Int) : laid zs zs.length = zs := by simp [laid]
theorem laid_none (zs : List Int) : laid zs 0 = List.replicate zs.length 0 := by simp [laid]
theorem laid_set (zs : List Int) (k : Nat) (h : k < zs.length) : (laid zs k).set k (zs[k]?.getD 0) = laid zs (k + 1) := by
  obtain ⟨m, hm⟩ : ∃ m, zs.length - k = m + 1 := ⟨zs.length - k - 1, by omega⟩
  have hm' : zs.length - (k + 1) = m := by omega
  unfold laid
  rw [hm, hm', List.replicate_succ, List.set_append, if_neg (by simp; omega), List.length_take, Nat.min_eq_left (by omega), Nat.sub_self, List.set_cons_zero]
  have e : zs.take (k + 1) = zs.take k ++ [zs[k]] := List.take_succ_eq_append_getElem h
  rw [e, List.append_assoc]
  simp [h]
theorem madeCells_bytes (n : Nat) : (madeCells (Value.int .u8 0).cells (n * 1)).toList = bcells (List.replicate n 0) := by
  simp [madeCells, bcells, Value.cells]
  apply List.ext_getElem?
  intro i
  simp [List.getElem?_map, List.getElem?_replicate]
  by_cases h : i < n <;> simp [h, Nat.mod_one]

theorem grown_trans {a b c : World} {r : Option Nat} (h : a.grownBy b r) (k : b.grownBy c r) : a.grownBy c r :=
  ⟨k.os.trans h.os, k.tape.trans h.tape, k.output.trans h.output, Nat.le_trans h.size k.size, fun i hi hne => (k.block i (Nat.lt_of_lt_of_le hi h.size) hne).trans (h.block i hi hne)⟩
theorem isBytes_nil : isBytes [] := fun j => by simp
end
section
set_option maxHeartbeats 400000 in
theorem toByteS_any (a : Option Addr) (zs : List Int) (cap : Nat) (w : World) (h : Reads w a zs) (hl : zs.length ≤ 2097152) :
    Calls Tryz.prog 127 #[.slice a zs.length cap] w fun e w' => e = .returned (.slice (some ⟨w.heap.size, 0, none⟩) zs.length zs.length) ∧
      Owns w' w.heap.size (.slice (some ⟨w.heap.size, 0, none⟩) zs.length zs.length) zs ∧ Below w.heap.size w w' ∧ w.heap.size < w'.heap.size := by
  obtain ⟨hb, hc⟩ := h
  obtain ⟨i0, hi, hz0, hz1, hz2⟩ := info_parts Tryz.infoB
  go_enter Tryz.func127, Tryz.ntmps127
  go_wp2_with (at_make; refine wpList_make_full _ rfl _ _ 81 rfl w.heap.size 5 i0 (.int .u8 0) 1 Tryz.underlying81 hi hz0 hz1 .i64 .i64 _ _ zs.length rfl rfl rfl rfl (by rw [hz2]; omega) (by unfold maxLen; omega) (Nat.le_refl _) ?_; intro w1 hown hgrow)
  have hb1 : Below w.heap.size w w1 := (Below.refl _ _).grown hgrow (Nat.le_refl _) (fun k h => by cases h)
  have hs1 : w.heap.size < w1.heap.size := (hown.lt _ rfl).2
  rw [madeCells_bytes, ← laid_none] at hown
  clear hgrow
  go_loopw [4] (fun i wr => ∃ k : Nat, k ≤ zs.length ∧ i = .int .i64 k ∧ wr.ownsRow w.heap.size 5 1 (.slice (some ⟨w.heap.size, 0, none⟩) zs.length zs.length) zs.length (bcells (laid zs k)) ∧ Below w.heap.size w wr ∧ w.heap.size < wr.heap.size)
    (fun i _ => zs.length - (intOf i).toNat)
  case atStart => exact ⟨0, Nat.zero_le _, rfl, hown, hb1, hs1⟩
  case round =>
    clear hown hb1 hs1
    obtain ⟨k, hk, rfl, hown, hbel, hsz⟩ := hrel
    by_cases hlt : k < zs.length
    · rcases hc with rfl | ⟨b, off, rfl, hbl, hcell⟩
      · simp at hlt
      have hls := laid_set zs k hlt
      have hc1 : wr.cell? ⟨b, off + k, none⟩ = some (.int .u8 (zs[k]?.getD 0)) := (hbel.cell (p := ⟨b, off + k, none⟩) hbl).trans (hcell k hlt)
      generalize zs[k]?.getD 0 = c at hc1 hls
      have hfz := hown.frozenAt k
      have hold : ∃ v, wr.cell? ⟨w.heap.size, k, none⟩ = some v := by
        rw [hown.cellAt k (by omega)]; exact ⟨_, List.getElem?_eq_getElem (by rw [bcells_length, laid_length _ _ hk]; exact hlt)⟩
      obtain ⟨v0, hv0⟩ := hold
      have hst := (hown.stored k (.int .u8 c)).1
      rw [show (bcells (laid zs k)).set k (.int .u8 c) = bcells (laid zs (k + 1)) by rw [← hls, bcells, bcells, List.map_set]] at hst
      have HS : Hid _ := hst
      clear hst hown hls hcell
      go_wp2
      go_roundw
      case rel => exact ⟨k + 1, by omega, by go_num, HS.out, hbel.setCell (Nat.le_refl _) _, by simpa using hsz⟩
      case measure => simp [intOf]; omega
    · have he : k = zs.length := by omega
      subst he
      rw [laid_all] at hown
      go_wp2
      go_ret
      exact ⟨rfl, hown, hbel, hsz⟩

theorem below_drewN2 {B : Nat} {a w : World} (h : Below B a w) (n : Nat) : Below B a (w.drewN n) := ⟨h.os, h.tape, h.output, h.size, h.block⟩
theorem take_eq_step (xs ys : List Int) (k : Nat) (hx : k < xs.length) (hy : k < ys.length) (h : xs.take k = ys.take k) :
    (xs[k]?.getD 0 = ys[k]?.getD 0 → xs.take (k + 1) = ys.take (k + 1)) ∧ (xs[k]?.getD 0 ≠ ys[k]?.getD 0 → (xs == ys) = false) := by
  constructor
  · intro e
    rw [List.take_succ_eq_append_getElem hx, List.take_succ_eq_append_getElem hy, h]
    simp [hx, hy] at e
    rw [e]
  · intro e
    apply beq_eq_false_iff_ne.2
    rintro rfl
    exact e rfl
set_option maxHeartbeats 400000 in
theorem eqByteS_any (a b : Option Addr) (xs ys : List Int) (ca cb : Nat) (w : World) (hx : Reads w a xs) (hy : Reads w b ys) (hl : xs.length ≤ 2097152) (hm : ys.length ≤ 2097152) :
    Calls Tryz.prog 130 #[.slice a xs.length ca, .slice b ys.length cb] w fun e w' => e = .returned (.bool (xs == ys)) ∧ ∃ n, w' = w.drewN n := by
  obtain ⟨bx, cx⟩ := hx
  obtain ⟨by_, cy⟩ := hy
  by_cases hne : xs.length = ys.length
  · obtain ⟨N, hN⟩ : ∃ N, xs.length = N := ⟨_, rfl⟩
    have hN' : ys.length = N := by omega
    rw [hN, hN']
    rw [hN] at hl
    rw [hN'] at hm
    have HX : Hid (xs.length = N) := hN
    have HY : Hid (ys.length = N) := hN'
    clear hne hN hN'
    go_enter Tryz.func130, Tryz.ntmps130
    go_wp2
    go_loopw [5] (fun i wr => ∃ k m : Nat, k ≤ N ∧ i = .int .i64 k ∧ wr = w.drewN m ∧ Hid (xs.take k = ys.take k)) (fun i _ => N - (intOf i).toNat)
    case atStart => exact ⟨0, 0, Nat.zero_le _, rfl, rfl, by show _ = _; simp⟩
    case round =>
      obtain ⟨k, m, hk, rfl, rfl, hE⟩ := hrel
      by_cases hlt : k < N
      · rcases cx with rfl | ⟨bx', ox, rfl, hbx, hcx⟩
        · have := HX.out; simp at this; omega
        rcases cy with rfl | ⟨by', oy, rfl, hby, hcy⟩
        · have := HY.out; simp at this; omega
        have h1 := hcx k (by rw [HX.out]; exact hlt)
        have h2 := hcy k (by rw [HY.out]; exact hlt)
        have hstep := take_eq_step xs ys k (by rw [HX.out]; exact hlt) (by rw [HY.out]; exact hlt) hE.out
        have HST : Hid _ := hstep
        clear hstep
        clear bx by_ hcx hcy
        generalize xs[k]?.getD 0 = c at h1 HST
        generalize ys[k]?.getD 0 = d at h2 HST
        go_wp2
        go_quiet (fail)
        all_goals go_wp2
        · have hne : c ≠ d := by
            have hh : (c != d) = true := by assumption
            simpa using hh
          go_ret
          exact ⟨by rw [HST.out.2 hne]; rfl, _, World.drewN_drewN _ _ _⟩
        · have heq : c = d := by
            have hh : (c != d) = false := by assumption
            simpa using hh
          go_roundw
          case rel => exact ⟨k + 1, _, by omega, by go_num, rfl, HST.out.1 heq⟩
          case measure => simp [intOf]; omega
      · have he : k = N := by omega
        subst he
        have ht : xs = ys := by
          have := hE.out
          rwa [List.take_of_length_le (by rw [HX.out]; exact Nat.le_refl _), List.take_of_length_le (by rw [HY.out]; exact Nat.le_refl _)] at this
        go_wp2
        go_ret
        exact ⟨by rw [ht]; simp, m, rfl⟩
  · have : (xs == ys) = false := by
      apply beq_eq_false_iff_ne.2; intro h; exact hne (by rw [h])
    rw [this]
    clear this
    have hd : ((xs.length : Int) == (ys.length : Int)) = false := by simp; omega
    go_enter Tryz.func130, Tryz.ntmps130
    go_wp2
    go_ret
    exact ⟨rfl, (0 : Nat), rfl⟩

/-- What 'mark' lays into n bytes, from k on. -/
def marks (n : Nat) (k : Nat) : List Int := (List.range n).map (fun i => ((k + i : Nat) : Int) % 256)
@[simp] theorem marks_length (n k : Nat) : (marks n k).length = n := by simp [marks]
theorem marks_isBytes (n k : Nat) : isBytes (marks n k) := by
  intro j
  by_cases h : j < n
  · simp [marks, h]; omega
  · simp [marks, h]
theorem marks_at (n k j : Nat) (h : j < n) : (marks n k)[j]?.getD 0 = ((k + j : Nat) : Int) % 256 := by simp [marks, h]
/-- The first j marked, the others as they were. -/
def marked (zs : List Int) (k j : Nat) : List Int := marks j k ++ zs.drop j
theorem marked_length (zs : List Int) (k j : Nat) (h : j ≤ zs.length) : (marked zs k j).length = zs.length := by simp [marked]; omega
theorem marked_none (zs : List Int) (k : Nat) : marked zs k 0 = zs := by simp [marked, marks]
theorem marked_all (zs : List Int) (k : Nat) : marked zs k zs.length = marks zs.length k := by simp [marked]
theorem marked_set (zs : List Int) (k j : Nat) (h : j < zs.length) : (marked zs k j).set j (((k : Int) + (j : Int)) % 256) = marked zs k (j + 1) := by
  have e : marks (j + 1) k = marks j k ++ [((k : Int) + (j : Int)) % 256] := by simp [marks, List.range_succ]
  unfold marked
  rw [e, List.set_append, if_neg (by simp), marks_length, Nat.sub_self, List.drop_eq_getElem_cons h, List.set_cons_zero, List.append_assoc]
  rfl

set_option maxHeartbeats 400000 in
theorem mark_any (v : Value) (zs : List Int) (k base : Nat) (w : World) (h : Owns w base v zs) (hl : zs.length ≤ 2097152) (hk : k ≤ 1099511627776) :
    Calls Tryz.prog 67 #[v, .int .i64 k] w fun e w' => e = .returned (.int .i64 ((k + zs.length : Nat) : Int)) ∧ Owns w' base v (marks zs.length k) ∧ w.grownBy w' v.ownBlock := by
  rcases h.2 with ⟨rfl, h0⟩ | ⟨g, cap, cur, rfl, hg, hh, r⟩
  · have : zs = [] := List.eq_nil_of_length_eq_zero h0
    subst this
    go_enter Tryz.func67, Tryz.ntmps67
    go_wp2
    refine wp_loop_rounds 1 ?_
    rw [rounds_succ]
    go_wp2
    go_ret
    exact ⟨by simp, h, ⟨rfl, rfl, rfl, Nat.le_refl _, fun _ _ _ => rfl⟩⟩
  · clear hg hh r
    go_enter Tryz.func67, Tryz.ntmps67
    go_wp2
    go_loopw [1, 5] (fun q i wr => ∃ j : Nat, j ≤ zs.length ∧ i = .int .i64 j ∧ q = .int .i64 ((k : Int) + (j : Int)) ∧ Hid (wr.ownsRow base 5 1 (.slice (some ⟨g, 0, none⟩) zs.length cap) zs.length (bcells (marked zs k j))) ∧ w.grownBy wr (some g))
      (fun _ i _ => zs.length - (intOf i).toNat)
    case atStart => exact ⟨0, Nat.zero_le _, rfl, by simp, by rw [marked_none]; exact h, ⟨rfl, rfl, rfl, Nat.le_refl _, fun _ _ _ => rfl⟩⟩
    case round =>
      clear h
      obtain ⟨j, hj, rfl, rfl, HO, hgr⟩ := hrel
      have hown := HO.out
      by_cases hlt : j < zs.length
      · have hfz := hown.frozenAt j
        have hold : ∃ v, wr.cell? ⟨g, j, none⟩ = some v := by
          rw [hown.cellAt j (by omega)]; exact ⟨_, List.getElem?_eq_getElem (by rw [bcells_length, marked_length _ _ _ hj]; exact hlt)⟩
        obtain ⟨v0, hv0⟩ := hold
        have hst := (hown.stored j (.int .u8 (((k : Int) + (j : Int)) % 256))).1
        have hgg := (hown.stored j (.int .u8 (((k : Int) + (j : Int)) % 256))).2
        rw [show (bcells (marked zs k j)).set j (.int .u8 (((k : Int) + (j : Int)) % 256)) = bcells (marked zs k (j + 1)) by rw [← marked_set _ _ _ hlt, bcells, bcells, List.map_set]] at hst
        have HS : Hid _ := hst
        have HG : Hid _ := grown_trans hgr hgg
        clear hst hgg hown HO hgr
        go_wp2
        go_roundw
        case rel => exact ⟨j + 1, by omega, by go_num, by first | go_num | (congr 1; omega), HS.out, HG.out⟩
        case measure => simp [intOf]; omega
      · have he : j = zs.length := by omega
        subst he
        rw [marked_all] at hown
        have HO2 : Hid _ := hown
        have HG : Hid _ := hgr
        clear hown HO hgr
        go_wp2
        go_ret
        refine ⟨by simp, ?_, HG.out⟩
        have := HO2.out
        unfold Owns
        rw [marks_length]
        exact this

set_option maxHeartbeats 400000 in
theorem held_any (a : Option Addr) (n k cap : Nat) (w : World) (h : Reads w a (marks n k)) (hl : n ≤ 2097152) (hk : k ≤ 1099511627776) :
    Calls Tryz.prog 104 #[.slice a n cap, .int .i64 k] w fun e w' => e = .returned (.int .i64 ((k + n : Nat) : Int)) ∧ w' = w := by
  obtain ⟨hb, hc⟩ := h
  go_enter Tryz.func104, Tryz.ntmps104
  go_wp2
  go_loop [1, 5] (fun q i => ∃ j : Nat, j ≤ n ∧ i = .int .i64 j ∧ q = .int .i64 ((k : Int) + (j : Int))) (fun _ i => n - (intOf i).toNat)
  case atStart => exact ⟨0, Nat.zero_le _, rfl, by simp⟩
  case round =>
    obtain ⟨j, hj, rfl, rfl⟩ := hrel
    by_cases hlt : j < n
    · rcases hc with hc | ⟨b, off, rfl, hbl, hcell⟩
      · have := congrArg List.length hc; simp at this; omega
      have hc1 := hcell j (by simpa using hlt)
      rw [marks_at _ _ _ hlt] at hc1
      clear hcell hb
      have hc2 : w.cell? ⟨b, off + j, none⟩ = some (.int .u8 (((k : Int) + (j : Int)) % 256)) := by rw [hc1]; simp
      clear hc1
      have hq : ((((k : Int) + (j : Int)) % 256) != (((k : Int) + (j : Int)) % 256)) = false := by simp
      go_wp2
      go_round
      case rel => exact ⟨j + 1, by omega, by go_num, by first | go_num | (congr 1; omega)⟩
      case measure => simp [intOf]; omega
    · have he : j = n := by omega
      subst he
      clear hc hb
      go_wp2
      go_ret
      exact ⟨by simp, rfl⟩
end
section
theorem Tryz.sizeB : (Tryz.prog.info? 5).map (·.size) = some 1 := by kernel_rfl

theorem full_heap {w : World} {base : Nat} {e : TypeId} {g n : Nat} {xs : List Value} (h : w.ownsRow base e 1 (.slice (some ⟨g, 0, none⟩) n n) n xs) : w.heap[g]? = some (.cells xs.toArray e (0, 0)) := by
  rcases h.2 with ⟨hv, _⟩ | ⟨g', c, cur, hv, hg, hh, hnc, hm, hs, ht⟩
  · cases hv
  · simp only [Value.slice.injEq, Option.some.injEq, Addr.mk.injEq, and_true, true_and] at hv
    obtain ⟨rfl, rfl⟩ := hv
    rw [hh, ← ht, List.take_of_length_le (by simp; omega)]

theorem full_owns {w : World} {base g : Nat} {zs : List Int} {n : Nat} (hn : n = zs.length) (hg : base ≤ g) (hl : zs.length ≤ 4194304) (h : w.heap[g]? = some (.cells (bcells zs).toArray 5 (0, 0))) : Owns w base (.slice (some ⟨g, 0, none⟩) n n) zs := by
  subst hn
  exact ⟨by simp, .inr ⟨g, zs.length, _, rfl, hg, h, Nat.le_refl _, by unfold maxLen; omega, by simp, by simp [List.take_of_length_le]⟩⟩

theorem Reads.src {w : World} {a : Option Addr} {xs : List Int} (h : Reads w a xs) : 0 < (bcells xs).length → ∃ ad, a = some ad ∧ ∀ j v, (bcells xs)[j]? = some v → w.cell? (ad.add j) = some v := by
  intro h0
  rcases h.2 with rfl | ⟨b, off, rfl, hb, hc⟩
  · simp at h0
  · refine ⟨_, rfl, fun j v hv => ?_⟩
    have hj : j < xs.length := by
      rcases Nat.lt_or_ge j xs.length with h1 | h1
      · exact h1
      · rw [List.getElem?_eq_none (by simpa using h1)] at hv; cases hv
    have := hc j hj
    have e : ((⟨b, off, none⟩ : Addr).add j) = ⟨b, off + j, none⟩ := by
      by_cases h0 : j = 0
      · subst h0; simp [Addr.add]
      · simp [Addr.add, h0]
    rw [e, this, ← hv]
    simp [bcells, hj]

theorem bcells_one (xs : List Int) : ∀ v ∈ bcells xs, v.oneCell' = true := by
  intro v hv
  simp only [bcells, List.mem_map] at hv
  obtain ⟨x, _, rfl⟩ := hv
  rfl

theorem splice_two {α : Type} (Z X Y : List α) (k : Nat) (hk : X.length = k) (hZ : Z.length = k + Y.length) : splice (splice Z 0 X) k Y = X ++ Y := by
  subst hk
  unfold splice
  simp only [List.take_zero, List.nil_append, Nat.zero_add, List.take_left]
  rw [List.drop_append, List.drop_drop]
  have e1 : List.drop (X.length + Y.length) X = [] := List.drop_eq_nil_of_le (by omega)
  have e2 : List.drop (X.length + (X.length + Y.length - X.length)) Z = [] := List.drop_eq_nil_of_le (by omega)
  rw [e1, e2]; simp

theorem Owns.base {w : World} {base b' : Nat} {v : Value} {zs : List Int} (h : Owns w base v zs) (hb : b' ≤ base) : Owns w b' v zs := by
  obtain ⟨h1, h2⟩ := h
  refine ⟨h1, ?_⟩
  rcases h2 with h2 | ⟨g, c, cur, hv, hg, r⟩
  · exact .inl h2
  · exact .inr ⟨g, c, cur, hv, by omega, r⟩

theorem reads_none (w : World) (a : Option Addr) : Reads w a [] := ⟨isBytes_nil, .inl rfl⟩

theorem Owns.shape {w : World} {base : Nat} {v : Value} {zs : List Int} (h : Owns w base v zs) : ∃ a cap, v = .slice a zs.length cap ∧ zs.length ≤ cap ∧ cap ≤ maxLen := by
  rcases h.2 with ⟨rfl, h0⟩ | ⟨g, c, cur, hv, hg, hh, hnc, hm, r⟩
  · exact ⟨none, 0, by rw [h0], by omega, Nat.zero_le _⟩
  · exact ⟨_, c, hv, hnc, hm⟩

theorem Reads.srcAt {w : World} {ad : Addr} {xs : List Int} (h : Reads w (some ad) xs) : ∀ j v, (bcells xs)[j]? = some v → w.cell? (ad.add j) = some v := by
  by_cases h0 : 0 < (bcells xs).length
  · obtain ⟨ad', ha, hc⟩ := h.src h0
    simp only [Option.some.injEq] at ha
    subst ha
    exact hc
  · intro j v hv
    rw [List.getElem?_eq_none (by omega)] at hv; cases hv

theorem Owns.lt {w : World} {base : Nat} {v : Value} {zs : List Int} (h : Owns w base v zs) : ∀ k, v.ownBlock = some k → base ≤ k ∧ k < w.heap.size := World.ownsRow.lt h

theorem owns_empty (w : World) : Owns (w.alloc (.cells #[] 5)) w.heap.size (.slice (some ⟨w.heap.size, 0, none⟩) 0 0) [] := World.ownsRow_lit w #[] 0 (Nat.le_refl _) (Nat.zero_le _) rfl

/-- Its block lies before b. -/
def Before (v : Value) (b : Nat) : Prop := ∀ k, v.ownBlock = some k → k < b

/-- Its block lies from b on. -/
def From (v : Value) (b : Nat) : Prop := ∀ k, v.ownBlock = some k → b ≤ k

theorem apart {v u : Value} {b : Nat} (h : Before v b) (g : From u b) : ∀ k, v.ownBlock = some k → u.ownBlock ≠ some k := fun k hk e => by have := h k hk; have := g k e; omega

theorem toByteS_v (a : Option Addr) (zs : List Int) (len cap : Nat) (w : World) (h : Reads w a zs) (hlen : len = zs.length) (hl : zs.length ≤ 2097152) :
    Calls Tryz.prog 127 #[.slice a len cap] w fun e w' => ∃ v, e = .returned v ∧ Owns w' w.heap.size v zs ∧ Below w.heap.size w w' := by
  subst hlen
  exact (toByteS_any a zs cap w h hl).mono fun e w' ⟨he, ho, hb, _⟩ => ⟨_, he, ho, hb⟩
end
section
/-- Only blocks in lo .. hi-1, and new ones, have turned. -/
structure Turns (lo hi : Nat) (w w' : World) : Prop where
  os : w'.os = w.os
  tape : w'.tape = w.tape
  output : w'.output = w.output
  size : w.heap.size ≤ w'.heap.size
  block : ∀ k, k < w.heap.size → (k < lo ∨ hi ≤ k) → w'.heap[k]? = w.heap[k]?
/-- Blocks l .. h-1 are as they were. -/
def SameIn (l h : Nat) (w w' : World) : Prop := w.heap.size ≤ w'.heap.size ∧ ∀ k, l ≤ k → k < h → w'.heap[k]? = w.heap[k]?
/-- A slice's head: nil has no length. -/
def Headed (a : Option Addr) (len cap : Nat) : Prop := len ≤ cap ∧ cap ≤ maxLen ∧ (a = none → len = 0 ∧ cap = 0)

/-- v reads as the bytes zs, which lie in blocks l .. h-1. -/
def RdB (w : World) (l h : Nat) (v : Value) (zs : List Int) : Prop :=
  isBytes zs ∧ ∃ a len cap, v = .slice a len cap ∧ len = zs.length ∧ Headed a len cap ∧
    (zs = [] ∨ ∃ b off, a = some ⟨b, off, none⟩ ∧ l ≤ b ∧ b < h ∧ ∀ i, i < zs.length → w.cell? ⟨b, off + i, none⟩ = some (.int .u8 (zs[i]?.getD 0)))
/-- v is the call's own, with the bytes zs, in a block of l .. h-1. -/
def OwB (w : World) (l h : Nat) (v : Value) (zs : List Int) : Prop := isBytes zs ∧ Owns w l v zs ∧ Before v h
/-- v reads as the list zss of bytes; all of it lies in blocks l .. h-1. -/
def RdBB (w : World) (l h : Nat) (v : Value) (zss : List (List Int)) : Prop :=
  ∃ a len cap, ∃ vs : Nat → Value, v = .slice a len cap ∧ len = zss.length ∧ Headed a len cap ∧
    (len = 0 ∨ ∃ b off, a = some ⟨b, off, none⟩ ∧ l ≤ b ∧ b < h ∧ ∀ i, i < len → w.cell? ⟨b, off + i, none⟩ = some (vs i)) ∧ ∀ i, i < len → RdB w l h (vs i) (zss[i]?.getD [])
/-- v is the call's own, with the list zss of bytes, each in a block of its own, all in blocks l .. h-1. -/
def OwBB (w : World) (l h : Nat) (v : Value) (zss : List (List Int)) : Prop :=
  ∃ vs : List Value, vs.length = zss.length ∧ w.ownsRow l 81 1 v vs.length vs ∧ Before v h ∧ (∀ i, i < vs.length → OwB w l h (vs[i]?.getD undef) (zss[i]?.getD [])) ∧
    ∀ i j k, i < j → j < vs.length → (vs[i]?.getD undef).ownBlock = some k → (vs[j]?.getD undef).ownBlock ≠ some k
end
section
/-- Blocks of S are as they were. -/
def Keeps (S : Nat → Prop) (w w' : World) : Prop := w.heap.size ≤ w'.heap.size ∧ ∀ b, S b → b < w.heap.size → w'.heap[b]? = w.heap[b]?
/-- Only blocks of S, and new ones, have turned. -/
structure Turned (S : Nat → Prop) (w w' : World) : Prop where
  os : w'.os = w.os
  tape : w'.tape = w.tape
  output : w'.output = w.output
  size : w.heap.size ≤ w'.heap.size
  block : ∀ k, k < w.heap.size → ¬ S k → w'.heap[k]? = w.heap[k]?
theorem Turned.refl (S : Nat → Prop) (w : World) : Turned S w w := ⟨rfl, rfl, rfl, Nat.le_refl _, fun _ _ _ => rfl⟩
theorem Turned.trans {S : Nat → Prop} {a b c : World} (h : Turned S a b) (k : Turned S b c) : Turned S a c :=
  ⟨k.os.trans h.os, k.tape.trans h.tape, k.output.trans h.output, Nat.le_trans h.size k.size, fun i hi hr => (k.block i (Nat.lt_of_lt_of_le hi h.size) hr).trans (h.block i hi hr)⟩
theorem Turned.wide {S S' : Nat → Prop} {a b : World} (h : Turned S a b) (hs : ∀ k, S k → S' k) : Turned S' a b := ⟨h.os, h.tape, h.output, h.size, fun i hi hr => h.block i hi (fun e => hr (hs i e))⟩
theorem Turned.ofBelow {S : Nat → Prop} {a b : World} (h : Below a.heap.size a b) : Turned S a b := ⟨h.os, h.tape, h.output, h.size, fun i hi _ => h.block i hi⟩
theorem Turned.ofGrown {S : Nat → Prop} {a b : World} {r : Option Nat} (h : a.grownBy b r) (hr : ∀ k, r = some k → S k) : Turned S a b := ⟨h.os, h.tape, h.output, h.size, fun i hi ho => h.block i hi (fun e => ho (hr i e.symm))⟩
theorem Turned.set {S : Nat → Prop} {a b : World} (h : Turned S a b) (p : Addr) (u : Value) (hp : S p.block) : Turned S a (b.setCell p u) :=
  h.trans ⟨rfl, rfl, rfl, by simp, fun k _ hr => heap_setCell_other b p k u (fun e => hr (e ▸ hp))⟩
theorem Turned.andThen {S : Nat → Prop} {a b c : World} (h : Turned S a b) (hb : Below b.heap.size b c) : Turned S a c := h.trans (Turned.ofBelow hb)
theorem Turned.below {S : Nat → Prop} {B : Nat} {a b c : World} (h : Below B a b) (k : Turned S b c) (hB : B ≤ b.heap.size) (hl : ∀ i, S i → B ≤ i) : Below B a c :=
  h.trans ⟨k.os, k.tape, k.output, k.size, fun i hi => k.block i (by omega) (fun e => by have := hl i e; omega)⟩
theorem Turned.keeps {S T : Nat → Prop} {a b : World} (h : Turned S a b) (hd : ∀ k, T k → ¬ S k) : Keeps T a b := ⟨h.size, fun k hk hlt => h.block k hlt (hd k hk)⟩
theorem Keeps.ofBelow {S : Nat → Prop} {a b : World} (h : Below a.heap.size a b) : Keeps S a b := ⟨h.size, fun k _ hlt => h.block k hlt⟩
theorem Keeps.mono {S T : Nat → Prop} {a b : World} (h : Keeps S a b) (hs : ∀ k, T k → S k) : Keeps T a b := ⟨h.1, fun k hk hlt => h.2 k (hs k hk) hlt⟩

/-- v reads as the bytes zs, which lie in a block of S. -/
def RdS (w : World) (S : Nat → Prop) (v : Value) (zs : List Int) : Prop :=
  isBytes zs ∧ ∃ a len cap, v = .slice a len cap ∧ len = zs.length ∧ Headed a len cap ∧
    (zs = [] ∨ ∃ b off, a = some ⟨b, off, none⟩ ∧ S b ∧ b < w.heap.size ∧ ∀ i, i < zs.length → w.cell? ⟨b, off + i, none⟩ = some (.int .u8 (zs[i]?.getD 0)))
theorem RdS.keep {w w' : World} {S : Nat → Prop} {v : Value} {zs : List Int} (r : RdS w S v zs) (t : Keeps S w w') : RdS w' S v zs := by
  obtain ⟨hb, a, len, cap, hv, hl, hh, hc⟩ := r
  refine ⟨hb, a, len, cap, hv, hl, hh, ?_⟩
  rcases hc with h0 | ⟨b, off, ha, h1, h2, hc⟩
  · exact .inl h0
  · exact .inr ⟨b, off, ha, h1, Nat.lt_of_lt_of_le h2 t.1, fun i hi => by rw [World.cell?_of_block (w := w) (t.2 b h1 h2)]; exact hc i hi⟩
theorem RdS.mono {w : World} {S S' : Nat → Prop} {v : Value} {zs : List Int} (r : RdS w S v zs) (t : ∀ b, S b → S' b) : RdS w S' v zs := by
  obtain ⟨hb, a, len, cap, hv, hl, hh, hc⟩ := r
  refine ⟨hb, a, len, cap, hv, hl, hh, ?_⟩
  rcases hc with h0 | ⟨b, off, ha, h1, h2, hc⟩
  · exact .inl h0
  · exact .inr ⟨b, off, ha, t b h1, h2, hc⟩
theorem RdS.reads {w : World} {S : Nat → Prop} {v : Value} {zs : List Int} (r : RdS w S v zs) : ∃ a cap, v = .slice a zs.length cap ∧ Headed a zs.length cap ∧ Reads w a zs := by
  obtain ⟨hb, a, len, cap, hv, hl, hh, hc⟩ := r
  subst hl
  refine ⟨a, cap, hv, hh, hb, ?_⟩
  rcases hc with h0 | ⟨b, off, ha, h3, h4, hc⟩
  · exact .inl h0
  · exact .inr ⟨b, off, ha, h4, hc⟩
theorem ownsRow_base {w : World} {l : Nat} {e : TypeId} {size : Nat} {v : Value} {n : Nat} {xs : List Value} (o : w.ownsRow l e size v n xs) : w.ownsRow 0 e size v n xs :=
  ⟨o.1, o.2.imp id (fun ⟨g, c, cur, hv, _, r⟩ => ⟨g, c, cur, hv, Nat.zero_le _, r⟩)⟩
theorem ownsRow_keep {w w' : World} {l : Nat} {S : Nat → Prop} {e : TypeId} {size : Nat} {v : Value} {n : Nat} {xs : List Value} (o : w.ownsRow l e size v n xs) (hb : ∀ b, v.ownBlock = some b → S b) (t : Keeps S w w') : w'.ownsRow l e size v n xs := by
  obtain ⟨h1, h2⟩ := o
  refine ⟨h1, ?_⟩
  rcases h2 with h2 | ⟨g, c, cur, hv, hg, hh, r⟩
  · exact .inl h2
  · exact .inr ⟨g, c, cur, hv, hg, by rw [t.2 g (hb g (by rw [hv]; rfl)) (lt_of_block hh)]; exact hh, r⟩
theorem rdS_of_owns {w : World} {S : Nat → Prop} {v : Value} {zs : List Int} (hz : isBytes zs) (ho : Owns w 0 v zs) (hs : ∀ b, v.ownBlock = some b → S b) : RdS w S v zs := by
  obtain ⟨a, cap, rfl, h1, h2⟩ := ho.shape
  refine ⟨hz, a, _, cap, rfl, rfl, ⟨h1, h2, ?_⟩, ?_⟩
  · rintro rfl
    rcases ho.2 with ⟨hv, h0⟩ | ⟨g, c, cur, hv, _⟩
    · simp only [Value.slice.injEq, true_and] at hv; omega
    · cases hv
  · rcases (ho.reads hz).2.2 with h0 | ⟨b, off, ha, hb, hc⟩
    · exact .inl h0
    · subst ha
      exact .inr ⟨b, off, rfl, hs b rfl, hb, hc⟩
theorem place_inj {k i j i' j' : Nat} (hj : j < k) (hj' : j' < k) (h : i * k + j = i' * k + j') : i = i' ∧ j = j' := by
  have h1 : (i * k + j) / k = i := by rw [Nat.add_comm, Nat.mul_comm, Nat.add_mul_div_left _ _ (by omega), Nat.div_eq_of_lt hj]; omega
  have h2 : (i' * k + j') / k = i' := by rw [Nat.add_comm, Nat.mul_comm, Nat.add_mul_div_left _ _ (by omega), Nat.div_eq_of_lt hj']; omega
  have h3 : i = i' := by rw [← h1, ← h2, h]
  subst h3
  exact ⟨rfl, by omega⟩
theorem place_lt {k n i j : Nat} (hi : i < n) (hj : j < k) : i * k + j < n * k := by
  have : (i + 1) * k ≤ n * k := Nat.mul_le_mul_right k hi
  rw [Nat.add_mul, Nat.one_mul] at this
  omega

/-- What a cell holds, told by how it is read (rd: all of it in blocks of S) and owned (ow: no block of it outside S, none serving twice). -/
structure Dt where
  rd : World → (Nat → Prop) → Value → Prop
  ow : World → (Nat → Prop) → Value → Prop
  rdKeep : ∀ (w w' : World) (S : Nat → Prop) (v : Value), Keeps S w w' → rd w S v → rd w' S v
  rdMono : ∀ (w : World) (S S' : Nat → Prop) (v : Value), (∀ b, S b → S' b) → rd w S v → rd w S' v
  owKeep : ∀ (w w' : World) (S : Nat → Prop) (v : Value), Keeps S w w' → ow w S v → ow w' S v
  owMono : ∀ (w : World) (S S' : Nat → Prop) (v : Value), (∀ b, S b → S' b) → ow w S v → ow w S' v
  owRd : ∀ (w : World) (S : Nat → Prop) (v : Value), ow w S v → rd w S v
/-- v reads as d, and all of it lies in blocks of S. -/
def RdV (w : World) (S : Nat → Prop) (v : Value) (d : Dt) : Prop := d.rd w S v
/-- v is the call's own and holds d; no block of it lies outside S, none serves twice. -/
def OwV (w : World) (S : Nat → Prop) (v : Value) (d : Dt) : Prop := d.ow w S v
def Dt.int (n : Int) : Dt := ⟨fun _ _ v => v = .int .i64 n, fun _ _ v => v = .int .i64 n, fun _ _ _ _ _ h => h, fun _ _ _ _ _ h => h, fun _ _ _ _ _ h => h, fun _ _ _ _ _ h => h, fun _ _ _ h => h⟩
def Dt.bool (b : Bool) : Dt := ⟨fun _ _ v => v = .bool b, fun _ _ v => v = .bool b, fun _ _ _ _ _ h => h, fun _ _ _ _ _ h => h, fun _ _ _ _ _ h => h, fun _ _ _ _ _ h => h, fun _ _ _ h => h⟩
def Dt.bytes (zs : List Int) : Dt := ⟨fun w S v => RdS w S v zs, fun w S v => isBytes zs ∧ Owns w 0 v zs ∧ ∀ b, v.ownBlock = some b → S b,
  fun _ _ _ _ t h => h.keep t, fun _ _ _ _ t h => h.mono t, fun _ _ _ _ t h => ⟨h.1, ownsRow_keep h.2.1 h.2.2 t, h.2.2⟩, fun _ _ _ _ t h => ⟨h.1, h.2.1, fun b hb => t b (h.2.2 b hb)⟩, fun _ _ _ h => rdS_of_owns h.1 h.2.1 h.2.2⟩
/-- n rows of k cells each, of type t. -/
def RowsRd (k n : Nat) (f : Nat → Nat → Dt) (w : World) (S : Nat → Prop) (v : Value) : Prop :=
  ∃ a cap, ∃ V : Nat → Nat → Value, v = .slice a n cap ∧ Headed a n cap ∧
    (n = 0 ∨ ∃ b off, a = some ⟨b, off, none⟩ ∧ S b ∧ b < w.heap.size ∧ ∀ i j, i < n → j < k → w.cell? ⟨b, off + (i * k + j), none⟩ = some (V i j)) ∧ ∀ i j, i < n → j < k → RdV w S (V i j) (f i j)
def RowsOw (t : TypeId) (k n : Nat) (f : Nat → Nat → Dt) (w : World) (S : Nat → Prop) (v : Value) : Prop :=
  ∃ (V : Nat → Nat → Value) (C : List Value) (Q : Nat → Nat → Nat → Prop), w.ownsRow 0 t k v n C ∧ (∀ b, v.ownBlock = some b → S b) ∧
      (∀ i j, i < n → j < k → C[i * k + j]? = some (V i j)) ∧ (∀ i j, i < n → j < k → OwV w (Q i j) (V i j) (f i j)) ∧ (∀ i j b, i < n → j < k → Q i j b → S b ∧ v.ownBlock ≠ some b) ∧
      (∀ i j i' j' b, i < n → j < k → i' < n → j' < k → Q i j b → Q i' j' b → i = i' ∧ j = j')
theorem RowsRd.keep {k n : Nat} {f : Nat → Nat → Dt} (w w' : World) (S : Nat → Prop) (v : Value) (t : Keeps S w w') (r : RowsRd k n f w S v) : RowsRd k n f w' S v := by
  obtain ⟨a, cap, V, hv, hh, hc, he⟩ := r
  refine ⟨a, cap, V, hv, hh, ?_, fun i j hi hj => (f i j).rdKeep w w' S _ t (he i j hi hj)⟩
  rcases hc with h0 | ⟨b, off, ha, h1, h2, hc⟩
  · exact .inl h0
  · exact .inr ⟨b, off, ha, h1, Nat.lt_of_lt_of_le h2 t.1, fun i j hi hj => by rw [World.cell?_of_block (w := w) (t.2 b h1 h2)]; exact hc i j hi hj⟩
theorem RowsRd.mono {k n : Nat} {f : Nat → Nat → Dt} (w : World) (S S' : Nat → Prop) (v : Value) (t : ∀ b, S b → S' b) (r : RowsRd k n f w S v) : RowsRd k n f w S' v := by
  obtain ⟨a, cap, V, hv, hh, hc, he⟩ := r
  refine ⟨a, cap, V, hv, hh, ?_, fun i j hi hj => (f i j).rdMono w S S' _ t (he i j hi hj)⟩
  rcases hc with h0 | ⟨b, off, ha, h1, h2, hc⟩
  · exact .inl h0
  · exact .inr ⟨b, off, ha, t b h1, h2, hc⟩
theorem RowsOw.keep {t : TypeId} {k n : Nat} {f : Nat → Nat → Dt} (w w' : World) (S : Nat → Prop) (v : Value) (hk : Keeps S w w') (r : RowsOw t k n f w S v) : RowsOw t k n f w' S v := by
  obtain ⟨V, C, Q, h1, h2, h3, h4, h5, h6⟩ := r
  exact ⟨V, C, Q, ownsRow_keep h1 h2 hk, h2, h3, fun i j hi hj => (f i j).owKeep w w' _ _ (hk.mono (fun b hb => (h5 i j b hi hj hb).1)) (h4 i j hi hj), h5, h6⟩
theorem RowsOw.mono {t : TypeId} {k n : Nat} {f : Nat → Nat → Dt} (w : World) (S S' : Nat → Prop) (v : Value) (hs : ∀ b, S b → S' b) (r : RowsOw t k n f w S v) : RowsOw t k n f w S' v := by
  obtain ⟨V, C, Q, h1, h2, h3, h4, h5, h6⟩ := r
  exact ⟨V, C, Q, h1, fun b hb => hs b (h2 b hb), h3, h4, fun i j b hi hj hq => ⟨hs b (h5 i j b hi hj hq).1, (h5 i j b hi hj hq).2⟩, h6⟩
theorem RowsOw.rd {t : TypeId} {k n : Nat} {f : Nat → Nat → Dt} (w : World) (S : Nat → Prop) (v : Value) (r : RowsOw t k n f w S v) : RowsRd k n f w S v := by
  obtain ⟨V, C, Q, h1, h2, h3, h4, h5, h6⟩ := r
  rcases h1.2 with ⟨hv, h0⟩ | ⟨g, c, cur, hv, hg, hh, hnc, hm, _⟩
  · subst hv
    subst h0
    exact ⟨none, 0, V, rfl, ⟨Nat.le_refl _, Nat.zero_le _, fun _ => ⟨rfl, rfl⟩⟩, .inl rfl, fun i j hi => absurd hi (Nat.not_lt_zero _)⟩
  · subst hv
    refine ⟨_, c, V, rfl, ⟨hnc, hm, fun e => by cases e⟩, .inr ⟨g, 0, rfl, h2 g rfl, lt_of_block hh, fun i j hi hj => ?_⟩, fun i j hi hj => (f i j).rdMono w _ S _ (fun b hb => (h5 i j b hi hj hb).1) ((f i j).owRd w _ _ (h4 i j hi hj))⟩
    rw [Nat.zero_add, World.ownsRow.cellAt h1 (i * k + j) (place_lt hi hj)]
    exact h3 i j hi hj
def Dt.rows (t : TypeId) (k n : Nat) (f : Nat → Nat → Dt) : Dt := ⟨RowsRd k n f, RowsOw t k n f, RowsRd.keep, RowsRd.mono, RowsOw.keep, RowsOw.mono, RowsOw.rd⟩
theorem RdV.keep {w w' : World} {S : Nat → Prop} {v : Value} {d : Dt} (t : Keeps S w w') (r : RdV w S v d) : RdV w' S v d := d.rdKeep w w' S v t r
theorem RdV.mono {w : World} {S S' : Nat → Prop} {v : Value} {d : Dt} (t : ∀ b, S b → S' b) (r : RdV w S v d) : RdV w S' v d := d.rdMono w S S' v t r
theorem RdV.step {w w' : World} {S : Nat → Prop} {v : Value} {d : Dt} (r : RdV w S v d) (hb : Below w.heap.size w w') : RdV w' S v d := r.keep (Keeps.ofBelow hb)
theorem RdV.b {w : World} {S : Nat → Prop} {v : Value} {zs : List Int} (r : RdV w S v (.bytes zs)) : RdS w S v zs := r
theorem RdV.sliceB {w : World} {S : Nat → Prop} {v : Value} {zs : List Int} (r : RdV w S v (.bytes zs)) : ∃ a cap, v = .slice a zs.length cap := by obtain ⟨a, cap, h, _⟩ := r.b.reads; exact ⟨a, cap, h⟩
theorem RdV.inv {w : World} {S : Nat → Prop} {v : Value} {t : TypeId} {k n : Nat} {f : Nat → Nat → Dt} (r : RdV w S v (.rows t k n f)) : RowsRd k n f w S v := r
theorem RdV.mkRows {w : World} {S : Nat → Prop} {v : Value} {k n : Nat} {f : Nat → Nat → Dt} (t : TypeId) (r : RowsRd k n f w S v) : RdV w S v (.rows t k n f) := r
theorem RdV.at {w : World} {S : Nat → Prop} {a : Option Addr} {n cap : Nat} {t : TypeId} {k : Nat} {f : Nat → Nat → Dt} (r : RdV w S (.slice a n cap) (.rows t k n f)) {i : Nat} (hi : i < n) :
    ∃ b off, a = some ⟨b, off, none⟩ ∧ b < w.heap.size ∧ S b ∧ ∀ j, j < k → ∃ x, w.cell? ⟨b, off + i * k + j, none⟩ = some x ∧ RdV w S x (f i j) := by
  obtain ⟨a', cap', V, hv, hh, hc, he⟩ := r.inv
  simp only [Value.slice.injEq] at hv
  obtain ⟨rfl, _, rfl⟩ := hv
  rcases hc with h0 | ⟨b, off, ha, h1, h2, hc⟩
  · omega
  · exact ⟨b, off, ha, h2, h1, fun j hj => ⟨V i j, by rw [Nat.add_assoc]; exact hc i j hi hj, he i j hi hj⟩⟩
theorem RdV.sliced {w : World} {S : Nat → Prop} {v : Value} {t : TypeId} {k n : Nat} {f : Nat → Nat → Dt} (r : RdV w S v (.rows t k n f)) : ∃ a cap, v = .slice a n cap ∧ n ≤ maxLen := by
  obtain ⟨a, cap, V, hv, hh, _⟩ := r.inv
  exact ⟨a, cap, hv, Nat.le_trans hh.1 hh.2.1⟩
theorem RdV.congr {w : World} {S : Nat → Prop} {v : Value} {t t' : TypeId} {k n : Nat} {f g : Nat → Nat → Dt} (r : RdV w S v (.rows t k n f)) (h : ∀ i j, i < n → j < k → f i j = g i j) : RdV w S v (.rows t' k n g) := by
  obtain ⟨a, cap, V, rfl, hh, hc, he⟩ := r.inv
  exact ⟨a, cap, V, rfl, hh, hc, fun i j hi hj => h i j hi hj ▸ he i j hi hj⟩
theorem OwV.inv {w : World} {S : Nat → Prop} {v : Value} {t : TypeId} {k n : Nat} {f : Nat → Nat → Dt} (r : OwV w S v (.rows t k n f)) : RowsOw t k n f w S v := r
theorem OwV.mkRows {w : World} {S : Nat → Prop} {v : Value} {t : TypeId} {k n : Nat} {f : Nat → Nat → Dt} (r : RowsOw t k n f w S v) : OwV w S v (.rows t k n f) := r
theorem OwV.mono {w : World} {S S' : Nat → Prop} {v : Value} {d : Dt} (t : ∀ b, S b → S' b) (r : OwV w S v d) : OwV w S' v d := d.owMono w S S' v t r
theorem OwV.rd {w : World} {S : Nat → Prop} {v : Value} {d : Dt} (r : OwV w S v d) : RdV w S v d := d.owRd w S v r
theorem OwV.keep {w w' : World} {S : Nat → Prop} {v : Value} {d : Dt} (t : Keeps S w w') (r : OwV w S v d) : OwV w' S v d := d.owKeep w w' S v t r
theorem OwV.step {w w' : World} {S : Nat → Prop} {v : Value} {d : Dt} (r : OwV w S v d) (hb : Below w.heap.size w w') : OwV w' S v d := r.keep (Keeps.ofBelow hb)
theorem OwV.congr {w : World} {S : Nat → Prop} {v : Value} {t : TypeId} {k n : Nat} {f g : Nat → Nat → Dt} (r : OwV w S v (.rows t k n f)) (h : ∀ i j, i < n → j < k → f i j = g i j) : OwV w S v (.rows t k n g) := by
  obtain ⟨V, C, Q, h1, h2, h3, h4, h5, h6⟩ := r.inv
  exact ⟨V, C, Q, h1, h2, h3, fun i j hi hj => h i j hi hj ▸ h4 i j hi hj, h5, h6⟩
theorem OwV.b {w : World} {S : Nat → Prop} {v : Value} {zs : List Int} (r : OwV w S v (.bytes zs)) : isBytes zs ∧ Owns w 0 v zs ∧ ∀ b, v.ownBlock = some b → S b := r
theorem OwV.nilB (w : World) (S : Nat → Prop) : OwV w S (.slice none 0 0) (.bytes []) := ⟨isBytes_nil, World.ownsRow_nil _ _ _ _, fun b hb => by cases hb⟩
theorem OwV.nilR (w : World) (S : Nat → Prop) (t : TypeId) (k : Nat) (f : Nat → Nat → Dt) : OwV w S (.slice none 0 0) (.rows t k 0 f) :=
  ⟨fun _ _ => undef, [], fun _ _ _ => False, World.ownsRow_nil _ _ _ _, fun b hb => (by cases hb), fun i j hi => absurd hi (Nat.not_lt_zero _), fun i j hi => absurd hi (Nat.not_lt_zero _), fun i j b hi => absurd hi (Nat.not_lt_zero _), fun i j i' j' b hi => absurd hi (Nat.not_lt_zero _)⟩
theorem OwV.ofOwns {w : World} {B : Nat} {v : Value} {zs : List Int} (hz : isBytes zs) (h : Owns w B v zs) : OwV w (fun b => B ≤ b ∧ b < w.heap.size) v (.bytes zs) := ⟨hz, h.base (Nat.zero_le _), fun b hb => h.lt b hb⟩

/-- f, but d at (i, j). -/
def upd (f : Nat → Nat → Dt) (i j : Nat) (d : Dt) : Nat → Nat → Dt := fun i' j' => if i' = i ∧ j' = j then d else f i' j'
theorem upd_other (f : Nat → Nat → Dt) (i j i' j' : Nat) (d : Dt) (h : ¬ (i' = i ∧ j' = j)) : upd f i j d i' j' = f i' j' := by simp [upd, h]
/-- A value that is laid into a cell of rows, with memory of its own. -/
theorem OwV.put {w : World} {S R : Nat → Prop} {g cap : Nat} {t : TypeId} {k n : Nat} {f : Nat → Nat → Dt} (r : OwV w S (.slice (some ⟨g, 0, none⟩) n cap) (.rows t k n f)) {i j : Nat} (hi : i < n) (hj : j < k) {u : Value} {d : Dt} (hu : OwV w R u d) (hd : ∀ b, R b → ¬ S b) :
    OwV (w.setCell ⟨g, i * k + j, none⟩ u) (fun b => S b ∨ R b) (.slice (some ⟨g, 0, none⟩) n cap) (.rows t k n (upd f i j d)) := by
  obtain ⟨V, C, Q, h1, h2, h3, h4, h5, h6⟩ := r.inv
  have hst := h1.stored (i * k + j) u
  have hCl : C.length = n * k := h1.1
  have hg : S g := h2 g rfl
  have kp : ∀ (T : Nat → Prop), (∀ b, T b → b ≠ g) → Keeps T w (w.setCell ⟨g, i * k + j, none⟩ u) := fun T hT => ⟨by simp, fun b hb _ => heap_setCell_other w _ b u (hT b hb)⟩
  refine OwV.mkRows ⟨fun i' j' => if i' = i ∧ j' = j then u else V i' j', C.set (i * k + j) u, fun i' j' => if i' = i ∧ j' = j then R else Q i' j', hst.1, fun b hb => .inl (h2 b hb), fun i' j' hi' hj' => ?_, fun i' j' hi' hj' => ?_, fun i' j' b hi' hj' hq => ?_, fun i1 j1 i2 j2 b hi1 hj1 hi2 hj2 hq1 hq2 => ?_⟩
  · dsimp only
    rw [List.getElem?_set]
    by_cases he : i' = i ∧ j' = j
    · obtain ⟨rfl, rfl⟩ := he
      rw [if_pos rfl, if_pos (by rw [hCl]; exact place_lt hi hj)]; simp
    · rw [if_neg (fun e => he (by have := place_inj hj hj' e; omega)), if_neg he]; exact h3 i' j' hi' hj'
  · dsimp only
    unfold upd
    by_cases he : i' = i ∧ j' = j
    · simp only [he, and_self, if_true]
      exact hu.keep (kp R (fun b hb e => hd b hb (e ▸ hg)))
    · rw [if_neg he, if_neg he, if_neg he]
      exact (h4 i' j' hi' hj').keep (kp _ (fun b hb e => by subst e; exact (h5 i' j' _ hi' hj' hb).2 rfl))
  · dsimp only at hq
    by_cases he : i' = i ∧ j' = j
    · rw [if_pos he] at hq
      exact ⟨.inr hq, fun e => hd b hq (h2 b e)⟩
    · rw [if_neg he] at hq
      exact ⟨.inl (h5 i' j' b hi' hj' hq).1, (h5 i' j' b hi' hj' hq).2⟩
  · dsimp only at hq1 hq2
    by_cases he1 : i1 = i ∧ j1 = j
    · by_cases he2 : i2 = i ∧ j2 = j
      · omega
      · rw [if_pos he1] at hq1; rw [if_neg he2] at hq2
        exact absurd (h5 i2 j2 b hi2 hj2 hq2).1 (hd b hq1)
    · by_cases he2 : i2 = i ∧ j2 = j
      · rw [if_neg he1] at hq1; rw [if_pos he2] at hq2
        exact absurd (h5 i1 j1 b hi1 hj1 hq1).1 (hd b hq2)
      · rw [if_neg he1] at hq1; rw [if_neg he2] at hq2
        exact h6 i1 j1 i2 j2 b hi1 hj1 hi2 hj2 hq1 hq2
/-- .. a number or a flag. -/
theorem OwV.put0 {w : World} {S : Nat → Prop} {g cap : Nat} {t : TypeId} {k n : Nat} {f : Nat → Nat → Dt} (r : OwV w S (.slice (some ⟨g, 0, none⟩) n cap) (.rows t k n f)) {i j : Nat} (hi : i < n) (hj : j < k) {u : Value} {d : Dt} (hu : OwV w (fun _ => False) u d) :
    OwV (w.setCell ⟨g, i * k + j, none⟩ u) S (.slice (some ⟨g, 0, none⟩) n cap) (.rows t k n (upd f i j d)) :=
  (r.put hi hj hu (fun b hb => hb.elim)).mono (fun b hb => hb.elim id False.elim)
/-- What lies in a cell of rows, and the way back. -/
theorem OwV.sub {w : World} {S : Nat → Prop} {v : Value} {t : TypeId} {k n : Nat} {f : Nat → Nat → Dt} (r : OwV w S v (.rows t k n f)) {i j : Nat} (hi : i < n) (hj : j < k) :
    ∃ (Q : Nat → Prop) (x : Value) (g cap : Nat), v = .slice (some ⟨g, 0, none⟩) n cap ∧ w.cell? ⟨g, i * k + j, none⟩ = some x ∧ OwV w Q x (f i j) ∧ (∀ b, Q b → S b ∧ b ≠ g) ∧
      ∀ w' d, Turned Q w w' → OwV w' Q x d → OwV w' S v (.rows t k n (upd f i j d)) := by
  obtain ⟨V, C, Q, h1, h2, h3, h4, h5, h6⟩ := r.inv
  rcases h1.2 with ⟨hv, h0⟩ | ⟨g, c, cur, hv, hg, hh, hnc, hm, _⟩
  · omega
  · subst hv
    refine ⟨Q i j, V i j, g, c, rfl, ?_, h4 i j hi hj, fun b hb => ⟨(h5 i j b hi hj hb).1, fun e => (h5 i j b hi hj hb).2 (by rw [e]; rfl)⟩, fun w' d ht hd => ?_⟩
    · rw [World.ownsRow.cellAt h1 (i * k + j) (place_lt hi hj)]; exact h3 i j hi hj
    · refine OwV.mkRows ⟨V, C, Q, ownsRow_keep (S := fun b => b = g) h1 (fun b hb => by cases hb; rfl) (ht.keeps (fun b hb hq => by subst hb; exact (h5 i j _ hi hj hq).2 rfl)), h2, h3, fun i' j' hi' hj' => ?_, h5, h6⟩
      unfold upd
      by_cases he : i' = i ∧ j' = j
      · obtain ⟨rfl, rfl⟩ := he
        rw [if_pos ⟨rfl, rfl⟩]; exact hd
      · rw [if_neg he]
        exact (h4 i' j' hi' hj').keep (ht.keeps (fun b hb hq => he (h6 i' j' i j b hi' hj' hi hj hb hq)))
/-- The head of rows that are the call's own. -/
theorem OwV.head {w : World} {S : Nat → Prop} {v : Value} {t : TypeId} {k n : Nat} {f : Nat → Nat → Dt} (r : OwV w S v (.rows t k n f)) : (v = .slice none 0 0 ∧ n = 0) ∨ ∃ g cap, v = .slice (some ⟨g, 0, none⟩) n cap ∧ S g ∧ g < w.heap.size ∧ (∀ j, w.frozen? ⟨g, j, none⟩ = false) ∧ ∀ j, j < n * k → ∃ u, w.cell? ⟨g, j, none⟩ = some u := by
  obtain ⟨V, C, Q, h1, h2, h3, h4, h5, h6⟩ := r.inv
  rcases h1.2 with ⟨hv, h0⟩ | ⟨g, c, cur, hv, hg, hh, hnc, hm, _⟩
  · exact .inl ⟨hv, h0⟩
  · subst hv
    exact .inr ⟨g, c, rfl, h2 g rfl, lt_of_block hh, fun j => h1.frozenAt j, fun j hj => by rw [h1.cellAt j hj]; exact ⟨_, List.getElem?_eq_getElem (by rw [h1.1]; exact hj)⟩⟩

/-- A variable of type T that holds the cells cs. -/
def VarA (w : World) (b : Nat) (T : TypeId) (cs : Array Value) : Prop := w.heap[b]? = some (.cells cs T (0, 0))
section
variable {w w' : World} {b : Nat} {T : TypeId} {cs : Array Value}
theorem VarA.c (h : VarA w b T cs) (j : Nat) {u : Value} (hu : cs[j]? = some u) : w.cell? ⟨b, j, none⟩ = some u := by rw [cell_of_row _ _ _ _ _ _ h]; exact hu
theorem VarA.f (h : VarA w b T cs) (j : Nat) : w.frozen? ⟨b, j, none⟩ = false := frozen_of_row _ _ _ _ _ h
theorem VarA.lt (h : VarA w b T cs) : b < w.heap.size := lt_of_block h
theorem VarA.step (h : VarA w b T cs) (hb : Below w.heap.size w w') : VarA w' b T cs := (hb.block b h.lt).trans h
theorem VarA.turn {S : Nat → Prop} (h : VarA w b T cs) (t : Turned S w w') (ho : ¬ S b) : VarA w' b T cs := (t.block b h.lt ho).trans h
theorem VarA.new (w : World) (T : TypeId) (cs : Array Value) : VarA (w.alloc (.cells cs T)) w.heap.size T cs := heap_alloc_new w _
theorem VarA.set (h : VarA w b T cs) (j : Nat) (u : Value) : VarA (w.setCell ⟨b, j, none⟩ u) b T (cs.setIfInBounds j u) := heap_setCell_same w b j cs T u h
theorem VarA.aside (h : VarA w b T cs) {p : Addr} (hp : b ≠ p.block) (u : Value) : VarA (w.setCell p u) b T cs := (heap_setCell_other w p b u hp).trans h
theorem VarA.l1 {x0 : Value} (h : VarA w b T #[x0]) : w.cell? ⟨b, 0, none⟩ = some x0 := h.c 0 rfl
theorem VarA.l3 {x0 x1 x2 : Value} (h : VarA w b T #[x0, x1, x2]) : w.cell? ⟨b, 0, none⟩ = some x0 ∧ w.cell? ⟨b, 1, none⟩ = some x1 ∧ w.cell? ⟨b, 2, none⟩ = some x2 := ⟨h.c 0 rfl, h.c 1 rfl, h.c 2 rfl⟩
theorem VarA.l4 {x0 x1 x2 x3 : Value} (h : VarA w b T #[x0, x1, x2, x3]) : w.cell? ⟨b, 0, none⟩ = some x0 ∧ w.cell? ⟨b, 1, none⟩ = some x1 ∧ w.cell? ⟨b, 2, none⟩ = some x2 ∧ w.cell? ⟨b, 3, none⟩ = some x3 := ⟨h.c 0 rfl, h.c 1 rfl, h.c 2 rfl, h.c 3 rfl⟩
theorem VarA.l9 {x0 x1 x2 x3 x4 x5 x6 x7 x8 : Value} (h : VarA w b T #[x0, x1, x2, x3, x4, x5, x6, x7, x8]) : w.cell? ⟨b, 0, none⟩ = some x0 ∧ w.cell? ⟨b, 1, none⟩ = some x1 ∧ w.cell? ⟨b, 2, none⟩ = some x2 ∧ w.cell? ⟨b, 3, none⟩ = some x3 ∧ w.cell? ⟨b, 4, none⟩ = some x4 ∧ w.cell? ⟨b, 5, none⟩ = some x5 ∧ w.cell? ⟨b, 6, none⟩ = some x6 ∧ w.cell? ⟨b, 7, none⟩ = some x7 ∧ w.cell? ⟨b, 8, none⟩ = some x8 := ⟨h.c 0 rfl, h.c 1 rfl, h.c 2 rfl, h.c 3 rfl, h.c 4 rfl, h.c 5 rfl, h.c 6 rfl, h.c 7 rfl, h.c 8 rfl⟩
theorem VarA.fz (h : VarA w b T cs) : ∀ j, w.frozen? ⟨b, j, none⟩ = false := fun j => h.f j
theorem VarA.alloc (h : VarA w b T cs) (o : Obj) : VarA (w.alloc o) b T cs := ((World.grownBy_alloc w o none).block b h.lt (by simp)).trans h
end

theorem OwV.lt0 {w : World} {S : Nat → Prop} {g n cap : Nat} {t : TypeId} {k : Nat} {f : Nat → Nat → Dt} (r : OwV w S (.slice (some ⟨g, 0, none⟩) n cap) (.rows t k n f)) {i : Nat} (hi : i < n) : g < w.heap.size := by
  obtain ⟨V, C, Q, h1, _⟩ := r.inv
  exact (h1.lt g rfl).2
theorem made_at (z : Array Value) (n k i j : Nat) (hz : z.size = k) (hi : i < n) (hj : j < k) : (madeCells z (n * k)).toList[i * k + j]? = z[j]? := by
  have h1 := place_lt hi hj
  have h2 : (i * k + j) % k = j := by rw [Nat.add_comm, Nat.mul_comm, Nat.add_mul_mod_self_left, Nat.mod_eq_of_lt hj]
  simp [madeCells, h1, hz, h2, hj]
/-- Rows that 'make' laid. -/
theorem OwV.made {w : World} {B g n cap : Nat} {t : TypeId} {k : Nat} {z : Array Value} (hz : z.size = k) (h : w.ownsRow B t k (.slice (some ⟨g, 0, none⟩) n cap) n (madeCells z (n * k)).toList) (f : Nat → Dt) (hf : ∀ j, j < k → OwV w (fun _ => False) (z[j]?.getD undef) (f j)) :
    OwV w (fun b => B ≤ b ∧ b < w.heap.size) (.slice (some ⟨g, 0, none⟩) n cap) (.rows t k n (fun _ j => f j)) := by
  refine OwV.mkRows ⟨fun _ j => z[j]?.getD undef, _, fun _ _ _ => False, ownsRow_base h, fun b hb => World.ownsRow.lt h b hb, fun i j hi hj => ?_, fun i j hi hj => hf j hj, fun i j b _ _ hq => hq.elim, fun i j i' j' b _ _ _ _ hq => hq.elim⟩
  rw [made_at z n k i j hz hi hj]
  simp [hz, hj]
/-- What was made since w, once more is laid into variables. -/
theorem OwV.close {w w2 w' : World} {N : Nat} {v : Value} {d : Dt} (B : Below w.heap.size w w2) (o : OwV w2 (fun b => N ≤ b ∧ b < w2.heap.size) v d) (hN : w.heap.size ≤ N) (t : Turned (fun b => w.heap.size ≤ b ∧ b < N) w2 w') :
    OwV w' (fun b => w.heap.size ≤ b ∧ b < w'.heap.size) v d ∧ Below w.heap.size w w' :=
  ⟨(o.keep (t.keeps (fun b hb hs => by omega))).mono (fun b hb => ⟨by omega, Nat.lt_of_lt_of_le hb.2 t.size⟩), Turned.below B t B.size (fun i hi => hi.1)⟩
theorem RdV.old {w : World} {S : Nat → Prop} {v : Value} {d : Dt} (r : RdV w S v d) : ∀ W, Below w.heap.size w W → RdV W S v d := fun W hW => r.step hW
end
section
/-- A handle, as data. -/
abbrev Hd := Int × Int × Bool
abbrev Hd.sh (h : Hd) : Int := h.1
abbrev Hd.ino (h : Hd) : Int := h.2.1
abbrev Hd.dir (h : Hd) : Bool := h.2.2
abbrev Hd.v (h : Hd) : Value := .agg #[.int .i64 h.sh, .int .i64 h.ino, .bool h.dir]

theorem toHandle_any (h : Hd) (w : World) : Calls Tryz.prog 108 #[h.v] w fun e w' => e = .returned h.v ∧ Below w.heap.size w w' := by
  obtain ⟨s, i, d⟩ := h
  go_enter Tryz.func108, Tryz.ntmps108
  go_wp2
  refine bodyPost_ret (v := .agg #[.int .i64 s, .int .i64 i, .bool d]) (by simp [results, Tryz.results108, go_sem]) rfl ⟨rfl, ?_⟩
  exact ((((Below.refl _ _).alloc (Nat.le_refl _) _).alloc (by simp) _).alloc (by simp; omega) _)

theorem Below.newH {w : World} (o : Obj) : Below w.heap.size w (w.alloc o) := (Below.refl _ _).alloc (Nat.le_refl _) _
theorem Below.newH2 {w : World} (o o' : Obj) : Below w.heap.size w ((w.alloc o).alloc o') := ((Below.refl _ _).alloc (Nat.le_refl _) _).alloc (by simp) _
def HOk (h : Hd) : Bool := decide (0 ≤ h.sh) && (decide (h.sh < 4) && (decide (1 ≤ h.ino) && decide (h.ino ≤ 2147483647)))

theorem specHandleOk_w (h : Hd) (w : World) : Calls Tryz.prog 72 #[h.v] w fun e w' => e = .returned (.bool (HOk h)) ∧ w' = w.alloc (.cells #[.int .i64 h.sh, .int .i64 h.ino, .bool h.dir] 51) := by
  obtain ⟨s, i, d⟩ := h
  go_enter Tryz.func72, Tryz.ntmps72
  go_wp2
  all_goals (go_ret; exact ⟨by first | rfl | (simp_all [HOk] <;> omega), rfl⟩)
theorem implHandleOk_w (h : Hd) (w : World) : Calls Tryz.prog 94 #[h.v] w fun e w' => e = .returned (.bool (HOk h)) ∧ w' = w.alloc (.cells #[.int .i64 h.sh, .int .i64 h.ino, .bool h.dir] 51) := by
  obtain ⟨s, i, d⟩ := h
  go_enter Tryz.func94, Tryz.ntmps94
  go_wp2
  all_goals (go_ret; exact ⟨by first | rfl | (simp_all [HOk] <;> omega), rfl⟩)
theorem eqHandle_same (h : Hd) (w : World) : Calls Tryz.prog 98 #[h.v, h.v] w fun e w' => e = .returned (.bool true) ∧ Below w.heap.size w w' := by
  obtain ⟨s, i, d⟩ := h
  go_enter Tryz.func98, Tryz.ntmps98
  go_wp2
  all_goals (go_ret; exact ⟨by first | rfl | (simp_all [HOk] <;> omega), by first | exact Below.refl _ _ | exact Below.newH _ | exact Below.newH2 _ _⟩)
end
section
theorem add_plainT (b off i : Nat) : (⟨b, off, none⟩ : Addr).add i = ⟨b, off + i, none⟩ := by
  unfold Addr.add
  by_cases hi : i = 0
  · subst hi; simp
  · simp [hi]

structure En where
  nm : List Int
  h : Hd
structure Nd where
  h : Hd
  par : Hd
  links : Int
  val : Int
  es : List En
structure OpD where
  kind : Int
  dir : Hd
  nm : List Int
  to : Hd
  asn : List Int
  val : Int

def hd0 : Hd := (0, 0, false)
def en0 : En := ⟨[], hd0⟩
def nd0 : Nd := ⟨hd0, hd0, 0, 0, []⟩
def enCell (e : En) : Nat → Dt
  | 0 => .bytes e.nm
  | 1 => .int e.h.sh
  | 2 => .int e.h.ino
  | _ => .bool e.h.dir
def ensDt (l : List En) : Dt := .rows 83 4 l.length (fun i j => enCell (l[i]?.getD en0) j)
def ndCell (n : Nd) : Nat → Dt
  | 0 => .int n.h.sh
  | 1 => .int n.h.ino
  | 2 => .bool n.h.dir
  | 3 => .int n.par.sh
  | 4 => .int n.par.ino
  | 5 => .bool n.par.dir
  | 6 => .int n.links
  | 7 => .int n.val
  | _ => ensDt n.es
def ndsDt (l : List Nd) : Dt := .rows 54 9 l.length (fun i j => ndCell (l[i]?.getD nd0) j)

/-- An entry's value, its name's bytes at nm. -/
abbrev enV (nm : Value) (h : Hd) : Value := .agg #[nm, .int .i64 h.sh, .int .i64 h.ino, .bool h.dir]
/-- A node's value, its entries at es. -/
abbrev ndV (n : Nd) (es : Value) : Value := .agg #[.int .i64 n.h.sh, .int .i64 n.h.ino, .bool n.h.dir, .int .i64 n.par.sh, .int .i64 n.par.ino, .bool n.par.dir, .int .i64 n.links, .int .i64 n.val, es]
/-- An operation's value, its texts at x, y. -/
abbrev opV (o : OpD) (x y : Value) : Value := .agg #[.int .i64 o.kind, .int .i64 o.dir.sh, .int .i64 o.dir.ino, .bool o.dir.dir, x, .int .i64 o.to.sh, .int .i64 o.to.ino, .bool o.to.dir, y, .int .i64 o.val]

/-- How much there is of it. -/
def szEns (l : List En) : Nat := l.length + (l.map (fun e => e.nm.length)).sum
def szNds (l : List Nd) : Nat := l.length + (l.map (fun n => szEns n.es)).sum
theorem sum_at {α : Type} (f : α → Nat) : ∀ (l : List α) (i : Nat) (a : α), l[i]? = some a → f a ≤ (l.map f).sum
  | [], i, a, h => by simp at h
  | x :: r, 0, a, h => by simp at h; subst h; simp
  | x :: r, i + 1, a, h => by
    have := sum_at f r i a (by simpa using h)
    simp; omega
theorem szEns_at (l : List En) (i : Nat) : (l[i]?.getD en0).nm.length ≤ szEns l := by
  cases h : l[i]? with
  | none => simp [en0]
  | some a => have := sum_at (fun e : En => e.nm.length) l i a h; simp [szEns]; omega
theorem szNds_at (l : List Nd) (i : Nat) : szEns (l[i]?.getD nd0).es ≤ szNds l := by
  cases h : l[i]? with
  | none => simp [nd0, szEns]
  | some a => have := sum_at (fun n : Nd => szEns n.es) l i a h; simp [szNds]; omega
end
section
abbrev TxD := Int × Int × Int
structure PtD where
  kind : Int
  h : Hd
  asn : List Int
  to : Hd
structure RpD where
  code : Int
  h : Hd
  val : Int
  list : List En
structure MsD where
  kind : Int
  fr : Int
  to : Int
  req : Int
  op : OpD
  rp : RpD
  tx : TxD
  pt : PtD
  code : Int
  h : Hd
def tx0 : TxD := (0, 0, 0)
def op0 : OpD := ⟨0, hd0, [], hd0, [], 0⟩
def rp0 : RpD := ⟨0, hd0, 0, []⟩
def pt0 : PtD := ⟨0, hd0, [], hd0⟩
def ms0 : MsD := ⟨0, 0, 0, 0, op0, rp0, tx0, pt0, 0, hd0⟩
abbrev txV (t : TxD) : Value := .agg #[.int .i64 t.1, .int .i64 t.2.1, .int .i64 t.2.2]
abbrev ptV (p : PtD) (u : Value) : Value := .agg #[.int .i64 p.kind, .int .i64 p.h.sh, .int .i64 p.h.ino, .bool p.h.dir, u, .int .i64 p.to.sh, .int .i64 p.to.ino, .bool p.to.dir]
abbrev rpV (r : RpD) (z : Value) : Value := .agg #[.int .i64 r.code, .int .i64 r.h.sh, .int .i64 r.h.ino, .bool r.h.dir, .int .i64 r.val, z]
abbrev msV (m : MsD) (x y z u : Value) : Value := .agg #[.int .i64 m.kind, .int .i64 m.fr, .int .i64 m.to, .int .i64 m.req, .int .i64 m.op.kind, .int .i64 m.op.dir.sh, .int .i64 m.op.dir.ino, .bool m.op.dir.dir, x, .int .i64 m.op.to.sh, .int .i64 m.op.to.ino, .bool m.op.to.dir, y, .int .i64 m.op.val, .int .i64 m.rp.code, .int .i64 m.rp.h.sh, .int .i64 m.rp.h.ino, .bool m.rp.h.dir, .int .i64 m.rp.val, z, .int .i64 m.tx.1, .int .i64 m.tx.2.1, .int .i64 m.tx.2.2, .int .i64 m.pt.kind, .int .i64 m.pt.h.sh, .int .i64 m.pt.h.ino, .bool m.pt.h.dir, u, .int .i64 m.pt.to.sh, .int .i64 m.pt.to.ino, .bool m.pt.to.dir, .int .i64 m.code, .int .i64 m.h.sh, .int .i64 m.h.ino, .bool m.h.dir]
theorem VarA.l6 {w : World} {b : Nat} {T : TypeId} {x0 x1 x2 x3 x4 x5 : Value} (h : VarA w b T #[x0, x1, x2, x3, x4, x5]) : w.cell? ⟨b, 0, none⟩ = some x0 ∧ w.cell? ⟨b, 1, none⟩ = some x1 ∧ w.cell? ⟨b, 2, none⟩ = some x2 ∧ w.cell? ⟨b, 3, none⟩ = some x3 ∧ w.cell? ⟨b, 4, none⟩ = some x4 ∧ w.cell? ⟨b, 5, none⟩ = some x5 := ⟨h.c 0 rfl, h.c 1 rfl, h.c 2 rfl, h.c 3 rfl, h.c 4 rfl, h.c 5 rfl⟩
theorem VarA.l8 {w : World} {b : Nat} {T : TypeId} {x0 x1 x2 x3 x4 x5 x6 x7 : Value} (h : VarA w b T #[x0, x1, x2, x3, x4, x5, x6, x7]) : w.cell? ⟨b, 0, none⟩ = some x0 ∧ w.cell? ⟨b, 1, none⟩ = some x1 ∧ w.cell? ⟨b, 2, none⟩ = some x2 ∧ w.cell? ⟨b, 3, none⟩ = some x3 ∧ w.cell? ⟨b, 4, none⟩ = some x4 ∧ w.cell? ⟨b, 5, none⟩ = some x5 ∧ w.cell? ⟨b, 6, none⟩ = some x6 ∧ w.cell? ⟨b, 7, none⟩ = some x7 := ⟨h.c 0 rfl, h.c 1 rfl, h.c 2 rfl, h.c 3 rfl, h.c 4 rfl, h.c 5 rfl, h.c 6 rfl, h.c 7 rfl⟩
/-- A message's four lists, read. -/
def RdM (w : World) (S : Nat → Prop) (m : MsD) (x y z u : Value) : Prop := RdV w S x (.bytes m.op.nm) ∧ RdV w S y (.bytes m.op.asn) ∧ RdV w S z (ensDt m.rp.list) ∧ RdV w S u (.bytes m.pt.asn)
/-- A message's four lists are the call's own, none sharing with another, all in S. -/
def OwM (w : World) (S : Nat → Prop) (m : MsD) (x y z u : Value) : Prop :=
  ∃ Q1 Q2 Q3 Q4 : Nat → Prop, OwV w Q1 x (.bytes m.op.nm) ∧ OwV w Q2 y (.bytes m.op.asn) ∧ OwV w Q3 z (ensDt m.rp.list) ∧ OwV w Q4 u (.bytes m.pt.asn) ∧
    (∀ b, Q1 b ∨ Q2 b ∨ Q3 b ∨ Q4 b → S b) ∧ (∀ b, Q1 b → ¬ Q2 b ∧ ¬ Q3 b ∧ ¬ Q4 b) ∧ (∀ b, Q2 b → ¬ Q3 b ∧ ¬ Q4 b) ∧ (∀ b, Q3 b → ¬ Q4 b)
/-- How much there is of a message. -/
def szMs (m : MsD) : Nat := m.op.nm.length + m.op.asn.length + szEns m.rp.list + m.pt.asn.length
end
section
def leftT (n s : Nat) : Int := if n ≤ s then (s : Int) - n else -1

/-- f, summed up over the first j. -/
def psum {α : Type} (f : α → Nat) (l : List α) (j : Nat) : Nat := ((l.take j).map f).sum
theorem psum_zero {α : Type} (f : α → Nat) (l : List α) : psum f l 0 = 0 := by simp [psum]
theorem psum_all {α : Type} (f : α → Nat) (l : List α) : psum f l l.length = (l.map f).sum := by simp [psum]
theorem psum_next {α : Type} (f : α → Nat) (l : List α) (d : α) (j : Nat) (h : j < l.length) : psum f l (j + 1) = psum f l j + f (l[j]?.getD d) := by
  unfold psum
  rw [List.take_succ_eq_append_getElem h, List.map_append, List.sum_append]
  simp [h]
theorem psum_le {α : Type} (f : α → Nat) (l : List α) (j : Nat) : psum f l j ≤ (l.map f).sum := by
  have : (l.map f).sum = ((l.take j).map f).sum + ((l.drop j).map f).sum := by rw [← List.sum_append, ← List.map_append, List.take_append_drop]
  unfold psum
  omega

theorem psum_mono0 {α : Type} (f g : α → Nat) (h : ∀ a, f a ≤ g a) (l : List α) : (l.map f).sum ≤ (l.map g).sum := by
  induction l with
  | nil => simp
  | cons x r ih => have := h x; simp; omega

theorem szByteS_d (v : Value) (zs : List Int) (S : Nat → Prop) (s : Nat) (w : World) (r : RdV w S v (.bytes zs)) (hs : s ≤ 1048576) :
    Calls Tryz.prog 125 #[v, .int .i64 s] w fun e w' => e = .returned (.int .i64 (leftT zs.length s)) ∧ Below w.heap.size w w' := by
  obtain ⟨a, c, rfl, hh, _⟩ := r.b.reads
  have hm : zs.length ≤ 9223372036854775807 := by have := hh.1; have := hh.2.1; unfold maxLen at this; omega
  generalize zs.length = n at hm ⊢
  unfold leftT
  clear hh
  by_cases hle : n ≤ s
  · rw [if_pos hle]
    go_enter Tryz.func125, Tryz.ntmps125
    go_wp2
    go_ret
    exact ⟨rfl, Below.refl _ _⟩
  · rw [if_neg hle]
    go_enter Tryz.func125, Tryz.ntmps125
    go_wp2
    go_ret
    exact ⟨rfl, Below.refl _ _⟩

set_option maxHeartbeats 1000000 in
theorem szEntry_d (x : Value) (e : En) (S : Nat → Prop) (s : Nat) (w : World) (hs : s ≤ 1048576) (r : RdV w S x (.bytes e.nm)) :
    Calls Tryz.prog 124 #[enV x e.h, .int .i64 s] w fun ret w' => ret = .returned (.int .i64 (leftT (e.nm.length) s)) ∧ Below w.heap.size w w' := by
  obtain ⟨a, cap, rfl⟩ := r.sliceB
  obtain ⟨nm, ⟨p, q, d⟩⟩ := e
  dsimp only at r ⊢
  have HS : Hid (∀ W, Below w.heap.size w W → _) := fun W hW => szByteS_d _ nm S s W (r.step hW) hs
  clear r
  generalize nm.length = m at HS ⊢
  by_cases hle : m ≤ s
  · have hl : leftT m s = (s : Int) - m := by unfold leftT; rw [if_pos hle]
    rw [hl] at HS ⊢
    clear hl
    go_enter Tryz.func124, Tryz.ntmps124
    go_wp2_with fail
    refine Calls.mono (HS.out _ (Below.newH _)) ?_
    rintro e w2 ⟨rfl, b_⟩
    go_wp2
    go_ret
    exact ⟨rfl, (Below.newH (w := w) _).trans (b_.mono (by simp))⟩
  · have hl : leftT m s = -1 := by unfold leftT; rw [if_neg hle]
    rw [hl] at HS ⊢
    clear hl
    go_enter Tryz.func124, Tryz.ntmps124
    go_wp2_with fail
    refine Calls.mono (HS.out _ (Below.newH _)) ?_
    rintro e w2 ⟨rfl, b_⟩
    go_wp2
    go_ret
    exact ⟨rfl, (Below.newH (w := w) _).trans (b_.mono (by simp))⟩

set_option maxHeartbeats 2000000 in
theorem szEntryS_d (v : Value) (l : List En) (S : Nat → Prop) (s : Nat) (w : World) (hs : s ≤ 1048576) (r : RdV w S v (ensDt l)) :
    Calls Tryz.prog 105 #[v, .int .i64 s] w fun e w' => e = .returned (.int .i64 (leftT (szEns l) s)) ∧ Below w.heap.size w w' := by
  obtain ⟨a, cap, rfl, hm⟩ := RdV.sliced r
  have HR : Hid (∀ W, Below w.heap.size w W → RdV W S (.slice a l.length cap) (ensDt l)) := r.old
  have HD : Hid (ensDt l = .rows 83 4 l.length (fun i j => enCell (l[i]?.getD en0) j)) := rfl
  have HX : Hid (szEns l = l.length + psum (fun e : En => e.nm.length) l l.length) := by show _ = _; rw [psum_all]; rfl
  have HU : Hid (∀ j, j < l.length → psum (fun e : En => e.nm.length) l (j + 1) = psum (fun e : En => e.nm.length) l j + (fun e : En => e.nm.length) (l[j]?.getD en0) ∧ psum (fun e : En => e.nm.length) l (j + 1) ≤ psum (fun e : En => e.nm.length) l l.length) := fun j hj => ⟨psum_next _ l _ j hj, by rw [psum_all]; exact psum_le _ l _⟩
  unfold maxLen at hm
  clear r
  rw [HD.out] at HR
  clear HD
  rw [HX.out]
  clear HX
  have HZ0 : Hid (psum (fun e : En => e.nm.length) l 0 = 0) := psum_zero _ _
  generalize psum (fun e : En => e.nm.length) l = P at HU HZ0 ⊢
  generalize l.length = n at hm HR HU ⊢
  by_cases hle : n ≤ s
  · go_enter Tryz.func105, Tryz.ntmps105
    go_wp2
    go_loopw [1, 5] (fun q i wr => ∃ j t : Nat, j ≤ n ∧ i = .int .i64 j ∧ q = .int .i64 t ∧ t ≤ s ∧ Hid (t + (n + P j) = s) ∧ Below w.heap.size w wr) (fun _ i _ => n - (intOf i).toNat)
    case atStart => exact ⟨0, s - n, Nat.zero_le _, rfl, by go_num, by omega, by show _ = _; rw [HZ0.out]; omega, Below.refl _ _⟩
    case round =>
      obtain ⟨j, t, hj, rfl, rfl, ht, HS, hbel⟩ := hrel
      by_cases hlt : j < n
      · obtain ⟨b, off, rfl, hbl, _, hx⟩ := RdV.at (HR.out wr hbel) hlt
        obtain ⟨hu1, hu2⟩ := HU.out j hlt
        obtain ⟨e, he⟩ : ∃ e, l[j]?.getD en0 = e := ⟨_, rfl⟩
        obtain ⟨x0, c0, r0⟩ := hx 0 (by omega)
        obtain ⟨x1, c1, r1⟩ := hx 1 (by omega)
        obtain ⟨x2, c2, r2⟩ := hx 2 (by omega)
        obtain ⟨x3, c3, r3⟩ := hx 3 (by omega)
        rw [he] at hu1 r0 r1 r2 r3
        clear hx he
        obtain ⟨nm, ⟨p, q, d⟩⟩ := e
        obtain rfl : x1 = .int .i64 p := r1
        obtain rfl : x2 = .int .i64 q := r2
        obtain rfl : x3 = .bool d := r3
        simp only [Nat.add_zero] at c0
        dsimp only at hu1
        have RS : Hid (RdV wr S x0 (.bytes nm)) := r0
        clear r0
        obtain ⟨xa, xc, rfl⟩ := RdV.sliceB RS.out
        have HSZ : Hid _ := szEntry_d _ ⟨nm, p, q, d⟩ S t wr (by omega) RS.out
        generalize nm.length = m at hu1 HSZ c0
        clear RS
        have hws := hbel.size
        by_cases hmt : m ≤ t
        · have hl : leftT m t = (t : Int) - m := by unfold leftT; rw [if_pos hmt]
          rw [hl] at HSZ
          have HF : Hid (t - m + (n + P (j + 1)) = s) := by show _ = _; have := HS.out; omega
          clear hl hu1 hu2 HS
          go_wp2_with fail
          refine Calls.mono HSZ.out ?_
          rintro e w2 ⟨rfl, hb2⟩
          go_wp2
          go_roundw
          case rel => exact ⟨j + 1, t - m, by omega, by go_num, by go_num, by omega, HF, hbel.trans (hb2.mono hws)⟩
          case measure => simp [intOf]; omega
        · have hl : leftT m t = -1 := by unfold leftT; rw [if_neg hmt]
          rw [hl] at HSZ
          have HF : Hid (leftT (n + P n) s = -1) := by show _ = _; unfold leftT; rw [if_neg (by have := HS.out; omega)]
          clear hl hu1 hu2 HS
          go_wp2_with fail
          refine Calls.mono HSZ.out ?_
          rintro e w2 ⟨rfl, hb2⟩
          go_wp2
          go_ret
          exact ⟨by rw [HF.out]; rfl, hbel.trans (hb2.mono hws)⟩
      · have hjn : j = n := by omega
        subst hjn
        have HF : Hid (leftT (j + P j) s = (t : Int)) := by have := HS.out; show _ = _; unfold leftT; rw [if_pos (by omega)]; omega
        go_wp2
        go_ret
        exact ⟨by rw [HF.out]; rfl, hbel⟩
  · have HF : Hid (leftT (n + P n) s = -1) := by show _ = _; unfold leftT; rw [if_neg (by omega)]
    clear HU HR
    go_enter Tryz.func105, Tryz.ntmps105
    go_wp2
    go_ret
    exact ⟨by rw [HF.out]; rfl, Below.refl _ _⟩

set_option maxHeartbeats 1000000 in
theorem szNode_d (x : Value) (n : Nd) (S : Nat → Prop) (s : Nat) (w : World) (hs : s ≤ 1048576) (r : RdV w S x (ensDt n.es)) :
    Calls Tryz.prog 69 #[ndV n x, .int .i64 s] w fun ret w' => ret = .returned (.int .i64 (leftT (szEns n.es) s)) ∧ Below w.heap.size w w' := by
  obtain ⟨a, cap, rfl, _⟩ := RdV.sliced r
  obtain ⟨⟨p, q, d⟩, ⟨p2, q2, d2⟩, lk, vl, es⟩ := n
  dsimp only at r ⊢
  generalize hq : es.length = n0 at r
  have HQ : Hid _ := hq
  clear hq
  have HS : Hid (∀ W, Below w.heap.size w W → _) := fun W hW => szEntryS_d _ es S s W hs (r.step hW)
  clear r
  generalize szEns es = m at HS ⊢
  by_cases hle : m ≤ s
  · have hl : leftT m s = (s : Int) - m := by unfold leftT; rw [if_pos hle]
    rw [hl] at HS ⊢
    clear hl
    go_enter Tryz.func69, Tryz.ntmps69
    go_wp2_with fail
    refine Calls.mono (HS.out _ (Below.newH _)) ?_
    rintro e w2 ⟨rfl, b_⟩
    go_wp2
    go_ret
    exact ⟨rfl, (Below.newH (w := w) _).trans (b_.mono (by simp))⟩
  · have hl : leftT m s = -1 := by unfold leftT; rw [if_neg hle]
    rw [hl] at HS ⊢
    clear hl
    go_enter Tryz.func69, Tryz.ntmps69
    go_wp2_with fail
    refine Calls.mono (HS.out _ (Below.newH _)) ?_
    rintro e w2 ⟨rfl, b_⟩
    go_wp2
    go_ret
    exact ⟨rfl, (Below.newH (w := w) _).trans (b_.mono (by simp))⟩

set_option maxHeartbeats 2000000 in
theorem szNodeS_d (v : Value) (l : List Nd) (S : Nat → Prop) (s : Nat) (w : World) (hs : s ≤ 1048576) (r : RdV w S v (ndsDt l)) :
    Calls Tryz.prog 33 #[v, .int .i64 s] w fun e w' => e = .returned (.int .i64 (leftT (szNds l) s)) ∧ Below w.heap.size w w' := by
  obtain ⟨a, cap, rfl, hm⟩ := RdV.sliced r
  have HR : Hid (∀ W, Below w.heap.size w W → RdV W S (.slice a l.length cap) (ndsDt l)) := r.old
  have HD : Hid (ndsDt l = .rows 54 9 l.length (fun i j => ndCell (l[i]?.getD nd0) j)) := rfl
  have HX : Hid (szNds l = l.length + psum (fun n : Nd => szEns n.es) l l.length) := by show _ = _; rw [psum_all]; rfl
  have HU : Hid (∀ j, j < l.length → psum (fun n : Nd => szEns n.es) l (j + 1) = psum (fun n : Nd => szEns n.es) l j + (fun n : Nd => szEns n.es) (l[j]?.getD nd0) ∧ psum (fun n : Nd => szEns n.es) l (j + 1) ≤ psum (fun n : Nd => szEns n.es) l l.length) := fun j hj => ⟨psum_next _ l _ j hj, by rw [psum_all]; exact psum_le _ l _⟩
  unfold maxLen at hm
  clear r
  rw [HD.out] at HR
  clear HD
  rw [HX.out]
  clear HX
  have HZ0 : Hid (psum (fun n : Nd => szEns n.es) l 0 = 0) := psum_zero _ _
  generalize psum (fun n : Nd => szEns n.es) l = P at HU HZ0 ⊢
  generalize l.length = n at hm HR HU ⊢
  by_cases hle : n ≤ s
  · go_enter Tryz.func33, Tryz.ntmps33
    go_wp2
    go_loopw [1, 5] (fun q i wr => ∃ j t : Nat, j ≤ n ∧ i = .int .i64 j ∧ q = .int .i64 t ∧ t ≤ s ∧ Hid (t + (n + P j) = s) ∧ Below w.heap.size w wr) (fun _ i _ => n - (intOf i).toNat)
    case atStart => exact ⟨0, s - n, Nat.zero_le _, rfl, by go_num, by omega, by show _ = _; rw [HZ0.out]; omega, Below.refl _ _⟩
    case round =>
      obtain ⟨j, t, hj, rfl, rfl, ht, HS, hbel⟩ := hrel
      by_cases hlt : j < n
      · obtain ⟨b, off, rfl, hbl, _, hx⟩ := RdV.at (HR.out wr hbel) hlt
        obtain ⟨hu1, hu2⟩ := HU.out j hlt
        obtain ⟨e, he⟩ : ∃ e, l[j]?.getD nd0 = e := ⟨_, rfl⟩
        obtain ⟨x0, c0, r0⟩ := hx 0 (by omega)
        obtain ⟨x1, c1, r1⟩ := hx 1 (by omega)
        obtain ⟨x2, c2, r2⟩ := hx 2 (by omega)
        obtain ⟨x3, c3, r3⟩ := hx 3 (by omega)
        obtain ⟨x4, c4, r4⟩ := hx 4 (by omega)
        obtain ⟨x5, c5, r5⟩ := hx 5 (by omega)
        obtain ⟨x6, c6, r6⟩ := hx 6 (by omega)
        obtain ⟨x7, c7, r7⟩ := hx 7 (by omega)
        obtain ⟨x8, c8, r8⟩ := hx 8 (by omega)
        rw [he] at hu1 r0 r1 r2 r3 r4 r5 r6 r7 r8
        clear hx he
        obtain ⟨⟨p, q, d⟩, ⟨p2, q2, d2⟩, lk, vl, es⟩ := e
        obtain rfl : x0 = .int .i64 p := r0
        obtain rfl : x1 = .int .i64 q := r1
        obtain rfl : x2 = .bool d := r2
        obtain rfl : x3 = .int .i64 p2 := r3
        obtain rfl : x4 = .int .i64 q2 := r4
        obtain rfl : x5 = .bool d2 := r5
        obtain rfl : x6 = .int .i64 lk := r6
        obtain rfl : x7 = .int .i64 vl := r7
        simp only [Nat.add_zero] at c0
        dsimp only at hu1
        have RS : Hid (RdV wr S x8 (ensDt es)) := r8
        clear r8
        obtain ⟨xa, xc, rfl, _⟩ := RdV.sliced RS.out
        have HSZ : Hid _ := szNode_d _ ⟨(p, q, d), (p2, q2, d2), lk, vl, es⟩ S t wr (by omega) RS.out
        generalize szEns es = m at hu1 HSZ
        clear RS
        generalize es.length = xn at HSZ c8
        have hws := hbel.size
        by_cases hmt : m ≤ t
        · have hl : leftT m t = (t : Int) - m := by unfold leftT; rw [if_pos hmt]
          rw [hl] at HSZ
          have HF : Hid (t - m + (n + P (j + 1)) = s) := by show _ = _; have := HS.out; omega
          clear hl hu1 hu2 HS
          go_wp2_with fail
          refine Calls.mono HSZ.out ?_
          rintro e w2 ⟨rfl, hb2⟩
          go_wp2
          go_roundw
          case rel => exact ⟨j + 1, t - m, by omega, by go_num, by go_num, by omega, HF, hbel.trans (hb2.mono hws)⟩
          case measure => simp [intOf]; omega
        · have hl : leftT m t = -1 := by unfold leftT; rw [if_neg hmt]
          rw [hl] at HSZ
          have HF : Hid (leftT (n + P n) s = -1) := by show _ = _; unfold leftT; rw [if_neg (by have := HS.out; omega)]
          clear hl hu1 hu2 HS
          go_wp2_with fail
          refine Calls.mono HSZ.out ?_
          rintro e w2 ⟨rfl, hb2⟩
          go_wp2
          go_ret
          exact ⟨by rw [HF.out]; rfl, hbel.trans (hb2.mono hws)⟩
      · have hjn : j = n := by omega
        subst hjn
        have HF : Hid (leftT (j + P j) s = (t : Int)) := by have := HS.out; show _ = _; unfold leftT; rw [if_pos (by omega)]; omega
        go_wp2
        go_ret
        exact ⟨by rw [HF.out]; rfl, hbel⟩
  · have HF : Hid (leftT (n + P n) s = -1) := by show _ = _; unfold leftT; rw [if_neg (by omega)]
    clear HU HR
    go_enter Tryz.func33, Tryz.ntmps33
    go_wp2
    go_ret
    exact ⟨by rw [HF.out]; rfl, Below.refl _ _⟩
end
section
structure ItD where
  tx : TxD
  pt : PtD
  code : Int
  fr : Hd
structure VdD where
  tx : TxD
  ok : Bool
structure LsD where
  cl : Int
  rq : Int
  rp : RpD
structure ShD where
  id : Int
  boot : Int
  next : Int
  nds : List Nd
  its : List ItD
  dec : List VdD
  don : List TxD
  las : List LsD
def it0 : ItD := ⟨tx0, pt0, 0, hd0⟩
def vd0 : VdD := ⟨tx0, false⟩
def ls0 : LsD := ⟨0, 0, rp0⟩
def sh0 : ShD := ⟨0, 0, 0, [], [], [], [], []⟩
def txCell (e : TxD) : Nat → Dt
  | 0 => .int e.1
  | 1 => .int e.2.1
  | _ => .int e.2.2
def txsDt (l : List TxD) : Dt := .rows 107 3 l.length (fun i j => txCell (l[i]?.getD tx0) j)
def vdCell (e : VdD) : Nat → Dt
  | 0 => .int e.tx.1
  | 1 => .int e.tx.2.1
  | 2 => .int e.tx.2.2
  | _ => .bool e.ok
def vdsDt (l : List VdD) : Dt := .rows 114 4 l.length (fun i j => vdCell (l[i]?.getD vd0) j)
def itCell (e : ItD) : Nat → Dt
  | 0 => .int e.tx.1
  | 1 => .int e.tx.2.1
  | 2 => .int e.tx.2.2
  | 3 => .int e.pt.kind
  | 4 => .int e.pt.h.sh
  | 5 => .int e.pt.h.ino
  | 6 => .bool e.pt.h.dir
  | 7 => (.bytes e.pt.asn)
  | 8 => .int e.pt.to.sh
  | 9 => .int e.pt.to.ino
  | 10 => .bool e.pt.to.dir
  | 11 => .int e.code
  | 12 => .int e.fr.sh
  | 13 => .int e.fr.ino
  | _ => .bool e.fr.dir
def itsDt (l : List ItD) : Dt := .rows 111 15 l.length (fun i j => itCell (l[i]?.getD it0) j)
def lsCell (e : LsD) : Nat → Dt
  | 0 => .int e.cl
  | 1 => .int e.rq
  | 2 => .int e.rp.code
  | 3 => .int e.rp.h.sh
  | 4 => .int e.rp.h.ino
  | 5 => .bool e.rp.h.dir
  | 6 => .int e.rp.val
  | _ => (ensDt e.rp.list)
def lssDt (l : List LsD) : Dt := .rows 118 8 l.length (fun i j => lsCell (l[i]?.getD ls0) j)
def shCell (e : ShD) : Nat → Dt
  | 0 => .int e.id
  | 1 => .int e.boot
  | 2 => .int e.next
  | 3 => (ndsDt e.nds)
  | 4 => (itsDt e.its)
  | 5 => (vdsDt e.dec)
  | 6 => (txsDt e.don)
  | _ => (lssDt e.las)
def shsDt (l : List ShD) : Dt := .rows 49 8 l.length (fun i j => shCell (l[i]?.getD sh0) j)
abbrev itV (e : ItD) (x : Value) : Value := .agg #[.int .i64 e.tx.1, .int .i64 e.tx.2.1, .int .i64 e.tx.2.2, .int .i64 e.pt.kind, .int .i64 e.pt.h.sh, .int .i64 e.pt.h.ino, .bool e.pt.h.dir, x, .int .i64 e.pt.to.sh, .int .i64 e.pt.to.ino, .bool e.pt.to.dir, .int .i64 e.code, .int .i64 e.fr.sh, .int .i64 e.fr.ino, .bool e.fr.dir]
abbrev vdV (e : VdD) : Value := .agg #[.int .i64 e.tx.1, .int .i64 e.tx.2.1, .int .i64 e.tx.2.2, .bool e.ok]
abbrev lsV (e : LsD) (x : Value) : Value := .agg #[.int .i64 e.cl, .int .i64 e.rq, .int .i64 e.rp.code, .int .i64 e.rp.h.sh, .int .i64 e.rp.h.ino, .bool e.rp.h.dir, .int .i64 e.rp.val, x]
abbrev shV (e : ShD) (x y z u v : Value) : Value := .agg #[.int .i64 e.id, .int .i64 e.boot, .int .i64 e.next, x, y, z, u, v]
def szTxs (l : List TxD) : Nat := l.length
def szVds (l : List VdD) : Nat := l.length
def szIts (l : List ItD) : Nat := l.length + (l.map (fun e => e.pt.asn.length)).sum
def szLss (l : List LsD) : Nat := l.length + (l.map (fun e => szEns e.rp.list)).sum
def szSh (e : ShD) : Nat := szNds e.nds + (szIts e.its + (szVds e.dec + (szTxs e.don + szLss e.las)))
def szShs (l : List ShD) : Nat := l.length + (l.map (fun e => szSh e)).sum
theorem szIts_at (l : List ItD) (i : Nat) : (l[i]?.getD it0).pt.asn.length ≤ szIts l := by
  cases h : l[i]? with
  | none => simp [it0, pt0]
  | some a => have := sum_at (fun e : ItD => e.pt.asn.length) l i a h; simp [szIts]; omega
theorem szLss_at (l : List LsD) (i : Nat) : szEns (l[i]?.getD ls0).rp.list ≤ szLss l := by
  cases h : l[i]? with
  | none => simp [ls0, rp0, szEns]
  | some a => have := sum_at (fun e : LsD => szEns e.rp.list) l i a h; simp [szLss]; omega
theorem szShs_at (l : List ShD) (i : Nat) : szSh (l[i]?.getD sh0) ≤ szShs l := by
  cases h : l[i]? with
  | none => simp [sh0, szSh, szNds, szIts, szVds, szTxs, szLss]
  | some a => have := sum_at (fun e : ShD => szSh e) l i a h; simp [szShs]; omega
theorem VarA.k8 {w : World} {b : Nat} {T : TypeId} {x0 x1 x2 x3 x4 x5 x6 x7 : Value} (h : VarA w b T #[x0, x1, x2, x3, x4, x5, x6, x7]) : w.cell? ⟨b, 0, none⟩ = some x0 ∧ w.cell? ⟨b, 1, none⟩ = some x1 ∧ w.cell? ⟨b, 2, none⟩ = some x2 ∧ w.cell? ⟨b, 3, none⟩ = some x3 ∧ w.cell? ⟨b, 4, none⟩ = some x4 ∧ w.cell? ⟨b, 5, none⟩ = some x5 ∧ w.cell? ⟨b, 6, none⟩ = some x6 ∧ w.cell? ⟨b, 7, none⟩ = some x7 := ⟨h.c 0 rfl, h.c 1 rfl, h.c 2 rfl, h.c 3 rfl, h.c 4 rfl, h.c 5 rfl, h.c 6 rfl, h.c 7 rfl⟩
theorem VarA.k15 {w : World} {b : Nat} {T : TypeId} {x0 x1 x2 x3 x4 x5 x6 x7 x8 x9 x10 x11 x12 x13 x14 : Value} (h : VarA w b T #[x0, x1, x2, x3, x4, x5, x6, x7, x8, x9, x10, x11, x12, x13, x14]) : w.cell? ⟨b, 0, none⟩ = some x0 ∧ w.cell? ⟨b, 1, none⟩ = some x1 ∧ w.cell? ⟨b, 2, none⟩ = some x2 ∧ w.cell? ⟨b, 3, none⟩ = some x3 ∧ w.cell? ⟨b, 4, none⟩ = some x4 ∧ w.cell? ⟨b, 5, none⟩ = some x5 ∧ w.cell? ⟨b, 6, none⟩ = some x6 ∧ w.cell? ⟨b, 7, none⟩ = some x7 ∧ w.cell? ⟨b, 8, none⟩ = some x8 ∧ w.cell? ⟨b, 9, none⟩ = some x9 ∧ w.cell? ⟨b, 10, none⟩ = some x10 ∧ w.cell? ⟨b, 11, none⟩ = some x11 ∧ w.cell? ⟨b, 12, none⟩ = some x12 ∧ w.cell? ⟨b, 13, none⟩ = some x13 ∧ w.cell? ⟨b, 14, none⟩ = some x14 := ⟨h.c 0 rfl, h.c 1 rfl, h.c 2 rfl, h.c 3 rfl, h.c 4 rfl, h.c 5 rfl, h.c 6 rfl, h.c 7 rfl, h.c 8 rfl, h.c 9 rfl, h.c 10 rfl, h.c 11 rfl, h.c 12 rfl, h.c 13 rfl, h.c 14 rfl⟩
end
section
theorem toByteS_d (v : Value) (zs : List Int) (S : Nat → Prop) (w : World) (r : RdV w S v (.bytes zs)) (hl : zs.length ≤ 2097152) :
    Calls Tryz.prog 127 #[v] w fun e w' => ∃ a n c, e = .returned (.slice a n c) ∧ OwV w' (fun b => w.heap.size ≤ b ∧ b < w'.heap.size) (.slice a n c) (.bytes zs) ∧ Below w.heap.size w w' := by
  obtain ⟨a, cap, rfl, hh, hr⟩ := r.b.reads
  refine (toByteS_v a zs zs.length cap w hr rfl hl).mono ?_
  rintro e w' ⟨u, rfl, ho, hb⟩
  obtain ⟨a', c', rfl, _, _⟩ := ho.shape
  exact ⟨_, _, _, rfl, OwV.ofOwns hr.1 ho, hb⟩

set_option maxHeartbeats 1000000 in
theorem toEntry_any (x : Value) (e : En) (S : Nat → Prop) (w : World) (r : RdV w S x (.bytes e.nm)) (hl : e.nm.length ≤ 2097152) :
    Calls Tryz.prog 126 #[enV x e.h] w fun q w' => ∃ a n c, q = .returned (enV (.slice a n c) e.h) ∧ OwV w' (fun b => w.heap.size ≤ b ∧ b < w'.heap.size) (.slice a n c) (.bytes e.nm) ∧ Below w.heap.size w w' := by
  obtain ⟨a, cap, rfl⟩ := r.sliceB
  obtain ⟨nm, ⟨p, q, d⟩⟩ := e
  have HR : Hid (∀ W, Below w.heap.size w W → _) := r.old
  have HH : Hid (∀ W, _) := fun W => toHandle_any (p, q, d) W
  have HL : Hid (nm.length ≤ 2097152) := hl
  clear r hl
  dsimp only at HR ⊢
  generalize nm.length = n0 at HR
  go_enter Tryz.func126, Tryz.ntmps126
  go_wp2_with fail
  refine Calls.mono (toByteS_d _ nm S _ (HR.out _ ?_) HL.out) ?_
  · exact ((((Below.refl _ _).alloc (Nat.le_refl _) _).alloc (by simp) _).alloc (by simp; omega) _)
  rintro e w2 ⟨ua, un, uc, rfl, o_, b_⟩
  have hs2 := b_.size
  simp at hs2
  have vA : VarA w2 w.heap.size 190 #[.slice a n0 cap, .int .i64 p, .int .i64 q, .bool d] := VarA.step (((VarA.new w _ _).alloc _).alloc _) b_
  have vR : VarA w2 (w.heap.size + 1) 83 #[.slice none 0 0, .int .i64 0, .int .i64 0, .bool false] := by
    have := VarA.step ((VarA.new (w.alloc _) _ _).alloc _) b_
    simpa using this
  have vO : VarA w2 (w.heap.size + 1 + 1) 83 #[.slice none 0 0, .int .i64 0, .int .i64 0, .bool false] := by
    have := VarA.step (VarA.new ((w.alloc _).alloc _) _ _) b_
    simpa using this
  have HB : Hid (Below w.heap.size w w2) := ((((Below.refl _ _).alloc (Nat.le_refl _) _).alloc (by simp) _).alloc (by simp; omega) _).trans (b_.mono (by simp; omega))
  have HT : Hid (Turned (fun b => w.heap.size ≤ b ∧ b < w.heap.size + 3) w2 w2) := Turned.refl _ _
  have hz : w.heap.size + 3 ≤ w2.heap.size := by omega
  have HO0 : Hid (OwV w2 (fun b => w.heap.size + 3 ≤ b ∧ b < w2.heap.size) (.slice ua un uc) (.bytes nm)) := o_.mono (fun b h => by simpa [Nat.add_assoc] using h)
  clear hs2 b_ o_
  obtain ⟨a0_, a1_, a2_, a3_⟩ := vA.l4
  obtain ⟨o0_, o1_, o2_, o3_⟩ := vO.l4
  have fo_ := vO.fz
  go_wp2_with fail
  refine Calls.mono (HH.out _) ?_
  rintro e w3 ⟨rfl, b_⟩
  clear a0_ a1_ a2_ a3_ o0_ o1_ o2_ o3_ fo_
  have vA_ := (vA |>.aside (p := ⟨w.heap.size + 1 + 1, 0, none⟩) (by dsimp only; omega) _).step b_
  have vR_ := (vR |>.aside (p := ⟨w.heap.size + 1 + 1, 0, none⟩) (by dsimp only; omega) _).step b_
  have vO_ : VarA w3 (w.heap.size + 1 + 1) 83 #[.slice ua un uc, .int .i64 0, .int .i64 0, .bool false] := (vO |>.set 0 _).step b_
  have t_ : Turned (fun b => w.heap.size ≤ b ∧ b < w.heap.size + 3) w2 w3 := (HT.out |>.set _ _ (by simp <;> omega)).andThen b_
  have HB_ : Hid (Below w.heap.size w w3) := Turned.below HB.out t_ HB.out.size (fun i hi => hi.1)
  have zs_ := t_.size
  have HO0_ : Hid (OwV w3 (fun b => _ ∧ b < _) (.slice ua un uc) (.bytes nm)) := HO0.out.keep (t_.keeps (fun b hb hs => by omega))
  clear vA vR vO HT HB b_ t_ HO0
  have HT : Hid (Turned (fun b => w.heap.size ≤ b ∧ b < w.heap.size + 3) w3 w3) := Turned.refl _ _
  have vA := vA_
  have vR := vR_
  have vO := vO_
  have HB := HB_
  have HO0 := HO0_
  clear vA_ vR_ vO_ HB_ HO0_
  obtain ⟨a0_, a1_, a2_, a3_⟩ := vA.l4
  obtain ⟨o0_, o1_, o2_, o3_⟩ := vO.l4
  have fo_ := vO.fz
  obtain ⟨r0_, r1_, r2_, r3_⟩ := vR.l4
  have fr_ := vR.fz
  clear vA vR vO
  go_wp2
  refine bodyPost_ret (v := .agg #[.slice ua un uc, .int .i64 p, .int .i64 q, .bool d]) (by simp [results, Tryz.results126, go_sem, r0_, r1_, r2_, r3_]) rfl ?_
  exact ⟨_, _, _, rfl, OwV.close HB.out (HO0.out.mono (fun b h => ⟨h.1, by omega⟩)) (by omega) (HT.out |>.set _ _ (by simp <;> omega) |>.set _ _ (by simp <;> omega) |>.set _ _ (by simp <;> omega) |>.set _ _ (by simp <;> omega) |>.set _ _ (by simp <;> omega) |>.set _ _ (by simp <;> omega) |>.set _ _ (by simp <;> omega))⟩
theorem Tryz.infoEn : (Tryz.prog.info? 83).map (fun i => (i.zero, i.size, i.bytes)) = some (some (.agg #[.slice none 0 0, .int .i64 0, .int .i64 0, .bool false]), 4, 48) := by kernel_rfl
/-- The first k of n are copied. -/
def PrtEn (l : List En) (B n k : Nat) (w : World) : Prop := OwV w (fun b => B ≤ b ∧ b < w.heap.size) (.slice (some ⟨B, 0, none⟩) n n) (.rows 83 4 n (fun i j => if i < k then enCell (l[i]?.getD en0) j else enCell en0 j))
theorem PrtEn.next {l : List En} {B n k : Nat} {w w2 : World} {u : Value} {e : En} (h : PrtEn l B n k w) (hk : k < n) (hB : B ≤ w.heap.size) (hb : Below w.heap.size w w2) (he : l[k]?.getD en0 = e)
    (o : OwV w2 (fun b => w.heap.size ≤ b ∧ b < w2.heap.size) u (.bytes e.nm)) : PrtEn l B n (k + 1) ((((w2.setCell ⟨B, k * 4, none⟩ u).setCell ⟨B, k * 4 + 1, none⟩ (.int .i64 e.h.sh)).setCell ⟨B, k * 4 + 2, none⟩ (.int .i64 e.h.ino)).setCell ⟨B, k * 4 + 3, none⟩ (.bool e.h.dir)) := by
  have hs := hb.size
  have h2 := OwV.step h hb
  have p0 := OwV.put h2 hk (j := 0) (by omega) o (fun b hb hs => by omega)
  have p1 := OwV.put0 p0 hk (j := 1) (by omega) (u := .int .i64 e.h.sh) (d := .int e.h.sh) rfl
  have p2 := OwV.put0 p1 hk (j := 2) (by omega) (u := .int .i64 e.h.ino) (d := .int e.h.ino) rfl
  have p3 := OwV.put0 p2 hk (j := 3) (by omega) (u := .bool e.h.dir) (d := .bool e.h.dir) rfl
  refine OwV.mono (fun b hb => ?_) (OwV.congr p3 (fun i j hi hj => ?_))
  · have hz : ((((w2.setCell ⟨B, k * 4, none⟩ u).setCell ⟨B, k * 4 + 1, none⟩ (.int .i64 e.h.sh)).setCell ⟨B, k * 4 + 2, none⟩ (.int .i64 e.h.ino)).setCell ⟨B, k * 4 + 3, none⟩ (.bool e.h.dir)).heap.size = w2.heap.size := by simp
    show B ≤ b ∧ b < ((((w2.setCell ⟨B, k * 4, none⟩ u).setCell ⟨B, k * 4 + 1, none⟩ (.int .i64 e.h.sh)).setCell ⟨B, k * 4 + 2, none⟩ (.int .i64 e.h.ino)).setCell ⟨B, k * 4 + 3, none⟩ (.bool e.h.dir)).heap.size
    rw [hz]
    rcases hb with hb | hb <;> omega
  · by_cases hik : i = k
    · subst hik
      rw [if_pos (by omega), he]
      match j, hj with
      | 0, _ => simp [upd]; rfl
      | 1, _ => simp [upd]; rfl
      | 2, _ => simp [upd]; rfl
      | 3, _ => simp [upd]; rfl
    · have e1 : (i < k + 1) = (i < k) := by simp; omega
      simp only [upd, hik, false_and, if_false, e1]

set_option maxHeartbeats 2000000 in
theorem toEntryS_any (v : Value) (l : List En) (S : Nat → Prop) (w : World) (r : RdV w S v (ensDt l)) (hl : szEns l ≤ 2097152) :
    Calls Tryz.prog 109 #[v] w fun e w' => ∃ a n c, e = .returned (.slice a n c) ∧ OwV w' (fun b => w.heap.size ≤ b ∧ b < w'.heap.size) (.slice a n c) (ensDt l) ∧ Below w.heap.size w w' := by
  obtain ⟨a, cap, rfl, _⟩ := RdV.sliced r
  have HR : Hid (∀ W, Below w.heap.size w W → RdV W S (.slice a l.length cap) (ensDt l)) := r.old
  have HD : Hid (ensDt l = .rows 83 4 l.length (fun i j => enCell (l[i]?.getD en0) j)) := rfl
  have hnn : l.length ≤ 2097152 := by unfold szEns at hl; omega
  have HL : Hid _ := hl
  clear r hl
  rw [HD.out] at HR ⊢
  clear HD
  generalize l.length = n at hnn HR ⊢
  obtain ⟨i0, hi, hz0, hz1, hz2⟩ := info_parts Tryz.infoEn
  go_enter Tryz.func109, Tryz.ntmps109
  go_wp2_with (at_make; refine wpList_make_full _ rfl _ _ 52 rfl w.heap.size 83 i0 (.agg #[.slice none 0 0, .int .i64 0, .int .i64 0, .bool false]) 4 Tryz.underlying52 hi hz0 hz1 .i64 .i64 _ _ n rfl rfl rfl rfl (by rw [hz2]; omega) (by unfold maxLen; omega) (Nat.le_refl _) ?_; intro w1 hown hgrow)
  have hb1 : Below w.heap.size w w1 := (Below.refl _ _).grown hgrow (Nat.le_refl _) (fun k h => by cases h)
  have HP : Hid (PrtEn l w.heap.size n 0 w1) := (OwV.made rfl hown (fun j => enCell en0 j) (fun j hj => by
    match j, hj with
    | 0, _ => exact OwV.nilB _ _
    | 1, _ => rfl
    | 2, _ => rfl
    | 3, _ => rfl
    )).congr (fun i j _ _ => by simp)
  clear hgrow hown
  go_loopw [4] (fun i wr => ∃ k : Nat, k ≤ n ∧ i = .int .i64 k ∧ Hid (PrtEn l w.heap.size n k wr) ∧ Below w.heap.size w wr) (fun i _ => n - (intOf i).toNat)
  case atStart => exact ⟨0, Nat.zero_le _, rfl, HP, hb1⟩
  case round =>
    clear HP hb1
    obtain ⟨k, hk, rfl, HP, hbel⟩ := hrel
    by_cases hlt : k < n
    · obtain ⟨b, off, rfl, hbl, _, hx⟩ := RdV.at (HR.out wr hbel) hlt
      obtain ⟨e, he⟩ : ∃ e, l[k]?.getD en0 = e := ⟨_, rfl⟩
      obtain ⟨x0, c0, r0⟩ := hx 0 (by omega)
      obtain ⟨x1, c1, r1⟩ := hx 1 (by omega)
      obtain ⟨x2, c2, r2⟩ := hx 2 (by omega)
      obtain ⟨x3, c3, r3⟩ := hx 3 (by omega)
      rw [he] at r0 r1 r2 r3
      have HE : Hid _ := he
      have HZ : Hid (e.nm.length ≤ 2097152) := by have h1 := szEns_at l k; rw [he] at h1; have h2 := HL.out; show _ ≤ _; omega
      clear hx he
      obtain ⟨nm, ⟨p, q, d⟩⟩ := e
      obtain rfl : x1 = .int .i64 p := r1
      obtain rfl : x2 = .int .i64 q := r2
      obtain rfl : x3 = .bool d := r3
      simp only [Nat.add_zero] at c0
      have RS : Hid (RdV wr S x0 (.bytes nm)) := r0
      clear r0
      obtain ⟨xa, xc, rfl⟩ := RdV.sliceB RS.out
      generalize nm.length = xn at RS c0
      go_wp2_with fail
      refine Calls.mono (toEntry_any _ ⟨nm, p, q, d⟩ S wr RS.out HZ.out) ?_
      rintro e w2 ⟨ua, un, uc, rfl, o2, b2⟩
      have hsz := hbel.size
      have HN : Hid _ := PrtEn.next HP.out hlt hbel.size b2 HE.out o2
      obtain ⟨hbad, _⟩ | ⟨g, cp, hg, _, hgl, hfz, hcs⟩ := OwV.head (OwV.step HP.out b2)
      · cases hbad
      simp only [Value.slice.injEq, Option.some.injEq, Addr.mk.injEq, and_true, true_and] at hg
      obtain ⟨rfl, rfl⟩ := hg
      obtain ⟨y0, k0⟩ := hcs (k * 4) (by omega)
      obtain ⟨y1, k1⟩ := hcs (k * 4 + 1) (by omega)
      obtain ⟨y2, k2⟩ := hcs (k * 4 + 2) (by omega)
      obtain ⟨y3, k3⟩ := hcs (k * 4 + 3) (by omega)
      have hbe2 := hbel.trans (b2.mono hbel.size)
      clear HP o2 RS hcs b2
      go_wp2
      go_roundw
      case rel => exact ⟨k + 1, by omega, by go_num, HN.out, ((((hbe2.setCell (Nat.le_refl _) _).setCell (Nat.le_refl _) _).setCell (Nat.le_refl _) _).setCell (Nat.le_refl _) _)⟩
      case measure => simp [intOf]; omega
    · have hkn : k = n := by omega
      subst hkn
      go_wp2
      go_ret
      exact ⟨_, _, _, rfl, OwV.congr HP.out (fun i j hi hj => by rw [if_pos hi]), hbel⟩
end
section
theorem toTx_any (t : TxD) (w : World) : Calls Tryz.prog 78 #[txV t] w fun e w' => e = .returned (txV t) ∧ Below w.heap.size w w' := by
  obtain ⟨s, i, d⟩ := t
  go_enter Tryz.func78, Tryz.ntmps78
  go_wp2
  refine bodyPost_ret (v := .agg #[.int .i64 s, .int .i64 i, .int .i64 d]) (by simp [results, Tryz.results78, go_sem]) rfl ⟨rfl, ?_⟩
  exact ((((Below.refl _ _).alloc (Nat.le_refl _) _).alloc (by simp) _).alloc (by simp; omega) _)

set_option maxHeartbeats 2000000 in
theorem toPart_any (x : Value) (o : PtD) (S : Nat → Prop) (w : World) (r : RdV w S x (.bytes o.asn)) (hl : o.asn.length ≤ 2097152) :
    Calls Tryz.prog 110 #[ptV o x] w fun q w' => ∃ a n c, q = .returned (ptV o (.slice a n c)) ∧ OwV w' (fun b => w.heap.size ≤ b ∧ b < w'.heap.size) (.slice a n c) (.bytes o.asn) ∧ Below w.heap.size w w' := by
  obtain ⟨a, cap, rfl⟩ := r.sliceB
  obtain ⟨kd, ⟨p, q, d⟩, nm, ⟨p2, q2, d2⟩⟩ := o
  have HR : Hid (∀ W, Below w.heap.size w W → _) := r.old
  have HH : Hid (∀ W, _) := fun W => toHandle_any (p, q, d) W
  have HH2 : Hid (∀ W, _) := fun W => toHandle_any (p2, q2, d2) W
  have HL : Hid (nm.length ≤ 2097152) := hl
  clear r hl
  dsimp only at HR ⊢
  generalize nm.length = n0 at HR
  go_enter Tryz.func110, Tryz.ntmps110
  go_wp2_with fail
  refine Calls.mono (HH.out _) ?_
  rintro e w2 ⟨rfl, b_⟩
  have hs2 := b_.size
  simp at hs2
  have vA : VarA w2 w.heap.size 127 #[.int .i64 kd, .int .i64 p, .int .i64 q, .bool d, .slice a n0 cap, .int .i64 p2, .int .i64 q2, .bool d2] := VarA.step (((VarA.new w _ _).alloc _).alloc _) b_
  have vR : VarA w2 (w.heap.size + 1) 109 #[.int .i64 0, .int .i64 0, .int .i64 0, .bool false, .slice none 0 0, .int .i64 0, .int .i64 0, .bool false] := by
    have := VarA.step ((VarA.new (w.alloc _) _ _).alloc _) b_
    simpa using this
  have vO : VarA w2 (w.heap.size + 1 + 1) 109 #[.int .i64 kd, .int .i64 0, .int .i64 0, .bool false, .slice none 0 0, .int .i64 0, .int .i64 0, .bool false] := by
    have := VarA.step (VarA.new ((w.alloc _).alloc _) _ _) b_
    simpa using this
  have HB : Hid (Below w.heap.size w w2) := ((((Below.refl _ _).alloc (Nat.le_refl _) _).alloc (by simp) _).alloc (by simp; omega) _).trans (b_.mono (by simp; omega))
  have HT : Hid (Turned (fun b => w.heap.size ≤ b ∧ b < w.heap.size + 3) w2 w2) := Turned.refl _ _
  have hz : w.heap.size + 3 ≤ w2.heap.size := by omega
  clear hs2 b_
  obtain ⟨a0_, a1_, a2_, a3_, a4_, a5_, a6_, a7_⟩ := vA.l8
  obtain ⟨o0_, o1_, o2_, o3_, o4_, o5_, o6_, o7_⟩ := vO.l8
  have fo_ := vO.fz
  go_wp2_with fail
  refine Calls.mono (toByteS_d _ nm S _ (HR.out _ (Turned.below HB.out (HT.out |>.set _ _ (by simp <;> omega) |>.set _ _ (by simp <;> omega) |>.set _ _ (by simp <;> omega)) HB.out.size (fun i hi => hi.1))) HL.out) ?_
  rintro e w3 ⟨ua, un, uc, rfl, o_, b_⟩
  clear a0_ a1_ a2_ a3_ a4_ a5_ a6_ a7_ o0_ o1_ o2_ o3_ o4_ o5_ o6_ o7_ fo_
  have vA_ := (vA |>.aside (p := ⟨w.heap.size + 1 + 1, 1, none⟩) (by dsimp only; omega) _ |>.aside (p := ⟨w.heap.size + 1 + 1, 2, none⟩) (by dsimp only; omega) _ |>.aside (p := ⟨w.heap.size + 1 + 1, 3, none⟩) (by dsimp only; omega) _).step b_
  have vR_ := (vR |>.aside (p := ⟨w.heap.size + 1 + 1, 1, none⟩) (by dsimp only; omega) _ |>.aside (p := ⟨w.heap.size + 1 + 1, 2, none⟩) (by dsimp only; omega) _ |>.aside (p := ⟨w.heap.size + 1 + 1, 3, none⟩) (by dsimp only; omega) _).step b_
  have vO_ : VarA w3 (w.heap.size + 1 + 1) 109 #[.int .i64 kd, .int .i64 p, .int .i64 q, .bool d, .slice none 0 0, .int .i64 0, .int .i64 0, .bool false] := (vO |>.set 1 _ |>.set 2 _ |>.set 3 _).step b_
  have t_ : Turned (fun b => w.heap.size ≤ b ∧ b < w.heap.size + 3) w2 w3 := (HT.out |>.set _ _ (by simp <;> omega) |>.set _ _ (by simp <;> omega) |>.set _ _ (by simp <;> omega)).andThen b_
  have HB_ : Hid (Below w.heap.size w w3) := Turned.below HB.out t_ HB.out.size (fun i hi => hi.1)
  have zs_ := t_.size
  have HO0 : Hid (OwV w3 (fun b => w2.heap.size ≤ b ∧ b < w3.heap.size) (.slice ua un uc) (.bytes nm)) := o_.mono (fun b h => by simpa using h)
  clear vA vR vO HT HB b_ t_ o_
  have HT : Hid (Turned (fun b => w.heap.size ≤ b ∧ b < w.heap.size + 3) w3 w3) := Turned.refl _ _
  have vA := vA_
  have vR := vR_
  have vO := vO_
  have HB := HB_
  clear vA_ vR_ vO_ HB_
  obtain ⟨a0_, a1_, a2_, a3_, a4_, a5_, a6_, a7_⟩ := vA.l8
  obtain ⟨o0_, o1_, o2_, o3_, o4_, o5_, o6_, o7_⟩ := vO.l8
  have fo_ := vO.fz
  go_wp2_with fail
  refine Calls.mono (HH2.out _) ?_
  rintro e w4 ⟨rfl, b_⟩
  clear a0_ a1_ a2_ a3_ a4_ a5_ a6_ a7_ o0_ o1_ o2_ o3_ o4_ o5_ o6_ o7_ fo_
  have vA_ := (vA |>.aside (p := ⟨w.heap.size + 1 + 1, 4, none⟩) (by dsimp only; omega) _).step b_
  have vR_ := (vR |>.aside (p := ⟨w.heap.size + 1 + 1, 4, none⟩) (by dsimp only; omega) _).step b_
  have vO_ : VarA w4 (w.heap.size + 1 + 1) 109 #[.int .i64 kd, .int .i64 p, .int .i64 q, .bool d, .slice ua un uc, .int .i64 0, .int .i64 0, .bool false] := (vO |>.set 4 _).step b_
  have t_ : Turned (fun b => w.heap.size ≤ b ∧ b < w.heap.size + 3) w3 w4 := (HT.out |>.set _ _ (by simp <;> omega)).andThen b_
  have HB_ : Hid (Below w.heap.size w w4) := Turned.below HB.out t_ HB.out.size (fun i hi => hi.1)
  have zs_ := t_.size
  have HO0_ : Hid (OwV w4 (fun b => _ ∧ b < _) (.slice ua un uc) (.bytes nm)) := HO0.out.keep (t_.keeps (fun b hb hs => by omega))
  clear vA vR vO HT HB b_ t_ HO0
  have HT : Hid (Turned (fun b => w.heap.size ≤ b ∧ b < w.heap.size + 3) w4 w4) := Turned.refl _ _
  have vA := vA_
  have vR := vR_
  have vO := vO_
  have HB := HB_
  have HO0 := HO0_
  clear vA_ vR_ vO_ HB_ HO0_
  obtain ⟨a0_, a1_, a2_, a3_, a4_, a5_, a6_, a7_⟩ := vA.l8
  obtain ⟨o0_, o1_, o2_, o3_, o4_, o5_, o6_, o7_⟩ := vO.l8
  have fo_ := vO.fz
  obtain ⟨r0_, r1_, r2_, r3_, r4_, r5_, r6_, r7_⟩ := vR.l8
  have fr_ := vR.fz
  clear vA vR vO
  go_wp2
  refine bodyPost_ret (v := .agg #[.int .i64 kd, .int .i64 p, .int .i64 q, .bool d, .slice ua un uc, .int .i64 p2, .int .i64 q2, .bool d2]) (by simp [results, Tryz.results110, go_sem, r0_, r1_, r2_, r3_, r4_, r5_, r6_, r7_]) rfl ?_
  exact ⟨_, _, _, rfl, OwV.close HB.out (HO0.out.mono (fun b h => (⟨by omega, by omega⟩ : w.heap.size + 3 ≤ b ∧ _))) (by omega) (HT.out |>.set _ _ (by simp <;> omega) |>.set _ _ (by simp <;> omega) |>.set _ _ (by simp <;> omega) |>.set _ _ (by simp <;> omega) |>.set _ _ (by simp <;> omega) |>.set _ _ (by simp <;> omega) |>.set _ _ (by simp <;> omega) |>.set _ _ (by simp <;> omega) |>.set _ _ (by simp <;> omega) |>.set _ _ (by simp <;> omega) |>.set _ _ (by simp <;> omega))⟩

set_option maxHeartbeats 2000000 in
theorem toReply_any (x : Value) (o : RpD) (S : Nat → Prop) (w : World) (r : RdV w S x (ensDt o.list)) (hl : szEns o.list ≤ 2097152) :
    Calls Tryz.prog 111 #[rpV o x] w fun q w' => ∃ a n c, q = .returned (rpV o (.slice a n c)) ∧ OwV w' (fun b => w.heap.size ≤ b ∧ b < w'.heap.size) (.slice a n c) (ensDt o.list) ∧ Below w.heap.size w w' := by
  obtain ⟨a, cap, rfl, _⟩ := RdV.sliced r
  obtain ⟨kd, ⟨p, q, d⟩, vl, es⟩ := o
  have HR : Hid (∀ W, Below w.heap.size w W → _) := r.old
  have HH : Hid (∀ W, _) := fun W => toHandle_any (p, q, d) W
  have HL : Hid (szEns es ≤ 2097152) := hl
  clear r hl
  dsimp only at HR ⊢
  generalize es.length = n0 at HR
  go_enter Tryz.func111, Tryz.ntmps111
  go_wp2_with fail
  refine Calls.mono (HH.out _) ?_
  rintro e w2 ⟨rfl, b_⟩
  have hs2 := b_.size
  simp at hs2
  have vA : VarA w2 w.heap.size 132 #[.int .i64 kd, .int .i64 p, .int .i64 q, .bool d, .int .i64 vl, .slice a n0 cap] := VarA.step (((VarA.new w _ _).alloc _).alloc _) b_
  have vR : VarA w2 (w.heap.size + 1) 116 #[.int .i64 0, .int .i64 0, .int .i64 0, .bool false, .int .i64 0, .slice none 0 0] := by
    have := VarA.step ((VarA.new (w.alloc _) _ _).alloc _) b_
    simpa using this
  have vO : VarA w2 (w.heap.size + 1 + 1) 116 #[.int .i64 kd, .int .i64 0, .int .i64 0, .bool false, .int .i64 0, .slice none 0 0] := by
    have := VarA.step (VarA.new ((w.alloc _).alloc _) _ _) b_
    simpa using this
  have HB : Hid (Below w.heap.size w w2) := ((((Below.refl _ _).alloc (Nat.le_refl _) _).alloc (by simp) _).alloc (by simp; omega) _).trans (b_.mono (by simp; omega))
  have HT : Hid (Turned (fun b => w.heap.size ≤ b ∧ b < w.heap.size + 3) w2 w2) := Turned.refl _ _
  have hz : w.heap.size + 3 ≤ w2.heap.size := by omega
  clear hs2 b_
  obtain ⟨a0_, a1_, a2_, a3_, a4_, a5_⟩ := vA.l6
  obtain ⟨o0_, o1_, o2_, o3_, o4_, o5_⟩ := vO.l6
  have fo_ := vO.fz
  go_wp2_with fail
  refine Calls.mono (toEntryS_any _ es S _ (HR.out _ (Turned.below HB.out (HT.out |>.set _ _ (by simp <;> omega) |>.set _ _ (by simp <;> omega) |>.set _ _ (by simp <;> omega) |>.set _ _ (by simp <;> omega)) HB.out.size (fun i hi => hi.1))) HL.out) ?_
  rintro e w3 ⟨ua, un, uc, rfl, o_, b_⟩
  clear a0_ a1_ a2_ a3_ a4_ a5_ o0_ o1_ o2_ o3_ o4_ o5_ fo_
  have vA_ := (vA |>.aside (p := ⟨w.heap.size + 1 + 1, 1, none⟩) (by dsimp only; omega) _ |>.aside (p := ⟨w.heap.size + 1 + 1, 2, none⟩) (by dsimp only; omega) _ |>.aside (p := ⟨w.heap.size + 1 + 1, 3, none⟩) (by dsimp only; omega) _ |>.aside (p := ⟨w.heap.size + 1 + 1, 4, none⟩) (by dsimp only; omega) _).step b_
  have vR_ := (vR |>.aside (p := ⟨w.heap.size + 1 + 1, 1, none⟩) (by dsimp only; omega) _ |>.aside (p := ⟨w.heap.size + 1 + 1, 2, none⟩) (by dsimp only; omega) _ |>.aside (p := ⟨w.heap.size + 1 + 1, 3, none⟩) (by dsimp only; omega) _ |>.aside (p := ⟨w.heap.size + 1 + 1, 4, none⟩) (by dsimp only; omega) _).step b_
  have vO_ : VarA w3 (w.heap.size + 1 + 1) 116 #[.int .i64 kd, .int .i64 p, .int .i64 q, .bool d, .int .i64 vl, .slice none 0 0] := (vO |>.set 1 _ |>.set 2 _ |>.set 3 _ |>.set 4 _).step b_
  have t_ : Turned (fun b => w.heap.size ≤ b ∧ b < w.heap.size + 3) w2 w3 := (HT.out |>.set _ _ (by simp <;> omega) |>.set _ _ (by simp <;> omega) |>.set _ _ (by simp <;> omega) |>.set _ _ (by simp <;> omega)).andThen b_
  have HB_ : Hid (Below w.heap.size w w3) := Turned.below HB.out t_ HB.out.size (fun i hi => hi.1)
  have zs_ := t_.size
  have HO0 : Hid (OwV w3 (fun b => w2.heap.size ≤ b ∧ b < w3.heap.size) (.slice ua un uc) (ensDt es)) := o_.mono (fun b h => by simpa using h)
  clear vA vR vO HT HB b_ t_ o_
  have HT : Hid (Turned (fun b => w.heap.size ≤ b ∧ b < w.heap.size + 3) w3 w3) := Turned.refl _ _
  have vA := vA_
  have vR := vR_
  have vO := vO_
  have HB := HB_
  clear vA_ vR_ vO_ HB_
  obtain ⟨a0_, a1_, a2_, a3_, a4_, a5_⟩ := vA.l6
  obtain ⟨o0_, o1_, o2_, o3_, o4_, o5_⟩ := vO.l6
  have fo_ := vO.fz
  obtain ⟨r0_, r1_, r2_, r3_, r4_, r5_⟩ := vR.l6
  have fr_ := vR.fz
  clear vA vR vO
  go_wp2
  refine bodyPost_ret (v := .agg #[.int .i64 kd, .int .i64 p, .int .i64 q, .bool d, .int .i64 vl, .slice ua un uc]) (by simp [results, Tryz.results111, go_sem, r0_, r1_, r2_, r3_, r4_, r5_]) rfl ?_
  exact ⟨_, _, _, rfl, OwV.close HB.out (HO0.out.mono (fun b h => (⟨by omega, by omega⟩ : w.heap.size + 3 ≤ b ∧ _))) (by omega) (HT.out |>.set _ _ (by simp <;> omega) |>.set _ _ (by simp <;> omega) |>.set _ _ (by simp <;> omega) |>.set _ _ (by simp <;> omega) |>.set _ _ (by simp <;> omega) |>.set _ _ (by simp <;> omega) |>.set _ _ (by simp <;> omega))⟩
end
section
theorem storeF_run {P : Program} {w : World} {g off : Nat} {T ty : TypeId} {old vs : Array Value} (hv : VarA w g T old) (hl : off + vs.size ≤ old.size) (hi : (P.info? ty).map (·.size) = some vs.size) (h1 : vs.toList.all (·.oneCell') = true) :
    (storeVar ty ⟨g, off, none⟩ (.agg vs)).run P w = .ok () (w.setRow g (old.toList.take off ++ vs.toList ++ old.toList.drop (off + vs.size)).toArray) := by
  have h := run_storeCells_at (P := P) g off T vs.toList 0 old w hv (by simpa using hl) (fun v hv => (List.all_eq_true.1 h1) v hv)
  cases hq : P.info? ty with
  | none => simp [hq] at hi
  | some i =>
    have hs : vs.size = i.size := by simp [hq] at hi; omega
    simp only [Nat.add_zero, Array.length_toList] at h
    simp [storeVar, sizeOf, typeInfo, hq, Value.cells, hs, h]
theorem VarA.row {w : World} {g : Nat} {T : TypeId} {old new : Array Value} (hv : VarA w g T old) : VarA (w.setRow g new) g T new := setRow_heap w g old new T _ hv
theorem turned_row (w : World) (g : Nat) (new : Array Value) : Turned (fun b => b = g) w (w.setRow g new) := ⟨rfl, rfl, rfl, by simp [World.setRow], fun k _ hk => setRow_other w g k new (fun e => hk e)⟩
/-- A struct stored into a variable, from the cell off on. -/
theorem wpList_storeF {ty t' : TypeId} {dst : Option Tmp} {x y : Operand} {pos : String} {af : Array Edge} {ops : Array Oper} {rest : List Oper} {a : Act} {Q : Exit → Act → World → Prop} {w : World} {g off : Nat} {T : TypeId} {old vs new : Array Value}
    (hv : VarA w g T old) (hx : a.eval x = .pointer (some ⟨g, off, none⟩)) (hy : a.eval y = .agg vs) (hi : (Tryz.prog.info? ty).map (·.size) = some vs.size) (h1 : vs.toList.all (·.oneCell') = true) (hl : off + vs.size ≤ old.size)
    (hnew : (old.toList.take off ++ vs.toList ++ old.toList.drop (off + vs.size)).toArray = new)
    (hK : ∀ w', VarA w' g T new → Turned (fun b => b = g) w w' → wpList Tryz.prog ops Q rest (a.put dst undef) w') :
    wpList Tryz.prog ops Q (⟨dst, .store ty x y, t', pos, af, none⟩ :: rest) a w := by
  refine wpList_plain rfl fun K' hK' => ?_
  unfold Oper.wp execOp
  simp only [hx, hy, Instr.storeAt, Instr.sureAddr, Sem.run_bind, Sem.run_pure, Result.andThen_ok, storeF_run hv hl hi h1]
  rw [hnew]
  exact hK' _ _ (hK _ (VarA.row hv) (turned_row w g new))
theorem guardStore {ty t' : TypeId} {dst : Option Tmp} {x y : Operand} {pos : String} {af : Array Edge} {ops : Array Oper} {rest : List Oper} {a : Act} {Q : Exit → Act → World → Prop} {w : World}
    (h : wpList Tryz.prog ops Q (⟨dst, .store ty x y, t', pos, af, none⟩ :: rest) a w) : wpList Tryz.prog ops Q (⟨dst, .store ty x y, t', pos, af, none⟩ :: rest) a w := h
theorem guardLoad {ty t' : TypeId} {dst : Option Tmp} {x : Operand} {pos : String} {af : Array Edge} {ops : Array Oper} {rest : List Oper} {a : Act} {Q : Exit → Act → World → Prop} {w : World}
    (h : wpList Tryz.prog ops Q (⟨dst, .load ty x, t', pos, af, none⟩ :: rest) a w) : wpList Tryz.prog ops Q (⟨dst, .load ty x, t', pos, af, none⟩ :: rest) a w := h
theorem rangeA {w : World} {g : Nat} {T : TypeId} {cs : Array Value} {off : Nat} {vs : List Value} (hv : VarA w g T cs) (hvs : (cs.toList.drop off).take vs.length = vs) : w.rangeAt g off vs := by
  intro j v hj
  rw [cell_of_row _ _ _ _ _ _ hv]
  rw [← hvs] at hj
  have hj' : j < vs.length := by
    rw [List.getElem?_take] at hj
    split at hj
    · assumption
    · cases hj
  rw [List.getElem?_take, if_pos hj', List.getElem?_drop] at hj
  simpa using hj
/-- A struct loaded out of a variable, from the cell off on. -/
theorem wpList_loadF {ty t' : TypeId} {dst : Option Tmp} {x : Operand} {pos : String} {af : Array Edge} {ops : Array Oper} {rest : List Oper} {a : Act} {Q : Exit → Act → World → Prop} {w : World} {g off : Nat} {T : TypeId} {cs : Array Value} {vs : List Value} {d : TypeDesc}
    (hv : VarA w g T cs) (hx : a.eval x = .pointer (some ⟨g, off, none⟩)) (hu : Tryz.prog.underlying ty = some d) (hd : d.isRow = true) (hi : (Tryz.prog.info? ty).map (·.size) = some vs.length)
    (hvs : (cs.toList.drop off).take vs.length = vs)
    (hK : wpList Tryz.prog ops Q rest (a.put dst (.agg vs.toArray)) w) :
    wpList Tryz.prog ops Q (⟨dst, .load ty x, t', pos, af, none⟩ :: rest) a w := by
  refine wpList_plain rfl fun K' hK' => ?_
  unfold Oper.wp execOp
  simp only [hx, Sem.run_bind, run_loadAt_mid w g off ty vs d (rangeA hv hvs) hu hd hi, Sem.run_pure, Result.andThen_ok]
  exact hK' _ _ hK
/-- The variable of a result, read at the end. -/
theorem loadA_run {w : World} {g : Nat} {T ty : TypeId} {cs : Array Value} {d : TypeDesc} (hv : VarA w g T cs) (hu : Tryz.prog.underlying ty = some d) (hd : d.isRow = true) (hi : (Tryz.prog.info? ty).map (·.size) = some cs.size) : (loadVar ty ⟨g, 0, none⟩).run Tryz.prog w = .ok (.agg cs) w := by
  have h := run_loadVar_mid (P := Tryz.prog) w g 0 ty cs.toList d (rangeA hv (by rw [List.drop_zero, List.take_length])) hu hd (by simpa using hi)
  simpa using h
/-- A whole variable loaded. -/
theorem wpList_loadA {ty t' : TypeId} {dst : Option Tmp} {x : Operand} {pos : String} {af : Array Edge} {ops : Array Oper} {rest : List Oper} {a : Act} {Q : Exit → Act → World → Prop} {w : World} {g : Nat} {T : TypeId} {cs : Array Value} {d : TypeDesc}
    (hv : VarA w g T cs) (hx : a.eval x = .pointer (some ⟨g, 0, none⟩)) (hu : Tryz.prog.underlying ty = some d) (hd : d.isRow = true) (hi : (Tryz.prog.info? ty).map (·.size) = some cs.size)
    (hK : wpList Tryz.prog ops Q rest (a.put dst (.agg cs)) w) :
    wpList Tryz.prog ops Q (⟨dst, .load ty x, t', pos, af, none⟩ :: rest) a w := by
  refine wpList_plain rfl fun K' hK' => ?_
  unfold Oper.wp execOp
  simp only [hx, Instr.loadAt, Instr.sureAddr, Sem.run_bind, Sem.run_pure, Result.andThen_ok, loadA_run hv hu hd hi]
  exact hK' _ _ hK
theorem Turned.one {S : Nat → Prop} {g : Nat} {w w' : World} (t : Turned (fun b => b = g) w w') (h : S g) : Turned S w w' := t.wide (fun k e => by subst e; exact h)
end
section
set_option maxHeartbeats 2000000 in
theorem toVerdict_any (e : VdD) (w : World) :
    Calls Tryz.prog 77 #[vdV e] w fun q w' => q = .returned (vdV e) ∧ Below w.heap.size w w' := by
  obtain ⟨⟨xs, xb, xn⟩, vo⟩ := e
  have HT_ : Hid (∀ W, _) := fun W => toTx_any (xs, xb, xn) W
  try dsimp only
  go_enter Tryz.func77, Tryz.ntmps77
  go_wp2_with fail
  refine Calls.mono (HT_.out _) ?_
  rintro e w2 ⟨rfl, b_⟩
  have hs2 := b_.size
  simp at hs2
  have vA : VarA w2 w.heap.size 142 #[.int .i64 xs, .int .i64 xb, .int .i64 xn, .bool vo] := VarA.step (((VarA.new w _ _).alloc _).alloc _) b_
  have vR : VarA w2 (w.heap.size + 1) 114 #[.int .i64 0, .int .i64 0, .int .i64 0, .bool false] := by
    have := VarA.step ((VarA.new (w.alloc _) _ _).alloc _) b_
    simpa using this
  have vO : VarA w2 (w.heap.size + 1 + 1) 114 #[.int .i64 0, .int .i64 0, .int .i64 0, .bool false] := by
    have := VarA.step (VarA.new ((w.alloc _).alloc _) _ _) b_
    simpa using this
  have HB : Hid (Below w.heap.size w w2) := ((((Below.refl _ _).alloc (Nat.le_refl _) _).alloc (by simp) _).alloc (by simp; omega) _).trans (b_.mono (by simp; omega))
  have HT : Hid (Turned (fun b => w.heap.size ≤ b ∧ b < w.heap.size + 3) w2 w2) := Turned.refl _ _
  have hz : w.heap.size + 3 ≤ w2.heap.size := by omega
  clear hs2 b_
  obtain ⟨a0_, a1_, a2_, a3_⟩ := vA.l4
  obtain ⟨o0_, o1_, o2_, o3_⟩ := vO.l4
  have fo_ := vO.fz
  obtain ⟨r0_, r1_, r2_, r3_⟩ := vR.l4
  have fr_ := vR.fz
  clear vA vR vO
  go_wp2
  refine bodyPost_ret (v := .agg #[.int .i64 xs, .int .i64 xb, .int .i64 xn, .bool vo]) (by simp [results, Tryz.results77, go_sem, r0_, r1_, r2_, r3_]) rfl ?_
  exact ⟨rfl, Turned.below HB.out (HT.out |>.set _ _ (by simp <;> omega) |>.set _ _ (by simp <;> omega) |>.set _ _ (by simp <;> omega) |>.set _ _ (by simp <;> omega) |>.set _ _ (by simp <;> omega) |>.set _ _ (by simp <;> omega) |>.set _ _ (by simp <;> omega) |>.set _ _ (by simp <;> omega)) HB.out.size (fun i hi => hi.1)⟩
theorem Tryz.infoVdS : (Tryz.prog.info? 114).map (fun i => (i.zero, i.size, i.bytes)) = some (some (.agg #[.int .i64 0, .int .i64 0, .int .i64 0, .bool false]), 4, 32) := by kernel_rfl
/-- The first k of n are copied. -/
def PrtVd (l : List VdD) (B n k : Nat) (w : World) : Prop := OwV w (fun b => B ≤ b ∧ b < w.heap.size) (.slice (some ⟨B, 0, none⟩) n n) (.rows 114 4 n (fun i j => if i < k then vdCell (l[i]?.getD vd0) j else vdCell vd0 j))
theorem PrtVd.next {l : List VdD} {B n k : Nat} {w w2 : World}  {e : VdD} (h : PrtVd l B n k w) (hk : k < n) (hB : B ≤ w.heap.size) (hb : Below w.heap.size w w2) (he : l[k]?.getD vd0 = e)
    : PrtVd l B n (k + 1) ((((w2.setCell ⟨B, k * 4, none⟩ (.int .i64 e.tx.1)).setCell ⟨B, k * 4 + 1, none⟩ (.int .i64 e.tx.2.1)).setCell ⟨B, k * 4 + 2, none⟩ (.int .i64 e.tx.2.2)).setCell ⟨B, k * 4 + 3, none⟩ (.bool e.ok)) := by
  have hs := hb.size
  have h2 := OwV.step h hb
  have p0 := OwV.put0 h2 hk (j := 0) (by omega) (u := .int .i64 e.tx.1) (d := .int e.tx.1) rfl
  have p1 := OwV.put0 p0 hk (j := 1) (by omega) (u := .int .i64 e.tx.2.1) (d := .int e.tx.2.1) rfl
  have p2 := OwV.put0 p1 hk (j := 2) (by omega) (u := .int .i64 e.tx.2.2) (d := .int e.tx.2.2) rfl
  have p3 := OwV.put0 p2 hk (j := 3) (by omega) (u := .bool e.ok) (d := .bool e.ok) rfl
  refine OwV.mono (fun b hb => ?_) (OwV.congr p3 (fun i j hi hj => ?_))
  · have hz : ((((w2.setCell ⟨B, k * 4, none⟩ (.int .i64 e.tx.1)).setCell ⟨B, k * 4 + 1, none⟩ (.int .i64 e.tx.2.1)).setCell ⟨B, k * 4 + 2, none⟩ (.int .i64 e.tx.2.2)).setCell ⟨B, k * 4 + 3, none⟩ (.bool e.ok)).heap.size = w2.heap.size := by simp
    show B ≤ b ∧ b < ((((w2.setCell ⟨B, k * 4, none⟩ (.int .i64 e.tx.1)).setCell ⟨B, k * 4 + 1, none⟩ (.int .i64 e.tx.2.1)).setCell ⟨B, k * 4 + 2, none⟩ (.int .i64 e.tx.2.2)).setCell ⟨B, k * 4 + 3, none⟩ (.bool e.ok)).heap.size
    rw [hz]
    have hb2 : B ≤ b ∧ b < w.heap.size := hb
    omega
  · by_cases hik : i = k
    · subst hik
      rw [if_pos (by omega), he]
      match j, hj with
      | 0, _ => simp [upd]; rfl
      | 1, _ => simp [upd]; rfl
      | 2, _ => simp [upd]; rfl
      | 3, _ => simp [upd]; rfl
    · have e1 : (i < k + 1) = (i < k) := by simp; omega
      simp only [upd, hik, false_and, if_false, e1]

set_option maxHeartbeats 4000000 in
theorem toVerdictS_any (v : Value) (l : List VdD) (S : Nat → Prop) (w : World) (r : RdV w S v (vdsDt l)) (hl : szVds l ≤ 2097152) :
    Calls Tryz.prog 46 #[v] w fun e w' => ∃ a n c, e = .returned (.slice a n c) ∧ OwV w' (fun b => w.heap.size ≤ b ∧ b < w'.heap.size) (.slice a n c) (vdsDt l) ∧ Below w.heap.size w w' := by
  obtain ⟨a, cap, rfl, _⟩ := RdV.sliced r
  have HR : Hid (∀ W, Below w.heap.size w W → RdV W S (.slice a l.length cap) (vdsDt l)) := r.old
  have HD : Hid (vdsDt l = .rows 114 4 l.length (fun i j => vdCell (l[i]?.getD vd0) j)) := rfl
  have hnn : l.length ≤ 2097152 := by unfold szVds at hl; omega
  have HL : Hid _ := hl
  clear r hl
  rw [HD.out] at HR ⊢
  clear HD
  generalize l.length = n at hnn HR ⊢
  obtain ⟨i0, hi, hz0, hz1, hz2⟩ := info_parts Tryz.infoVdS
  go_enter Tryz.func46, Tryz.ntmps46
  go_wp2_with (at_make; refine wpList_make_full _ rfl _ _ 45 rfl w.heap.size 114 i0 (.agg #[.int .i64 0, .int .i64 0, .int .i64 0, .bool false]) 4 Tryz.underlying45 hi hz0 hz1 .i64 .i64 _ _ n rfl rfl rfl rfl (by rw [hz2]; omega) (by unfold maxLen; omega) (Nat.le_refl _) ?_; intro w1 hown hgrow)
  have hb1 : Below w.heap.size w w1 := (Below.refl _ _).grown hgrow (Nat.le_refl _) (fun k h => by cases h)
  have HP : Hid (PrtVd l w.heap.size n 0 w1) := (OwV.made rfl hown (fun j => vdCell vd0 j) (fun j hj => by
    match j, hj with
    | 0, _ => rfl
    | 1, _ => rfl
    | 2, _ => rfl
    | 3, _ => rfl
    )).congr (fun i j _ _ => by simp)
  clear hgrow hown
  go_loopw [4] (fun i wr => ∃ k : Nat, k ≤ n ∧ i = .int .i64 k ∧ Hid (PrtVd l w.heap.size n k wr) ∧ Below w.heap.size w wr) (fun i _ => n - (intOf i).toNat)
  case atStart => exact ⟨0, Nat.zero_le _, rfl, HP, hb1⟩
  case round =>
    clear HP hb1
    obtain ⟨k, hk, rfl, HP, hbel⟩ := hrel
    by_cases hlt : k < n
    · obtain ⟨b, off, rfl, hbl, _, hx⟩ := RdV.at (HR.out wr hbel) hlt
      obtain ⟨e, he⟩ : ∃ e, l[k]?.getD vd0 = e := ⟨_, rfl⟩
      obtain ⟨x0, c0, r0⟩ := hx 0 (by omega)
      obtain ⟨x1, c1, r1⟩ := hx 1 (by omega)
      obtain ⟨x2, c2, r2⟩ := hx 2 (by omega)
      obtain ⟨x3, c3, r3⟩ := hx 3 (by omega)
      rw [he] at r0 r1 r2 r3
      have HE : Hid _ := he
      clear hx he
      obtain ⟨⟨xs, xb, xn⟩, vo⟩ := e
      obtain rfl : x0 = .int .i64 xs := r0
      obtain rfl : x1 = .int .i64 xb := r1
      obtain rfl : x2 = .int .i64 xn := r2
      obtain rfl : x3 = .bool vo := r3
      simp only [Nat.add_zero] at c0
      have HCO : Hid _ := toVerdict_any ⟨(xs, xb, xn), vo⟩ wr
      go_wp2_with fail
      refine Calls.mono HCO.out ?_
      rintro e w2 ⟨rfl, b2⟩
      have hsz := hbel.size
      have HN : Hid _ := PrtVd.next HP.out hlt hbel.size b2 HE.out
      obtain ⟨hbad, _⟩ | ⟨g, cp, hg, _, hgl, hfz, hcs⟩ := OwV.head (OwV.step HP.out b2)
      · cases hbad
      simp only [Value.slice.injEq, Option.some.injEq, Addr.mk.injEq, and_true, true_and] at hg
      obtain ⟨rfl, rfl⟩ := hg
      obtain ⟨y0, k0⟩ := hcs (k * 4) (by omega)
      obtain ⟨y1, k1⟩ := hcs (k * 4 + 1) (by omega)
      obtain ⟨y2, k2⟩ := hcs (k * 4 + 2) (by omega)
      obtain ⟨y3, k3⟩ := hcs (k * 4 + 3) (by omega)
      have hbe2 := hbel.trans (b2.mono hbel.size)
      clear HP hcs b2 HCO
      go_wp2
      go_roundw
      case rel => exact ⟨k + 1, by omega, by go_num, HN.out, ((((hbe2.setCell (Nat.le_refl _) _).setCell (Nat.le_refl _) _).setCell (Nat.le_refl _) _).setCell (Nat.le_refl _) _)⟩
      case measure => simp [intOf]; omega
    · have hkn : k = n := by omega
      subst hkn
      go_wp2
      go_ret
      exact ⟨_, _, _, rfl, OwV.congr HP.out (fun i j hi hj => by rw [if_pos hi]), hbel⟩

theorem Tryz.infoTxS : (Tryz.prog.info? 107).map (fun i => (i.zero, i.size, i.bytes)) = some (some (.agg #[.int .i64 0, .int .i64 0, .int .i64 0]), 3, 24) := by kernel_rfl
/-- The first k of n are copied. -/
def PrtTx (l : List TxD) (B n k : Nat) (w : World) : Prop := OwV w (fun b => B ≤ b ∧ b < w.heap.size) (.slice (some ⟨B, 0, none⟩) n n) (.rows 107 3 n (fun i j => if i < k then txCell (l[i]?.getD tx0) j else txCell tx0 j))
theorem PrtTx.next {l : List TxD} {B n k : Nat} {w w2 : World}  {e : TxD} (h : PrtTx l B n k w) (hk : k < n) (hB : B ≤ w.heap.size) (hb : Below w.heap.size w w2) (he : l[k]?.getD tx0 = e)
    : PrtTx l B n (k + 1) (((w2.setCell ⟨B, k * 3, none⟩ (.int .i64 e.1)).setCell ⟨B, k * 3 + 1, none⟩ (.int .i64 e.2.1)).setCell ⟨B, k * 3 + 2, none⟩ (.int .i64 e.2.2)) := by
  have hs := hb.size
  have h2 := OwV.step h hb
  have p0 := OwV.put0 h2 hk (j := 0) (by omega) (u := .int .i64 e.1) (d := .int e.1) rfl
  have p1 := OwV.put0 p0 hk (j := 1) (by omega) (u := .int .i64 e.2.1) (d := .int e.2.1) rfl
  have p2 := OwV.put0 p1 hk (j := 2) (by omega) (u := .int .i64 e.2.2) (d := .int e.2.2) rfl
  refine OwV.mono (fun b hb => ?_) (OwV.congr p2 (fun i j hi hj => ?_))
  · have hz : (((w2.setCell ⟨B, k * 3, none⟩ (.int .i64 e.1)).setCell ⟨B, k * 3 + 1, none⟩ (.int .i64 e.2.1)).setCell ⟨B, k * 3 + 2, none⟩ (.int .i64 e.2.2)).heap.size = w2.heap.size := by simp
    show B ≤ b ∧ b < (((w2.setCell ⟨B, k * 3, none⟩ (.int .i64 e.1)).setCell ⟨B, k * 3 + 1, none⟩ (.int .i64 e.2.1)).setCell ⟨B, k * 3 + 2, none⟩ (.int .i64 e.2.2)).heap.size
    rw [hz]
    have hb2 : B ≤ b ∧ b < w.heap.size := hb
    omega
  · by_cases hik : i = k
    · subst hik
      rw [if_pos (by omega), he]
      match j, hj with
      | 0, _ => simp [upd]; rfl
      | 1, _ => simp [upd]; rfl
      | 2, _ => simp [upd]; rfl
    · have e1 : (i < k + 1) = (i < k) := by simp; omega
      simp only [upd, hik, false_and, if_false, e1]

set_option maxHeartbeats 4000000 in
theorem toTxS_any (v : Value) (l : List TxD) (S : Nat → Prop) (w : World) (r : RdV w S v (txsDt l)) (hl : szTxs l ≤ 2097152) :
    Calls Tryz.prog 47 #[v] w fun e w' => ∃ a n c, e = .returned (.slice a n c) ∧ OwV w' (fun b => w.heap.size ≤ b ∧ b < w'.heap.size) (.slice a n c) (txsDt l) ∧ Below w.heap.size w w' := by
  obtain ⟨a, cap, rfl, _⟩ := RdV.sliced r
  have HR : Hid (∀ W, Below w.heap.size w W → RdV W S (.slice a l.length cap) (txsDt l)) := r.old
  have HD : Hid (txsDt l = .rows 107 3 l.length (fun i j => txCell (l[i]?.getD tx0) j)) := rfl
  have hnn : l.length ≤ 2097152 := by unfold szTxs at hl; omega
  have HL : Hid _ := hl
  clear r hl
  rw [HD.out] at HR ⊢
  clear HD
  generalize l.length = n at hnn HR ⊢
  obtain ⟨i0, hi, hz0, hz1, hz2⟩ := info_parts Tryz.infoTxS
  go_enter Tryz.func47, Tryz.ntmps47
  go_wp2_with (at_make; refine wpList_make_full _ rfl _ _ 46 rfl w.heap.size 107 i0 (.agg #[.int .i64 0, .int .i64 0, .int .i64 0]) 3 Tryz.underlying46 hi hz0 hz1 .i64 .i64 _ _ n rfl rfl rfl rfl (by rw [hz2]; omega) (by unfold maxLen; omega) (Nat.le_refl _) ?_; intro w1 hown hgrow)
  have hb1 : Below w.heap.size w w1 := (Below.refl _ _).grown hgrow (Nat.le_refl _) (fun k h => by cases h)
  have HP : Hid (PrtTx l w.heap.size n 0 w1) := (OwV.made rfl hown (fun j => txCell tx0 j) (fun j hj => by
    match j, hj with
    | 0, _ => rfl
    | 1, _ => rfl
    | 2, _ => rfl
    )).congr (fun i j _ _ => by simp)
  clear hgrow hown
  go_loopw [4] (fun i wr => ∃ k : Nat, k ≤ n ∧ i = .int .i64 k ∧ Hid (PrtTx l w.heap.size n k wr) ∧ Below w.heap.size w wr) (fun i _ => n - (intOf i).toNat)
  case atStart => exact ⟨0, Nat.zero_le _, rfl, HP, hb1⟩
  case round =>
    clear HP hb1
    obtain ⟨k, hk, rfl, HP, hbel⟩ := hrel
    by_cases hlt : k < n
    · obtain ⟨b, off, rfl, hbl, _, hx⟩ := RdV.at (HR.out wr hbel) hlt
      obtain ⟨e, he⟩ : ∃ e, l[k]?.getD tx0 = e := ⟨_, rfl⟩
      obtain ⟨x0, c0, r0⟩ := hx 0 (by omega)
      obtain ⟨x1, c1, r1⟩ := hx 1 (by omega)
      obtain ⟨x2, c2, r2⟩ := hx 2 (by omega)
      rw [he] at r0 r1 r2
      have HE : Hid _ := he
      clear hx he
      obtain ⟨xs, xb, xn⟩ := e
      obtain rfl : x0 = .int .i64 xs := r0
      obtain rfl : x1 = .int .i64 xb := r1
      obtain rfl : x2 = .int .i64 xn := r2
      simp only [Nat.add_zero] at c0
      have HCO : Hid _ := toTx_any (xs, xb, xn) wr
      go_wp2_with fail
      refine Calls.mono HCO.out ?_
      rintro e w2 ⟨rfl, b2⟩
      have hsz := hbel.size
      have HN : Hid _ := PrtTx.next HP.out hlt hbel.size b2 HE.out
      obtain ⟨hbad, _⟩ | ⟨g, cp, hg, _, hgl, hfz, hcs⟩ := OwV.head (OwV.step HP.out b2)
      · cases hbad
      simp only [Value.slice.injEq, Option.some.injEq, Addr.mk.injEq, and_true, true_and] at hg
      obtain ⟨rfl, rfl⟩ := hg
      obtain ⟨y0, k0⟩ := hcs (k * 3) (by omega)
      obtain ⟨y1, k1⟩ := hcs (k * 3 + 1) (by omega)
      obtain ⟨y2, k2⟩ := hcs (k * 3 + 2) (by omega)
      have hbe2 := hbel.trans (b2.mono hbel.size)
      clear HP hcs b2 HCO
      go_wp2
      go_roundw
      case rel => exact ⟨k + 1, by omega, by go_num, HN.out, (((hbe2.setCell (Nat.le_refl _) _).setCell (Nat.le_refl _) _).setCell (Nat.le_refl _) _)⟩
      case measure => simp [intOf]; omega
    · have hkn : k = n := by omega
      subst hkn
      go_wp2
      go_ret
      exact ⟨_, _, _, rfl, OwV.congr HP.out (fun i j hi hj => by rw [if_pos hi]), hbel⟩
end
section
set_option maxHeartbeats 4000000 in
theorem toLast_any (x : Value) (e : LsD) (S : Nat → Prop) (w : World) (r : RdV w S x (ensDt e.rp.list)) (hl : szEns e.rp.list ≤ 2097152) :
    Calls Tryz.prog 79 #[lsV e x] w fun q w' => ∃ a n c, q = .returned (lsV e (.slice a n c)) ∧ OwV w' (fun b => w.heap.size ≤ b ∧ b < w'.heap.size) (.slice a n c) (ensDt e.rp.list) ∧ Below w.heap.size w w' := by
  obtain ⟨a, cap, rfl, _⟩ := RdV.sliced r
  obtain ⟨cl, rq, ⟨rc, ⟨rp_, rq_, rd⟩, rv, es⟩⟩ := e
  have HP_ : Hid (∀ W, Below w.heap.size w W → _) := fun W hW => toReply_any _ ⟨rc, (rp_, rq_, rd), rv, es⟩ S W (r.step hW) hl
  clear r hl
  dsimp only at HP_ ⊢
  generalize es.length = n0 at HP_
  go_enter Tryz.func79, Tryz.ntmps79
  go_wp2_with fail
  refine Calls.mono (HP_.out _ ?_) ?_
  · exact ((((Below.refl _ _).alloc (Nat.le_refl _) _).alloc (by simp) _).alloc (by simp; omega) _)
  rintro e w2 ⟨ua, un, uc, rfl, o_, b_⟩
  have hs2 := b_.size
  simp at hs2
  have vA : VarA w2 w.heap.size 134 #[.int .i64 cl, .int .i64 rq, .int .i64 rc, .int .i64 rp_, .int .i64 rq_, .bool rd, .int .i64 rv, .slice a n0 cap] := VarA.step (((VarA.new w _ _).alloc _).alloc _) b_
  have vR : VarA w2 (w.heap.size + 1) 118 #[.int .i64 0, .int .i64 0, .int .i64 0, .int .i64 0, .int .i64 0, .bool false, .int .i64 0, .slice none 0 0] := by
    have := VarA.step ((VarA.new (w.alloc _) _ _).alloc _) b_
    simpa using this
  have vO : VarA w2 (w.heap.size + 1 + 1) 118 #[.int .i64 cl, .int .i64 rq, .int .i64 0, .int .i64 0, .int .i64 0, .bool false, .int .i64 0, .slice none 0 0] := by
    have := VarA.step (VarA.new ((w.alloc _).alloc _) _ _) b_
    simpa using this
  have HB : Hid (Below w.heap.size w w2) := ((((Below.refl _ _).alloc (Nat.le_refl _) _).alloc (by simp) _).alloc (by simp; omega) _).trans (b_.mono (by simp; omega))
  have HT : Hid (Turned (fun b => w.heap.size ≤ b ∧ b < w.heap.size + 3) w2 w2) := Turned.refl _ _
  have hz : w.heap.size + 3 ≤ w2.heap.size := by omega
  have HO0 : Hid (OwV w2 (fun b => w.heap.size + 3 ≤ b ∧ b < w2.heap.size) (.slice ua un uc) (ensDt es)) := o_.mono (fun b h => by simpa [Nat.add_assoc] using h)
  clear hs2 b_ o_
  obtain ⟨a0_, a1_, a2_, a3_, a4_, a5_, a6_, a7_⟩ := vA.k8
  obtain ⟨o0_, o1_, o2_, o3_, o4_, o5_, o6_, o7_⟩ := vO.k8
  have fo_ := vO.fz
  obtain ⟨r0_, r1_, r2_, r3_, r4_, r5_, r6_, r7_⟩ := vR.k8
  have fr_ := vR.fz
  clear vA vR vO
  go_wp2
  refine bodyPost_ret (v := .agg #[.int .i64 cl, .int .i64 rq, .int .i64 rc, .int .i64 rp_, .int .i64 rq_, .bool rd, .int .i64 rv, .slice ua un uc]) (by simp [results, Tryz.results79, go_sem, r0_, r1_, r2_, r3_, r4_, r5_, r6_, r7_]) rfl ?_
  exact ⟨_, _, _, rfl, OwV.close HB.out (HO0.out.mono (fun b h => (⟨by omega, by omega⟩ : w.heap.size + 3 ≤ b ∧ _))) (by omega) (HT.out |>.set _ _ (by simp <;> omega) |>.set _ _ (by simp <;> omega) |>.set _ _ (by simp <;> omega) |>.set _ _ (by simp <;> omega) |>.set _ _ (by simp <;> omega) |>.set _ _ (by simp <;> omega) |>.set _ _ (by simp <;> omega) |>.set _ _ (by simp <;> omega) |>.set _ _ (by simp <;> omega) |>.set _ _ (by simp <;> omega) |>.set _ _ (by simp <;> omega) |>.set _ _ (by simp <;> omega) |>.set _ _ (by simp <;> omega) |>.set _ _ (by simp <;> omega))⟩
theorem Tryz.infoLsS : (Tryz.prog.info? 118).map (fun i => (i.zero, i.size, i.bytes)) = some (some (.agg #[.int .i64 0, .int .i64 0, .int .i64 0, .int .i64 0, .int .i64 0, .bool false, .int .i64 0, .slice none 0 0]), 8, 80) := by kernel_rfl
/-- The first k of n are copied. -/
def PrtLs (l : List LsD) (B n k : Nat) (w : World) : Prop := OwV w (fun b => B ≤ b ∧ b < w.heap.size) (.slice (some ⟨B, 0, none⟩) n n) (.rows 118 8 n (fun i j => if i < k then lsCell (l[i]?.getD ls0) j else lsCell ls0 j))
theorem PrtLs.next {l : List LsD} {B n k : Nat} {w w2 : World} {u7 : Value} {e : LsD} (h : PrtLs l B n k w) (hk : k < n) (hB : B ≤ w.heap.size) (hb : Below w.heap.size w w2) (he : l[k]?.getD ls0 = e)
    (o7 : OwV w2 (fun b => w.heap.size ≤ b ∧ b < w2.heap.size) u7 (ensDt e.rp.list))
    : PrtLs l B n (k + 1) ((((((((w2.setCell ⟨B, k * 8, none⟩ (.int .i64 e.cl)).setCell ⟨B, k * 8 + 1, none⟩ (.int .i64 e.rq)).setCell ⟨B, k * 8 + 2, none⟩ (.int .i64 e.rp.code)).setCell ⟨B, k * 8 + 3, none⟩ (.int .i64 e.rp.h.sh)).setCell ⟨B, k * 8 + 4, none⟩ (.int .i64 e.rp.h.ino)).setCell ⟨B, k * 8 + 5, none⟩ (.bool e.rp.h.dir)).setCell ⟨B, k * 8 + 6, none⟩ (.int .i64 e.rp.val)).setCell ⟨B, k * 8 + 7, none⟩ (u7)) := by
  have hs := hb.size
  have h2 := OwV.step h hb
  have p0 := OwV.put0 h2 hk (j := 0) (by omega) (u := .int .i64 e.cl) (d := .int e.cl) rfl
  have p1 := OwV.put0 p0 hk (j := 1) (by omega) (u := .int .i64 e.rq) (d := .int e.rq) rfl
  have p2 := OwV.put0 p1 hk (j := 2) (by omega) (u := .int .i64 e.rp.code) (d := .int e.rp.code) rfl
  have p3 := OwV.put0 p2 hk (j := 3) (by omega) (u := .int .i64 e.rp.h.sh) (d := .int e.rp.h.sh) rfl
  have p4 := OwV.put0 p3 hk (j := 4) (by omega) (u := .int .i64 e.rp.h.ino) (d := .int e.rp.h.ino) rfl
  have p5 := OwV.put0 p4 hk (j := 5) (by omega) (u := .bool e.rp.h.dir) (d := .bool e.rp.h.dir) rfl
  have p6 := OwV.put0 p5 hk (j := 6) (by omega) (u := .int .i64 e.rp.val) (d := .int e.rp.val) rfl
  have K7 : Keeps (fun b => w.heap.size ≤ b ∧ b < w2.heap.size) w2 _ := ((Turned.refl (fun b => b = B) w2) |>.set ⟨B, k * 8 + 0, none⟩ (.int .i64 e.cl) rfl |>.set ⟨B, k * 8 + 1, none⟩ (.int .i64 e.rq) rfl |>.set ⟨B, k * 8 + 2, none⟩ (.int .i64 e.rp.code) rfl |>.set ⟨B, k * 8 + 3, none⟩ (.int .i64 e.rp.h.sh) rfl |>.set ⟨B, k * 8 + 4, none⟩ (.int .i64 e.rp.h.ino) rfl |>.set ⟨B, k * 8 + 5, none⟩ (.bool e.rp.h.dir) rfl |>.set ⟨B, k * 8 + 6, none⟩ (.int .i64 e.rp.val) rfl).keeps (fun b hb e => by subst e; have := OwV.lt0 h hk; omega)
  have p7 := OwV.put p6 hk (j := 7) (by omega) (o7.keep K7) (fun b hb hs => by omega)
  refine OwV.mono (fun b hb => ?_) (OwV.congr p7 (fun i j hi hj => ?_))
  · have hz : ((((((((w2.setCell ⟨B, k * 8, none⟩ (.int .i64 e.cl)).setCell ⟨B, k * 8 + 1, none⟩ (.int .i64 e.rq)).setCell ⟨B, k * 8 + 2, none⟩ (.int .i64 e.rp.code)).setCell ⟨B, k * 8 + 3, none⟩ (.int .i64 e.rp.h.sh)).setCell ⟨B, k * 8 + 4, none⟩ (.int .i64 e.rp.h.ino)).setCell ⟨B, k * 8 + 5, none⟩ (.bool e.rp.h.dir)).setCell ⟨B, k * 8 + 6, none⟩ (.int .i64 e.rp.val)).setCell ⟨B, k * 8 + 7, none⟩ (u7)).heap.size = w2.heap.size := by simp
    show B ≤ b ∧ b < ((((((((w2.setCell ⟨B, k * 8, none⟩ (.int .i64 e.cl)).setCell ⟨B, k * 8 + 1, none⟩ (.int .i64 e.rq)).setCell ⟨B, k * 8 + 2, none⟩ (.int .i64 e.rp.code)).setCell ⟨B, k * 8 + 3, none⟩ (.int .i64 e.rp.h.sh)).setCell ⟨B, k * 8 + 4, none⟩ (.int .i64 e.rp.h.ino)).setCell ⟨B, k * 8 + 5, none⟩ (.bool e.rp.h.dir)).setCell ⟨B, k * 8 + 6, none⟩ (.int .i64 e.rp.val)).setCell ⟨B, k * 8 + 7, none⟩ (u7)).heap.size
    rw [hz]
    rcases hb with hb | hb <;> omega
  · by_cases hik : i = k
    · subst hik
      rw [if_pos (by omega), he]
      match j, hj with
      | 0, _ => simp [upd]; rfl
      | 1, _ => simp [upd]; rfl
      | 2, _ => simp [upd]; rfl
      | 3, _ => simp [upd]; rfl
      | 4, _ => simp [upd]; rfl
      | 5, _ => simp [upd]; rfl
      | 6, _ => simp [upd]; rfl
      | 7, _ => simp [upd]; rfl
    · have e1 : (i < k + 1) = (i < k) := by simp; omega
      simp only [upd, hik, false_and, if_false, e1]

set_option maxHeartbeats 4000000 in
theorem toLastS_any (v : Value) (l : List LsD) (S : Nat → Prop) (w : World) (r : RdV w S v (lssDt l)) (hl : szLss l ≤ 2097152) :
    Calls Tryz.prog 48 #[v] w fun e w' => ∃ a n c, e = .returned (.slice a n c) ∧ OwV w' (fun b => w.heap.size ≤ b ∧ b < w'.heap.size) (.slice a n c) (lssDt l) ∧ Below w.heap.size w w' := by
  obtain ⟨a, cap, rfl, _⟩ := RdV.sliced r
  have HR : Hid (∀ W, Below w.heap.size w W → RdV W S (.slice a l.length cap) (lssDt l)) := r.old
  have HD : Hid (lssDt l = .rows 118 8 l.length (fun i j => lsCell (l[i]?.getD ls0) j)) := rfl
  have hnn : l.length ≤ 2097152 := by unfold szLss at hl; omega
  have HL : Hid _ := hl
  clear r hl
  rw [HD.out] at HR ⊢
  clear HD
  generalize l.length = n at hnn HR ⊢
  obtain ⟨i0, hi, hz0, hz1, hz2⟩ := info_parts Tryz.infoLsS
  go_enter Tryz.func48, Tryz.ntmps48
  go_wp2_with (at_make; refine wpList_make_full _ rfl _ _ 47 rfl w.heap.size 118 i0 (.agg #[.int .i64 0, .int .i64 0, .int .i64 0, .int .i64 0, .int .i64 0, .bool false, .int .i64 0, .slice none 0 0]) 8 Tryz.underlying47 hi hz0 hz1 .i64 .i64 _ _ n rfl rfl rfl rfl (by rw [hz2]; omega) (by unfold maxLen; omega) (Nat.le_refl _) ?_; intro w1 hown hgrow)
  have hb1 : Below w.heap.size w w1 := (Below.refl _ _).grown hgrow (Nat.le_refl _) (fun k h => by cases h)
  have HP : Hid (PrtLs l w.heap.size n 0 w1) := (OwV.made rfl hown (fun j => lsCell ls0 j) (fun j hj => by
    match j, hj with
    | 0, _ => rfl
    | 1, _ => rfl
    | 2, _ => rfl
    | 3, _ => rfl
    | 4, _ => rfl
    | 5, _ => rfl
    | 6, _ => rfl
    | 7, _ => exact OwV.nilR _ _ _ _ _
    )).congr (fun i j _ _ => by simp)
  clear hgrow hown
  go_loopw [4] (fun i wr => ∃ k : Nat, k ≤ n ∧ i = .int .i64 k ∧ Hid (PrtLs l w.heap.size n k wr) ∧ Below w.heap.size w wr) (fun i _ => n - (intOf i).toNat)
  case atStart => exact ⟨0, Nat.zero_le _, rfl, HP, hb1⟩
  case round =>
    clear HP hb1
    obtain ⟨k, hk, rfl, HP, hbel⟩ := hrel
    by_cases hlt : k < n
    · obtain ⟨b, off, rfl, hbl, _, hx⟩ := RdV.at (HR.out wr hbel) hlt
      obtain ⟨e, he⟩ : ∃ e, l[k]?.getD ls0 = e := ⟨_, rfl⟩
      obtain ⟨x0, c0, r0⟩ := hx 0 (by omega)
      obtain ⟨x1, c1, r1⟩ := hx 1 (by omega)
      obtain ⟨x2, c2, r2⟩ := hx 2 (by omega)
      obtain ⟨x3, c3, r3⟩ := hx 3 (by omega)
      obtain ⟨x4, c4, r4⟩ := hx 4 (by omega)
      obtain ⟨x5, c5, r5⟩ := hx 5 (by omega)
      obtain ⟨x6, c6, r6⟩ := hx 6 (by omega)
      obtain ⟨x7, c7, r7⟩ := hx 7 (by omega)
      rw [he] at r0 r1 r2 r3 r4 r5 r6 r7
      have HE : Hid _ := he
      have HZ : Hid (szEns e.rp.list ≤ 2097152) := by have h1 := szLss_at l k; rw [he] at h1; have h2 := HL.out; show _ ≤ _; omega
      clear hx he
      obtain ⟨cl, rq, ⟨rc, ⟨rp_, rq_, rd⟩, rv, es⟩⟩ := e
      obtain rfl : x0 = .int .i64 cl := r0
      obtain rfl : x1 = .int .i64 rq := r1
      obtain rfl : x2 = .int .i64 rc := r2
      obtain rfl : x3 = .int .i64 rp_ := r3
      obtain rfl : x4 = .int .i64 rq_ := r4
      obtain rfl : x5 = .bool rd := r5
      obtain rfl : x6 = .int .i64 rv := r6
      simp only [Nat.add_zero] at c0
      have RS7 : Hid (RdV wr S x7 (ensDt es)) := r7
      clear r7
      obtain ⟨xa7, xc7, rfl, _⟩ := RdV.sliced RS7.out
      have HCO : Hid _ := toLast_any _ ⟨cl, rq, ⟨rc, (rp_, rq_, rd), rv, es⟩⟩ S wr RS7.out HZ.out
      generalize es.length = xn7 at RS7 HCO c7
      go_wp2_with fail
      refine Calls.mono HCO.out ?_
      rintro e w2 ⟨ua, un, uc, rfl, o7, b2⟩
      have hsz := hbel.size
      have HN : Hid _ := PrtLs.next HP.out hlt hbel.size b2 HE.out o7
      obtain ⟨hbad, _⟩ | ⟨g, cp, hg, _, hgl, hfz, hcs⟩ := OwV.head (OwV.step HP.out b2)
      · cases hbad
      simp only [Value.slice.injEq, Option.some.injEq, Addr.mk.injEq, and_true, true_and] at hg
      obtain ⟨rfl, rfl⟩ := hg
      obtain ⟨y0, k0⟩ := hcs (k * 8) (by omega)
      obtain ⟨y1, k1⟩ := hcs (k * 8 + 1) (by omega)
      obtain ⟨y2, k2⟩ := hcs (k * 8 + 2) (by omega)
      obtain ⟨y3, k3⟩ := hcs (k * 8 + 3) (by omega)
      obtain ⟨y4, k4⟩ := hcs (k * 8 + 4) (by omega)
      obtain ⟨y5, k5⟩ := hcs (k * 8 + 5) (by omega)
      obtain ⟨y6, k6⟩ := hcs (k * 8 + 6) (by omega)
      obtain ⟨y7, k7⟩ := hcs (k * 8 + 7) (by omega)
      have hbe2 := hbel.trans (b2.mono hbel.size)
      clear HP hcs b2 HCO o7 RS7
      go_wp2
      go_roundw
      case rel => exact ⟨k + 1, by omega, by go_num, HN.out, ((((((((hbe2.setCell (Nat.le_refl _) _).setCell (Nat.le_refl _) _).setCell (Nat.le_refl _) _).setCell (Nat.le_refl _) _).setCell (Nat.le_refl _) _).setCell (Nat.le_refl _) _).setCell (Nat.le_refl _) _).setCell (Nat.le_refl _) _)⟩
      case measure => simp [intOf]; omega
    · have hkn : k = n := by omega
      subst hkn
      go_wp2
      go_ret
      exact ⟨_, _, _, rfl, OwV.congr HP.out (fun i j hi hj => by rw [if_pos hi]), hbel⟩
end
section
set_option maxHeartbeats 2000000 in
theorem toNode_any (x : Value) (n : Nd) (S : Nat → Prop) (w : World) (r : RdV w S x (ensDt n.es)) (hl : szEns n.es ≤ 2097152) :
    Calls Tryz.prog 75 #[ndV n x] w fun q w' => ∃ a m c, q = .returned (ndV n (.slice a m c)) ∧ OwV w' (fun b => w.heap.size ≤ b ∧ b < w'.heap.size) (.slice a m c) (ensDt n.es) ∧ Below w.heap.size w w' := by
  obtain ⟨a, cap, rfl, _⟩ := RdV.sliced r
  obtain ⟨⟨p, q, d⟩, ⟨p2, q2, d2⟩, lk, vl, es⟩ := n
  have HR : Hid (∀ W, Below w.heap.size w W → _) := r.old
  have HH : Hid (∀ W, _) := fun W => toHandle_any (p, q, d) W
  have HH2 : Hid (∀ W, _) := fun W => toHandle_any (p2, q2, d2) W
  have HL : Hid (szEns es ≤ 2097152) := hl
  clear r hl
  dsimp only at HR ⊢
  generalize es.length = n0 at HR
  go_enter Tryz.func75, Tryz.ntmps75
  go_wp2_with fail
  refine Calls.mono (HH.out _) ?_
  rintro e w2 ⟨rfl, b_⟩
  have hs2 := b_.size
  simp at hs2
  have vA : VarA w2 w.heap.size 123 #[.int .i64 p, .int .i64 q, .bool d, .int .i64 p2, .int .i64 q2, .bool d2, .int .i64 lk, .int .i64 vl, .slice a n0 cap] := VarA.step (((VarA.new w _ _).alloc _).alloc _) b_
  have vR : VarA w2 (w.heap.size + 1) 54 #[.int .i64 0, .int .i64 0, .bool false, .int .i64 0, .int .i64 0, .bool false, .int .i64 0, .int .i64 0, .slice none 0 0] := by
    have := VarA.step ((VarA.new (w.alloc _) _ _).alloc _) b_
    simpa using this
  have vO : VarA w2 (w.heap.size + 1 + 1) 54 #[.int .i64 0, .int .i64 0, .bool false, .int .i64 0, .int .i64 0, .bool false, .int .i64 0, .int .i64 0, .slice none 0 0] := by
    have := VarA.step (VarA.new ((w.alloc _).alloc _) _ _) b_
    simpa using this
  have HB : Hid (Below w.heap.size w w2) := ((((Below.refl _ _).alloc (Nat.le_refl _) _).alloc (by simp) _).alloc (by simp; omega) _).trans (b_.mono (by simp; omega))
  have HT : Hid (Turned (fun b => w.heap.size ≤ b ∧ b < w.heap.size + 3) w2 w2) := Turned.refl _ _
  have hz : w.heap.size + 3 ≤ w2.heap.size := by omega
  clear hs2 b_
  obtain ⟨a0_, a1_, a2_, a3_, a4_, a5_, a6_, a7_, a8_⟩ := vA.l9
  obtain ⟨o0_, o1_, o2_, o3_, o4_, o5_, o6_, o7_, o8_⟩ := vO.l9
  have fo_ := vO.fz
  go_wp2_with fail
  refine Calls.mono (HH2.out _) ?_
  rintro e w3 ⟨rfl, b_⟩
  clear a0_ a1_ a2_ a3_ a4_ a5_ a6_ a7_ a8_ o0_ o1_ o2_ o3_ o4_ o5_ o6_ o7_ o8_ fo_
  have vA_ := (vA |>.aside (p := ⟨w.heap.size + 1 + 1, 0, none⟩) (by dsimp only; omega) _ |>.aside (p := ⟨w.heap.size + 1 + 1, 1, none⟩) (by dsimp only; omega) _ |>.aside (p := ⟨w.heap.size + 1 + 1, 2, none⟩) (by dsimp only; omega) _).step b_
  have vR_ := (vR |>.aside (p := ⟨w.heap.size + 1 + 1, 0, none⟩) (by dsimp only; omega) _ |>.aside (p := ⟨w.heap.size + 1 + 1, 1, none⟩) (by dsimp only; omega) _ |>.aside (p := ⟨w.heap.size + 1 + 1, 2, none⟩) (by dsimp only; omega) _).step b_
  have vO_ : VarA w3 (w.heap.size + 1 + 1) 54 #[.int .i64 p, .int .i64 q, .bool d, .int .i64 0, .int .i64 0, .bool false, .int .i64 0, .int .i64 0, .slice none 0 0] := (vO |>.set 0 _ |>.set 1 _ |>.set 2 _).step b_
  have t_ : Turned (fun b => w.heap.size ≤ b ∧ b < w.heap.size + 3) w2 w3 := (HT.out |>.set _ _ (by simp <;> omega) |>.set _ _ (by simp <;> omega) |>.set _ _ (by simp <;> omega)).andThen b_
  have HB_ : Hid (Below w.heap.size w w3) := Turned.below HB.out t_ HB.out.size (fun i hi => hi.1)
  have zs_ := t_.size
  clear vA vR vO HT HB b_ t_
  have HT : Hid (Turned (fun b => w.heap.size ≤ b ∧ b < w.heap.size + 3) w3 w3) := Turned.refl _ _
  have vA := vA_
  have vR := vR_
  have vO := vO_
  have HB := HB_
  clear vA_ vR_ vO_ HB_
  obtain ⟨a0_, a1_, a2_, a3_, a4_, a5_, a6_, a7_, a8_⟩ := vA.l9
  obtain ⟨o0_, o1_, o2_, o3_, o4_, o5_, o6_, o7_, o8_⟩ := vO.l9
  have fo_ := vO.fz
  go_wp2_with fail
  refine Calls.mono (toEntryS_any _ es S _ (HR.out _ (Turned.below HB.out (HT.out |>.set _ _ (by simp <;> omega) |>.set _ _ (by simp <;> omega) |>.set _ _ (by simp <;> omega) |>.set _ _ (by simp <;> omega) |>.set _ _ (by simp <;> omega)) HB.out.size (fun i hi => hi.1))) HL.out) ?_
  rintro e w4 ⟨ua, un, uc, rfl, o_, b_⟩
  clear a0_ a1_ a2_ a3_ a4_ a5_ a6_ a7_ a8_ o0_ o1_ o2_ o3_ o4_ o5_ o6_ o7_ o8_ fo_
  have vA_ := (vA |>.aside (p := ⟨w.heap.size + 1 + 1, 3, none⟩) (by dsimp only; omega) _ |>.aside (p := ⟨w.heap.size + 1 + 1, 4, none⟩) (by dsimp only; omega) _ |>.aside (p := ⟨w.heap.size + 1 + 1, 5, none⟩) (by dsimp only; omega) _ |>.aside (p := ⟨w.heap.size + 1 + 1, 6, none⟩) (by dsimp only; omega) _ |>.aside (p := ⟨w.heap.size + 1 + 1, 7, none⟩) (by dsimp only; omega) _).step b_
  have vR_ := (vR |>.aside (p := ⟨w.heap.size + 1 + 1, 3, none⟩) (by dsimp only; omega) _ |>.aside (p := ⟨w.heap.size + 1 + 1, 4, none⟩) (by dsimp only; omega) _ |>.aside (p := ⟨w.heap.size + 1 + 1, 5, none⟩) (by dsimp only; omega) _ |>.aside (p := ⟨w.heap.size + 1 + 1, 6, none⟩) (by dsimp only; omega) _ |>.aside (p := ⟨w.heap.size + 1 + 1, 7, none⟩) (by dsimp only; omega) _).step b_
  have vO_ : VarA w4 (w.heap.size + 1 + 1) 54 #[.int .i64 p, .int .i64 q, .bool d, .int .i64 p2, .int .i64 q2, .bool d2, .int .i64 lk, .int .i64 vl, .slice none 0 0] := (vO |>.set 3 _ |>.set 4 _ |>.set 5 _ |>.set 6 _ |>.set 7 _).step b_
  have t_ : Turned (fun b => w.heap.size ≤ b ∧ b < w.heap.size + 3) w3 w4 := (HT.out |>.set _ _ (by simp <;> omega) |>.set _ _ (by simp <;> omega) |>.set _ _ (by simp <;> omega) |>.set _ _ (by simp <;> omega) |>.set _ _ (by simp <;> omega)).andThen b_
  have HB_ : Hid (Below w.heap.size w w4) := Turned.below HB.out t_ HB.out.size (fun i hi => hi.1)
  have zs_ := t_.size
  have HO0 : Hid (OwV w4 (fun b => w3.heap.size ≤ b ∧ b < w4.heap.size) (.slice ua un uc) (ensDt es)) := o_.mono (fun b h => by simpa using h)
  clear vA vR vO HT HB b_ t_ o_
  have HT : Hid (Turned (fun b => w.heap.size ≤ b ∧ b < w.heap.size + 3) w4 w4) := Turned.refl _ _
  have vA := vA_
  have vR := vR_
  have vO := vO_
  have HB := HB_
  clear vA_ vR_ vO_ HB_
  obtain ⟨a0_, a1_, a2_, a3_, a4_, a5_, a6_, a7_, a8_⟩ := vA.l9
  obtain ⟨o0_, o1_, o2_, o3_, o4_, o5_, o6_, o7_, o8_⟩ := vO.l9
  have fo_ := vO.fz
  obtain ⟨r0_, r1_, r2_, r3_, r4_, r5_, r6_, r7_, r8_⟩ := vR.l9
  have fr_ := vR.fz
  clear vA vR vO
  go_wp2
  refine bodyPost_ret (v := .agg #[.int .i64 p, .int .i64 q, .bool d, .int .i64 p2, .int .i64 q2, .bool d2, .int .i64 lk, .int .i64 vl, .slice ua un uc]) (by simp [results, Tryz.results75, go_sem, r0_, r1_, r2_, r3_, r4_, r5_, r6_, r7_, r8_]) rfl ?_
  exact ⟨_, _, _, rfl, OwV.close HB.out (HO0.out.mono (fun b h => ⟨by omega, by omega⟩)) (by omega) (HT.out |>.set _ _ (by simp <;> omega) |>.set _ _ (by simp <;> omega) |>.set _ _ (by simp <;> omega) |>.set _ _ (by simp <;> omega) |>.set _ _ (by simp <;> omega) |>.set _ _ (by simp <;> omega) |>.set _ _ (by simp <;> omega) |>.set _ _ (by simp <;> omega) |>.set _ _ (by simp <;> omega) |>.set _ _ (by simp <;> omega))⟩
theorem Tryz.infoNd : (Tryz.prog.info? 54).map (fun i => (i.zero, i.size, i.bytes)) = some (some (.agg #[.int .i64 0, .int .i64 0, .bool false, .int .i64 0, .int .i64 0, .bool false, .int .i64 0, .int .i64 0, .slice none 0 0]), 9, 88) := by kernel_rfl
/-- The first k of n are copied. -/
def PrtNd (l : List Nd) (B n k : Nat) (w : World) : Prop := OwV w (fun b => B ≤ b ∧ b < w.heap.size) (.slice (some ⟨B, 0, none⟩) n n) (.rows 54 9 n (fun i j => if i < k then ndCell (l[i]?.getD nd0) j else ndCell nd0 j))
theorem PrtNd.next {l : List Nd} {B n k : Nat} {w w2 : World} {u : Value} {e : Nd} (h : PrtNd l B n k w) (hk : k < n) (hB : B ≤ w.heap.size) (hb : Below w.heap.size w w2) (he : l[k]?.getD nd0 = e)
    (o : OwV w2 (fun b => w.heap.size ≤ b ∧ b < w2.heap.size) u (ensDt e.es)) : PrtNd l B n (k + 1) (((((((((w2.setCell ⟨B, k * 9, none⟩ (.int .i64 e.h.sh)).setCell ⟨B, k * 9 + 1, none⟩ (.int .i64 e.h.ino)).setCell ⟨B, k * 9 + 2, none⟩ (.bool e.h.dir)).setCell ⟨B, k * 9 + 3, none⟩ (.int .i64 e.par.sh)).setCell ⟨B, k * 9 + 4, none⟩ (.int .i64 e.par.ino)).setCell ⟨B, k * 9 + 5, none⟩ (.bool e.par.dir)).setCell ⟨B, k * 9 + 6, none⟩ (.int .i64 e.links)).setCell ⟨B, k * 9 + 7, none⟩ (.int .i64 e.val)).setCell ⟨B, k * 9 + 8, none⟩ u) := by
  have hs := hb.size
  have h2 := OwV.step h hb
  have p0 := OwV.put0 h2 hk (j := 0) (by omega) (u := .int .i64 e.h.sh) (d := .int e.h.sh) rfl
  have p1 := OwV.put0 p0 hk (j := 1) (by omega) (u := .int .i64 e.h.ino) (d := .int e.h.ino) rfl
  have p2 := OwV.put0 p1 hk (j := 2) (by omega) (u := .bool e.h.dir) (d := .bool e.h.dir) rfl
  have p3 := OwV.put0 p2 hk (j := 3) (by omega) (u := .int .i64 e.par.sh) (d := .int e.par.sh) rfl
  have p4 := OwV.put0 p3 hk (j := 4) (by omega) (u := .int .i64 e.par.ino) (d := .int e.par.ino) rfl
  have p5 := OwV.put0 p4 hk (j := 5) (by omega) (u := .bool e.par.dir) (d := .bool e.par.dir) rfl
  have p6 := OwV.put0 p5 hk (j := 6) (by omega) (u := .int .i64 e.links) (d := .int e.links) rfl
  have p7 := OwV.put0 p6 hk (j := 7) (by omega) (u := .int .i64 e.val) (d := .int e.val) rfl
  have K_ : Keeps (fun b => w.heap.size ≤ b ∧ b < w2.heap.size) w2 _ := ((Turned.refl (fun b => b = B) w2) |>.set ⟨B, k * 9 + 0, none⟩ (.int .i64 e.h.sh) rfl |>.set ⟨B, k * 9 + 1, none⟩ (.int .i64 e.h.ino) rfl |>.set ⟨B, k * 9 + 2, none⟩ (.bool e.h.dir) rfl |>.set ⟨B, k * 9 + 3, none⟩ (.int .i64 e.par.sh) rfl |>.set ⟨B, k * 9 + 4, none⟩ (.int .i64 e.par.ino) rfl |>.set ⟨B, k * 9 + 5, none⟩ (.bool e.par.dir) rfl |>.set ⟨B, k * 9 + 6, none⟩ (.int .i64 e.links) rfl |>.set ⟨B, k * 9 + 7, none⟩ (.int .i64 e.val) rfl).keeps (fun b hb e => by subst e; have := OwV.lt0 h hk; omega)
  have p8 := OwV.put p7 hk (j := 8) (by omega) (o.keep K_) (fun b hb hs => by omega)
  refine OwV.mono (fun b hb => ?_) (OwV.congr p8 (fun i j hi hj => ?_))
  · have hz : (((((((((w2.setCell ⟨B, k * 9, none⟩ (.int .i64 e.h.sh)).setCell ⟨B, k * 9 + 1, none⟩ (.int .i64 e.h.ino)).setCell ⟨B, k * 9 + 2, none⟩ (.bool e.h.dir)).setCell ⟨B, k * 9 + 3, none⟩ (.int .i64 e.par.sh)).setCell ⟨B, k * 9 + 4, none⟩ (.int .i64 e.par.ino)).setCell ⟨B, k * 9 + 5, none⟩ (.bool e.par.dir)).setCell ⟨B, k * 9 + 6, none⟩ (.int .i64 e.links)).setCell ⟨B, k * 9 + 7, none⟩ (.int .i64 e.val)).setCell ⟨B, k * 9 + 8, none⟩ u).heap.size = w2.heap.size := by simp
    show B ≤ b ∧ b < (((((((((w2.setCell ⟨B, k * 9, none⟩ (.int .i64 e.h.sh)).setCell ⟨B, k * 9 + 1, none⟩ (.int .i64 e.h.ino)).setCell ⟨B, k * 9 + 2, none⟩ (.bool e.h.dir)).setCell ⟨B, k * 9 + 3, none⟩ (.int .i64 e.par.sh)).setCell ⟨B, k * 9 + 4, none⟩ (.int .i64 e.par.ino)).setCell ⟨B, k * 9 + 5, none⟩ (.bool e.par.dir)).setCell ⟨B, k * 9 + 6, none⟩ (.int .i64 e.links)).setCell ⟨B, k * 9 + 7, none⟩ (.int .i64 e.val)).setCell ⟨B, k * 9 + 8, none⟩ u).heap.size
    rw [hz]
    rcases hb with hb | hb <;> omega
  · by_cases hik : i = k
    · subst hik
      rw [if_pos (by omega), he]
      match j, hj with
      | 0, _ => simp [upd]; rfl
      | 1, _ => simp [upd]; rfl
      | 2, _ => simp [upd]; rfl
      | 3, _ => simp [upd]; rfl
      | 4, _ => simp [upd]; rfl
      | 5, _ => simp [upd]; rfl
      | 6, _ => simp [upd]; rfl
      | 7, _ => simp [upd]; rfl
      | 8, _ => simp [upd]; rfl
    · have e1 : (i < k + 1) = (i < k) := by simp; omega
      simp only [upd, hik, false_and, if_false, e1]

set_option maxHeartbeats 2000000 in
theorem toNodeS_any (v : Value) (l : List Nd) (S : Nat → Prop) (w : World) (r : RdV w S v (ndsDt l)) (hl : szNds l ≤ 2097152) :
    Calls Tryz.prog 44 #[v] w fun e w' => ∃ a n c, e = .returned (.slice a n c) ∧ OwV w' (fun b => w.heap.size ≤ b ∧ b < w'.heap.size) (.slice a n c) (ndsDt l) ∧ Below w.heap.size w w' := by
  obtain ⟨a, cap, rfl, _⟩ := RdV.sliced r
  have HR : Hid (∀ W, Below w.heap.size w W → RdV W S (.slice a l.length cap) (ndsDt l)) := r.old
  have HD : Hid (ndsDt l = .rows 54 9 l.length (fun i j => ndCell (l[i]?.getD nd0) j)) := rfl
  have hnn : l.length ≤ 2097152 := by unfold szNds at hl; omega
  have HL : Hid _ := hl
  clear r hl
  rw [HD.out] at HR ⊢
  clear HD
  generalize l.length = n at hnn HR ⊢
  obtain ⟨i0, hi, hz0, hz1, hz2⟩ := info_parts Tryz.infoNd
  go_enter Tryz.func44, Tryz.ntmps44
  go_wp2_with (at_make; refine wpList_make_full _ rfl _ _ 24 rfl w.heap.size 54 i0 (.agg #[.int .i64 0, .int .i64 0, .bool false, .int .i64 0, .int .i64 0, .bool false, .int .i64 0, .int .i64 0, .slice none 0 0]) 9 Tryz.underlying24 hi hz0 hz1 .i64 .i64 _ _ n rfl rfl rfl rfl (by rw [hz2]; omega) (by unfold maxLen; omega) (Nat.le_refl _) ?_; intro w1 hown hgrow)
  have hb1 : Below w.heap.size w w1 := (Below.refl _ _).grown hgrow (Nat.le_refl _) (fun k h => by cases h)
  have HP : Hid (PrtNd l w.heap.size n 0 w1) := (OwV.made rfl hown (fun j => ndCell nd0 j) (fun j hj => by
    match j, hj with
    | 0, _ => rfl
    | 1, _ => rfl
    | 2, _ => rfl
    | 3, _ => rfl
    | 4, _ => rfl
    | 5, _ => rfl
    | 6, _ => rfl
    | 7, _ => rfl
    | 8, _ => exact OwV.nilR _ _ _ _ _
    )).congr (fun i j _ _ => by simp)
  clear hgrow hown
  go_loopw [4] (fun i wr => ∃ k : Nat, k ≤ n ∧ i = .int .i64 k ∧ Hid (PrtNd l w.heap.size n k wr) ∧ Below w.heap.size w wr) (fun i _ => n - (intOf i).toNat)
  case atStart => exact ⟨0, Nat.zero_le _, rfl, HP, hb1⟩
  case round =>
    clear HP hb1
    obtain ⟨k, hk, rfl, HP, hbel⟩ := hrel
    by_cases hlt : k < n
    · obtain ⟨b, off, rfl, hbl, _, hx⟩ := RdV.at (HR.out wr hbel) hlt
      obtain ⟨e, he⟩ : ∃ e, l[k]?.getD nd0 = e := ⟨_, rfl⟩
      obtain ⟨x0, c0, r0⟩ := hx 0 (by omega)
      obtain ⟨x1, c1, r1⟩ := hx 1 (by omega)
      obtain ⟨x2, c2, r2⟩ := hx 2 (by omega)
      obtain ⟨x3, c3, r3⟩ := hx 3 (by omega)
      obtain ⟨x4, c4, r4⟩ := hx 4 (by omega)
      obtain ⟨x5, c5, r5⟩ := hx 5 (by omega)
      obtain ⟨x6, c6, r6⟩ := hx 6 (by omega)
      obtain ⟨x7, c7, r7⟩ := hx 7 (by omega)
      obtain ⟨x8, c8, r8⟩ := hx 8 (by omega)
      rw [he] at r0 r1 r2 r3 r4 r5 r6 r7 r8
      have HE : Hid _ := he
      have HZ : Hid (szEns e.es ≤ 2097152) := by have h1 := szNds_at l k; rw [he] at h1; have h2 := HL.out; show _ ≤ _; omega
      clear hx he
      obtain ⟨⟨p, q, d⟩, ⟨p2, q2, d2⟩, lk, vl, es⟩ := e
      obtain rfl : x0 = .int .i64 p := r0
      obtain rfl : x1 = .int .i64 q := r1
      obtain rfl : x2 = .bool d := r2
      obtain rfl : x3 = .int .i64 p2 := r3
      obtain rfl : x4 = .int .i64 q2 := r4
      obtain rfl : x5 = .bool d2 := r5
      obtain rfl : x6 = .int .i64 lk := r6
      obtain rfl : x7 = .int .i64 vl := r7
      simp only [Nat.add_zero] at c0
      have RS : Hid (RdV wr S x8 (ensDt es)) := r8
      clear r8
      obtain ⟨xa, xc, rfl, _⟩ := RdV.sliced RS.out
      generalize es.length = xn at RS c8
      go_wp2_with fail
      refine Calls.mono (toNode_any _ ⟨(p, q, d), (p2, q2, d2), lk, vl, es⟩ S wr RS.out HZ.out) ?_
      rintro e w2 ⟨ua, un, uc, rfl, o2, b2⟩
      have hsz := hbel.size
      have HN : Hid _ := PrtNd.next HP.out hlt hbel.size b2 HE.out o2
      obtain ⟨hbad, _⟩ | ⟨g, cp, hg, _, hgl, hfz, hcs⟩ := OwV.head (OwV.step HP.out b2)
      · cases hbad
      simp only [Value.slice.injEq, Option.some.injEq, Addr.mk.injEq, and_true, true_and] at hg
      obtain ⟨rfl, rfl⟩ := hg
      obtain ⟨y0, k0⟩ := hcs (k * 9) (by omega)
      obtain ⟨y1, k1⟩ := hcs (k * 9 + 1) (by omega)
      obtain ⟨y2, k2⟩ := hcs (k * 9 + 2) (by omega)
      obtain ⟨y3, k3⟩ := hcs (k * 9 + 3) (by omega)
      obtain ⟨y4, k4⟩ := hcs (k * 9 + 4) (by omega)
      obtain ⟨y5, k5⟩ := hcs (k * 9 + 5) (by omega)
      obtain ⟨y6, k6⟩ := hcs (k * 9 + 6) (by omega)
      obtain ⟨y7, k7⟩ := hcs (k * 9 + 7) (by omega)
      obtain ⟨y8, k8⟩ := hcs (k * 9 + 8) (by omega)
      have hbe2 := hbel.trans (b2.mono hbel.size)
      clear HP o2 RS hcs b2
      go_wp2
      go_roundw
      case rel => exact ⟨k + 1, by omega, by go_num, HN.out, (((((((((hbe2.setCell (Nat.le_refl _) _).setCell (Nat.le_refl _) _).setCell (Nat.le_refl _) _).setCell (Nat.le_refl _) _).setCell (Nat.le_refl _) _).setCell (Nat.le_refl _) _).setCell (Nat.le_refl _) _).setCell (Nat.le_refl _) _).setCell (Nat.le_refl _) _)⟩
      case measure => simp [intOf]; omega
    · have hkn : k = n := by omega
      subst hkn
      go_wp2
      go_ret
      exact ⟨_, _, _, rfl, OwV.congr HP.out (fun i j hi hj => by rw [if_pos hi]), hbel⟩
end
section
/-- Reads a number from the head of a list of bytes: i bytes were read, n is their sum, sc the next one's weight, f more may come. -/
def getLoop : Nat → List Int → Nat → Int → Int → Option (Int × Nat)
  | 0, _, _, _, _ => none
  | _ + 1, [], _, _, _ => none
  | f + 1, x :: r, i, n, sc =>
    if 128 ≤ x then getLoop f r (i + 1) (n + (x - 128) * sc) (sc * 128)
    else if (0 < i ∧ x = 0) ∨ 2147483647 < n + x * sc then none else some (n + x * sc, i + 1)

def getNum (zs : List Int) (p : Int) : Int × Int :=
  if p < 0 then (0, -1) else match getLoop 5 (zs.drop p.toNat) 0 0 1 with
    | none => (0, -1)
    | some (n, c) => (n, p + c)

/-- The weight behind i bytes. -/
def wt : Nat → Int
  | 0 => 1
  | 1 => 128
  | 2 => 16384
  | 3 => 2097152
  | 4 => 268435456
  | _ => 34359738368
/-- What holds at the head of round k of both loops. -/
def At (zs : List Int) (p k : Nat) (n : Int) : Prop := 0 ≤ n ∧ n ≤ wt k ∧ getLoop 5 (zs.drop p) 0 0 1 = getLoop (5 - k) (zs.drop (p + k)) k n (wt k)
/-- The loops' relation: the sum, the weight, the count. -/
def GRel (zs : List Int) (L p : Nat) (q s i : Value) : Prop :=
  ∃ (k : Nat) (n sc : Int), k ≤ 5 ∧ p + k ≤ L ∧ i = .int .i64 k ∧ q = .int .i64 n ∧ s = .int .i64 sc ∧ Hid (sc = wt k) ∧ Hid (At zs p k n)
end
section
set_option maxHeartbeats 1000000 in
theorem joined_any (a b : Option Addr) (xs ys : List Int) (ca cb : Nat) (w : World) (hx : Reads w a xs) (hy : Reads w b ys) (hl : xs.length ≤ 2097152) (hm : ys.length ≤ 2097152) :
    Calls Tryz.prog 81 #[.slice a xs.length ca, .slice b ys.length cb] w fun e w' => e = .returned (.slice (some ⟨w.heap.size, 0, none⟩) (xs ++ ys).length (xs ++ ys).length) ∧
      Owns w' w.heap.size (.slice (some ⟨w.heap.size, 0, none⟩) (xs ++ ys).length (xs ++ ys).length) (xs ++ ys) ∧ Below w.heap.size w w' ∧ w.heap.size < w'.heap.size := by
  obtain ⟨i0, hi, hz0, hz1, hz2⟩ := info_parts Tryz.infoB
  obtain ⟨m, hm'⟩ : ∃ m, xs.length = m := ⟨_, rfl⟩
  obtain ⟨n, hn'⟩ : ∃ n, ys.length = n := ⟨_, rfl⟩
  have HM : Hid (xs.length = m) := hm'
  have HN : Hid (ys.length = n) := hn'
  rw [List.length_append, hm', hn']
  rw [hm'] at hl
  rw [hn'] at hm
  obtain ⟨X, HX⟩ : ∃ X, Hid (X = bcells xs) := ⟨_, rfl⟩
  obtain ⟨Y, HY⟩ : ∃ Y, Hid (Y = bcells ys) := ⟨_, rfl⟩
  have hXl : X.length = m := by rw [HX.out, bcells_length]; exact hm'
  have hYl : Y.length = n := by rw [HY.out, bcells_length]; exact hn'
  obtain ⟨Z, HZ⟩ : ∃ Z, Hid (Z = bcells (List.replicate (m + n) 0)) := ⟨_, rfl⟩
  have hZl : Z.length = m + n := by rw [HZ.out]; simp
  have hsl : (splice Z 0 X).length = m + n := by rw [length_splice _ _ _ (by omega), hZl]
  have HFIN : Hid (splice (splice Z 0 X) m Y = bcells (xs ++ ys)) := by
    show _ = _
    rw [splice_two Z X Y m hXl (by omega), HX.out, HY.out]; simp [bcells]
  have HX1 : Hid (∀ v ∈ X, v.oneCell' = true) := by show ∀ v ∈ X, v.oneCell' = true; rw [HX.out]; exact bcells_one xs
  have HY1 : Hid (∀ v ∈ Y, v.oneCell' = true) := by show ∀ v ∈ Y, v.oneCell' = true; rw [HY.out]; exact bcells_one ys
  have hXm : X.length = Nat.min m (m + n) := by rw [hXl]; exact (Nat.min_eq_left (by omega)).symm
  have hYm : Y.length = Nat.min n n := by rw [hYl]; exact (Nat.min_self n).symm
  clear hm' hn'
  go_enter Tryz.func81, Tryz.ntmps81
  go_wp2_with (first
    | (at_make; refine wpList_make_full _ rfl _ _ 81 rfl w.heap.size 5 i0 (.int .u8 0) 1 Tryz.underlying81 hi hz0 hz1 .i64 .i64 _ _ (m + n) rfl rfl (by omega) (by omega) (by rw [hz2]; omega) (by unfold maxLen; omega) (Nat.le_refl _) ?_; intro w1 hown hgrow; have hb1 : Below w.heap.size w w1 := (Below.refl _ _).grown hgrow (Nat.le_refl _) (fun k h => by cases h); have hs1 : w.heap.size < w1.heap.size := (hown.lt _ rfl).2; rw [madeCells_bytes, ← HZ.out] at hown; have HG1 : Hid _ := full_heap hown; clear hown hgrow)
    | (refine wpList_copy_splice rfl (.tmp 12) (.tmp 13) 81 81 rfl 5 Tryz.underlying81 Tryz.sizeB _ _ _ _ _ _ rfl rfl w.heap.size 0 Z 5 HG1.out X hXm (fun h0 => ⟨rfl, by rw [HX.out] at h0 ⊢; exact (hx.below hb1).src h0⟩) (by omega) HX1.out w.heap.size w hb1 (Nat.le_refl _) ?_; intro w2 HG2 hb2)
    | (refine wpList_copy_splice rfl (.tmp 18) (.tmp 19) 81 81 rfl 5 Tryz.underlying81 Tryz.sizeB _ _ _ _ _ _ rfl rfl w.heap.size m (splice Z 0 X) 5 HG2.out Y (by rw [hYl]; simp <;> omega) (fun h0 => ⟨by simp <;> omega, by rw [HY.out] at h0 ⊢; exact (hy.below hb2).src h0⟩) (by omega) HY1.out w.heap.size w hb2 (Nat.le_refl _) ?_; intro w3 HG3 hb3))
  all_goals
    go_ret
    have hg3 := HG3.out
    rw [HFIN.out] at hg3
    exact ⟨rfl, full_owns (by have := HM.out; have := HN.out; rw [List.length_append]; omega) (Nat.le_refl _) (by rw [List.length_append, HM.out, HN.out]; omega) hg3, hb3, lt_of_block hg3⟩

/-- The bytes of a number below 128^(f+1). -/
def numB : Nat → Int → List Int
  | 0, n => [n]
  | f + 1, n => if n < 128 then [n] else (n % 128 + 128) :: numB f (n / 128)

def putB (n : Int) : List Int := if n < 0 ∨ 2147483647 < n then [] else numB 4 n
end
section
/-- What holds at the head of each round of the specification's loop. -/
def SRel (xs : List Int) (n : Int) (w : World) (o q : Value) (wr : World) : Prop :=
  ∃ (f : Nat) (m : Int) (pre : List Int), f ≤ 4 ∧ 0 ≤ m ∧ m < wt (f + 1) ∧ q = .int .i64 m ∧ pre.length + f = 4 ∧ numB 4 n = pre ++ numB f m ∧ Owns wr w.heap.size o (xs ++ pre) ∧ Below w.heap.size w wr
end
section
set_option maxRecDepth 100000
end
section
def textB (t : List Int) : List Int := if 40 < t.length then [] else putB t.length ++ t
def getText (zs : List Int) (p : Int) : List Int × Int :=
  if (getNum zs p).2 < 0 ∨ 40 < (getNum zs p).1 ∨ (zs.length : Int) - (getNum zs p).2 < (getNum zs p).1 then ([], -1)
  else ((zs.drop (getNum zs p).2.toNat).take (getNum zs p).1.toNat, (getNum zs p).2 + (getNum zs p).1)
end
section
set_option linter.unusedVariables false
end
section
def flagB (b : Bool) : List Int := if b then [1] else [0]
def hdB (h : Hd) : List Int := putB h.sh ++ (putB h.ino ++ flagB h.dir)
def opB (o : OpD) : List Int := putB o.kind ++ (hdB o.dir ++ (textB o.nm ++ (hdB o.to ++ (textB o.asn ++ putB o.val))))
def enB (e : En) : List Int := textB e.nm ++ hdB e.h
def ensB (l : List En) : List Int := l.flatMap enB
def rpB (r : RpD) : List Int := putB r.code ++ (hdB r.h ++ (putB r.val ++ (putB r.list.length ++ ensB r.list)))
def txB (t : TxD) : List Int := putB t.1 ++ (putB t.2.1 ++ putB t.2.2)
def ptB (p : PtD) : List Int := putB p.kind ++ (hdB p.h ++ (textB p.asn ++ hdB p.to))
def msRest (m : MsD) : List Int :=
  if m.kind = 0 then putB m.req ++ opB m.op
  else if m.kind = 1 then putB m.req ++ rpB m.rp
  else if m.kind = 2 then txB m.tx ++ ptB m.pt
  else if m.kind = 3 then txB m.tx ++ (ptB m.pt ++ (putB m.code ++ hdB m.h))
  else if m.kind = 5 then txB m.tx ++ putB m.code
  else if m.kind = 6 then txB m.tx ++ (putB m.req ++ hdB m.h)
  else if m.kind = 7 then txB m.tx ++ (putB m.req ++ (putB m.code ++ hdB m.h))
  else txB m.tx
def msB (m : MsD) : List Int := putB m.kind ++ (putB m.fr ++ (putB m.to ++ msRest m))
/-- A call that hands back bytes of its own. -/
abbrev Ap (f : FuncId) (args : Array Value) (w : World) (zs : List Int) : Prop :=
  Calls Tryz.prog f args w fun e w' => ∃ v, e = .returned v ∧ isBytes zs ∧ Owns w' w.heap.size v zs ∧ Below w.heap.size w w'
end
section
/-- What lies between two places of zs is just B. -/
def Took (zs : List Int) (p : Int) (B : List Int) (s : Int) : Prop := 0 ≤ p ∧ p ≤ s ∧ s ≤ zs.length ∧ zs.take p.toNat ++ B = zs.take s.toNat
/-- A flag, as the specification reads it. -/
def rdFlag (zs : List Int) (p : Int) : Bool × Int := if p < 0 ∨ (zs.length : Int) ≤ p ∨ 1 < zs[p.toNat]?.getD 0 then (false, -1) else (zs[p.toNat]?.getD 0 == 1, p + 1)
/-- A handle, an operation, a transaction, a part, read at a place. -/
def rdHd (zs : List Int) (p : Int) : Hd × Int := let a := getNum zs p; let b := getNum zs a.2; let c := rdFlag zs b.2; ((a.1, b.1, c.1), c.2)
def rdOp (zs : List Int) (p : Int) : OpD × Int := let k := getNum zs p; let d := rdHd zs k.2; let n := getText zs d.2; let t := rdHd zs n.2; let s := getText zs t.2; let v := getNum zs s.2; (⟨k.1, d.1, n.1, t.1, s.1, v.1⟩, v.2)
def rdTx (zs : List Int) (p : Int) : TxD × Int := let a := getNum zs p; let b := getNum zs a.2; let c := getNum zs b.2; ((a.1, b.1, c.1), c.2)
def rdPt (zs : List Int) (p : Int) : PtD × Int := let k := getNum zs p; let d := rdHd zs k.2; let n := getText zs d.2; let t := rdHd zs n.2; (⟨k.1, d.1, n.1, t.1⟩, t.2)
/-- Entries: the specification stops where it failed; the program goes on. -/
def rdEns (zs : List Int) : Nat → Int → List En × Int
  | 0, p => ([], p)
  | f + 1, p => if p < 0 then ([], p) else (⟨(getText zs p).1, (rdHd zs (getText zs p).2).1⟩ :: (rdEns zs f (rdHd zs (getText zs p).2).2).1, (rdEns zs f (rdHd zs (getText zs p).2).2).2)
def rdEnsP (zs : List Int) : Nat → Int → List En × Int
  | 0, p => ([], p)
  | f + 1, p => (⟨(getText zs p).1, (rdHd zs (getText zs p).2).1⟩ :: (rdEnsP zs f (rdHd zs (getText zs p).2).2).1, (rdEnsP zs f (rdHd zs (getText zs p).2).2).2)
end
section
def rdEnS (zs : List Int) (p : Int) : List En × Int := rdEns zs (min (getNum zs p).1.toNat 13) (getNum zs p).2
def rdEnP (zs : List Int) (p : Int) : List En × Int := if 12 < (getNum zs p).1 then ([], -1) else rdEnsP zs (getNum zs p).1.toNat (getNum zs p).2
def rdRp (e : Int → List En × Int) (zs : List Int) (p : Int) : RpD × Int := let k := getNum zs p; let h := rdHd zs k.2; let v := getNum zs h.2; let l := e v.2; (⟨k.1, h.1, v.1, l.1⟩, l.2)
def rdMs (e : Int → List En × Int) (zs : List Int) : MsD × Int :=
  let k := getNum zs 0; let f := getNum zs k.2; let t := getNum zs f.2
  if k.1 = 0 then let r := getNum zs t.2; let o := rdOp zs r.2; (⟨k.1, f.1, t.1, r.1, o.1, rp0, tx0, pt0, 0, hd0⟩, o.2)
  else if k.1 = 1 then let r := getNum zs t.2; let o := rdRp e zs r.2; (⟨k.1, f.1, t.1, r.1, op0, o.1, tx0, pt0, 0, hd0⟩, o.2)
  else let x := rdTx zs t.2
    if k.1 = 2 then let o := rdPt zs x.2; (⟨k.1, f.1, t.1, 0, op0, rp0, x.1, o.1, 0, hd0⟩, o.2)
    else if k.1 = 3 then let o := rdPt zs x.2; let c := getNum zs o.2; let h := rdHd zs c.2; (⟨k.1, f.1, t.1, 0, op0, rp0, x.1, o.1, c.1, h.1⟩, h.2)
    else if k.1 = 5 then let c := getNum zs x.2; (⟨k.1, f.1, t.1, 0, op0, rp0, x.1, pt0, c.1, hd0⟩, c.2)
    else if k.1 = 6 then let r := getNum zs x.2; let h := rdHd zs r.2; (⟨k.1, f.1, t.1, r.1, op0, rp0, x.1, pt0, 0, h.1⟩, h.2)
    else if k.1 = 7 then let r := getNum zs x.2; let c := getNum zs r.2; let h := rdHd zs c.2; (⟨k.1, f.1, t.1, r.1, op0, rp0, x.1, pt0, c.1, h.1⟩, h.2)
    else (⟨k.1, f.1, t.1, 0, op0, rp0, x.1, pt0, 0, hd0⟩, x.2)
end
section
set_option linter.unusedVariables false
end
section
/-- A cursor in block pb: it reads zs, which lie in elder blocks, and stands at p. -/
def CurV (T : TypeId) (pb : Nat) (zs : List Int) (v : Value) (p : Int) (w : World) : Prop := VarA w pb T #[v, .int .i64 p] ∧ RdV w (fun b => b < pb) v (.bytes zs) ∧ -1 ≤ p ∧ p ≤ zs.length
section
variable {T : TypeId} {pb : Nat} {zs : List Int} {v : Value} {p : Int} {w w' : World}
end
/-- A value of one or more cells stored into a variable, from the cell off on. -/
theorem storeG_run {P : Program} {w : World} {g off : Nat} {T ty : TypeId} {old vs : Array Value} {u : Value} (hu : u.cells = vs) (hv : VarA w g T old) (hl : off + vs.size ≤ old.size) (hi : (P.info? ty).map (·.size) = some vs.size) (h1 : vs.toList.all (·.oneCell') = true) :
    (storeVar ty ⟨g, off, none⟩ u).run P w = .ok () (w.setRow g (old.toList.take off ++ vs.toList ++ old.toList.drop (off + vs.size)).toArray) := by
  have h := run_storeCells_at (P := P) g off T vs.toList 0 old w hv (by simpa using hl) (fun v hv => (List.all_eq_true.1 h1) v hv)
  cases hq : P.info? ty with
  | none => simp [hq] at hi
  | some i =>
    have hs : vs.size = i.size := by simp [hq] at hi; omega
    simp only [Nat.add_zero, Array.length_toList] at h
    simp [storeVar, sizeOf, typeInfo, hq, hu, hs, h]
theorem wpList_storeG {ty t' : TypeId} {dst : Option Tmp} {x y : Operand} {pos : String} {af : Array Edge} {ops : Array Oper} {rest : List Oper} {a : Act} {Q : Exit → Act → World → Prop} {w : World} {g off : Nat} {T : TypeId} {old vs new : Array Value} {u : Value}
    (hv : VarA w g T old) (hx : a.eval x = .pointer (some ⟨g, off, none⟩)) (hy : a.eval y = u) (hu : u.cells = vs) (hi : (Tryz.prog.info? ty).map (·.size) = some vs.size) (h1 : vs.toList.all (·.oneCell') = true) (hl : off + vs.size ≤ old.size)
    (hnew : (old.toList.take off ++ vs.toList ++ old.toList.drop (off + vs.size)).toArray = new)
    (hK : ∀ w', VarA w' g T new → Turned (fun b => b = g) w w' → wpList Tryz.prog ops Q rest (a.put dst undef) w') :
    wpList Tryz.prog ops Q (⟨dst, .store ty x y, t', pos, af, none⟩ :: rest) a w := by
  refine wpList_plain rfl fun K' hK' => ?_
  unfold Oper.wp execOp
  simp only [hx, hy, Instr.storeAt, Instr.sureAddr, Sem.run_bind, Sem.run_pure, Result.andThen_ok, storeG_run hu hv hl hi h1]
  rw [hnew]
  exact hK' _ _ (hK _ (VarA.row hv) (turned_row w g new))
/-- The cursor has gone from p to q. -/
abbrev Gone (T : TypeId) (pb : Nat) (zs : List Int) (v : Value) (q : Int) (w w' : World) : Prop := CurV T pb zs v q w' ∧ Turned (fun b => b = pb) w w'
end
section
def enVal (e : En) (u : Value) : Nat → Value
  | 0 => u
  | 1 => .int .i64 e.h.sh
  | 2 => .int .i64 e.h.ino
  | _ => .bool e.h.dir
theorem OwV.snocEn {w w' : World} {lo hi hi2 g cap : Nat} {v u : Value} {l : List En} {e : En} (hown : OwV w (fun b => lo ≤ b ∧ b < hi) v (ensDt l)) (hu : OwV w (fun b => hi ≤ b ∧ b < hi2) u (.bytes e.nm)) (h2 : hi2 ≤ w.heap.size) (hh2 : hi ≤ hi2) (hlh : lo ≤ hi)
    (C : List Value) (hC : w.ownsRow 0 83 4 v l.length C) (V : Nat → Nat → Value) (Q : Nat → Nat → Nat → Prop) (hS : ∀ b, v.ownBlock = some b → lo ≤ b ∧ b < hi) (hV : ∀ i j, i < l.length → j < 4 → C[i * 4 + j]? = some (V i j)) (hQ : ∀ i j, i < l.length → j < 4 → OwV w (Q i j) (V i j) (enCell (l[i]?.getD en0) j))
    (hq1 : ∀ i j b, i < l.length → j < 4 → Q i j b → (lo ≤ b ∧ b < hi) ∧ v.ownBlock ≠ some b) (hq2 : ∀ i j i' j' b, i < l.length → j < 4 → i' < l.length → j' < 4 → Q i j b → Q i' j' b → i = i' ∧ j = j')
    (ho : w'.ownsRow 0 83 4 (.slice (some ⟨g, 0, none⟩) (l.length + 1) cap) (l.length + 1) (C ++ [u, .int .i64 e.h.sh, .int .i64 e.h.ino, .bool e.h.dir])) (hg : w.grownBy w' v.ownBlock) (hgg : v.ownBlock = some g ∨ g = w.heap.size) (hgl : g < w'.heap.size) :
    OwV w' (fun b => lo ≤ b ∧ b < w'.heap.size) (.slice (some ⟨g, 0, none⟩) (l.length + 1) cap) (ensDt (l ++ [e])) := by
  have hsz := hg.size
  have hCl : C.length = l.length * 4 := hC.1
  have hkeep : ∀ (R : Nat → Prop), (∀ b, R b → v.ownBlock ≠ some b) → Keeps R w w' := fun R hR => ⟨hsz, fun b hb hlt => hg.block b hlt (fun h => hR b hb h.symm)⟩
  have hln : (l ++ [e]).length = l.length + 1 := by simp
  unfold ensDt
  rw [hln]
  refine OwV.mkRows ⟨fun i j => if i < l.length then V i j else enVal e u j, _, fun i j => if i < l.length then Q i j else if j = 0 then (fun b => hi ≤ b ∧ b < hi2) else (fun _ => False), ho, ?_, ?_, ?_, ?_, ?_⟩
  · intro b hb
    obtain rfl : g = b := by simpa [Value.ownBlock] using hb
    rcases hgg with h | h
    · exact ⟨(hS _ h).1, hgl⟩
    · exact ⟨by omega, hgl⟩
  · intro i j hi' hj
    by_cases hlt : i < l.length
    · simp only [hlt, if_true]
      rw [List.getElem?_append_left (by rw [hCl]; exact place_lt hlt hj)]
      exact hV i j hlt hj
    · obtain rfl : i = l.length := by omega
      simp only [Nat.lt_irrefl, if_false]
      rw [List.getElem?_append_right (by omega), hCl, show l.length * 4 + j - l.length * 4 = j by omega]
      match j, hj with
      | 0, _ => rfl
      | 1, _ => rfl
      | 2, _ => rfl
      | 3, _ => rfl
  · intro i j hi' hj
    by_cases hlt : i < l.length
    · simp only [hlt, if_true]
      rw [show (l ++ [e])[i]?.getD en0 = l[i]?.getD en0 by rw [List.getElem?_append_left hlt]]
      exact OwV.keep (hkeep _ (fun b hb => (hq1 i j b hlt hj hb).2)) (hQ i j hlt hj)
    · obtain rfl : i = l.length := by omega
      simp only [Nat.lt_irrefl, if_false]
      rw [show (l ++ [e])[l.length]?.getD en0 = e by simp]
      match j, hj with
      | 0, _ => exact OwV.keep (hkeep (fun b => hi ≤ b ∧ b < hi2) (fun b hb h => by have := hS b h; omega)) hu
      | 1, _ => rfl
      | 2, _ => rfl
      | 3, _ => rfl
  · intro i j b hi' hj hb
    by_cases hlt : i < l.length
    · simp only [hlt, if_true] at hb
      have h1 := hq1 i j b hlt hj hb
      refine ⟨⟨h1.1.1, by omega⟩, ?_⟩
      intro h
      obtain rfl : g = b := by simpa [Value.ownBlock] using h
      rcases hgg with h3 | h3
      · exact h1.2 h3
      · omega
    · simp only [hlt, if_false] at hb
      by_cases hj0 : j = 0
      · simp only [hj0, if_true] at hb
        refine ⟨⟨by omega, by omega⟩, ?_⟩
        intro h
        obtain rfl : g = b := by simpa [Value.ownBlock] using h
        rcases hgg with h3 | h3
        · have := hS _ h3; omega
        · omega
      · simp only [hj0, if_false] at hb
  · intro i j i' j' b hi' hj hi2' hj' hb hb'
    by_cases hlt : i < l.length <;> by_cases hlt' : i' < l.length
    · simp only [hlt, hlt', if_true] at hb hb'
      exact hq2 i j i' j' b hlt hj hlt' hj' hb hb'
    · simp only [hlt, hlt', if_true, if_false] at hb hb'
      have h1 := hq1 i j b hlt hj hb
      by_cases hj0 : j' = 0
      · simp only [hj0, if_true] at hb'; omega
      · simp only [hj0, if_false] at hb'
    · simp only [hlt, hlt', if_true, if_false] at hb hb'
      have h1 := hq1 i' j' b hlt' hj' hb'
      by_cases hj0 : j = 0
      · simp only [hj0, if_true] at hb; omega
      · simp only [hj0, if_false] at hb
    · simp only [hlt, hlt', if_false] at hb hb'
      by_cases hj0 : j = 0 <;> by_cases hj0' : j' = 0
      · exact ⟨by omega, by omega⟩
      · simp only [hj0', if_false] at hb'
      · simp only [hj0, if_false] at hb
      · simp only [hj0, if_false] at hb
end
section
theorem step_appS {ops : Array Oper} {o : Oper} {a : Act} {w : World} {K : Act → World → Prop} {Q : Exit → Act → World → Prop} {E : Prop} (hgd : o.guard = none) (s x : Operand)
    (ho : o.op = .call { callee := .builtin .append, args := #[s, x], argTypes := #[81, 81] })
    (base : Nat) (v : Value) (zs ys : List Int) (hs : a.eval s = v) (hown : Owns w base v zs) (ao : Option Addr) (m c : Nat) (hx : a.eval x = .slice ao m c) (hm : m = ys.length) (hr : Reads w ao ys)
    (hl : zs.length ≤ 4194304) (hl' : ys.length ≤ 4194304) (hbase : base ≤ w.heap.size) (hnil : ao = none → m = 0 ∧ c = 0)
    (h : ∀ v' w', Owns w' base v' (zs ++ ys) → w.grownBy w' v.ownBlock → K (a.put o.dst v') w') : if Region.wanted o (yielded ops a.tmps) = true then Oper.wp Tryz.prog o a w K Q else E := by
  have hw : Region.wanted o (yielded ops a.tmps) = true := by simp [Region.wanted, hgd]
  rw [if_pos hw]
  obtain ⟨i0, hi, hz0, hz1, hz2⟩ := info_parts Tryz.infoB
  cases ao with
  | none =>
    obtain ⟨h0, hc0⟩ := hnil rfl
    have : ys = [] := List.eq_nil_of_length_eq_zero (by omega)
    subst this
    subst hm
    subst hc0
    have hrun := run_append_owned_none (P := Tryz.prog) (w := w) base 81 o.type 5 i0 1 Tryz.underlying81 hi v zs.length (bcells zs) hown
    unfold Oper.wp
    have hx' : a.eval x = .slice none 0 0 := hx
    simp [execOp, ho, resolve, invoke, builtin, hs, hx', hrun, Result.andThen]
    exact h v w (by rw [List.append_nil]; exact hown) ⟨rfl, rfl, rfl, Nat.le_refl _, fun _ _ _ => rfl⟩
  | some ad =>
    refine wp_append_own w s x 81 ho base 5 i0 (.int .u8 0) 1 1 Tryz.underlying81 hi hz0 hz1 hz2 rfl (by decide) v zs.length (bcells zs) hs hown ad m c (bcells ys) hx (by simp [hm]) hr.srcAt (bcells_one ys) (by unfold maxLen; omega) (by omega) hbase ?_
    intro v' w' ho' hg _
    refine h v' w' ?_ hg
    unfold Owns
    rw [List.length_append, ← hm]
    simpa [bcells] using ho'
/-- append(v, e) as a step of a region that draws its order. -/
theorem step_appEn {ops : Array Oper} {o : Oper} {a : Act} {K : Act → World → Prop} {Q : Exit → Act → World → Prop} {E : Prop} (w : World) (hgd : o.guard = none) (s x : Operand)
    (ho : o.op = .call { callee := .builtin .append, args := #[s, x], argTypes := #[52, 52] })
    (v : Value) (hs : a.eval s = v) (l : List En) (e : En) (u : Value) (lo hi hi2 q : Nat) (hx : a.eval x = .slice (some ⟨q, 0, none⟩) 1 1) (hone : u.oneCell' = true) (fr : Nat × Nat) (hq : w.heap[q]? = some (.cells #[u, .int .i64 e.h.sh, .int .i64 e.h.ino, .bool e.h.dir] 83 fr))
    (hown : OwV w (fun b => lo ≤ b ∧ b < hi) v (ensDt l)) (hu : OwV w (fun b => hi ≤ b ∧ b < hi2) u (.bytes e.nm)) (h2 : hi2 ≤ w.heap.size) (hh2 : hi ≤ hi2) (hlh : lo ≤ hi) (hl : l.length ≤ 4000)
    (h : ∀ g n cap w', OwV w' (fun b => lo ≤ b ∧ b < w'.heap.size) (.slice g n cap) (ensDt (l ++ [e])) → Turned (fun b => lo ≤ b ∧ b < hi) w w' → K (a.put o.dst (.slice g n cap)) w') : if Region.wanted o (yielded ops a.tmps) = true then Oper.wp Tryz.prog o a w K Q else E := by
  obtain ⟨i0, hi0, hz0, hz1, hz2⟩ := info_parts Tryz.infoEn
  have hown' := hown
  unfold ensDt at hown'
  obtain ⟨V, C, Qs, h1, hS, h3, h4, h5, h6⟩ := OwV.inv hown'
  refine step_append_lies w hgd s x 52 ho 0 83 i0 (.agg #[.slice none 0 0, .int .i64 0, .int .i64 0, .bool false]) 4 48 Tryz.underlying52 hi0 hz0 hz1 hz2 rfl (by decide) v l.length C hs h1 ⟨q, 0, none⟩ 1 1 [u, .int .i64 e.h.sh, .int .i64 e.h.ino, .bool e.h.dir] hx rfl (World.news_of_block hq) (fun y hy => ?_) (by decide) (by unfold maxLen; omega) (by omega) (Nat.zero_le _) w.heap.size rfl ?_
  · simp only [List.mem_cons, List.not_mem_nil, or_false] at hy
    rcases hy with rfl | rfl | rfl | rfl
    · exact hone
    · rfl
    · rfl
    · rfl
  intro g cap w' ho' hg hgg hgl
  exact h _ _ _ w' (OwV.snocEn hown hu h2 hh2 hlh C h1 V Qs hS h3 h4 h5 h6 ho' hg hgg hgl) (Turned.ofGrown hg (fun k hk => hS k hk))

set_option maxHeartbeats 4000000 in
theorem specCopyEn_any (v : Value) (l : List En) (S : Nat → Prop) (w : World) (r : RdV w S v (ensDt l)) (hl : szEns l ≤ 2097152) (hn : l.length ≤ 4000) :
    Calls Tryz.prog 43 #[v] w fun e w' => ∃ a n c, e = .returned (.slice a n c) ∧ OwV w' (fun b => w.heap.size ≤ b ∧ b < w'.heap.size) (.slice a n c) (ensDt l) ∧ Below w.heap.size w w' := by
  obtain ⟨a, cap, rfl, _⟩ := RdV.sliced r
  have HR : Hid (∀ W, Below w.heap.size w W → RdV W S (.slice a l.length cap) (ensDt l)) := fun W hW => r.step hW
  have HLN : Hid (∀ k, k < l.length → (l[k]?.getD en0).nm.length ≤ 2097152) := fun k hk => Nat.le_trans (szEns_at l k) hl
  clear r hl
  go_enter Tryz.func43, Tryz.ntmps43
  go_wp2
  go_loopw [3, 4] (fun o i wr => ∃ (k : Nat) (ga : Option Addr) (gn gc : Nat), k ≤ l.length ∧ i = .int .i64 k ∧ o = .slice ga gn gc ∧ Hid (OwV wr (fun b => w.heap.size ≤ b ∧ b < wr.heap.size) (.slice ga gn gc) (ensDt (l.take k))) ∧ Hid (Below w.heap.size w wr)) (fun _ i _ => l.length - (intOf i).toNat)
  case atStart => exact ⟨0, none, 0, 0, Nat.zero_le _, rfl, rfl, OwV.nilR _ _ _ _ _, Below.refl _ _⟩
  case round =>
    obtain ⟨k, ga, gn, gc, hk, rfl, rfl, HO, HB⟩ := hrel
    by_cases hlt : k < l.length
    · obtain ⟨b, off, rfl, hbl, hSb, hc⟩ := (HR.out w (Below.refl _ _)).at hlt
      obtain ⟨x0, q0, r0⟩ := hc 0 (by omega)
      obtain ⟨x1, q1, r1⟩ := hc 1 (by omega)
      obtain ⟨x2, q2, r2⟩ := hc 2 (by omega)
      obtain ⟨x3, q3, r3⟩ := hc 3 (by omega)
      have htk : l.take (k + 1) = l.take k ++ [l[k]?.getD en0] := by rw [List.take_succ_eq_append_getElem hlt]; simp [hlt]
      have hnm := HLN.out k hlt
      generalize l[k]?.getD en0 = e at r0 r1 r2 r3 htk hnm
      obtain ⟨nm, ⟨sh, ino, dr⟩⟩ := e
      obtain rfl : x1 = .int .i64 sh := r1
      obtain rfl : x2 = .int .i64 ino := r2
      obtain rfl : x3 = .bool dr := r3
      have r0' : RdV w S x0 (.bytes nm) := r0
      obtain ⟨a0, c0, rfl⟩ := r0'.sliceB
      have HS : Hid (∀ W, Below w.heap.size w W → W.cell? ⟨b, off + k * 4, none⟩ = some (.slice a0 nm.length c0) ∧ W.cell? ⟨b, off + k * 4 + 1, none⟩ = some (.int .i64 sh) ∧ W.cell? ⟨b, off + k * 4 + 2, none⟩ = some (.int .i64 ino) ∧ W.cell? ⟨b, off + k * 4 + 3, none⟩ = some (.bool dr)) := fun W hW => ⟨(hW.cell (p := ⟨b, off + k * 4, none⟩) hbl).trans (by simpa using q0), (hW.cell (p := ⟨b, off + k * 4 + 1, none⟩) hbl).trans q1, (hW.cell (p := ⟨b, off + k * 4 + 2, none⟩) hbl).trans q2, (hW.cell (p := ⟨b, off + k * 4 + 3, none⟩) hbl).trans q3⟩
      have HRB : Hid (∀ W, Below w.heap.size w W → Reads W a0 nm ∧ Headed a0 nm.length c0) := fun W hW => by
        obtain ⟨a', cap', he, hh, hr⟩ := (r0'.step hW).b.reads
        simp only [Value.slice.injEq, true_and] at he
        obtain ⟨rfl, rfl⟩ := he
        exact ⟨hr, hh⟩
      have HZ : Hid (isBytes nm) := r0'.b.1
      have hix : (k : Int) < (l.length : Int) := by omega
      have HTK : Hid _ := htk
      have hsw := HB.out.size
      clear r0 r0' hc htk
      go_wp2
      refine wp_region_noPanic ?_
      refine wp_region_held_drew (S := fun w' => w'.cell? ⟨b, off + k * 4, none⟩ = some (.slice a0 nm.length c0) ∧ w'.cell? ⟨b, off + k * 4 + 1, none⟩ = some (.int .i64 sh) ∧ w'.cell? ⟨b, off + k * 4 + 2, none⟩ = some (.int .i64 ino) ∧ w'.cell? ⟨b, off + k * 4 + 3, none⟩ = some (.bool dr)) (by kernel_rfl) (HS.out _ (HB.out.trans ((Below.drew (Below.refl wr.heap.size wr)).mono HB.out.size))) (fun hHeld => ?_)
      refine wpAnyH_take (i := 0) (v := ?_) rfl (by kernel_rfl) (by kernel_rfl) (by kernel_rfl) (fun _ _ _ h => h) (Or.inl ⟨by rfl, ?_⟩) (by assumption) ?_
      rotate_left
      · (intro w_ hSw_; (try dsimp only at hSw_); go_simp; try with_reducible rfl)
      try simp only [Act.put, List.setIfInBounds_toArray, List.set_cons_zero, List.set_cons_succ, List.getElem_toArray, List.getElem_cons_zero, List.getElem_cons_succ]
      refine wpAnyH_take (i := 2) (v := ?_) rfl (by kernel_rfl) (by kernel_rfl) (by kernel_rfl) (fun _ _ _ h => h) (Or.inl ⟨by rfl, ?_⟩) (by assumption) ?_
      rotate_left
      · (intro w_ hSw_; (try dsimp only at hSw_); go_simp; try with_reducible rfl)
      try simp only [Act.put, List.setIfInBounds_toArray, List.set_cons_zero, List.set_cons_succ, List.getElem_toArray, List.getElem_cons_zero, List.getElem_cons_succ]
      refine wpAnyH_take (i := 3) (v := ?_) rfl (by kernel_rfl) (by kernel_rfl) (by kernel_rfl) (fun _ _ _ h => h) (Or.inl ⟨by rfl, ?_⟩) (by assumption) ?_
      rotate_left
      · (intro w_ hSw_; (try dsimp only at hSw_); go_simp; try with_reducible rfl)
      try simp only [Act.put, List.setIfInBounds_toArray, List.set_cons_zero, List.set_cons_succ, List.getElem_toArray, List.getElem_cons_zero, List.getElem_cons_succ]
      refine wpAnyH_take (i := 4) (v := ?_) rfl (by kernel_rfl) (by kernel_rfl) (by kernel_rfl) (fun _ _ _ h => h) (Or.inl ⟨by rfl, ?_⟩) (by assumption) ?_
      rotate_left
      · (intro w_ hSw_; (try dsimp only at hSw_); go_simp; try with_reducible rfl)
      try simp only [Act.put, List.setIfInBounds_toArray, List.set_cons_zero, List.set_cons_succ, List.getElem_toArray, List.getElem_cons_zero, List.getElem_cons_succ]
      refine wpAnyH_take (i := 5) (v := ?_) rfl (by kernel_rfl) (by kernel_rfl) (by kernel_rfl) (fun _ _ _ h => h) (Or.inl ⟨by rfl, ?_⟩) (by assumption) ?_
      rotate_left
      · (intro w_ hSw_; (try dsimp only at hSw_); go_simp; try with_reducible rfl)
      try simp only [Act.put, List.setIfInBounds_toArray, List.set_cons_zero, List.set_cons_succ, List.getElem_toArray, List.getElem_cons_zero, List.getElem_cons_succ]
      refine wpAnyH_take (i := 6) (v := ?_) rfl (by kernel_rfl) (by kernel_rfl) (by kernel_rfl) (fun _ _ _ h => h) (Or.inl ⟨by rfl, ?_⟩) (by assumption) ?_
      rotate_left
      · (intro w_ hSw_; (try dsimp only at hSw_); go_simp; try with_reducible rfl)
      try simp only [Act.put, List.setIfInBounds_toArray, List.set_cons_zero, List.set_cons_succ, List.getElem_toArray, List.getElem_cons_zero, List.getElem_cons_succ]
      refine wpAnyH_take (i := 8) (v := ?_) rfl (by kernel_rfl) (by kernel_rfl) (by kernel_rfl) (fun _ _ _ h => h) (Or.inl ⟨by rfl, ?_⟩) (by assumption) ?_
      rotate_left
      · (intro w_ hSw_; (try dsimp only at hSw_); go_simp; try with_reducible rfl)
      try simp only [Act.put, List.setIfInBounds_toArray, List.set_cons_zero, List.set_cons_succ, List.getElem_toArray, List.getElem_cons_zero, List.getElem_cons_succ]
      refine wpAnyH_take (i := 9) (v := ?_) rfl (by kernel_rfl) (by kernel_rfl) (by kernel_rfl) (fun _ _ _ h => h) (Or.inl ⟨by rfl, ?_⟩) (by assumption) ?_
      rotate_left
      · (intro w_ hSw_; (try dsimp only at hSw_); go_simp; try with_reducible rfl)
      try simp only [Act.put, List.setIfInBounds_toArray, List.set_cons_zero, List.set_cons_succ, List.getElem_toArray, List.getElem_cons_zero, List.getElem_cons_succ]
      refine wpAnyH_take (i := 10) (v := ?_) rfl (by kernel_rfl) (by kernel_rfl) (by kernel_rfl) (fun _ _ _ h => h) (Or.inl ⟨by rfl, ?_⟩) (by assumption) ?_
      rotate_left
      · (intro w_ hSw_; (try dsimp only at hSw_); go_simp; try with_reducible rfl)
      try simp only [Act.put, List.setIfInBounds_toArray, List.set_cons_zero, List.set_cons_succ, List.getElem_toArray, List.getElem_cons_zero, List.getElem_cons_succ]
      refine wpAnyH_take (i := 11) (v := ?_) rfl (by kernel_rfl) (by kernel_rfl) (by kernel_rfl) (fun _ _ _ h => h) (Or.inl ⟨by rfl, ?_⟩) (by assumption) ?_
      rotate_left
      · (intro w_ hSw_; (try dsimp only at hSw_); go_simp; try with_reducible rfl)
      try simp only [Act.put, List.setIfInBounds_toArray, List.set_cons_zero, List.set_cons_succ, List.getElem_toArray, List.getElem_cons_zero, List.getElem_cons_succ]
      refine wpAnyH_take (i := 12) (v := ?_) rfl (by kernel_rfl) (by kernel_rfl) (by kernel_rfl) (fun _ _ _ h => h) (Or.inl ⟨by rfl, ?_⟩) (by assumption) ?_
      rotate_left
      · (intro w_ hSw_; (try dsimp only at hSw_); go_simp; try with_reducible rfl)
      try simp only [Act.put, List.setIfInBounds_toArray, List.set_cons_zero, List.set_cons_succ, List.getElem_toArray, List.getElem_cons_zero, List.getElem_cons_succ]
      refine wpAnyH_ready (rs := [1]) (by kernel_rfl) (by simp) ?_
      refine AllReadyH.cons rfl (fun K hK => ?_) AllReadyH.nil
      go_simp
      have b5 : Below wr.heap.size wr (wr.drew.alloc (.cells #[] 5)) := Below.alloc (Below.drew (Below.refl wr.heap.size wr)) (Nat.le_refl _) _
      refine hK.out _ _ (HS.out _ (HB.out.trans (b5.mono HB.out.size))) (fun hHeld => ?_)
      clear hK K
      try simp only [Act.put, List.setIfInBounds_toArray, List.set_cons_zero, List.set_cons_succ, List.getElem_toArray, List.getElem_cons_zero, List.getElem_cons_succ]
      refine wpAnyH_ready (rs := [7]) (by kernel_rfl) (by simp) ?_
      refine AllReadyH.cons rfl (fun K hK => ?_) AllReadyH.nil
      refine step_appS rfl (.tmp 12) (.tmp 17) (by rfl) wr.heap.size _ [] nm (by rfl) (owns_empty wr.drew) a0 nm.length c0 (by rfl) rfl (HRB.out _ (HB.out.trans (b5.mono HB.out.size))).1 (by simp) (by omega) (by simp) (fun h => (HRB.out _ (HB.out.trans (b5.mono HB.out.size))).2.2.2 h) ?_
      intro v6 w6 ho6 hg6
      rw [List.nil_append] at ho6
      obtain ⟨ua, uc, rfl, _⟩ := ho6.shape
      have b6 : Below wr.heap.size wr w6 := Below.grown b5 hg6 (by simp) (fun q hq => ((owns_empty wr.drew).lt q hq).1)
      have s6 := b6.size
      refine hK.out _ _ (HS.out _ (HB.out.trans (b6.mono HB.out.size))) (fun hHeld => ?_)
      clear hK K
      try simp only [Act.put, List.setIfInBounds_toArray, List.set_cons_zero, List.set_cons_succ, List.getElem_toArray, List.getElem_cons_zero, List.getElem_cons_succ]
      refine wpAnyH_take (i := 13) (v := ?_) rfl (by kernel_rfl) (by kernel_rfl) (by kernel_rfl) (fun _ _ _ h => h) (Or.inl ⟨by rfl, ?_⟩) (by assumption) ?_
      rotate_left
      · (intro w_ hSw_; (try dsimp only at hSw_); go_simp; try with_reducible rfl)
      try simp only [Act.put, List.setIfInBounds_toArray, List.set_cons_zero, List.set_cons_succ, List.getElem_toArray, List.getElem_cons_zero, List.getElem_cons_succ]
      refine wpAnyH_ready (rs := [14]) (by kernel_rfl) (by simp) ?_
      refine AllReadyH.cons rfl (fun K hK => ?_) AllReadyH.nil
      go_simp
      have b7 : Below wr.heap.size wr (w6.alloc (.cells #[.slice ua nm.length uc, .int .i64 sh, .int .i64 ino, .bool dr] 83)) := Below.alloc b6 s6 _
      refine hK.out _ _ (HS.out _ (HB.out.trans (b7.mono HB.out.size))) (fun hHeld => ?_)
      clear hK K
      try simp only [Act.put, List.setIfInBounds_toArray, List.set_cons_zero, List.set_cons_succ, List.getElem_toArray, List.getElem_cons_zero, List.getElem_cons_succ]
      refine wpAnyH_ready (rs := [15]) (by kernel_rfl) (by simp) ?_
      refine AllReadyH.cons rfl (fun K hK => ?_) AllReadyH.nil
      refine step_appEn (w6.alloc (.cells #[.slice ua nm.length uc, .int .i64 sh, .int .i64 ino, .bool dr] 83)) rfl (.tmp 11) (.tmp 25) (by rfl) _ (by rfl) (l.take k) ⟨nm, (sh, ino, dr)⟩ (.slice ua nm.length uc) w.heap.size wr.heap.size w6.heap.size w6.heap.size (by rfl) rfl (0, 0) (heap_alloc_new _ _) (OwV.step HO.out b7) (OwV.step (OwV.mono (fun q hq => hq) (OwV.ofOwns HZ.out ho6)) (Below.newH _)) (by simp) s6 hsw (by rw [List.length_take]; omega) ?_
      intro g8 n8 c8 w8 ho8 t8
      have s8 := t8.size
      rw [World.size_alloc] at s8
      have HB8 : Below w.heap.size w w8 := Turned.below (HB.out.trans (b7.mono HB.out.size)) t8 (by have := HB.out.size; simp; omega) (fun i hi => hi.1)
      refine hK.out _ _ (HS.out _ HB8) (fun hHeld => ?_)
      clear hK K
      try simp only [Act.put, List.setIfInBounds_toArray, List.set_cons_zero, List.set_cons_succ, List.getElem_toArray, List.getElem_cons_zero, List.getElem_cons_succ]
      refine wpAnyH_take (i := 16) (v := ?_) rfl (by kernel_rfl) (by kernel_rfl) (by kernel_rfl) (fun _ _ _ h => h) (Or.inl ⟨by rfl, ?_⟩) (by assumption) ?_
      rotate_left
      · (intro w_ hSw_; (try dsimp only at hSw_); go_simp; try with_reducible rfl)
      try simp only [Act.put, List.setIfInBounds_toArray, List.set_cons_zero, List.set_cons_succ, List.getElem_toArray, List.getElem_cons_zero, List.getElem_cons_succ]
      refine wpAnyH_done (by kernel_rfl) (NoPanic.normal ?_) _
      clear hHeld
      rw [← HTK.out] at ho8
      have HO8 : Hid (OwV w8 _ _ _) := ho8
      have HB9 : Hid (Below w.heap.size w w8) := HB8
      clear ho8 HB8 t8 b5 b6 b7 ho6 hg6
      go_wp2
      refine ⟨⟨k + 1, g8, n8, c8, by omega, by go_num, rfl, HO8, HB9⟩, by simp [intOf]; omega⟩
    · have he : k = l.length := by omega
      subst he
      rw [List.take_length] at HO
      go_wp2
      go_ret
      exact ⟨_, _, _, rfl, HO.out, HB.out⟩
end
section
/-- A node's cells, its entries' value being x. -/
def ndVal (n : Nd) (x : Value) : Nat → Value
  | 0 => .int .i64 n.h.sh
  | 1 => .int .i64 n.h.ino
  | 2 => .bool n.h.dir
  | 3 => .int .i64 n.par.sh
  | 4 => .int .i64 n.par.ino
  | 5 => .bool n.par.dir
  | 6 => .int .i64 n.links
  | 7 => .int .i64 n.val
  | _ => x
/-- Blocks from lo on, but for v's own. -/
def Ent (w : World) (lo : Nat) (v : Value) : Nat → Prop := fun b => lo ≤ b ∧ b < w.heap.size ∧ v.ownBlock ≠ some b
/-- Entries that are read, their row laid as one makes it: from its block's beginning on, not frozen. -/
def ensO (l : List En) : Dt :=
  ⟨fun w S v => RdV w S v (ensDt l) ∧ (∃ C, w.ownsRow 0 83 4 v l.length C) ∧ ∀ b, v.ownBlock = some b → S b,
    fun w S v => RdV w S v (ensDt l) ∧ (∃ C, w.ownsRow 0 83 4 v l.length C) ∧ ∀ b, v.ownBlock = some b → S b,
    fun w w' S v t h => ⟨h.1.keep t, h.2.1.imp (fun C hc => ownsRow_keep hc h.2.2 t), h.2.2⟩, fun w S S' v t h => ⟨h.1.mono t, h.2.1, fun b hb => t b (h.2.2 b hb)⟩,
    fun w w' S v t h => ⟨h.1.keep t, h.2.1.imp (fun C hc => ownsRow_keep hc h.2.2 t), h.2.2⟩, fun w S S' v t h => ⟨h.1.mono t, h.2.1, fun b hb => t b (h.2.2 b hb)⟩, fun w S v h => h⟩
theorem RdV.en {w : World} {S : Nat → Prop} {v : Value} {l : List En} (r : RdV w S v (ensO l)) : RdV w S v (ensDt l) := r.1
theorem ensO.mk {w : World} {S : Nat → Prop} {v : Value} {l : List En} {C : List Value} {lo : Nat} (r : RdV w S v (ensDt l)) (h : w.ownsRow lo 83 4 v l.length C) (hb : ∀ b, v.ownBlock = some b → S b) : RdV w S v (ensO l) := ⟨r, ⟨C, ownsRow_base h⟩, hb⟩
theorem OwV.en {w : World} {S : Nat → Prop} {v : Value} {l : List En} (o : OwV w S v (ensDt l)) : RdV w S v (ensO l) := by
  obtain ⟨V, C, Q, h1, h2, _⟩ := OwV.inv o
  exact ensO.mk (OwV.rd o) h1 h2
/-- v is a row of the call's own, of the nodes l; their entries are read, in other blocks than the row's. -/
def SN (w : World) (lo : Nat) (v : Value) (l : List Nd) : Prop :=
  ∃ (V : Nat → Value) (C : List Value), w.ownsRow lo 54 9 v l.length C ∧ (∀ i j, i < l.length → j < 9 → C[i * 9 + j]? = some (ndVal (l[i]?.getD nd0) (V i) j)) ∧ ∀ i, i < l.length → RdV w (Ent w lo v) (V i) (ensO (l[i]?.getD nd0).es)
theorem SN.nil (w : World) (lo : Nat) : SN w lo (.slice none 0 0) [] :=
  ⟨fun _ => undef, [], World.ownsRow_nil _ _ _ _, fun i j hi => absurd hi (Nat.not_lt_zero _), fun i hi => absurd hi (Nat.not_lt_zero _)⟩
theorem SN.lt {w : World} {lo : Nat} {v : Value} {l : List Nd} (s : SN w lo v l) : ∀ b, v.ownBlock = some b → lo ≤ b ∧ b < w.heap.size := by
  obtain ⟨V, C, h1, h2, h3⟩ := s
  exact fun b hb => h1.lt b hb
theorem SN.keep {w w' : World} {lo : Nat} {v : Value} {l : List Nd} (s : SN w lo v l) (t : Keeps (fun b => lo ≤ b ∧ b < w.heap.size) w w') : SN w' lo v l := by
  have hb := s.lt
  obtain ⟨V, C, h1, h2, h3⟩ := s
  exact ⟨V, C, ownsRow_keep h1 hb t, h2, fun i hi => RdV.mono (fun b hb => ⟨hb.1, Nat.lt_of_lt_of_le hb.2.1 t.1, hb.2.2⟩) (RdV.keep (t.mono (fun b hb => ⟨hb.1, hb.2.1⟩)) (h3 i hi))⟩
theorem SN.step {w w' : World} {lo : Nat} {v : Value} {l : List Nd} (s : SN w lo v l) (hb : Below w.heap.size w w') : SN w' lo v l := s.keep (Keeps.ofBelow hb)
/-- One node more, behind. -/
theorem SN.grow {w w' : World} {lo g cap : Nat} {v x : Value} {l : List Nd} {n : Nd} (hx : RdV w (Ent w lo v) x (ensO n.es)) (V : Nat → Value) (C : List Value) (h1 : w.ownsRow lo 54 9 v l.length C)
    (h2 : ∀ i j, i < l.length → j < 9 → C[i * 9 + j]? = some (ndVal (l[i]?.getD nd0) (V i) j)) (h3 : ∀ i, i < l.length → RdV w (Ent w lo v) (V i) (ensO (l[i]?.getD nd0).es))
    (ho : w'.ownsRow lo 54 9 (.slice (some ⟨g, 0, none⟩) (l.length + 1) cap) (l.length + 1) (C ++ [.int .i64 n.h.sh, .int .i64 n.h.ino, .bool n.h.dir, .int .i64 n.par.sh, .int .i64 n.par.ino, .bool n.par.dir, .int .i64 n.links, .int .i64 n.val, x]))
    (hg : w.grownBy w' v.ownBlock) (hgg : v.ownBlock = some g ∨ g = w.heap.size) : SN w' lo (.slice (some ⟨g, 0, none⟩) (l.length + 1) cap) (l ++ [n]) := by
  have hsz := hg.size
  have hCl : C.length = l.length * 9 := h1.1
  have hln : (l ++ [n]).length = l.length + 1 := by simp
  have hrd : ∀ (y : Value) (es : List En), RdV w (Ent w lo v) y (ensO es) → RdV w' (Ent w' lo (.slice (some ⟨g, 0, none⟩) (l.length + 1) cap)) y (ensO es) := fun y es r =>
    RdV.mono (fun b hb => ⟨hb.1, by have := hb.2.1; omega, fun e => by
      have e' : g = b := by simpa [Value.ownBlock] using e
      rcases hgg with h | h
      · exact hb.2.2 (by rw [h, e'])
      · have := hb.2.1; omega⟩) (RdV.keep ⟨hsz, fun b hb hlt => hg.block b hlt (fun h => hb.2.2 h.symm)⟩ r)
  refine ⟨fun i => if i < l.length then V i else x, _, by rw [hln]; exact ho, fun i j hi hj => ?_, fun i hi => ?_⟩
  · rw [hln] at hi
    by_cases hlt : i < l.length
    · simp only [hlt, if_true]
      rw [List.getElem?_append_left (by rw [hCl]; exact place_lt hlt hj), List.getElem?_append_left hlt]
      exact h2 i j hlt hj
    · obtain rfl : i = l.length := by omega
      simp only [Nat.lt_irrefl, if_false]
      rw [List.getElem?_append_right (by omega), hCl, show l.length * 9 + j - l.length * 9 = j by omega, show (l ++ [n])[l.length]?.getD nd0 = n by simp]
      match j, hj with
      | 0, _ => rfl
      | 1, _ => rfl
      | 2, _ => rfl
      | 3, _ => rfl
      | 4, _ => rfl
      | 5, _ => rfl
      | 6, _ => rfl
      | 7, _ => rfl
      | 8, _ => rfl
  · rw [hln] at hi
    by_cases hlt : i < l.length
    · simp only [hlt, if_true]
      rw [List.getElem?_append_left hlt]
      exact hrd _ _ (h3 i hlt)
    · obtain rfl : i = l.length := by omega
      simp only [Nat.lt_irrefl, if_false]
      rw [show (l ++ [n])[l.length]?.getD nd0 = n by simp]
      exact hrd _ _ hx
/-- append(v, n) as a step of a region that draws its order. -/
theorem step_appNd {ops : Array Oper} {o : Oper} {a : Act} {K : Act → World → Prop} {Q : Exit → Act → World → Prop} {E : Prop} (w : World) (hgd : o.guard = none) (s x : Operand)
    (ho : o.op = .call { callee := .builtin .append, args := #[s, x], argTypes := #[24, 24] })
    (v : Value) (hs : a.eval s = v) (l : List Nd) (n : Nd) (u : Value) (lo q : Nat) (hx : a.eval x = .slice (some ⟨q, 0, none⟩) 1 1) (hone : u.oneCell' = true) (fr : Nat × Nat)
    (hq : w.heap[q]? = some (.cells #[.int .i64 n.h.sh, .int .i64 n.h.ino, .bool n.h.dir, .int .i64 n.par.sh, .int .i64 n.par.ino, .bool n.par.dir, .int .i64 n.links, .int .i64 n.val, u] 54 fr))
    (hown : SN w lo v l) (hu : RdV w (Ent w lo v) u (ensO n.es)) (hlo : lo ≤ w.heap.size) (hl : l.length ≤ 4000)
    (h : ∀ g m cap w', SN w' lo (.slice g m cap) (l ++ [n]) → w.grownBy w' v.ownBlock → K (a.put o.dst (.slice g m cap)) w') : if Region.wanted o (yielded ops a.tmps) = true then Oper.wp Tryz.prog o a w K Q else E := by
  obtain ⟨i0, hi0, hz0, hz1, hz2⟩ := info_parts Tryz.infoNd
  obtain ⟨V, C, h1, h2, h3⟩ := hown
  refine step_append_lies w hgd s x 24 ho lo 54 i0 _ 9 _ Tryz.underlying24 hi0 hz0 hz1 hz2 rfl (by decide) v l.length C hs h1 ⟨q, 0, none⟩ 1 1 [.int .i64 n.h.sh, .int .i64 n.h.ino, .bool n.h.dir, .int .i64 n.par.sh, .int .i64 n.par.ino, .bool n.par.dir, .int .i64 n.links, .int .i64 n.val, u] hx rfl (World.news_of_block hq) (fun y hy => ?_) (by decide) (by unfold maxLen; omega) (by omega) hlo w.heap.size rfl ?_
  · simp only [List.mem_cons, List.not_mem_nil, or_false] at hy
    rcases hy with rfl | rfl | rfl | rfl | rfl | rfl | rfl | rfl | rfl <;> first | exact hone | rfl
  intro g cap w' ho' hg hgg hgl
  exact h _ _ _ w' (SN.grow hu V C h1 h2 h3 ho' hg hgg) hg
/-- append(v, n) in a region of one order. -/
theorem wpList_appNd {ops : Array Oper} {rest : List Oper} {o : Oper} {a : Act} {Q : Exit → Act → World → Prop} (w : World) (hgd : o.guard = none) (s x : Operand)
    (ho : o.op = .call { callee := .builtin .append, args := #[s, x], argTypes := #[24, 24] })
    (v : Value) (hs : a.eval s = v) (l : List Nd) (n : Nd) (u : Value) (lo q : Nat) (hx : a.eval x = .slice (some ⟨q, 0, none⟩) 1 1) (hone : u.oneCell' = true) (fr : Nat × Nat)
    (hq : w.heap[q]? = some (.cells #[.int .i64 n.h.sh, .int .i64 n.h.ino, .bool n.h.dir, .int .i64 n.par.sh, .int .i64 n.par.ino, .bool n.par.dir, .int .i64 n.links, .int .i64 n.val, u] 54 fr))
    (hown : SN w lo v l) (hu : RdV w (Ent w lo v) u (ensO n.es)) (hlo : lo ≤ w.heap.size) (hl : l.length ≤ 4000)
    (h : ∀ g m cap w', SN w' lo (.slice g m cap) (l ++ [n]) → w.grownBy w' v.ownBlock → wpList Tryz.prog ops Q rest (a.put o.dst (.slice g m cap)) w') : wpList Tryz.prog ops Q (o :: rest) a w := by
  obtain ⟨i0, hi0, hz0, hz1, hz2⟩ := info_parts Tryz.infoNd
  obtain ⟨V, C, h1, h2, h3⟩ := hown
  refine wpList_append_lies w hgd s x 24 ho lo 54 i0 _ 9 _ Tryz.underlying24 hi0 hz0 hz1 hz2 rfl (by decide) v l.length C hs h1 ⟨q, 0, none⟩ 1 1 [.int .i64 n.h.sh, .int .i64 n.h.ino, .bool n.h.dir, .int .i64 n.par.sh, .int .i64 n.par.ino, .bool n.par.dir, .int .i64 n.links, .int .i64 n.val, u] hx rfl (World.news_of_block hq) (fun y hy => ?_) (by decide) (by unfold maxLen; omega) (by omega) hlo w.heap.size rfl ?_
  · simp only [List.mem_cons, List.not_mem_nil, or_false] at hy
    rcases hy with rfl | rfl | rfl | rfl | rfl | rfl | rfl | rfl | rfl <;> first | exact hone | rfl
  intro g cap w' ho' hg hgg hgl
  exact h _ _ _ w' (SN.grow hu V C h1 h2 h3 ho' hg hgg) hg
end
section
theorem SN.low {w : World} {lo lo' : Nat} {v : Value} {l : List Nd} (s : SN w lo v l) (h : lo' ≤ lo) : SN w lo' v l := by
  obtain ⟨V, C, h1, h2, h3⟩ := s
  exact ⟨V, C, ⟨h1.1, h1.2.imp id (fun ⟨g, c, cur, hv, hg, r⟩ => ⟨g, c, cur, hv, Nat.le_trans h hg, r⟩)⟩, h2, fun i hi => RdV.mono (fun b hb => ⟨Nat.le_trans h hb.1, hb.2⟩) (h3 i hi)⟩

/-- The copy so far. -/
def CpRel (w : World) (v : Value) (l : List Nd) (i : Value) (wr : World) : Prop :=
  ∃ (k : Nat) (ga : Option Addr) (gn gc : Nat), k ≤ l.length ∧ i = .int .i64 k ∧ VarA wr w.heap.size 26 #[v] ∧ VarA wr (w.heap.size + 1) 26 #[.slice none 0 0] ∧ VarA wr (w.heap.size + 1 + 1) 26 #[.slice ga gn gc] ∧ SN wr (w.heap.size + 3) (.slice ga gn gc) (l.take k) ∧ Below w.heap.size w wr ∧ w.heap.size + 3 ≤ wr.heap.size
set_option maxHeartbeats 4000000 in
theorem specCopy4_any (v : Value) (l : List Nd) (S : Nat → Prop) (w : World) (r : RdV w S v (ndsDt l)) (hl : szNds l ≤ 2097152) (hn : l.length ≤ 4000) (hes : ∀ i : Nat, (l[i]?.getD nd0).es.length ≤ 4000) :
    Calls Tryz.prog 17 #[.agg #[v]] w fun e w' => ∃ a n c, e = .returned (.agg #[.slice a n c]) ∧ SN w' w.heap.size (.slice a n c) l ∧ Below w.heap.size w w' := by
  obtain ⟨a, cap, rfl, _⟩ := RdV.sliced r
  have HR : Hid (∀ W, Below w.heap.size w W → RdV W S (.slice a l.length cap) (ndsDt l)) := fun W hW => r.step hW
  clear r
  go_enter Tryz.func17, Tryz.ntmps17
  go_wp2
  go_loopw [4] (fun i wr => CpRel w (.slice a l.length cap) l i wr) (fun i _ => l.length - (intOf i).toNat)
  case atStart =>
    refine ⟨0, none, 0, 0, Nat.zero_le _, rfl, ((VarA.new w _ _).alloc _).alloc _, ?_, ?_, by rw [List.take_zero]; exact SN.nil _ _, (((Below.refl _ _).alloc (Nat.le_refl _) _).alloc (by simp) _).alloc (by simp; omega) _, by simp⟩
    · have := (VarA.new (w.alloc (.cells #[.slice a l.length cap] 26)) 26 #[.slice none 0 0]).alloc (.cells #[.slice none 0 0] 26)
      simpa using this
    · have := VarA.new ((w.alloc (.cells #[.slice a l.length cap] 26)).alloc (.cells #[.slice none 0 0] 26)) 26 #[.slice none 0 0]
      simpa using this
  case round =>
    obtain ⟨k, ga, gn, gc, hk, rfl, vT, vR, vO, sn, bw, hsz⟩ := hrel
    have t0 := vT.c 0 rfl
    by_cases hlt : k < l.length
    · obtain ⟨b, off, rfl, hbl, hSb, hc⟩ := (HR.out w (Below.refl _ _)).at hlt
      have htk : l.take (k + 1) = l.take k ++ [l[k]?.getD nd0] := by rw [List.take_succ_eq_append_getElem hlt]; simp [hlt]
      have hel := hes k
      have hzn : szEns (l[k]?.getD nd0).es ≤ 2097152 := Nat.le_trans (szNds_at l k) hl
      obtain ⟨x0, q0, r0⟩ := hc 0 (by omega)
      obtain ⟨x1, q1, r1⟩ := hc 1 (by omega)
      obtain ⟨x2, q2, r2⟩ := hc 2 (by omega)
      obtain ⟨x3, q3, r3⟩ := hc 3 (by omega)
      obtain ⟨x4, q4, r4⟩ := hc 4 (by omega)
      obtain ⟨x5, q5, r5⟩ := hc 5 (by omega)
      obtain ⟨x6, q6, r6⟩ := hc 6 (by omega)
      obtain ⟨x7, q7, r7⟩ := hc 7 (by omega)
      obtain ⟨x8, q8, r8⟩ := hc 8 (by omega)
      generalize l[k]?.getD nd0 = nd at r0 r1 r2 r3 r4 r5 r6 r7 r8 htk hel hzn
      obtain ⟨⟨s0, s1, s2⟩, ⟨s3, s4, s5⟩, lk, vl, es⟩ := nd
      obtain rfl : x0 = .int .i64 s0 := r0
      obtain rfl : x1 = .int .i64 s1 := r1
      obtain rfl : x2 = .bool s2 := r2
      obtain rfl : x3 = .int .i64 s3 := r3
      obtain rfl : x4 = .int .i64 s4 := r4
      obtain rfl : x5 = .bool s5 := r5
      obtain rfl : x6 = .int .i64 lk := r6
      obtain rfl : x7 = .int .i64 vl := r7
      have r8' : RdV w S x8 (ensDt es) := r8
      obtain ⟨xa, xc, rfl, _⟩ := RdV.sliced r8'
      have HCE : Hid (∀ W, Below w.heap.size w W → _) := fun W hW => specCopyEn_any _ es S W (r8'.step hW) hzn hel
      have p0 := (bw.cell (p := ⟨b, off + k * 9 + 0, none⟩) hbl).trans q0
      have p1 := (bw.cell (p := ⟨b, off + k * 9 + 1, none⟩) hbl).trans q1
      have p2 := (bw.cell (p := ⟨b, off + k * 9 + 2, none⟩) hbl).trans q2
      have p3 := (bw.cell (p := ⟨b, off + k * 9 + 3, none⟩) hbl).trans q3
      have p4 := (bw.cell (p := ⟨b, off + k * 9 + 4, none⟩) hbl).trans q4
      have p5 := (bw.cell (p := ⟨b, off + k * 9 + 5, none⟩) hbl).trans q5
      have p6 := (bw.cell (p := ⟨b, off + k * 9 + 6, none⟩) hbl).trans q6
      have p7 := (bw.cell (p := ⟨b, off + k * 9 + 7, none⟩) hbl).trans q7
      have p8 := (bw.cell (p := ⟨b, off + k * 9 + 8, none⟩) hbl).trans q8
      rw [Nat.add_zero] at p0
      have HSN : Hid (SN wr (w.heap.size + 3) (.slice ga gn gc) (l.take k)) := sn
      have HBW : Hid (Below w.heap.size w wr) := bw
      have HVT : Hid (VarA wr w.heap.size 26 _) := vT
      have HVR : Hid (VarA wr (w.heap.size + 1) 26 _) := vR
      have HVO : Hid (VarA wr (w.heap.size + 1 + 1) 26 _) := vO
      have HTK : Hid _ := htk
      clear q0 q1 q2 q3 q4 q5 q6 q7 q8 r8 r8' hc vT vR vO sn bw htk
      go_wp2_with fail
      refine Calls.mono (HCE.out _ (HBW.out.alloc HBW.out.size _)) ?_
      rintro e w6 ⟨ea, en, ec, rfl, oE, b6⟩
      have s6 := b6.size
      rw [World.size_alloc] at s6
      have vN : VarA w6 wr.heap.size 54 _ := (VarA.new wr 54 #[.int .i64 s0, .int .i64 s1, .bool s2, .int .i64 s3, .int .i64 s4, .bool s5, .int .i64 lk, .int .i64 vl, .slice xa es.length xc]).step b6
      have b6' : Below wr.heap.size wr w6 := (Below.newH (w := wr) _).trans (b6.mono (by simp))
      have n0 := vN.c 0 rfl
      have n1 := vN.c 1 rfl
      have n2 := vN.c 2 rfl
      have n3 := vN.c 3 rfl
      have n4 := vN.c 4 rfl
      have n5 := vN.c 5 rfl
      have n6 := vN.c 6 rfl
      have n7 := vN.c 7 rfl
      have n8 := vN.c 8 rfl
      have nf := vN.fz
      have o0 := (HVO.out.step b6').c 0 rfl
      have hvo := HVO.out.lt
      have B8 : Below wr.heap.size wr ((w6.setCell ⟨wr.heap.size, 8, none⟩ (.slice ea en ec)).alloc (.cells #[.int .i64 s0, .int .i64 s1, .bool s2, .int .i64 s3, .int .i64 s4, .bool s5, .int .i64 lk, .int .i64 vl, .slice ea en ec] 54)) := (b6'.setCell (Nat.le_refl _) _).alloc (by simp; omega) _
      have SN8 := HSN.out.step B8
      have hvb := HSN.out.lt
      have RE8 : RdV ((w6.setCell ⟨wr.heap.size, 8, none⟩ (.slice ea en ec)).alloc (.cells #[.int .i64 s0, .int .i64 s1, .bool s2, .int .i64 s3, .int .i64 s4, .bool s5, .int .i64 lk, .int .i64 vl, .slice ea en ec] 54)) (Ent ((w6.setCell ⟨wr.heap.size, 8, none⟩ (.slice ea en ec)).alloc (.cells #[.int .i64 s0, .int .i64 s1, .bool s2, .int .i64 s3, .int .i64 s4, .bool s5, .int .i64 lk, .int .i64 vl, .slice ea en ec] 54)) (w.heap.size + 3) (.slice ga gn gc)) (.slice ea en ec) (ensO es) := by
        refine RdV.mono (fun q hq => ?_) (RdV.keep ?_ (OwV.en oE))
        · simp at hq
          exact ⟨by omega, by simp; omega, fun h => by have := hvb q h; omega⟩
        · refine ⟨by simp, fun q hq hlt => ?_⟩
          simp at hq
          rw [Below.heap_alloc _ _ q (by simpa using hlt), heap_setCell_other _ _ _ _ (by show q ≠ wr.heap.size; omega)]
      have HSN8 : Hid _ := SN8
      have HRE8 : Hid _ := RE8
      have HB8 : Hid _ := B8
      have hkl : (l.take k).length ≤ 4000 := by rw [List.length_take]; omega
      clear SN8 RE8 B8 oE b6 vN HCE p0 p1 p2 p3 p4 p5 p6 p7 p8
      go_wp2_with (at_builtin; go_must (refine wpList_appNd _ rfl (.tmp 23) (.tmp 25) rfl _ rfl (l.take k) ⟨(s0, s1, s2), (s3, s4, s5), lk, vl, es⟩ (.slice ea en ec) (w.heap.size + 3) w6.heap.size rfl rfl (0, 0) (by have := heap_alloc_new (w6.setCell ⟨wr.heap.size, 8, none⟩ (.slice ea en ec)) (.cells #[.int .i64 s0, .int .i64 s1, .bool s2, .int .i64 s3, .int .i64 s4, .bool s5, .int .i64 lk, .int .i64 vl, .slice ea en ec] 54); simpa using this) HSN8.out HRE8.out (by simp; omega) hkl ?_; intro g9 m9 c9 w9 sn9 hg9; have vO9 : VarA w9 (w.heap.size + 1 + 1) 26 #[.slice ga gn gc] := (hg9.block _ (by simp; omega) (fun h => by have := hvb _ h.symm; omega)).trans (HVO.out.step HB8.out); have z0 := vO9.c 0 rfl; have zf := vO9.fz))
      have s9 := hg9.size
      simp at s9
      have blk : ∀ q, q < wr.heap.size → q < w.heap.size + 3 → w9.heap[q]? = wr.heap[q]? := fun q hq hq3 => (hg9.block q (by simp; omega) (fun h => by have := hvb _ h.symm; omega)).trans (HB8.out.block q hq)
      have B9 : Below w.heap.size w w9 := Below.grown (HBW.out.trans (HB8.out.mono HBW.out.size)) hg9 (by have := HB8.out.size; omega) (fun q hq => by have := hvb q hq; omega)
      rw [← HTK.out] at sn9
      refine ⟨⟨k + 1, g9, m9, c9, by omega, by go_num, VarA.aside ((blk _ (by omega) (by omega)).trans HVT.out) (by show w.heap.size ≠ w.heap.size + 1 + 1; omega) _, VarA.aside ((blk _ (by omega) (by omega)).trans HVR.out) (by show w.heap.size + 1 ≠ w.heap.size + 1 + 1; omega) _, vO9.set 0 _, sn9.keep ⟨by simp, fun q hq _ => heap_setCell_other _ _ _ _ (by show q ≠ w.heap.size + 1 + 1; omega)⟩, B9.setCell (by show w.heap.size ≤ w.heap.size + 1 + 1; omega) _, by simp; omega⟩, by simp [intOf]; omega⟩
    · have he : k = l.length := by omega
      subst he
      rw [List.take_length] at sn
      have r0 := vR.c 0 rfl
      have rf := vR.fz
      have o0 := vO.c 0 rfl
      have HSN : Hid _ := sn
      have HBW : Hid _ := bw
      clear vT vR vO sn bw
      go_wp2
      refine bodyPost_ret (v := .agg #[.slice ga gn gc]) (by simp [results, Tryz.results17, go_sem, r0]) rfl ⟨_, _, _, rfl, SN.low (SN.keep HSN.out ⟨by simp, fun q hq _ => heap_setCell_other _ _ _ _ (by show q ≠ w.heap.size + 1; omega)⟩) (by omega), HBW.out.setCell (by show w.heap.size ≤ w.heap.size + 1; omega) _⟩
end
section
def rootH : Hd := (0, 1, true)
def rootN : Nd := ⟨rootH, rootH, 1, 0, []⟩
abbrev rootV : Value := .agg #[.int .i64 0, .int .i64 1, .bool true]
theorem specRootH_any (w : World) : Calls Tryz.prog 39 #[] w fun e w' => e = .returned rootV ∧ w' = w.alloc (.cells #[.int .i64 0, .int .i64 1, .bool true] 51) := by
  go_enter Tryz.func39, Tryz.ntmps39
  go_wp2
  refine bodyPost_ret (v := rootV) (by simp [results, Tryz.results39, go_sem]) rfl ⟨rfl, rfl⟩
theorem implRootH_any (w : World) : Calls Tryz.prog 56 #[] w fun e w' => e = .returned rootV ∧ w' = w.alloc (.cells #[.int .i64 0, .int .i64 1, .bool true] 51) := by
  go_enter Tryz.func56, Tryz.ntmps56
  go_wp2
  refine bodyPost_ret (v := rootV) (by simp [results, Tryz.results56, go_sem]) rfl ⟨rfl, rfl⟩
end
section
def lessH (a b : Hd) : Bool := decide (a.sh < b.sh) || (decide (a.sh = b.sh) && decide (a.ino < b.ino))
theorem specLess_any (a b : Hd) (w : World) : Calls Tryz.prog 38 #[a.v, b.v] w fun e w' => e = .returned (.bool (lessH a b)) ∧ Below w.heap.size w w' := by
  obtain ⟨s, i, d⟩ := a
  obtain ⟨s2, i2, d2⟩ := b
  go_enter Tryz.func38, Tryz.ntmps38
  go_wp2
  all_goals (go_ret; exact ⟨by first | rfl | (simp_all [lessH] <;> omega), Below.newH2 _ _⟩)

/-- Where the node of a handle lies. -/
def fi (l : List Nd) (h : Hd) : Nat := l.findIdx (fun n => decide (n.h = h))
def findH (l : List Nd) (h : Hd) : Int := if fi l h < l.length then (fi l h : Int) else -1
theorem fi_at (l : List Nd) (h : Hd) (k : Nat) (hk : k < l.length) (h1 : (l[k]?.getD nd0).h = h) (h2 : ∀ i, i < k → (l[i]?.getD nd0).h ≠ h) : fi l h = k := by
  unfold fi
  rw [List.findIdx_eq hk]
  refine ⟨by simpa [hk] using h1, fun j hj => ?_⟩
  have := h2 j hj
  have hj' : j < l.length := by omega
  simpa [hj'] using this
theorem fi_none (l : List Nd) (h : Hd) (h2 : ∀ i, i < l.length → (l[i]?.getD nd0).h ≠ h) : findH l h = -1 := by
  unfold findH fi
  rw [if_neg]
  rw [List.findIdx_lt_length]
  rintro ⟨x, hx, hp⟩
  obtain ⟨i, hi, rfl⟩ := List.getElem_of_mem hx
  exact h2 i hi (by simpa [hi] using hp)

set_option maxHeartbeats 2000000 in
theorem specFind_any (x : Value) (l : List Nd) (h : Hd) (S : Nat → Prop) (w : World) (r : RdV w S x (ndsDt l)) (hl : l.length ≤ 2097152) :
    Calls Tryz.prog 14 #[.agg #[x], h.v] w fun e w' => e = .returned (.int .i64 (findH l h)) ∧ Below w.heap.size w w' := by
  obtain ⟨a, cap, rfl, _⟩ := RdV.sliced r
  obtain ⟨s, ino, d⟩ := h
  have HR : Hid (∀ W, Below w.heap.size w W → RdV W S (.slice a l.length cap) (.rows 54 9 l.length (fun i j => ndCell (l[i]?.getD nd0) j))) := RdV.old r
  obtain ⟨n, hn⟩ : ∃ n, l.length = n := ⟨_, rfl⟩
  rw [hn] at hl HR ⊢
  have HN : Hid _ := hn
  clear r hn
  go_enter Tryz.func14, Tryz.ntmps14
  go_wp2
  go_loopw [5] (fun i wr => ∃ k : Nat, k ≤ n ∧ i = .int .i64 k ∧ Below w.heap.size w wr ∧ VarA wr w.heap.size 26 #[.slice a n cap] ∧ VarA wr (w.heap.size + 1) 51 #[.int .i64 s, .int .i64 ino, .bool d] ∧ Hid (∀ i, i < k → (l[i]?.getD nd0).h ≠ (s, ino, d))) (fun i _ => n - (intOf i).toNat)
  case atStart => exact ⟨0, Nat.zero_le _, rfl, Below.newH2 _ _, (VarA.new w _ _).alloc _, by have := VarA.new (w.alloc (.cells #[.slice a n cap] 26)) 51 #[.int .i64 s, .int .i64 ino, .bool d]; simpa using this, fun i hi => absurd hi (Nat.not_lt_zero _)⟩
  case round =>
    obtain ⟨k, hk, rfl, hbel, v0, v1, HA⟩ := hrel
    have c0 := v0.l1
    obtain ⟨f0, f1, f2⟩ := v1.l3
    by_cases hlt : k < n
    · obtain ⟨b, off, rfl, hbl, _, hx⟩ := RdV.at (HR.out wr hbel) hlt
      obtain ⟨e, he⟩ : ∃ e, l[k]?.getD nd0 = e := ⟨_, rfl⟩
      obtain ⟨x0, c1, r0⟩ := hx 0 (by omega)
      obtain ⟨x1, c2, r1⟩ := hx 1 (by omega)
      obtain ⟨x2, c3, r2⟩ := hx 2 (by omega)
      rw [he] at r0 r1 r2
      have HE : Hid _ := he
      clear hx he
      obtain ⟨⟨p, q, dd⟩, par, lk, vl, es⟩ := e
      obtain rfl : x0 = .int .i64 p := r0
      obtain rfl : x1 = .int .i64 q := r1
      obtain rfl : x2 = .bool dd := r2
      simp only [Nat.add_zero] at c1
      have HY : Hid ((p = s ∧ q = ino ∧ dd = d) → findH l (s, ino, d) = (k : Int)) := by
        rintro ⟨rfl, rfl, rfl⟩
        have := fi_at l (p, q, dd) k (by rw [HN.out]; exact hlt) (by rw [HE.out]) HA.out
        show _ = _
        unfold findH
        rw [this, if_pos (by rw [HN.out]; exact hlt)]
      have HZ : Hid (¬ (p = s ∧ q = ino ∧ dd = d) → ∀ i, i < k + 1 → (l[i]?.getD nd0).h ≠ (s, ino, d)) := fun hne i hi => by
        by_cases h1 : i < k
        · exact HA.out i h1
        · obtain rfl : i = k := by omega
          rw [HE.out]
          intro e
          simp only [Prod.mk.injEq] at e
          exact hne e
      clear HA
      by_cases h1 : p = s
      case neg =>
        have g1 : (p == s) = false := by simpa using h1
        have HF : Hid _ := HZ.out (fun e => h1 e.1)
        clear HY HZ
        go_wp2
        go_quiet (fail)
        go_wp2
        go_roundw
        case rel => exact ⟨k + 1, by omega, by go_num, below_drewN2 hbel _, v0, v1, HF.out⟩
        case measure => simp [intOf]; omega
      subst h1
      by_cases h2 : q = ino
      case neg =>
        have g1 : (q == ino) = false := by simpa using h2
        have HF : Hid _ := HZ.out (fun e => h2 e.2.1)
        clear HY HZ
        go_wp2
        go_quiet (fail)
        go_wp2
        go_roundw
        case rel => exact ⟨k + 1, by omega, by go_num, below_drewN2 hbel _, v0, v1, HF.out⟩
        case measure => simp [intOf]; omega
      subst h2
      by_cases h3 : dd = d
      case neg =>
        have g1 : (dd == d) = false := by simpa using h3
        have HF : Hid _ := HZ.out (fun e => h3 e.2.2)
        clear HY HZ
        go_wp2
        go_quiet (fail)
        go_wp2
        go_roundw
        case rel => exact ⟨k + 1, by omega, by go_num, below_drewN2 hbel _, v0, v1, HF.out⟩
        case measure => simp [intOf]; omega
      subst h3
      have HF : Hid _ := HY.out ⟨rfl, rfl, rfl⟩
      clear HY HZ
      go_wp2
      go_quiet (fail)
      go_wp2
      go_ret
      exact ⟨by rw [HF.out]; rfl, below_drewN2 hbel _⟩
    · have he : k = n := by omega
      subst he
      have HF : Hid (findH l (s, ino, d) = -1) := fi_none l _ (fun i hi => HA.out i (by rw [HN.out] at hi; exact hi))
      go_wp2
      go_ret
      exact ⟨by rw [HF.out]; rfl, hbel⟩

/-- How many entries of a list lead to a handle; how many of all. -/
def cntE (es : List En) (h : Hd) : Nat := es.countP (fun e => decide (e.h = h))
def cntH (l : List Nd) (h : Hd) : Nat := psum (fun n => cntE n.es h) l l.length
theorem cntE_next (es : List En) (h : Hd) (k : Nat) (hk : k < es.length) : cntE (es.take (k + 1)) h = cntE (es.take k) h + (if (es[k]?.getD en0).h = h then 1 else 0) := by
  unfold cntE
  rw [List.take_succ_eq_append_getElem hk, List.countP_append]
  simp [hk, List.countP_cons]
theorem cntE_le (es : List En) (h : Hd) (k : Nat) : cntE (es.take k) h ≤ es.length := by
  unfold cntE
  exact Nat.le_trans List.countP_le_length (by simp; omega)
end
section
theorem conv_any (a : Option Addr) (xs : List Int) (len cap : Nat) (w : World) (hx : Reads w a xs) (hl : len = xs.length) : (convert 81 9 (.slice a len cap)).run Tryz.prog w = .ok (.string (strOfNums xs)) w := by
  subst hl
  cases a with
  | none =>
    rcases hx.2 with rfl | ⟨b, off, ha, _⟩
    · exact run_convert_bytes_nil w 81 5 Tryz.underlying81 Tryz.underlying5 _ _ 9 Tryz.underlying9
    · cases ha
  | some ad =>
    by_cases h0 : xs = []
    · subst h0
      rw [run_convert_bytes_string w 81 9 5 _ _ cap Tryz.underlying81 Tryz.underlying5 Tryz.underlying9]
      have hld : (loadCells ad 0).run Tryz.prog w = .ok (([] : List Int).map (Value.int .u8)).toArray w := by
        have := run_loadCells_list (P := Tryz.prog) w ad [] (fun j v hj => by simp at hj)
        simpa using this
      rw [List.length_nil, run_bytesToString w ad 0 cap [] hld]
      rfl
    · rcases hx.2 with h1 | ⟨b, off, ha, hb, hc⟩
      · exact absurd h1 h0
      · cases ha
        exact run_convert_bytes_arg w 81 5 Tryz.underlying81 Tryz.underlying5 b off xs.length cap xs rfl (fun i hi => by rw [hc i hi]; simp) 9 Tryz.underlying9
end
section
open Go.RowKit Go.Lib
theorem bytes_inj : ∀ (xs ys : List Int), isBytes xs → isBytes ys → bytesOf xs = bytesOf ys → xs = ys := by
  intro xs
  induction xs with
  | nil => intro ys _ _ h; cases ys with
    | nil => rfl
    | cons y r => simp [bytesOf] at h
  | cons x r ih =>
    intro ys hx hy h
    cases ys with
    | nil => simp [bytesOf] at h
    | cons y s =>
      have h0 := hx 0
      have k0 := hy 0
      simp only [List.getElem?_cons_zero, Option.getD_some] at h0 k0
      simp only [bytesOf, List.map_cons, List.cons.injEq] at h
      have e : x = y := by
        have h1 := congrArg UInt8.toNat h.1
        simp only [UInt8.toNat_ofNat'] at h1
        omega
      subst e
      rw [ih s (fun j => by have := hx (j + 1); simpa using this) (fun j => by have := hy (j + 1); simpa using this) h.2]
theorem str_eq (xs ys : List Int) (hx : isBytes xs) (hy : isBytes ys) : ((strOfNums xs).toList == (strOfNums ys).toList) = decide (xs = ys) := by
  rw [strOfNums_toList, strOfNums_toList]
  by_cases h : xs = ys
  · subst h; simp
  · simp only [h, decide_false]
    exact beq_eq_false_iff_ne.2 (fun e => h (bytes_inj xs ys hx hy e))
end
section
def ei (es : List En) (nm : List Int) : Nat := es.findIdx (fun e => decide (e.nm = nm))
def findE (es : List En) (nm : List Int) : Int := if ei es nm < es.length then (ei es nm : Int) else -1
theorem ei_at (l : List En) (h : List Int) (k : Nat) (hk : k < l.length) (h1 : (l[k]?.getD en0).nm = h) (h2 : ∀ i, i < k → (l[i]?.getD en0).nm ≠ h) : ei l h = k := by
  unfold ei
  rw [List.findIdx_eq hk]
  refine ⟨by simpa [hk] using h1, fun j hj => ?_⟩
  have := h2 j hj
  have hj' : j < l.length := by omega
  simpa [hj'] using this
theorem ei_none (l : List En) (h : List Int) (h2 : ∀ i, i < l.length → (l[i]?.getD en0).nm ≠ h) : findE l h = -1 := by
  unfold findE ei
  rw [if_neg]
  rw [List.findIdx_lt_length]
  rintro ⟨x, hx, hp⟩
  obtain ⟨i, hi, rfl⟩ := List.getElem_of_mem hx
  exact h2 i hi (by simpa [hi] using hp)
theorem conv_d (v : Value) (zs : List Int) (S : Nat → Prop) (w : World) (r : RdV w S v (.bytes zs)) : (convert 81 9 v).run Tryz.prog w = .ok (.string (strOfNums zs)) w := by
  obtain ⟨a, cap, rfl, _, hr⟩ := r.b.reads
  exact conv_any a zs zs.length cap w hr rfl

set_option maxHeartbeats 2000000 in
theorem specEntry_any (x y : Value) (n : Nd) (nm : List Int) (S S2 : Nat → Prop) (w : World) (r : RdV w S x (ensDt n.es)) (r2 : RdV w S2 y (.bytes nm)) (hl : n.es.length ≤ 2097152) :
    Calls Tryz.prog 74 #[ndV n x, y] w fun e w' => e = .returned (.int .i64 (findE n.es nm)) ∧ Below w.heap.size w w' := by
  obtain ⟨a, cap, rfl, _⟩ := RdV.sliced r
  obtain ⟨ya, yc, rfl⟩ := r2.sliceB
  obtain ⟨⟨p, q, d⟩, ⟨p2, q2, d2⟩, lk, vl, es⟩ := n
  dsimp only at r hl ⊢
  have hbn := r2.b.1
  have HR : Hid (∀ W, Below w.heap.size w W → RdV W S (.slice a es.length cap) (.rows 83 4 es.length (fun i j => enCell (es[i]?.getD en0) j))) := RdV.old r
  have HY : Hid (∀ W, Below w.heap.size w W → (convert 81 9 (.slice ya nm.length yc)).run Tryz.prog W = .ok (.string (strOfNums nm)) W) := fun W hW => conv_d _ nm S2 W (r2.step hW)
  obtain ⟨m, hm⟩ : ∃ m, es.length = m := ⟨_, rfl⟩
  rw [hm] at hl HR ⊢
  have HN : Hid _ := hm
  generalize nm.length = yn at *
  clear r r2 hm
  go_enter Tryz.func74, Tryz.ntmps74
  go_wp2
  go_loopw [5] (fun i wr => ∃ k : Nat, k ≤ m ∧ i = .int .i64 k ∧ Below w.heap.size w wr ∧ VarA wr w.heap.size 54 #[.int .i64 p, .int .i64 q, .bool d, .int .i64 p2, .int .i64 q2, .bool d2, .int .i64 lk, .int .i64 vl, .slice a m cap] ∧ Hid (∀ i, i < k → (es[i]?.getD en0).nm ≠ nm)) (fun i _ => m - (intOf i).toNat)
  case atStart => exact ⟨0, Nat.zero_le _, rfl, Below.newH _, VarA.new w _ _, fun i hi => absurd hi (Nat.not_lt_zero _)⟩
  case round =>
    obtain ⟨k, hk, rfl, hbel, v0, HA⟩ := hrel
    have c8 := v0.c 8 rfl
    dsimp at c8
    by_cases hlt : k < m
    · obtain ⟨b, off, rfl, hbl, _, hx⟩ := RdV.at (HR.out wr hbel) hlt
      obtain ⟨e, he⟩ : ∃ e, es[k]?.getD en0 = e := ⟨_, rfl⟩
      obtain ⟨x0, c1, r0⟩ := hx 0 (by omega)
      rw [he] at r0
      have HE : Hid _ := he
      clear hx he
      obtain ⟨nm1, hh⟩ := e
      simp only [Nat.add_zero] at c1
      have RB : RdV wr S x0 (.bytes nm1) := r0
      have hb1 := RB.b.1
      have hcv : ∀ n, (convert 81 9 x0).run Tryz.prog (wr.drewN n) = .ok (.string (strOfNums nm1)) (wr.drewN n) := fun n => conv_d x0 nm1 S _ (RB.step (below_drewN2 (Below.refl _ _) n))
      have hcy : ∀ n, (convert 81 9 (.slice ya yn yc)).run Tryz.prog (wr.drewN n) = .ok (.string (strOfNums nm)) (wr.drewN n) := fun n => HY.out _ (below_drewN2 hbel n)
      obtain ⟨xa, xc, rfl⟩ := RB.sliceB
      generalize nm1.length = xn at *
      have hstr := str_eq nm1 nm hb1 hbn
      generalize strOfNums nm1 = s1 at hcv hstr
      generalize strOfNums nm = s2 at hcy hstr HY
      clear r0 RB hb1
      by_cases heq : nm1 = nm
      · have HF : Hid (findE es nm = (k : Int)) := by
          have := ei_at es nm k (by rw [HN.out]; exact hlt) (by rw [HE.out]; exact heq) HA.out
          show _ = _
          unfold findE
          rw [this, if_pos (by rw [HN.out]; exact hlt)]
        simp only [heq, decide_true] at hstr
        clear HA HY
        go_wp2
        go_quiet (fail)
        go_wp2
        go_ret
        exact ⟨by rw [HF.out]; rfl, below_drewN2 hbel _⟩
      · have HF : Hid (∀ i, i < k + 1 → (es[i]?.getD en0).nm ≠ nm) := fun i hi => by
          by_cases h1 : i < k
          · exact HA.out i h1
          · obtain rfl : i = k := by omega
            rw [HE.out]; exact heq
        simp only [heq, decide_false] at hstr
        clear HA HY
        go_wp2
        go_quiet (fail)
        go_wp2
        go_roundw
        case rel => exact ⟨k + 1, by omega, by go_num, below_drewN2 hbel _, v0, HF.out⟩
        case measure => simp [intOf]; omega
    · have he : k = m := by omega
      subst he
      have HF : Hid (findE es nm = -1) := ei_none es _ (fun i hi => HA.out i (by rw [HN.out] at hi; exact hi))
      go_wp2
      go_ret
      exact ⟨by rw [HF.out]; rfl, hbel⟩
end
section
/-- Why a directory can't take a new entry: 4: it has one of that name; 5: it is full; 0: it can. -/
def refD (es : List En) (nm : List Int) : Int := if 0 ≤ findE es nm then 4 else if 12 ≤ es.length then 5 else 0
end
section
/-- The worlds in which all that w holds is as it was. -/
structure Cls (w : World) where
  W : World
  h : Below w.heap.size w W
theorem Cls.ne (w : World) : Nonempty (Cls w) := ⟨⟨w, Below.refl _ _⟩⟩
theorem wp_region_cls {P : Program} {id : Nat} {Q : Exit → Act → World → Prop} {a : Act} {w : World} {l : List Oper} (hm : P.follows .mixedOrders = true) (hB : Region.lexB .any l.toArray = true)
    (h : wpQuiet P l.toArray (fun w' => ∃ i : Cls w, w' = i.W) (fun a' => ∀ w', (∃ i : Cls w, w' = i.W) → Q .normal a' w') l a) : (Code.region id l.toArray true).wp P Q a w :=
  wp_region_quiet (C := fun w' => ∃ i : Cls w, w' = i.W) hm hB ⟨⟨{ w with drawn := w.drawn + 1 }, ⟨rfl, rfl, rfl, Nat.le_refl _, fun _ _ => rfl⟩⟩, rfl⟩ (by simpa using h)
theorem Calls.cls {P : Program} {f : FuncId} {args : Array Value} {w : World} {i : Cls w} {v : Value} (h : Calls P f args i.W fun e w' => e = .returned v ∧ Below i.W.heap.size i.W w') :
    Calls P f args i.W fun e w'' => e = .returned v ∧ ∃ j : Cls w, w'' = j.W :=
  h.mono fun _ w' ⟨he, hb⟩ => ⟨he, ⟨w', i.h.trans (hb.mono i.h.size)⟩, rfl⟩
theorem Calls.cls_same {P : Program} {f : FuncId} {args : Array Value} {w : World} {i : Cls w} {v : Value} (h : Calls P f args i.W fun e w' => e = .returned v ∧ w' = i.W) :
    Calls P f args i.W fun e w'' => e = .returned v ∧ ∃ j : Cls w, w'' = j.W :=
  h.mono fun _ w' ⟨he, hb⟩ => ⟨he, i, hb⟩
theorem Calls.cls_new {P : Program} {f : FuncId} {args : Array Value} {w : World} {i : Cls w} {v : Value} {o : Obj} (h : Calls P f args i.W fun e w' => e = .returned v ∧ w' = i.W.alloc o) :
    Calls P f args i.W fun e w'' => e = .returned v ∧ ∃ j : Cls w, w'' = j.W :=
  h.mono fun _ w' ⟨he, hb⟩ => ⟨he, ⟨w', by rw [hb]; exact i.h.alloc i.h.size _⟩, rfl⟩
theorem Cls.cell {w : World} {b o : Nat} {u : Value} (hb : b < w.heap.size) (h : w.cell? ⟨b, o, none⟩ = some u) : ∀ i : Cls w, i.W.cell? ⟨b, o, none⟩ = some u := fun i => (i.h.cell (p := ⟨b, o, none⟩) hb).trans h
theorem VarA.set9 {w : World} {b : Nat} {T : TypeId} {x0 x1 x2 x3 x4 x5 x6 x7 x8 y0 y1 y2 y3 y4 y5 y6 y7 y8 : Value} (h : VarA w b T #[x0, x1, x2, x3, x4, x5, x6, x7, x8]) : VarA (((((((((w.setCell ⟨b, 0, none⟩ y0).setCell ⟨b, 1, none⟩ y1).setCell ⟨b, 2, none⟩ y2).setCell ⟨b, 3, none⟩ y3).setCell ⟨b, 4, none⟩ y4).setCell ⟨b, 5, none⟩ y5).setCell ⟨b, 6, none⟩ y6).setCell ⟨b, 7, none⟩ y7).setCell ⟨b, 8, none⟩ y8) b T #[y0, y1, y2, y3, y4, y5, y6, y7, y8] := by
  have h2 := (((((((((h.set 0 y0).set 1 y1).set 2 y2).set 3 y3).set 4 y4).set 5 y5).set 6 y6).set 7 y7).set 8 y8)
  simpa using h2
theorem VarA.aside9 {w : World} {b c : Nat} {T : TypeId} {cs : Array Value} {y0 y1 y2 y3 y4 y5 y6 y7 y8 : Value} (h : VarA w b T cs) (hc : b ≠ c) : VarA (((((((((w.setCell ⟨c, 0, none⟩ y0).setCell ⟨c, 1, none⟩ y1).setCell ⟨c, 2, none⟩ y2).setCell ⟨c, 3, none⟩ y3).setCell ⟨c, 4, none⟩ y4).setCell ⟨c, 5, none⟩ y5).setCell ⟨c, 6, none⟩ y6).setCell ⟨c, 7, none⟩ y7).setCell ⟨c, 8, none⟩ y8) b T cs := (((((((((h.aside (p := ⟨c, 0, none⟩) hc y0).aside (p := ⟨c, 1, none⟩) hc y1).aside (p := ⟨c, 2, none⟩) hc y2).aside (p := ⟨c, 3, none⟩) hc y3).aside (p := ⟨c, 4, none⟩) hc y4).aside (p := ⟨c, 5, none⟩) hc y5).aside (p := ⟨c, 6, none⟩) hc y6).aside (p := ⟨c, 7, none⟩) hc y7).aside (p := ⟨c, 8, none⟩) hc y8)
theorem Below.set9 {B : Nat} {a w : World} {c : Nat} {y0 y1 y2 y3 y4 y5 y6 y7 y8 : Value} (h : Below B a w) (hc : B ≤ c) : Below B a (((((((((w.setCell ⟨c, 0, none⟩ y0).setCell ⟨c, 1, none⟩ y1).setCell ⟨c, 2, none⟩ y2).setCell ⟨c, 3, none⟩ y3).setCell ⟨c, 4, none⟩ y4).setCell ⟨c, 5, none⟩ y5).setCell ⟨c, 6, none⟩ y6).setCell ⟨c, 7, none⟩ y7).setCell ⟨c, 8, none⟩ y8) := (((((((((h.setCell (p := ⟨c, 0, none⟩) hc y0).setCell (p := ⟨c, 1, none⟩) hc y1).setCell (p := ⟨c, 2, none⟩) hc y2).setCell (p := ⟨c, 3, none⟩) hc y3).setCell (p := ⟨c, 4, none⟩) hc y4).setCell (p := ⟨c, 5, none⟩) hc y5).setCell (p := ⟨c, 6, none⟩) hc y6).setCell (p := ⟨c, 7, none⟩) hc y7).setCell (p := ⟨c, 8, none⟩) hc y8)
end
section
def up (n : Nd) : Bool := n.h.dir && !decide (n.h = rootH)
def rch (l : List Nd) : Nat → Nd → Bool
  | 0, n => !up n
  | f + 1, n => if up n then (if fi l n.par < l.length then rch l f (l[fi l n.par]?.getD nd0) else false) else true
theorem rch_end (l : List Nd) (f : Nat) (n : Nd) (h : up n = false) : rch l f n = true := by cases f <;> simp [rch, h]
theorem findH_cases (l : List Nd) (h : Hd) : (fi l h < l.length ∧ findH l h = (fi l h : Int)) ∨ (¬ fi l h < l.length ∧ findH l h = -1) := by
  unfold findH
  by_cases hh : fi l h < l.length
  · exact .inl ⟨hh, by rw [if_pos hh]⟩
  · exact .inr ⟨hh, by rw [if_neg hh]⟩

set_option maxRecDepth 100000 in
set_option maxHeartbeats 2000000 in
theorem specReach_any (x : Value) (ya : Option Addr) (yn yc : Nat) (l : List Nd) (n0 : Nd) (S : Nat → Prop) (w : World) (r : RdV w S x (ndsDt l)) (hl : l.length ≤ 2097152) :
    Calls Tryz.prog 42 #[.agg #[x], ndV n0 (.slice ya yn yc)] w fun e w' => e = .returned (.bool (rch l (l.length + 1) n0)) ∧ Below w.heap.size w w' := by
  obtain ⟨a, cap, rfl, _⟩ := RdV.sliced r
  have HR : Hid (∀ W, Below w.heap.size w W → RdV W S (.slice a l.length cap) (.rows 54 9 l.length (fun i j => ndCell (l[i]?.getD nd0) j))) := RdV.old r
  have HFI : Hid (∀ h W, Below w.heap.size w W → _) := fun h W hW => specFind_any _ l h S W (RdV.step r hW) hl
  have HRT : Hid (∀ W, _) := fun W => specRootH_any W
  obtain ⟨res, hres⟩ : ∃ res, rch l (l.length + 1) n0 = res := ⟨_, rfl⟩
  rw [hres]
  have HRES : Hid _ := hres
  obtain ⟨n, hn⟩ : ∃ n, l.length = n := ⟨_, rfl⟩
  have HN : Hid _ := hn
  rw [hn] at hl HR HFI ⊢
  clear r hres hn
  go_enter Tryz.func42, Tryz.ntmps42
  go_wp2
  go_loopw [5] (fun i wr => ∃ k : Nat, k ≤ n + 1 ∧ i = .int .i64 k ∧ Below w.heap.size w wr ∧ VarA wr w.heap.size 26 #[.slice a n cap] ∧ ∃ (e : Nd) (za : Option Addr) (zn zc : Nat), VarA wr (w.heap.size + 1) 54 #[.int .i64 e.h.sh, .int .i64 e.h.ino, .bool e.h.dir, .int .i64 e.par.sh, .int .i64 e.par.ino, .bool e.par.dir, .int .i64 e.links, .int .i64 e.val, .slice za zn zc] ∧ Hid (rch l (n + 1 - k) e = res)) (fun i _ => n + 1 - (intOf i).toNat)
  case atStart => exact ⟨0, Nat.zero_le _, rfl, Below.newH2 _ _, (VarA.new w _ _).alloc _, n0, ya, yn, yc, by have := VarA.new (w.alloc (.cells #[.slice a n cap] 26)) 54 #[.int .i64 n0.h.sh, .int .i64 n0.h.ino, .bool n0.h.dir, .int .i64 n0.par.sh, .int .i64 n0.par.ino, .bool n0.par.dir, .int .i64 n0.links, .int .i64 n0.val, .slice ya yn yc]; simpa using this, by show _ = _; rw [← HRES.out, HN.out]; rfl⟩
  case round =>
    clear HRES
    obtain ⟨k, hk, rfl, hbel, v0, e, za, zn, zc, v1, HE⟩ := hrel
    obtain ⟨⟨p, q, d⟩, ⟨p2, q2, d2⟩, lk, vl, es⟩ := e
    replace v1 : VarA wr (w.heap.size + 1) 54 #[.int .i64 p, .int .i64 q, .bool d, .int .i64 p2, .int .i64 q2, .bool d2, .int .i64 lk, .int .i64 vl, .slice za zn zc] := v1
    have c0 := v0.l1
    obtain ⟨b0, b1, b2, b3, b4, b5, b6, b7, b8⟩ := v1.l9
    have hl0 := v0.lt
    have hl1 := v1.lt
    haveI : Nonempty (Cls wr) := Cls.ne wr
    have k0 := Cls.cell hl1 b0
    have k1 := Cls.cell hl1 b1
    have k2 := Cls.cell hl1 b2
    cases d with
    | false =>
      have HF : Hid (true = res) := by rw [← HE.out]; show _ = _; rw [rch_end _ _ _ (by simp [up])]
      go_wp2
      refine wp_region_cls (by kernel_rfl) (by kernel_rfl) ?_
      repeat (go_big_quiet_step (fail))
      refine wpQuiet_nil ?_
      rintro w' ⟨⟨w', hb'⟩, rfl⟩
      go_wp2
      go_ret
      exact ⟨by rw [← HF.out]; rfl, hbel.trans (hb'.mono hbel.size)⟩
    | true =>
      by_cases hp : p = 0
      case neg =>
        have hp2 : (p == 0) = false := by simpa using hp
        go_wp2
        refine wp_region_cls (by kernel_rfl) (by kernel_rfl) ?_
        repeat (go_big_quiet_step (first | (go_at_call 39; exact Calls.cls_new (HRT.out _))))
        refine wpQuiet_nil ?_
        rintro w' ⟨⟨w', hb'⟩, rfl⟩
        have hup : up ⟨(p, q, true), (p2, q2, d2), lk, vl, es⟩ = true := by simp [up, rootH, hp]
        have HX : Hid (∀ W, Below w.heap.size w W → _) := fun W hW => HFI.out (p2, q2, d2) W hW
        have v0' := v0.step hb'
        have v1' := v1.step hb'
        have hb3 := hbel.trans (hb'.mono hbel.size)
        clear v0 v1 c0 b0 b1 b2 b3 b4 b5 b6 b7 b8 hl0 hl1 hb' hbel k0 k1 k2
        have c0 := v0'.l1
        obtain ⟨b0, b1, b2, b3, b4, b5, b6, b7, b8⟩ := v1'.l9
        go_wp2_with fail
        refine Calls.mono (HX.out _ hb3) ?_
        rintro e w3 ⟨rfl, b_⟩
        have v0 := v0'.step b_
        have v1 := v1'.step b_
        have hb4 := hb3.trans (b_.mono hb3.size)
        clear v0' v1' c0 b0 b1 b2 b3 b4 b5 b6 b7 b8 b_ hb3 HX
        have c0 := v0.l1
        obtain ⟨b0, b1, b2, b3, b4, b5, b6, b7, b8⟩ := v1.l9
        have fz := v1.fz
        rcases findH_cases l (p2, q2, d2) with ⟨hf1, hf2⟩ | ⟨hf1, hf2⟩
        case inr =>
          have HF : Hid (false = res) := by
            rw [← HE.out]; show _ = _
            cases hq : n + 1 - k with
            | zero => simp [rch, hup]
            | succ f => simp only [rch, hup, if_true]; rw [if_neg hf1]
          rw [hf2]
          clear HE hup hf1 hf2
          go_wp2
          go_ret
          exact ⟨by rw [← HF.out]; rfl, hb4⟩
        by_cases hkn : k ≤ n
        case neg =>
          have HF : Hid (false = res) := by
            rw [← HE.out]; show _ = _
            rw [show n + 1 - k = 0 by omega]
            simp [rch, hup]
          rw [hf2]
          clear HE hup hf1 hf2
          generalize fi l (p2, q2, d2) = f0
          go_wp2
          go_ret
          exact ⟨by rw [← HF.out]; rfl, hb4⟩
        have HF : Hid (rch l (n + 1 - (k + 1)) (l[fi l (p2, q2, d2)]?.getD nd0) = res) := by
          rw [← HE.out]; show _ = _
          rw [show n + 1 - k = (n + 1 - (k + 1)) + 1 by omega]
          simp only [rch, hup, if_true]; rw [if_pos hf1]
        rw [hf2]
        rw [HN.out] at hf1
        clear HE hup hf2
        generalize fi l (p2, q2, d2) = f0 at *
        obtain ⟨b, off, rfl, hbl, _, hx⟩ := RdV.at (HR.out w3 hb4) hf1
        generalize l[f0]?.getD nd0 = en at hx HF
        obtain ⟨x0, g0, s0⟩ := hx 0 (by omega)
        obtain ⟨x1, g1, s1⟩ := hx 1 (by omega)
        obtain ⟨x2, g2, s2⟩ := hx 2 (by omega)
        obtain ⟨x3, g3, s3⟩ := hx 3 (by omega)
        obtain ⟨x4, g4, s4⟩ := hx 4 (by omega)
        obtain ⟨x5, g5, s5⟩ := hx 5 (by omega)
        obtain ⟨x6, g6, s6⟩ := hx 6 (by omega)
        obtain ⟨x7, g7, s7⟩ := hx 7 (by omega)
        obtain ⟨x8, g8, s8⟩ := hx 8 (by omega)
        clear hx
        obtain ⟨⟨p', q', d'⟩, ⟨p2', q2', d2'⟩, lk', vl', es'⟩ := en
        obtain rfl : x0 = .int .i64 p' := s0
        obtain rfl : x1 = .int .i64 q' := s1
        obtain rfl : x2 = .bool d' := s2
        obtain rfl : x3 = .int .i64 p2' := s3
        obtain rfl : x4 = .int .i64 q2' := s4
        obtain rfl : x5 = .bool d2' := s5
        obtain rfl : x6 = .int .i64 lk' := s6
        obtain rfl : x7 = .int .i64 vl' := s7
        simp only [Nat.add_zero] at g0
        have S8 : RdV w3 S x8 (ensDt es') := s8
        obtain ⟨xa, xc, rfl, _⟩ := RdV.sliced S8
        clear S8 s8
        generalize es'.length = xn at g8
        have V1 : Hid (VarA w3 _ _ _) := v1
        have V0 : Hid (VarA w3 _ _ _) := v0
        have hne : w.heap.size ≠ w.heap.size + 1 := by omega
        have hle : w.heap.size ≤ w.heap.size + 1 := by omega
        clear v0 v1
        go_wp2
        exact ⟨⟨k + 1, by omega, by go_num, Below.set9 hb4 hle, VarA.aside9 V0.out hne, ⟨(p', q', d'), (p2', q2', d2'), lk', vl', es'⟩, xa, xn, xc, VarA.set9 V1.out, HF.out⟩, by simp [intOf]; omega⟩
      subst hp
      by_cases hq : q = 1
      case neg =>
        have hq2 : (q == 1) = false := by simpa using hq
        go_wp2
        refine wp_region_cls (by kernel_rfl) (by kernel_rfl) ?_
        repeat (go_big_quiet_step (first | (go_at_call 39; exact Calls.cls_new (HRT.out _))))
        refine wpQuiet_nil ?_
        rintro w' ⟨⟨w', hb'⟩, rfl⟩
        have hup : up ⟨(0, q, true), (p2, q2, d2), lk, vl, es⟩ = true := by simp [up, rootH, hq]
        have HX : Hid (∀ W, Below w.heap.size w W → _) := fun W hW => HFI.out (p2, q2, d2) W hW
        have v0' := v0.step hb'
        have v1' := v1.step hb'
        have hb3 := hbel.trans (hb'.mono hbel.size)
        clear v0 v1 c0 b0 b1 b2 b3 b4 b5 b6 b7 b8 hl0 hl1 hb' hbel k0 k1 k2
        have c0 := v0'.l1
        obtain ⟨b0, b1, b2, b3, b4, b5, b6, b7, b8⟩ := v1'.l9
        go_wp2_with fail
        refine Calls.mono (HX.out _ hb3) ?_
        rintro e w3 ⟨rfl, b_⟩
        have v0 := v0'.step b_
        have v1 := v1'.step b_
        have hb4 := hb3.trans (b_.mono hb3.size)
        clear v0' v1' c0 b0 b1 b2 b3 b4 b5 b6 b7 b8 b_ hb3 HX
        have c0 := v0.l1
        obtain ⟨b0, b1, b2, b3, b4, b5, b6, b7, b8⟩ := v1.l9
        have fz := v1.fz
        rcases findH_cases l (p2, q2, d2) with ⟨hf1, hf2⟩ | ⟨hf1, hf2⟩
        case inr =>
          have HF : Hid (false = res) := by
            rw [← HE.out]; show _ = _
            cases hq : n + 1 - k with
            | zero => simp [rch, hup]
            | succ f => simp only [rch, hup, if_true]; rw [if_neg hf1]
          rw [hf2]
          clear HE hup hf1 hf2
          go_wp2
          go_ret
          exact ⟨by rw [← HF.out]; rfl, hb4⟩
        by_cases hkn : k ≤ n
        case neg =>
          have HF : Hid (false = res) := by
            rw [← HE.out]; show _ = _
            rw [show n + 1 - k = 0 by omega]
            simp [rch, hup]
          rw [hf2]
          clear HE hup hf1 hf2
          generalize fi l (p2, q2, d2) = f0
          go_wp2
          go_ret
          exact ⟨by rw [← HF.out]; rfl, hb4⟩
        have HF : Hid (rch l (n + 1 - (k + 1)) (l[fi l (p2, q2, d2)]?.getD nd0) = res) := by
          rw [← HE.out]; show _ = _
          rw [show n + 1 - k = (n + 1 - (k + 1)) + 1 by omega]
          simp only [rch, hup, if_true]; rw [if_pos hf1]
        rw [hf2]
        rw [HN.out] at hf1
        clear HE hup hf2
        generalize fi l (p2, q2, d2) = f0 at *
        obtain ⟨b, off, rfl, hbl, _, hx⟩ := RdV.at (HR.out w3 hb4) hf1
        generalize l[f0]?.getD nd0 = en at hx HF
        obtain ⟨x0, g0, s0⟩ := hx 0 (by omega)
        obtain ⟨x1, g1, s1⟩ := hx 1 (by omega)
        obtain ⟨x2, g2, s2⟩ := hx 2 (by omega)
        obtain ⟨x3, g3, s3⟩ := hx 3 (by omega)
        obtain ⟨x4, g4, s4⟩ := hx 4 (by omega)
        obtain ⟨x5, g5, s5⟩ := hx 5 (by omega)
        obtain ⟨x6, g6, s6⟩ := hx 6 (by omega)
        obtain ⟨x7, g7, s7⟩ := hx 7 (by omega)
        obtain ⟨x8, g8, s8⟩ := hx 8 (by omega)
        clear hx
        obtain ⟨⟨p', q', d'⟩, ⟨p2', q2', d2'⟩, lk', vl', es'⟩ := en
        obtain rfl : x0 = .int .i64 p' := s0
        obtain rfl : x1 = .int .i64 q' := s1
        obtain rfl : x2 = .bool d' := s2
        obtain rfl : x3 = .int .i64 p2' := s3
        obtain rfl : x4 = .int .i64 q2' := s4
        obtain rfl : x5 = .bool d2' := s5
        obtain rfl : x6 = .int .i64 lk' := s6
        obtain rfl : x7 = .int .i64 vl' := s7
        simp only [Nat.add_zero] at g0
        have S8 : RdV w3 S x8 (ensDt es') := s8
        obtain ⟨xa, xc, rfl, _⟩ := RdV.sliced S8
        clear S8 s8
        generalize es'.length = xn at g8
        have V1 : Hid (VarA w3 _ _ _) := v1
        have V0 : Hid (VarA w3 _ _ _) := v0
        have hne : w.heap.size ≠ w.heap.size + 1 := by omega
        have hle : w.heap.size ≤ w.heap.size + 1 := by omega
        clear v0 v1
        go_wp2
        exact ⟨⟨k + 1, by omega, by go_num, Below.set9 hb4 hle, VarA.aside9 V0.out hne, ⟨(p', q', d'), (p2', q2', d2'), lk', vl', es'⟩, xa, xn, xc, VarA.set9 V1.out, HF.out⟩, by simp [intOf]; omega⟩
      subst hq
      have HF : Hid (true = res) := by rw [← HE.out]; show _ = _; rw [rch_end _ _ _ (by simp [up, rootH])]
      go_wp2
      refine wp_region_cls (by kernel_rfl) (by kernel_rfl) ?_
      repeat (go_big_quiet_step (first | (go_at_call 39; exact Calls.cls_new (HRT.out _))))
      refine wpQuiet_nil ?_
      rintro w' ⟨⟨w', hb'⟩, rfl⟩
      go_wp2
      go_ret
      exact ⟨by rw [← HF.out]; rfl, hbel.trans (hb'.mono hbel.size)⟩
end
section
theorem eqH_run (p q s i : Int) (d e : Bool) (w : World) : (binOp .eql 51 (.agg #[.int .i64 p, .int .i64 q, .bool d]) (.agg #[.int .i64 s, .int .i64 i, .bool e])).run Tryz.prog w = .ok (.bool (decide (p = s ∧ q = i ∧ d = e))) w := by
  by_cases h1 : p = s
  · subst h1
    by_cases h2 : q = i
    · subst h2
      by_cases h3 : d = e
      · subst h3
        simp [go_sem]
      · have g : (d == e) = false := by simpa using h3
        simp [go_sem, g, h3]
    · have g : (q == i) = false := by simpa using h2
      simp [go_sem, g, h2]
  · have g : (p == s) = false := by simpa using h1
    simp [go_sem, g, h1]
theorem neH_run (p q s i : Int) (d e : Bool) (w : World) : (binOp .neq 51 (.agg #[.int .i64 p, .int .i64 q, .bool d]) (.agg #[.int .i64 s, .int .i64 i, .bool e])).run Tryz.prog w = .ok (.bool (!decide (p = s ∧ q = i ∧ d = e))) w := by
  by_cases h1 : p = s
  · subst h1
    by_cases h2 : q = i
    · subst h2
      by_cases h3 : d = e
      · subst h3
        simp [go_sem]
      · have g : (d == e) = false := by simpa using h3
        simp [go_sem, g, h3]
    · have g : (q == i) = false := by simpa using h2
      simp [go_sem, g, h2]
  · have g : (p == s) = false := by simpa using h1
    simp [go_sem, g, h1]
end
section
def undN (l : List Nd) (by' : Hd) : Nat → Hd → Int
  | 0, _ => 2
  | f + 1, h => if h = by' then 1 else if h = rootH then 0 else if fi l h < l.length then undN l by' f (l[fi l h]?.getD nd0).par else 0

/-- On the way up. -/
def UnRel (w : World) (v : Value) (l : List Nd) (by' : Hd) (res : Int) (i : Value) (wr : World) : Prop :=
  ∃ (k : Nat) (h : Hd), k ≤ 12 ∧ i = .int .i64 k ∧ VarA wr w.heap.size 26 #[v] ∧ VarA wr (w.heap.size + 1) 51 #[.int .i64 h.sh, .int .i64 h.ino, .bool h.dir] ∧ VarA wr (w.heap.size + 1 + 1) 51 #[.int .i64 by'.sh, .int .i64 by'.ino, .bool by'.dir] ∧ Below w.heap.size w wr ∧ undN l by' (12 - k) h = res
end
section
/-- Blocks of T, but for v's own. -/
def Nm (w : World) (T : Nat → Prop) (v : Value) : Nat → Prop := fun b => T b ∧ b < w.heap.size ∧ v.ownBlock ≠ some b
/-- v is a row of the call's own, of the entries l; their names are read, in blocks of T other than the row's. -/
def SE (w : World) (lo : Nat) (T : Nat → Prop) (v : Value) (l : List En) : Prop :=
  ∃ (V : Nat → Value) (C : List Value), w.ownsRow lo 83 4 v l.length C ∧ (∀ i j, i < l.length → j < 4 → C[i * 4 + j]? = some (enVal (l[i]?.getD en0) (V i) j)) ∧ ∀ i, i < l.length → RdV w (Nm w T v) (V i) (.bytes (l[i]?.getD en0).nm)
/-- The cells of entries, in a row. -/
def enRow (l : List En) (V : Nat → Value) : List Value := (List.range (l.length * 4)).map (fun t => enVal (l[t / 4]?.getD en0) (V (t / 4)) (t % 4))
end
section
/-- The entries l2 lie where ao says (or there are none and ao says nothing). -/
def Lies (w : World) (ao : Option Addr) (c : Nat) (l2 : List En) (V2 : Nat → Value) : Prop :=
  (ao = none ∧ l2 = [] ∧ c = 0) ∨ ∃ ad, ao = some ad ∧ ∀ t u, (enRow l2 V2)[t]? = some u → w.cell? (ad.add t) = some u
end
section
/-- Blocks of L, but for v's own. -/
def EntL (w : World) (L : Nat → Prop) (v : Value) : Nat → Prop := fun b => L b ∧ b < w.heap.size ∧ v.ownBlock ≠ some b
/-- As SN, the entries in blocks of L. -/
def SG (w : World) (lo : Nat) (L : Nat → Prop) (v : Value) (l : List Nd) : Prop :=
  ∃ (V : Nat → Value) (C : List Value), w.ownsRow lo 54 9 v l.length C ∧ (∀ i j, i < l.length → j < 9 → C[i * 9 + j]? = some (ndVal (l[i]?.getD nd0) (V i) j)) ∧ ∀ i, i < l.length → RdV w (EntL w L v) (V i) (ensO (l[i]?.getD nd0).es)
theorem SN.sg {w : World} {lo : Nat} {v : Value} {l : List Nd} (s : SN w lo v l) : SG w lo (fun b => lo ≤ b) v l := s
theorem SG.mono {w : World} {lo : Nat} {L L' : Nat → Prop} {v : Value} {l : List Nd} (s : SG w lo L v l) (h : ∀ b, b < w.heap.size → L b → L' b) : SG w lo L' v l := by
  obtain ⟨V, C, h1, h2, h3⟩ := s
  exact ⟨V, C, h1, h2, fun i hi => RdV.mono (fun b hb => ⟨h b hb.2.1 hb.1, hb.2⟩) (h3 i hi)⟩
theorem SG.nil (w : World) (lo : Nat) (L : Nat → Prop) : SG w lo L (.slice none 0 0) [] :=
  ⟨fun _ => undef, [], World.ownsRow_nil _ _ _ _, fun i j hi => absurd hi (Nat.not_lt_zero _), fun i hi => absurd hi (Nat.not_lt_zero _)⟩
theorem SG.lt {w : World} {lo : Nat} {L : Nat → Prop} {v : Value} {l : List Nd} (s : SG w lo L v l) : ∀ b, v.ownBlock = some b → lo ≤ b ∧ b < w.heap.size := by
  obtain ⟨V, C, h1, h2, h3⟩ := s
  exact fun b hb => h1.lt b hb
/-- It stays where the row's block and those of L stay. -/
theorem SG.keep {w w' : World} {lo : Nat} {L : Nat → Prop} {v : Value} {l : List Nd} (s : SG w lo L v l) (t : Keeps (fun b => b < w.heap.size ∧ (L b ∨ v.ownBlock = some b)) w w') : SG w' lo L v l := by
  have hb := s.lt
  obtain ⟨V, C, h1, h2, h3⟩ := s
  exact ⟨V, C, ownsRow_keep h1 (fun b h => ⟨(hb b h).2, .inr h⟩) t, h2, fun i hi => RdV.mono (fun b hb => ⟨hb.1, Nat.lt_of_lt_of_le hb.2.1 t.1, hb.2.2⟩) (RdV.keep (t.mono (fun b hb => ⟨hb.2.1, .inl hb.1⟩)) (h3 i hi))⟩
theorem SG.step {w w' : World} {lo : Nat} {L : Nat → Prop} {v : Value} {l : List Nd} (s : SG w lo L v l) (hb : Below w.heap.size w w') : SG w' lo L v l := s.keep (Keeps.ofBelow hb)
theorem SG.head {w : World} {lo : Nat} {L : Nat → Prop} {v : Value} {l : List Nd} (s : SG w lo L v l) (hl : 0 < l.length) : ∃ g cap, v = .slice (some ⟨g, 0, none⟩) l.length cap ∧ lo ≤ g ∧ g < w.heap.size ∧ (∀ j, w.frozen? ⟨g, j, none⟩ = false) ∧ l.length ≤ cap := by
  obtain ⟨V, C, h1, h2, h3⟩ := s
  rcases h1.2 with ⟨hv, h0⟩ | ⟨g, c, cur, hv, hg, hh, hnc, hm, _⟩
  · omega
  · subst hv
    exact ⟨g, c, rfl, hg, lt_of_block hh, fun j => h1.frozenAt j, hnc⟩
theorem SG.at {w : World} {lo g cap : Nat} {L : Nat → Prop} {l : List Nd} (s : SG w lo L (.slice (some ⟨g, 0, none⟩) l.length cap) l) {i : Nat} (hi : i < l.length) :
    ∃ x, RdV w (fun b => L b ∧ b < w.heap.size ∧ b ≠ g) x (ensDt (l[i]?.getD nd0).es) ∧ ∀ j, j < 9 → w.cell? ⟨g, i * 9 + j, none⟩ = some (ndVal (l[i]?.getD nd0) x j) := by
  obtain ⟨V, C, h1, h2, h3⟩ := s
  refine ⟨V i, RdV.mono (fun b hb => ⟨hb.1, hb.2.1, fun e => hb.2.2 (by rw [e]; rfl)⟩) (h3 i hi).en, fun j hj => ?_⟩
  rw [World.ownsRow.cellAt h1 (i * 9 + j) (place_lt hi hj)]
  exact h2 i j hi hj
/-- A node with other entries. -/
def Nd.setEs (n : Nd) (es : List En) : Nd := ⟨n.h, n.par, n.links, n.val, es⟩
theorem SG.shape {L : Nat → Prop} {w : World} {lo : Nat} {v : Value} {l : List Nd} (s : SG w lo L v l) : ∃ a c, v = .slice a l.length c := by
  obtain ⟨V, C, h1, h2, h3⟩ := s
  rcases h1.2 with ⟨hv, h0⟩ | ⟨g, c, cur, hv, _⟩
  · exact ⟨none, 0, by rw [h0]; exact hv⟩
  · exact ⟨_, c, hv⟩
theorem SG.shapeN {L : Nat → Prop} {w : World} {lo n : Nat} {v : Value} {l : List Nd} (s : SG w lo L v l) (h : l.length = n) : ∃ a c, v = .slice a n c := by subst h; exact s.shape
/-- The cells of nodes, in a row. -/
def ndRow (l : List Nd) (V : Nat → Value) : List Value := (List.range (l.length * 9)).map (fun t => ndVal (l[t / 9]?.getD nd0) (V (t / 9)) (t % 9))
theorem ndRow_at (l : List Nd) (V : Nat → Value) (i j : Nat) (hi : i < l.length) (hj : j < 9) : (ndRow l V)[i * 9 + j]? = some (ndVal (l[i]?.getD nd0) (V i) j) := by
  unfold ndRow
  rw [List.getElem?_map, List.getElem?_range (place_lt hi hj)]
  simp only [Option.map_some]
  rw [show (i * 9 + j) / 9 = i by omega, show (i * 9 + j) % 9 = j by omega]
theorem ndRow_of {l : List Nd} {V : Nat → Value} {t : Nat} {u : Value} (h : (ndRow l V)[t]? = some u) : t < l.length * 9 ∧ u = ndVal (l[t / 9]?.getD nd0) (V (t / 9)) (t % 9) := by
  unfold ndRow at h
  rw [List.getElem?_map] at h
  by_cases ht : t < l.length * 9
  · rw [List.getElem?_range ht] at h
    simp only [Option.map_some, Option.some.injEq] at h
    exact ⟨ht, h.symm⟩
  · rw [List.getElem?_eq_none (by simpa using ht)] at h
    cases h
theorem ndVal_one (n : Nd) (x : Value) (hx : x.oneCell' = true) : ∀ j, (ndVal n x j).oneCell' = true
  | 0 => rfl
  | 1 => rfl
  | 2 => rfl
  | 3 => rfl
  | 4 => rfl
  | 5 => rfl
  | 6 => rfl
  | 7 => rfl
  | (_ + 8) => hx
theorem SG.manyV {L : Nat → Prop} {w w' : World} {lo : Nat} {v v' : Value} {l l2 : List Nd} (V V2 : Nat → Value) (C news : List Value) (h1 : w.ownsRow lo 54 9 v l.length C)
    (h2 : ∀ i j, i < l.length → j < 9 → C[i * 9 + j]? = some (ndVal (l[i]?.getD nd0) (V i) j)) (h3 : ∀ i, i < l.length → RdV w (EntL w L v) (V i) (ensO (l[i]?.getD nd0).es))
    (hn : ∀ i j, i < l2.length → j < 9 → news[i * 9 + j]? = some (ndVal (l2[i]?.getD nd0) (V2 i) j)) (hr : ∀ i, i < l2.length → RdV w (EntL w L v) (V2 i) (ensO (l2[i]?.getD nd0).es))
    (ho : w'.ownsRow lo 54 9 v' (l.length + l2.length) (C ++ news)) (hg : w.grownBy w' v.ownBlock) (hgg : v'.ownBlock = v.ownBlock ∨ v'.ownBlock = some w.heap.size) :
    SG w' lo L v' (l ++ l2) := by
  have hsz := hg.size
  have hCl : C.length = l.length * 9 := h1.1
  have hln : (l ++ l2).length = l.length + l2.length := List.length_append
  have hrd : ∀ (y : Value) (es : List En), RdV w (EntL w L v) y (ensO es) → RdV w' (EntL w' L v') y (ensO es) := fun y es r =>
    RdV.mono (fun b hb => ⟨hb.1, by have := hb.2.1; omega, fun e => by
      rcases hgg with h | h
      · exact hb.2.2 (by rw [← h, e])
      · rw [h] at e
        have e' : w.heap.size = b := by simpa using e
        have := hb.2.1
        omega⟩) (RdV.keep ⟨hsz, fun b hb hlt => hg.block b hlt (fun h => hb.2.2 h.symm)⟩ r)
  refine ⟨fun i => if i < l.length then V i else V2 (i - l.length), _, by rw [hln]; exact ho, fun i j hi hj => ?_, fun i hi => ?_⟩
  · rw [hln] at hi
    by_cases hlt : i < l.length
    · simp only [hlt, if_true]
      rw [List.getElem?_append_left (by rw [hCl]; exact place_lt hlt hj), List.getElem?_append_left hlt]
      exact h2 i j hlt hj
    · simp only [hlt, if_false]
      rw [List.getElem?_append_right (by omega), hCl, show i * 9 + j - l.length * 9 = (i - l.length) * 9 + j by omega, List.getElem?_append_right (by omega)]
      exact hn (i - l.length) j (by omega) hj
  · rw [hln] at hi
    by_cases hlt : i < l.length
    · simp only [hlt, if_true]
      rw [List.getElem?_append_left hlt]
      exact hrd _ _ (h3 i hlt)
    · simp only [hlt, if_false]
      rw [List.getElem?_append_right (by omega)]
      exact hrd _ _ (hr (i - l.length) (by omega))
/-- The nodes l2 lie where ao says (or there are none and ao says nothing). -/
def LiesN (w : World) (ao : Option Addr) (c : Nat) (l2 : List Nd) (V2 : Nat → Value) : Prop :=
  (ao = none ∧ l2 = [] ∧ c = 0) ∨ ∃ ad, ao = some ad ∧ ∀ t u, (ndRow l2 V2)[t]? = some u → w.cell? (ad.add t) = some u
/-- What append of nodes does. -/
theorem run_appN {L : Nat → Prop} (w : World) (ty : TypeId) (v : Value) (l l2 : List Nd) (lo c : Nat) (ao : Option Addr) (V2 : Nat → Value)
    (hsrc : LiesN w ao c l2 V2) (hr : ∀ i, i < l2.length → RdV w (EntL w L v) (V2 i) (ensO (l2[i]?.getD nd0).es)) (hown : SG w lo L v l) (hlo : lo ≤ w.heap.size) (hl : l.length + l2.length ≤ 8000) :
    ∃ v' w', (Builtin.append_ #[24, 24] ty #[v, .slice ao l2.length c]).run Tryz.prog w = .ok v' w' ∧ SG w' lo L v' (l ++ l2) ∧ w.grownBy w' v.ownBlock ∧ (v'.ownBlock = v.ownBlock ∨ v'.ownBlock = some w.heap.size) := by
  obtain ⟨i0, hi0, hz0, hz1, hz2⟩ := info_parts Tryz.infoNd
  obtain ⟨V, C, h1, h2, h3⟩ := hown
  rcases hsrc with ⟨rfl, rfl, rfl⟩ | ⟨ad, rfl, hcell⟩
  · exact ⟨v, w, run_append_owned_none (P := Tryz.prog) (w := w) lo 24 ty 54 i0 9 Tryz.underlying24 hi0 v l.length C h1, by rw [List.append_nil]; exact ⟨V, C, h1, h2, h3⟩, ⟨rfl, rfl, rfl, Nat.le_refl _, fun _ _ _ => rfl⟩, .inl rfl⟩
  · obtain ⟨v', w', hrun, ho', hg, _, hgg⟩ := run_append_own_at (P := Tryz.prog) w lo 24 ty 54 i0 _ 9 _ Tryz.underlying24 hi0 hz0 hz1 hz2 rfl (by decide) v l.length C h1 ad l2.length c (ndRow l2 V2) (by simp [ndRow]) hcell (fun u hu => by
        obtain ⟨t, ht⟩ := List.getElem?_of_mem hu
        obtain ⟨ht1, rfl⟩ := ndRow_of ht
        refine ndVal_one _ _ ?_ _
        obtain ⟨a', c', e', _⟩ := RdV.sliced (RdV.en (hr (t / 9) (by omega)))
        rw [e']
        rfl) (by unfold maxLen; omega) (by omega) hlo
    exact ⟨v', w', hrun, SG.manyV V V2 C (ndRow l2 V2) h1 h2 h3 (fun i j hi hj => ndRow_at l2 V2 i j hi hj) hr ho' hg hgg, hg, hgg⟩
theorem wpList_appN {L : Nat → Prop} {ops : Array Oper} {rest : List Oper} {o : Oper} {a : Act} {Q : Exit → Act → World → Prop} (w : World) (hgd : o.guard = none) (s x : Operand)
    (ho : o.op = .call { callee := .builtin .append, args := #[s, x], argTypes := #[24, 24] })
    (v : Value) (hs : a.eval s = v) (l l2 : List Nd) (lo c : Nat) (ao : Option Addr) (hx : a.eval x = .slice ao l2.length c) (V2 : Nat → Value)
    (hsrc : LiesN w ao c l2 V2) (hr : ∀ i, i < l2.length → RdV w (EntL w L v) (V2 i) (ensO (l2[i]?.getD nd0).es))
    (hown : SG w lo L v l) (hlo : lo ≤ w.heap.size) (hl : l.length + l2.length ≤ 8000)
    (h : ∀ v' w', SG w' lo L v' (l ++ l2) → w.grownBy w' v.ownBlock → (v'.ownBlock = v.ownBlock ∨ v'.ownBlock = some w.heap.size) → wpList Tryz.prog ops Q rest (a.put o.dst v') w') : wpList Tryz.prog ops Q (o :: rest) a w := by
  obtain ⟨v', w', hrun, hs', hg, hgg⟩ := run_appN w o.type v l l2 lo c ao V2 hsrc hr hown hlo hl
  refine wpList_plain hgd fun K hK => ?_
  unfold Oper.wp execOp
  simp only [ho, resolve, invoke, builtin, Sem.run_bind, Sem.run_pure, Result.andThen_ok, List.map_toArray, List.map_cons, List.map_nil, hs, hx, hrun]
  exact hK _ _ (h v' w' hs' hg hgg)
theorem getD_take {α : Type} (l : List α) (k i : Nat) (z : α) (hi : i < (l.take k).length) : (l.take k)[i]?.getD z = l[i]?.getD z := by
  rw [List.getElem?_take, if_pos (by rw [List.length_take] at hi; omega)]
theorem getD_drop {α : Type} (l : List α) (k i : Nat) (z : α) : (l.drop k)[i]?.getD z = l[k + i]?.getD z := by rw [List.getElem?_drop]
/-- The part [:k] of a slice. -/
theorem sliceH_run (t : TypeId) (h : Tryz.prog.underlying t = some (.slice (Tryz.prog.elem t))) {s : Nat} (hs : ∀ W, (sizeOf (Tryz.prog.elem t)).run Tryz.prog W = .ok s W) (xa : Option Addr) (n c k : Nat) (hk : k ≤ c) (W : World) : (Instr.sliceAt t (.slice xa n c) none (some (.int .i64 (k : Int))) none).run Tryz.prog W = .ok (.slice xa k c) W := by
  rw [run_sliceAt_slice W t _ _ _ _ h, run_slice_h W t xa n c h .i64 (k : Int) (by omega) (by omega), hs]
  simp [Result.andThen, sliced]
  intro _
  cases xa with
  | none => rfl
  | some ad => obtain ⟨b, o, p⟩ := ad; cases p <;> simp [Addr.add]
/-- .. and [k:]. -/
theorem sliceL_run (t : TypeId) (h : Tryz.prog.underlying t = some (.slice (Tryz.prog.elem t))) {s : Nat} (hs : ∀ W, (sizeOf (Tryz.prog.elem t)).run Tryz.prog W = .ok s W) (xa : Option Addr) (n c k : Nat) (hk : k ≤ n) (W : World) : (Instr.sliceAt t (.slice xa n c) (some (.int .i64 (k : Int))) none none).run Tryz.prog W = .ok (.slice (if c = k then xa else xa.map (·.add (k * s))) (n - k) (c - k)) W := by
  rw [run_sliceAt_slice W t _ _ _ _ h, run_slice_l W t xa n c h .i64 (k : Int) (by omega) (by omega), hs]
  simp [Result.andThen, sliced]
theorem size_of_info {t : TypeId} {x : Option Value} {s b : Nat} (h : (Tryz.prog.info? t).map (fun i => (i.zero, i.size, i.bytes)) = some (x, s, b)) (W : World) : (sizeOf t).run Tryz.prog W = .ok s W := by
  cases hq : Tryz.prog.info? t with
  | none => rw [hq] at h; cases h
  | some i => rw [hq] at h; simp only [Option.map_some, Option.some.injEq, Prod.mk.injEq] at h; simp [sizeOf, typeInfo, hq, h.2.1]
theorem elemNd : Tryz.prog.underlying 24 = some (.slice (Tryz.prog.elem 24)) := by kernel_rfl
theorem sizeNd (W : World) : (sizeOf (Tryz.prog.elem 24)).run Tryz.prog W = .ok 9 W := by
  rw [show Tryz.prog.elem 24 = 54 by kernel_rfl]; exact size_of_info Tryz.infoNd W
theorem sliceHN (xa : Option Addr) (n c k : Nat) (hk : k ≤ c) (W : World) : (Instr.sliceAt 24 (.slice xa n c) none (some (.int .i64 (k : Int))) none).run Tryz.prog W = .ok (.slice xa k c) W := sliceH_run _ elemNd sizeNd xa n c k hk W
theorem sliceLN (xa : Option Addr) (n c k : Nat) (hk : k ≤ n) (W : World) : (Instr.sliceAt 24 (.slice xa n c) (some (.int .i64 (k : Int))) none none).run Tryz.prog W = .ok (.slice (if c = k then xa else xa.map (·.add (k * 9))) (n - k) (c - k)) W := sliceL_run _ elemNd sizeNd xa n c k hk W
/-- A slice expression as one step. -/
theorem wpList_sl {ops : Array Oper} {rest : List Oper} {t t' : TypeId} {dst : Option Tmp} {x : Operand} {lo hi : Option Operand} {pos : String} {af : Array Edge} {a : Act} {Q : Exit → Act → World → Prop} {w : World} (v : Value)
    (hrun : (Instr.sliceAt t (a.eval x) (lo.map a.eval) (hi.map a.eval) none).run Tryz.prog w = .ok v w) (hK : wpList Tryz.prog ops Q rest (a.put dst v) w) : wpList Tryz.prog ops Q (⟨dst, .slice t x lo hi none, t', pos, af, none⟩ :: rest) a w := by
  refine wpList_plain rfl fun K' hK' => ?_
  unfold Oper.wp execOp
  simp only [Option.map_none, hrun, Sem.run_bind, Sem.run_pure, Result.andThen_ok]
  exact hK' _ _ hK
/-- Where the nodes' parts lie. -/
theorem SG.lies {L : Nat → Prop} {w : World} {lo g c : Nat} {l : List Nd} (s : SG w lo L (.slice (some ⟨g, 0, none⟩) l.length c) l) :
    ∃ V : Nat → Value, (∀ i, i < l.length → RdV w (fun b => L b ∧ b < w.heap.size ∧ b ≠ g) (V i) (ensO (l[i]?.getD nd0).es)) ∧ l.length ≤ c ∧ ∀ k, k ≤ l.length → LiesN w (some ⟨g, 0, none⟩) c (l.take k) V ∧ LiesN w (if c = k then some ⟨g, 0, none⟩ else (some (Addr.mk g 0 none)).map (·.add (k * 9))) (c - k) (l.drop k) (fun i => V (k + i)) := by
  obtain ⟨V, C, h1, h2, h3⟩ := s
  have hcap : l.length ≤ c := by
    rcases h1.2 with ⟨hv, h0⟩ | ⟨g', c', cur, hv, hg, hh, hnc, hm, _⟩
    · cases hv
    · simp only [Value.slice.injEq] at hv; obtain ⟨-, -, rfl⟩ := hv; exact hnc
  refine ⟨V, fun i hi => RdV.mono (fun b hb => ⟨hb.1, hb.2.1, fun e => hb.2.2 (by rw [e]; rfl)⟩) (h3 i hi), hcap, fun k hk => ⟨.inr ⟨_, rfl, fun t u ht => ?_⟩, .inr ?_⟩⟩
  · obtain ⟨ht1, rfl⟩ := ndRow_of ht
    have hlt : t / 9 < (l.take k).length := by omega
    have hlt2 : t / 9 < l.length := by rw [List.length_take] at hlt; omega
    rw [add_plainT, getD_take _ _ _ _ hlt, ← h2 _ _ hlt2 (by omega), Nat.zero_add, show t / 9 * 9 + t % 9 = t by omega]
    exact World.ownsRow.cellAt h1 t (by omega)
  · by_cases hck : c = k
    · refine ⟨⟨g, 0, none⟩, by rw [if_pos hck], fun t u ht => ?_⟩
      obtain ⟨ht1, rfl⟩ := ndRow_of ht
      rw [List.length_drop] at ht1
      omega
    · refine ⟨(Addr.mk g 0 none).add (k * 9), by rw [if_neg hck]; rfl, fun t u ht => ?_⟩
      obtain ⟨ht1, rfl⟩ := ndRow_of ht
      rw [List.length_drop] at ht1
      have hlt2 : k + t / 9 < l.length := by omega
      rw [add_plainT, add_plainT, getD_drop, ← h2 _ _ hlt2 (by omega), Nat.zero_add, show (k + t / 9) * 9 + t % 9 = k * 9 + t by omega]
      exact World.ownsRow.cellAt h1 _ (by omega)
theorem LiesN.step {w W : World} {ao : Option Addr} {c : Nat} {l2 : List Nd} {V2 : Nat → Value} (h : LiesN w ao c l2 V2) (hb : Below w.heap.size w W) : LiesN W ao c l2 V2 := by
  rcases h with h | ⟨ad, ha, hc⟩
  · exact .inl h
  · exact .inr ⟨ad, ha, fun t u ht => (hb.cell (p := ad.add t) (block_lt_of_cell (hc t u ht))).trans (hc t u ht)⟩
theorem SG.low {w : World} {lo lo' : Nat} {L : Nat → Prop} {v : Value} {l : List Nd} (s : SG w lo L v l) (h : lo' ≤ lo) : SG w lo' L v l := by
  obtain ⟨V, C, h1, h2, h3⟩ := s
  exact ⟨V, C, ⟨h1.1, h1.2.imp id (fun ⟨g, c, cur, hv, hg, r⟩ => ⟨g, c, cur, hv, Nat.le_trans h hg, r⟩)⟩, h2, h3⟩
theorem ndRow_one (n : Nd) (V : Nat → Value) : ndRow [n] V = [.int .i64 n.h.sh, .int .i64 n.h.ino, .bool n.h.dir, .int .i64 n.par.sh, .int .i64 n.par.ino, .bool n.par.dir, .int .i64 n.links, .int .i64 n.val, V 0] := by simp [ndRow, List.range, List.range.loop, ndVal]
end
section
def isLow (c : Int) : Bool := decide (97 ≤ c) && decide (c ≤ 122)
def isNm (zs : List Int) : Bool := (decide (1 ≤ zs.length) && decide (zs.length ≤ 6)) && zs.all isLow
theorem all_take_next (zs : List Int) (k : Nat) (hk : k < zs.length) (h : (zs.take k).all isLow = true) : (isLow (zs[k]?.getD 0) = true → (zs.take (k + 1)).all isLow = true) ∧ (isLow (zs[k]?.getD 0) = false → zs.all isLow = false) := by
  constructor
  · intro hc
    rw [List.take_succ_eq_append_getElem hk, List.all_append, h]
    simp [hk] at hc
    simp [hc]
  · intro hc
    simp [hk] at hc
    rw [List.all_eq_false]
    exact ⟨zs[k], List.getElem_mem hk, by simp [hc]⟩

set_option maxHeartbeats 1000000 in
theorem specName_any (v : Value) (zs : List Int) (S : Nat → Prop) (w : World) (r : RdV w S v (.bytes zs)) (hl : zs.length ≤ 2097152) :
    Calls Tryz.prog 73 #[v] w fun e w' => e = .returned (.bool (isNm zs)) ∧ w' = w := by
  obtain ⟨a, cap, rfl, hh, hb, hc⟩ := r.b.reads
  clear r
  obtain ⟨n, hn⟩ : ∃ n, zs.length = n := ⟨_, rfl⟩
  have HC : Hid _ := hc
  have HN : Hid _ := hn
  have HI : Hid (isNm zs = ((decide (1 ≤ n) && decide (n ≤ 6)) && zs.all isLow)) := by show _ = _; unfold isNm; rw [hn]
  rw [hn] at hl ⊢
  rw [HI.out]
  clear hc hn hh hb HI
  by_cases h0 : 1 ≤ n
  case neg =>
    have e1 : decide (1 ≤ n) = false := by simpa using h0
    rw [e1]
    go_enter Tryz.func73, Tryz.ntmps73
    go_wp2
    go_ret
    exact ⟨by simp, rfl⟩
  by_cases h6 : n ≤ 6
  case neg =>
    have e1 : decide (n ≤ 6) = false := by simpa using h6
    rw [e1]
    go_enter Tryz.func73, Tryz.ntmps73
    go_wp2
    go_ret
    exact ⟨by simp, rfl⟩
  have e1 : decide (1 ≤ n) = true := by simpa using h0
  have e2 : decide (n ≤ 6) = true := by simpa using h6
  rw [e1, e2]
  clear e1 e2
  go_enter Tryz.func73, Tryz.ntmps73
  go_wp2
  go_loop [3] (fun i => ∃ k : Nat, k ≤ n ∧ i = .int .i64 k ∧ Hid ((zs.take k).all isLow = true)) (fun i => n - (intOf i).toNat)
  case atStart => exact ⟨0, Nat.zero_le _, rfl, by show _ = _; simp⟩
  case round =>
    obtain ⟨k, hk, rfl, HA⟩ := hrel
    by_cases hlt : k < n
    · obtain ⟨b, off, rfl, hbl, hcell⟩ := HC.out.resolve_left (fun e => by have := HN.out; rw [e] at this; simp at this; omega)
      have c1 := hcell k (by rw [HN.out]; exact hlt)
      have HST : Hid _ := all_take_next zs k (by rw [HN.out]; exact hlt) HA.out
      generalize zs[k]?.getD 0 = c at c1 HST
      clear hcell HA
      go_wp2
      all_goals first
        | (go_ret
           exact ⟨by rw [HST.out.2 (by simp [isLow]; omega)]; rfl, rfl⟩)
        | (go_round
           case rel => exact ⟨k + 1, by omega, by go_num, HST.out.1 (by simp [isLow]; omega)⟩
           case measure => simp [intOf]; omega)
    · have he : k = n := by omega
      subst he
      have HF : Hid (zs.all isLow = true) := by
        have := HA.out
        rwa [List.take_of_length_le (by rw [HN.out]; exact Nat.le_refl _)] at this
      go_wp2
      go_ret
      exact ⟨by rw [HF.out]; rfl, rfl⟩

set_option maxHeartbeats 1000000 in
theorem implName_any (v : Value) (zs : List Int) (S : Nat → Prop) (w : World) (r : RdV w S v (.bytes zs)) (hl : zs.length ≤ 2097152) :
    Calls Tryz.prog 119 #[v] w fun e w' => e = .returned (.bool (isNm zs)) ∧ w' = w := by
  obtain ⟨a, cap, rfl, hh, hb, hc⟩ := r.b.reads
  clear r
  obtain ⟨n, hn⟩ : ∃ n, zs.length = n := ⟨_, rfl⟩
  have HC : Hid _ := hc
  have HN : Hid _ := hn
  have HI : Hid (isNm zs = ((decide (1 ≤ n) && decide (n ≤ 6)) && zs.all isLow)) := by show _ = _; unfold isNm; rw [hn]
  rw [hn] at hl ⊢
  rw [HI.out]
  clear hc hn hh hb HI
  by_cases h0 : 1 ≤ n
  case neg =>
    have e1 : decide (1 ≤ n) = false := by simpa using h0
    rw [e1]
    go_enter Tryz.func119, Tryz.ntmps119
    go_wp2
    go_ret
    exact ⟨by simp, rfl⟩
  by_cases h6 : n ≤ 6
  case neg =>
    have e1 : decide (n ≤ 6) = false := by simpa using h6
    rw [e1]
    go_enter Tryz.func119, Tryz.ntmps119
    go_wp2
    go_ret
    exact ⟨by simp, rfl⟩
  have e1 : decide (1 ≤ n) = true := by simpa using h0
  have e2 : decide (n ≤ 6) = true := by simpa using h6
  rw [e1, e2]
  clear e1 e2
  go_enter Tryz.func119, Tryz.ntmps119
  go_wp2
  go_loop [15] (fun i => ∃ k : Nat, k ≤ n ∧ i = .int .i64 k ∧ Hid ((zs.take k).all isLow = true)) (fun i => n - (intOf i).toNat)
  case atStart => exact ⟨0, Nat.zero_le _, rfl, by show _ = _; simp⟩
  case round =>
    obtain ⟨k, hk, rfl, HA⟩ := hrel
    by_cases hlt : k < n
    · obtain ⟨b, off, rfl, hbl, hcell⟩ := HC.out.resolve_left (fun e => by have := HN.out; rw [e] at this; simp at this; omega)
      have c1 := hcell k (by rw [HN.out]; exact hlt)
      have HST : Hid _ := all_take_next zs k (by rw [HN.out]; exact hlt) HA.out
      generalize zs[k]?.getD 0 = c at c1 HST
      clear hcell HA
      go_wp2
      all_goals first
        | (go_ret
           exact ⟨by rw [HST.out.2 (by simp [isLow]; omega)]; rfl, rfl⟩)
        | (go_round
           case rel => exact ⟨k + 1, by omega, by go_num, HST.out.1 (by simp [isLow]; omega)⟩
           case measure => simp [intOf]; omega)
    · have he : k = n := by omega
      subst he
      have HF : Hid (zs.all isLow = true) := by
        have := HA.out
        rwa [List.take_of_length_le (by rw [HN.out]; exact Nat.le_refl _)] at this
      go_wp2
      go_ret
      exact ⟨by rw [HF.out]; rfl, rfl⟩
end
section
section
variable {P : Program} {ops : Array Oper} {Q : Exit → Act → World → Prop} {md : Region.Mode} {S : World → Prop} {z : Nat}

/-- Whatever order is picked from here on, and S holds behind every operation that is carried out but z. -/
def wpAnyZ (P : Program) (md : Region.Mode) (ops : Array Oper) (Q : Exit → Act → World → Prop) (S : World → Prop) (z : Nat) : Nat → Array Bool → Act → World → Prop
  | 0, listed, a, w => Region.ready md ops listed = [] ∧ Q .normal a w
  | fuel + 1, listed, a, w =>
    (Region.ready md ops listed = [] → Q .normal a w) ∧
    ∀ i ∈ Region.ready md ops listed, wpOp P ops Q i (fun a' w' => (i ≠ z → S w') ∧ wpAnyZ P md ops Q S z fuel (listed.setIfInBounds i true) a' w') a w
end
end
end Go.Proofs.YtoaocjkapoemnaaGreat
