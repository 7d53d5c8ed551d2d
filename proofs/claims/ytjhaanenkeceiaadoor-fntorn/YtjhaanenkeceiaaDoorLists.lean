/- What the verifier's helpers on lists of bytes do: copying, comparing, marking, looking. Conditions: at most 2^21 lists, of at most 2^21 bytes each. -/
import Derived.Test.YtjhaanenkeceiaaDoorMem
import Derived.Deep.RegionHeld3
namespace Go.Proofs.YtjhaanenkeceiaaDoor
open Go.RowKit
set_option linter.unusedVariables false

theorem Tryd.infoBB : (Tryd.prog.info? 22).map (fun i => (i.zero, i.size, i.bytes)) = some (some (.slice none 0 0), 1, 24) := by kernel_rfl

theorem Owns.sliced {w : World} {base : Nat} {v : Value} {zs : List Int} (h : Owns w base v zs) : ∃ a n c, v = .slice a n c := by
  obtain ⟨a, c, hv, _⟩ := h.shape
  exact ⟨a, _, c, hv⟩
theorem toByteS_r (v : Value) (zs : List Int) (l h : Nat) (w : World) (r : RdB w l h v zs) (hl : zs.length ≤ 2097152) :
    Calls Tryd.prog 22 #[v] w fun e w' => ∃ u, e = .returned u ∧ Owns w' w.heap.size u zs ∧ Below w.heap.size w w' := by
  obtain ⟨hz, a, len, cap, rfl, hlen, _, ra⟩ := r.reads
  exact toByteS_v a zs len cap w ra hlen hl
theorem eqByteS_r (v u : Value) (xs ys : List Int) (l h l' h' : Nat) (w : World) (r : RdB w l h v xs) (s : RdB w l' h' u ys) (hl : xs.length ≤ 2097152) (hm : ys.length ≤ 2097152) :
    Calls Tryd.prog 24 #[v, u] w fun e w' => e = .returned (.bool (xs == ys)) ∧ ∃ n, w' = w.drewN n := by
  obtain ⟨_, a, la, ca, rfl, hla, _, ra⟩ := r.reads
  obtain ⟨_, b, lb, cb, rfl, hlb, _, rb⟩ := s.reads
  subst hla; subst hlb
  exact eqByteS_any a b xs ys ca cb w ra rb hl hm
theorem held_r (v : Value) (n : Nat) (k : Nat) (l h : Nat) (w : World) (r : RdB w l h v (marks n k)) (hl : n ≤ 2097152) (hk : k ≤ 8388608) :
    Calls Tryd.prog 66 #[v, .int .i64 k] w fun e w' => e = .returned (.int .i64 ((k + n : Nat) : Int)) ∧ w' = w := by
  obtain ⟨_, a, la, ca, rfl, hla, _, ra⟩ := r.reads
  rw [marks_length] at hla
  subst hla
  exact held_any a la k ca w ra hl (by omega)

/-- A list that is being copied: k of its n are there. -/
def PartBB (w : World) (B n : Nat) (zss : List (List Int)) (k : Nat) : Prop :=
  ∃ vs : List Value, vs.length = k ∧ w.ownsRow B 22 1 (.slice (some ⟨B, 0, none⟩) n n) n (vs ++ List.replicate (n - k) (.slice none 0 0)) ∧ B < w.heap.size ∧
    (∀ i, i < k → OwB w B w.heap.size (vs[i]?.getD undef) (zss[i]?.getD [])) ∧ ∀ i j q, i < j → j < k → (vs[i]?.getD undef).ownBlock = some q → (vs[j]?.getD undef).ownBlock ≠ some q
theorem PartBB.done {w : World} {B n : Nat} {zss : List (List Int)} (h : PartBB w B n zss n) (hn : n = zss.length) : OwBB w B w.heap.size (.slice (some ⟨B, 0, none⟩) n n) zss := by
  obtain ⟨vs, hl, ho, hB, he, hd⟩ := h
  rw [Nat.sub_self, List.replicate_zero, List.append_nil] at ho
  subst hl
  exact ⟨vs, hn, ho, fun k hk => by cases hk; exact hB, he, hd⟩
theorem set_next {α : Type} (vs : List α) (z x : α) (n k : Nat) (hl : vs.length = k) (hk : k < n) : (vs ++ List.replicate (n - k) z).set k x = (vs ++ [x]) ++ List.replicate (n - (k + 1)) z := by
  obtain ⟨m, hm⟩ : ∃ m, n - k = m + 1 := ⟨n - k - 1, by omega⟩
  rw [hm, show n - (k + 1) = m by omega, List.replicate_succ, List.set_append, if_neg (by omega), hl, Nat.sub_self, List.set_cons_zero, List.append_assoc]
  rfl
theorem getD_snoc {α : Type} (vs : List α) (x d : α) (i : Nat) : (vs ++ [x])[i]?.getD d = if i < vs.length then vs[i]?.getD d else if i = vs.length then x else d := by
  rw [List.getElem?_append]
  by_cases h : i < vs.length
  · rw [if_pos h, if_pos h]
  · rw [if_neg h, if_neg h]
    by_cases h2 : i = vs.length
    · subst h2; simp
    · rw [if_neg h2, List.getElem?_eq_none (by simp; omega)]; rfl
/-- One more was copied and stored. -/
theorem PartBB.next {w w' : World} {B n k : Nat} {zss : List (List Int)} {u : Value} {zs : List Int} (h : PartBB w B n zss k) (hk : k < n) (hb : Below w.heap.size w w') (hz : isBytes zs) (ho : Owns w' w.heap.size u zs) (hzs : zs = zss[k]?.getD []) :
    PartBB (w'.setCell ⟨B, k, none⟩ u) B n zss (k + 1) := by
  obtain ⟨vs, hl, hrow, hB, he, hd⟩ := h
  have hs := hb.size
  have hrow' : w'.ownsRow B 22 1 (.slice (some ⟨B, 0, none⟩) n n) n (vs ++ List.replicate (n - k) (.slice none 0 0)) := ownsRow_same (h := w.heap.size) hrow (fun q hq => by cases hq; exact hB) (SameIn.ofBelow hb (Nat.le_refl _))
  have hst := hrow'.stored k u
  rw [set_next vs _ u n k hl hk] at hst
  have hsize : (w'.setCell ⟨B, k, none⟩ u).heap.size = w'.heap.size := by simp
  have keep : ∀ {v : Value} {l : Nat} {ys : List Int}, OwB w' l w'.heap.size v ys → v.ownBlock ≠ some B → OwB (w'.setCell ⟨B, k, none⟩ u) l w'.heap.size v ys := fun {v l ys} o hne => by
    refine ⟨o.1, ?_, o.2.2⟩
    refine World.ownsRow.kept o.2.1 hst.2 ?_
    cases hv : v.ownBlock with
    | none => exact .inl rfl
    | some q => exact .inr (by rw [← hv]; exact hne)
  have tag : ∀ {v : Value} {l h : Nat} {ys : List Int}, OwB w' l h v ys → v.ownBlock ≠ some B := fun {v l h ys} o e => by
    have h1 := full_heap hrow'
    rcases o.2.1.2 with ⟨rfl, _⟩ | ⟨g, c, cur, rfl, _, hh, _⟩
    · cases e
    · cases e
      rw [hh] at h1
      simp at h1
  have hu : OwB w' w.heap.size w'.heap.size u zs := OwB.of hz ho
  refine ⟨vs ++ [u], by simp [hl], hst.1, by rw [hsize]; omega, fun i hi => ?_, fun i j q hij hj hq => ?_⟩
  · rw [hsize, getD_snoc]
    by_cases h1 : i < vs.length
    · rw [if_pos h1]
      have o1 := ((he i (by omega)).same (SameIn.ofBelow hb (Nat.le_refl _))).wide (Nat.le_refl B) hs
      exact keep o1 (tag o1)
    · have e : i = vs.length := by omega
      rw [if_neg h1, if_pos e, e, hl, ← hzs]
      exact (keep hu (tag hu)).wide (by omega) (Nat.le_refl _)
  · rw [getD_snoc] at hq ⊢
    rw [if_pos (by omega)] at hq
    by_cases h1 : j < vs.length
    · rw [if_pos h1]; exact hd i j q hij (by omega) hq
    · rw [if_neg h1, if_pos (by omega)]
      intro e
      have a1 := (he i (by omega)).2.2 q hq
      have a2 := (ho.lt q e).1
      omega

theorem PartBB.slot {w w' : World} {B n k : Nat} {zss : List (List Int)} (h : PartBB w B n zss k) (hk : k < n) (hb : Below w.heap.size w w') : (∃ v, w'.cell? ⟨B, k, none⟩ = some v) ∧ w'.frozen? ⟨B, k, none⟩ = false := by
  obtain ⟨vs, hl, hrow, hB, he, hd⟩ := h
  have hrow' : w'.ownsRow B 22 1 (.slice (some ⟨B, 0, none⟩) n n) n (vs ++ List.replicate (n - k) (.slice none 0 0)) := ownsRow_same (h := w.heap.size) hrow (fun q hq => by cases hq; exact hB) (SameIn.ofBelow hb (Nat.le_refl _))
  refine ⟨?_, hrow'.frozenAt k⟩
  rw [hrow'.cellAt k (by omega)]
  exact ⟨_, List.getElem?_eq_getElem (by simp; omega)⟩
theorem madeCells_nil (n : Nat) : (madeCells (Value.slice none 0 0).cells (n * 1)).toList = List.replicate n (.slice none 0 0) := by
  simp [madeCells, Value.cells]
  apply List.ext_getElem?
  intro i
  simp [List.getElem?_map, List.getElem?_replicate]
  by_cases h : i < n <;> simp [h, Nat.mod_one]
theorem SameIn.mk {l h : Nat} {w w' : World} (h1 : w.heap.size ≤ w'.heap.size) (h2 : ∀ k, l ≤ k → k < h → w'.heap[k]? = w.heap[k]?) : SameIn l h w w' := ⟨h1, h2⟩

set_option maxHeartbeats 1000000 in
theorem toByteSS_any (v : Value) (zss : List (List Int)) (l h : Nat) (w : World) (r : RdBB w l h v zss) (hh : h ≤ w.heap.size) (hl : zss.length ≤ 2097152) (hle : ∀ i : Nat, (zss[i]?.getD []).length ≤ 2097152) :
    Calls Tryd.prog 62 #[v] w fun e w' => ∃ u, e = .returned u ∧ OwBB w' w.heap.size w'.heap.size u zss ∧ Below w.heap.size w w' := by
  obtain ⟨a, n, cap, vs, rfl, hn, hhd, hc, he⟩ := r
  obtain ⟨i0, hi, hz0, hz1, hz2⟩ := info_parts Tryd.infoBB
  have HN : Hid _ := hn
  have hnn : n ≤ 2097152 := by omega
  have HE : Hid _ := he
  have HC : Hid _ := hc
  have HH : Hid _ := hhd
  have HLE : Hid _ := hle
  clear hn he hc hhd hl hle
  go_enter Tryd.func62, Tryd.ntmps62
  go_wp2_with (at_make; refine wpList_make_full _ rfl _ _ 23 rfl w.heap.size 22 i0 (.slice none 0 0) 1 Tryd.underlying23 hi hz0 hz1 .i64 .i64 _ _ n rfl rfl rfl rfl (by rw [hz2]; omega) (by unfold maxLen; omega) (Nat.le_refl _) ?_; intro w1 hown hgrow)
  have hb1 : Below w.heap.size w w1 := (Below.refl _ _).grown hgrow (Nat.le_refl _) (fun k h => by cases h)
  have hs1 : w.heap.size < w1.heap.size := (hown.lt _ rfl).2
  have HP : Hid (PartBB w1 w.heap.size n zss 0) := ⟨[], rfl, by rw [List.nil_append, Nat.sub_zero, ← madeCells_nil]; exact hown, hs1, fun i hi => absurd hi (Nat.not_lt_zero _), fun i j q _ hj => absurd hj (Nat.not_lt_zero _)⟩
  clear hgrow hown
  go_loopw [4] (fun i wr => ∃ k : Nat, k ≤ n ∧ i = .int .i64 k ∧ Hid (PartBB wr w.heap.size n zss k) ∧ Below w.heap.size w wr) (fun i _ => n - (intOf i).toNat)
  case atStart => exact ⟨0, Nat.zero_le _, rfl, HP, hb1⟩
  case round =>
    clear HP hb1 hs1
    obtain ⟨k, hk, rfl, HP, hbel⟩ := hrel
    by_cases hlt : k < n
    · obtain ⟨b, off, rfl, hb0, hbh, hcc⟩ := HC.out.resolve_left (by omega)
      have hc1 : wr.cell? ⟨b, off + k, none⟩ = some (vs k) := (hbel.cell (p := ⟨b, off + k, none⟩) (by show b < w.heap.size; omega)).trans (hcc k hlt)
      have hrd := (HE.out k hlt).same (SameIn.mk (Below.size hbel) (fun q _ hq => hbel.block q (by omega)))
      generalize vs k = x at hc1 hrd
      have HR : Hid _ := hrd
      have hzb := hrd.1
      clear hrd hcc
      go_wp2_with fail
      refine (toByteS_r x _ l h wr HR.out (HLE.out k)).mono ?_
      rintro e w2 ⟨u, rfl, ho2, hb2⟩
      obtain ⟨ua, un, uc, rfl⟩ := ho2.sliced
      have HN2 : Hid _ := PartBB.next HP.out hlt hb2 hzb ho2 rfl
      obtain ⟨hold, hfz⟩ := PartBB.slot HP.out hlt hb2
      obtain ⟨v0, hv0⟩ := hold
      have hbe2 := hbel.trans (hb2.mono hbel.size)
      clear HP ho2
      go_wp2
      go_roundw
      case rel => exact ⟨k + 1, by omega, by go_num, HN2.out, hbe2.setCell (Nat.le_refl _) _⟩
      case measure => simp [intOf]; omega
    · have hkn : k = n := by omega
      subst hkn
      go_wp2
      go_ret
      exact ⟨_, rfl, HP.out.done HN.out, hbel⟩

theorem takes_eq_step {α : Type} [BEq α] [LawfulBEq α] (xs ys : List α) (d : α) (k : Nat) (hx : k < xs.length) (hy : k < ys.length) (h : xs.take k = ys.take k) :
    ((xs[k]?.getD d == ys[k]?.getD d) = true → xs.take (k + 1) = ys.take (k + 1)) ∧ ((xs[k]?.getD d == ys[k]?.getD d) = false → (xs == ys) = false) := by
  constructor
  · intro e
    have e := eq_of_beq e
    rw [List.take_succ_eq_append_getElem hx, List.take_succ_eq_append_getElem hy, h]
    simp [hx, hy] at e
    rw [e]
  · intro e
    apply beq_eq_false_iff_ne.2
    rintro rfl
    simp at e

set_option maxHeartbeats 1000000 in
theorem eqByteSS_any (v u : Value) (xss yss : List (List Int)) (l h l' h' : Nat) (w : World) (r : RdBB w l h v xss) (s : RdBB w l' h' u yss)
    (hl : xss.length ≤ 2097152) (hm : yss.length ≤ 2097152) (hlx : ∀ i : Nat, (xss[i]?.getD []).length ≤ 2097152) (hly : ∀ i : Nat, (yss[i]?.getD []).length ≤ 2097152) :
    Calls Tryd.prog 30 #[v, u] w fun e w' => e = .returned (.bool (xss == yss)) ∧ ∃ n, w' = w.drewN n := by
  obtain ⟨a, n, cap, vs, rfl, hn, hhd, hc, he⟩ := r
  obtain ⟨a', n', cap', us, rfl, hn', hhd', hc', he'⟩ := s
  have hnn : n ≤ 2097152 := by omega
  have hnn' : n' ≤ 2097152 := by omega
  by_cases hne : n = n'
  · subst hne
    have HX : Hid _ := hn
    have HY : Hid _ := hn'
    have HE : Hid _ := he
    have HE' : Hid _ := he'
    have HC : Hid _ := hc
    have HC' : Hid _ := hc'
    have HLX : Hid _ := hlx
    have HLY : Hid _ := hly
    clear hn hn' he he' hc hc' hhd hhd' hl hm hlx hly
    go_enter Tryd.func30, Tryd.ntmps30
    go_wp2
    go_loopw [5] (fun i wr => ∃ k m : Nat, k ≤ n ∧ i = .int .i64 k ∧ wr = w.drewN m ∧ Hid (xss.take k = yss.take k)) (fun i _ => n - (intOf i).toNat)
    case atStart => exact ⟨0, 0, Nat.zero_le _, rfl, rfl, by show _ = _; simp⟩
    case round =>
      obtain ⟨k, m, hk, rfl, rfl, hE⟩ := hrel
      by_cases hlt : k < n
      · obtain ⟨b, off, rfl, _, _, hcc⟩ := HC.out.resolve_left (by omega)
        obtain ⟨b', off', rfl, _, _, hcc'⟩ := HC'.out.resolve_left (by omega)
        have h1 := hcc k hlt
        have h2 := hcc' k hlt
        have r1 := HE.out k hlt
        have r2 := HE'.out k hlt
        have hst := takes_eq_step xss yss [] k (by rw [← HX.out]; exact hlt) (by rw [← HY.out]; exact hlt) hE.out
        generalize vs k = x at h1 r1
        generalize us k = y at h2 r2
        have b1 := HLX.out k
        have b2 := HLY.out k
        generalize xss[k]?.getD [] = xs at r1 hst b1
        generalize yss[k]?.getD [] = ys at r2 hst b2
        have R := fun q => eqByteS_r x y xs ys l h l' h' (w.drewN q) (r1.same (SameIn.refl _ _ _)) (r2.same (SameIn.refl _ _ _)) b1 b2
        generalize (xs == ys) = t at R hst
        have RC : Hid _ := R
        have HST : Hid _ := hst
        clear hst r1 r2 hcc hcc' R b1 b2
        have hi0 : (0 : Int) ≤ (k : Int) := by omega
        have hi1 : (k : Int) < (n : Int) := by omega
        cases t with
        | false =>
          have HF : Hid ((xss == yss) = false) := HST.out.2 rfl
          clear HST
          go_wp2
          go_region_held3 (fun w' => w'.cell? ⟨b, off + k, none⟩ = some x ∧ w'.cell? ⟨b', off' + k, none⟩ = some y) (first | go_keep | assumption) (first | (go_at_call 24; refine Calls.mono (RC.out (m + 1)) ?_; rintro e w' ⟨rfl, q, rfl⟩))
          go_wp2
          go_ret
          exact ⟨by rw [HF.out]; rfl, _, rfl⟩
        | true =>
          have HF : Hid (xss.take (k + 1) = yss.take (k + 1)) := HST.out.1 rfl
          clear HST
          go_wp2
          go_region_held3 (fun w' => w'.cell? ⟨b, off + k, none⟩ = some x ∧ w'.cell? ⟨b', off' + k, none⟩ = some y) (first | go_keep | assumption) (first | (go_at_call 24; refine Calls.mono (RC.out (m + 1)) ?_; rintro e w' ⟨rfl, q, rfl⟩))
          go_wp2
          go_roundw
          case rel => exact ⟨k + 1, _, by omega, by go_num, rfl, HF⟩
          case measure => simp [intOf]; omega
      · have hkn : k = n := by omega
        subst hkn
        have ht : xss = yss := by
          have := hE.out
          rwa [List.take_of_length_le (by rw [← HX.out]; exact Nat.le_refl _), List.take_of_length_le (by rw [← HY.out]; exact Nat.le_refl _)] at this
        go_wp2
        go_ret
        exact ⟨by rw [ht]; simp, m, rfl⟩
  · have : (xss == yss) = false := by
      apply beq_eq_false_iff_ne.2; intro e; exact hne (by rw [hn, hn', e])
    rw [this]
    clear this hn hn' he he' hc hc' hhd hhd' hl hm hlx hly
    have hd : ((n : Int) == (n' : Int)) = false := by simp; omega
    go_enter Tryd.func30, Tryd.ntmps30
    go_wp2
    go_ret
    exact ⟨rfl, (0 : Nat), rfl⟩
end Go.Proofs.YtjhaanenkeceiaaDoor
