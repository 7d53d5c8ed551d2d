/- Lists of flags: what is read and owned of them, and what the verifier's helpers do with them. Conditions: at most 2^21 of them. -/
import Derived.Test.YthpcmgbienfgoaaMem
namespace Go.Proofs.Ythpcmgbienfgoaa
open Go.RowKit
set_option linter.unusedVariables false

theorem Try.infoF : (Try.prog.info? 4).map (fun i => (i.zero, i.size, i.bytes)) = some (some (.bool false), 1, 1) := by kernel_rfl

def fcells (bs : List Bool) : List Value := bs.map Value.bool
@[simp] theorem fcells_length (bs : List Bool) : (fcells bs).length = bs.length := by simp [fcells]

/-- v reads as the flags bs, which lie in blocks l .. h-1. -/
def RdF (w : World) (l h : Nat) (v : Value) (bs : List Bool) : Prop :=
  ∃ a len cap, v = .slice a len cap ∧ len = bs.length ∧ Headed a len cap ∧
    (bs = [] ∨ ∃ b off, a = some ⟨b, off, none⟩ ∧ l ≤ b ∧ b < h ∧ ∀ i, i < bs.length → w.cell? ⟨b, off + i, none⟩ = some (.bool (bs[i]?.getD false)))
theorem RdF.same {w w' : World} {l h : Nat} {v : Value} {bs : List Bool} (r : RdF w l h v bs) (t : SameIn l h w w') : RdF w' l h v bs := by
  obtain ⟨a, len, cap, hv, hl, hh, hc⟩ := r
  refine ⟨a, len, cap, hv, hl, hh, ?_⟩
  rcases hc with h0 | ⟨b, off, ha, h1, h2, hc⟩
  · exact .inl h0
  · exact .inr ⟨b, off, ha, h1, h2, fun i hi => by rw [t.cell h1 h2]; exact hc i hi⟩
theorem RdF.wide {w : World} {l h l' h' : Nat} {v : Value} {bs : List Bool} (r : RdF w l h v bs) (h1 : l' ≤ l) (h2 : h ≤ h') : RdF w l' h' v bs := by
  obtain ⟨a, len, cap, hv, hl, hh, hc⟩ := r
  refine ⟨a, len, cap, hv, hl, hh, ?_⟩
  rcases hc with h0 | ⟨b, off, ha, h3, h4, hc⟩
  · exact .inl h0
  · exact .inr ⟨b, off, ha, by omega, by omega, hc⟩

/-- v is the call's own, with the flags bs, in a block of l .. h-1. -/
def OwF (w : World) (l h : Nat) (v : Value) (bs : List Bool) : Prop := w.ownsRow l 4 1 v bs.length (fcells bs) ∧ Before v h
theorem OwF.same {w w' : World} {l h : Nat} {v : Value} {bs : List Bool} (o : OwF w l h v bs) (t : SameIn l h w w') : OwF w' l h v bs := ⟨ownsRow_same o.1 o.2 t, o.2⟩
theorem OwF.rd {w : World} {l h : Nat} {v : Value} {bs : List Bool} (o : OwF w l h v bs) : RdF w l h v bs := by
  obtain ⟨ho, hb⟩ := o
  rcases ho.2 with ⟨hv, h0⟩ | ⟨g, c, cur, hv, hg, hh, hnc, hm, _⟩
  · subst hv
    exact ⟨none, 0, 0, rfl, by omega, ⟨Nat.le_refl _, Nat.zero_le _, fun _ => ⟨rfl, rfl⟩⟩, .inl (List.eq_nil_of_length_eq_zero h0)⟩
  · subst hv
    refine ⟨_, bs.length, c, rfl, rfl, ⟨hnc, hm, fun e => by cases e⟩, .inr ⟨g, 0, rfl, hg, hb g rfl, fun i hi => ?_⟩⟩
    rw [Nat.zero_add, World.ownsRow.cellAt ho i (by omega)]
    simp [fcells, hi]

def laidF (bs : List Bool) (k : Nat) : List Bool := bs.take k ++ List.replicate (bs.length - k) false
theorem laidF_length (bs : List Bool) (k : Nat) (h : k ≤ bs.length) : (laidF bs k).length = bs.length := by simp [laidF]; omega
theorem laidF_all (bs : List Bool) : laidF bs bs.length = bs := by simp [laidF]
theorem laidF_none (bs : List Bool) : laidF bs 0 = List.replicate bs.length false := by simp [laidF]
theorem laidF_set (bs : List Bool) (k : Nat) (h : k < bs.length) : (laidF bs k).set k (bs[k]?.getD false) = laidF bs (k + 1) := by
  obtain ⟨m, hm⟩ : ∃ m, bs.length - k = m + 1 := ⟨bs.length - k - 1, by omega⟩
  have hm' : bs.length - (k + 1) = m := by omega
  unfold laidF
  rw [hm, hm', List.replicate_succ, List.set_append, if_neg (by simp; omega), List.length_take, Nat.min_eq_left (by omega), Nat.sub_self, List.set_cons_zero]
  have e : bs.take (k + 1) = bs.take k ++ [bs[k]] := List.take_succ_eq_append_getElem h
  rw [e, List.append_assoc]
  simp [h]
theorem madeCells_flags (n : Nat) : (madeCells (Value.bool false).cells (n * 1)).toList = fcells (List.replicate n false) := by
  simp [madeCells, fcells, Value.cells]
  apply List.ext_getElem?
  intro i
  simp [List.getElem?_map, List.getElem?_replicate]
  by_cases h : i < n <;> simp [h, Nat.mod_one]

set_option maxHeartbeats 400000 in
theorem toBoolS_any (v : Value) (bs : List Bool) (l h : Nat) (w : World) (r : RdF w l h v bs) (hh : h ≤ w.heap.size) (hl : bs.length ≤ 2097152) :
    Calls Try.prog 18 #[v] w fun e w' => ∃ u, e = .returned u ∧ OwF w' w.heap.size w'.heap.size u bs ∧ Below w.heap.size w w' := by
  obtain ⟨a, len, cap, rfl, rfl, hhd, hc⟩ := r
  obtain ⟨i0, hi, hz0, hz1, hz2⟩ := info_parts Try.infoF
  clear hhd
  go_enter Try.func18, Try.ntmps18
  go_wp2_with (at_make; refine wpList_make_full _ rfl _ _ 33 rfl w.heap.size 4 i0 (.bool false) 1 Try.underlying33 hi hz0 hz1 .i64 .i64 _ _ bs.length rfl rfl rfl rfl (by rw [hz2]; omega) (by unfold maxLen; omega) (Nat.le_refl _) ?_; intro w1 hown hgrow)
  have hb1 : Below w.heap.size w w1 := (Below.refl _ _).grown hgrow (Nat.le_refl _) (fun k h => by cases h)
  have hs1 : w.heap.size < w1.heap.size := (hown.lt _ rfl).2
  rw [madeCells_flags, ← laidF_none] at hown
  clear hgrow
  go_loopw [4] (fun i wr => ∃ k : Nat, k ≤ bs.length ∧ i = .int .i64 k ∧ wr.ownsRow w.heap.size 4 1 (.slice (some ⟨w.heap.size, 0, none⟩) bs.length bs.length) bs.length (fcells (laidF bs k)) ∧ Below w.heap.size w wr ∧ w.heap.size < wr.heap.size)
    (fun i _ => bs.length - (intOf i).toNat)
  case atStart => exact ⟨0, Nat.zero_le _, rfl, hown, hb1, hs1⟩
  case round =>
    clear hown hb1 hs1
    obtain ⟨k, hk, rfl, hown, hbel, hsz⟩ := hrel
    by_cases hlt : k < bs.length
    · rcases hc with rfl | ⟨b, off, rfl, hb0, hbl, hcell⟩
      · simp at hlt
      have hls := laidF_set bs k hlt
      have hc1 : wr.cell? ⟨b, off + k, none⟩ = some (.bool (bs[k]?.getD false)) := (hbel.cell (p := ⟨b, off + k, none⟩) (by show b < w.heap.size; omega)).trans (hcell k hlt)
      generalize bs[k]?.getD false = c at hc1 hls
      have hfz := hown.frozenAt k
      have hold : ∃ v, wr.cell? ⟨w.heap.size, k, none⟩ = some v := by
        rw [hown.cellAt k (by omega)]; exact ⟨_, List.getElem?_eq_getElem (by rw [fcells_length, laidF_length _ _ hk]; exact hlt)⟩
      obtain ⟨v0, hv0⟩ := hold
      have hst := (hown.stored k (.bool c)).1
      rw [show (fcells (laidF bs k)).set k (.bool c) = fcells (laidF bs (k + 1)) by rw [← hls, fcells, fcells, List.map_set]] at hst
      have HS : Hid _ := hst
      clear hst hown hls hcell
      go_wp2
      go_roundw
      case rel => exact ⟨k + 1, by omega, by go_num, HS.out, hbel.setCell (Nat.le_refl _) _, by simpa using hsz⟩
      case measure => simp [intOf]; omega
    · have he : k = bs.length := by omega
      subst he
      rw [laidF_all] at hown
      go_wp2
      go_ret
      refine ⟨_, rfl, ⟨hown, fun k hk => ?_⟩, hbel⟩
      have e : w.heap.size = k := by simpa [Value.ownBlock] using hk
      omega

theorem takeF_eq_step (xs ys : List Bool) (k : Nat) (hx : k < xs.length) (hy : k < ys.length) (h : xs.take k = ys.take k) :
    (xs[k]?.getD false = ys[k]?.getD false → xs.take (k + 1) = ys.take (k + 1)) := by
  intro e
  rw [List.take_succ_eq_append_getElem hx, List.take_succ_eq_append_getElem hy, h]
  simp [hx, hy] at e
  rw [e]

set_option maxHeartbeats 400000 in
/-- Two that read alike are alike. -/
theorem eqBoolS_same (v u : Value) (bs : List Bool) (l h l' h' : Nat) (w : World) (r : RdF w l h v bs) (s : RdF w l' h' u bs) (hl : bs.length ≤ 2097152) :
    Calls Try.prog 24 #[v, u] w fun e w' => e = .returned (.bool true) ∧ Below w.heap.size w w' := by
  obtain ⟨a, n, cap, rfl, hn, _, hc⟩ := r
  obtain ⟨a', n', cap', rfl, hn', _, hc'⟩ := s
  obtain rfl : n' = n := by omega
  have HN : Hid _ := hn
  have hl2 : n' ≤ 2097152 := by omega
  clear hn hn'
  go_enter Try.func24, Try.ntmps24
  go_wp2
  go_loopw [5] (fun i wr => ∃ k m : Nat, k ≤ n' ∧ i = .int .i64 k ∧ wr = w.drewN m) (fun i _ => n' - (intOf i).toNat)
  case atStart => exact ⟨0, 0, Nat.zero_le _, rfl, rfl⟩
  case round =>
    obtain ⟨k, m, hk, rfl, rfl⟩ := hrel
    by_cases hlt : k < n'
    · rcases hc with rfl | ⟨b, off, rfl, _, _, hcc⟩
      · have := HN.out; simp at this; omega
      rcases hc' with rfl | ⟨b', off', rfl, _, _, hcc'⟩
      · have := HN.out; simp at this; omega
      have h1 := hcc k (by rw [← HN.out]; exact hlt)
      have h2 := hcc' k (by rw [← HN.out]; exact hlt)
      clear hcc hcc'
      generalize bs[k]?.getD false = c at h1 h2
      have hd : (c != c) = false := by simp
      go_wp2
      go_quiet (fail)
      all_goals go_wp2
      all_goals (go_roundw; first | (case rel => exact ⟨k + 1, _, by omega, by go_num, rfl⟩) ; (case measure => simp [intOf]; omega))
    · have he : k = n' := by omega
      subst he
      go_wp2
      go_ret
      exact ⟨rfl, below_drewN2 (Below.refl _ _) m⟩

end Go.Proofs.Ythpcmgbienfgoaa
