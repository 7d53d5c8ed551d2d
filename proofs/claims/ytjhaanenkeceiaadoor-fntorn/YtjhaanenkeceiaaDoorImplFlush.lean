/- All that waits is made safe: the program's flush, over a disk of the call's own that is DiskOk. -/
import Derived.Test.YtjhaanenkeceiaaDoorSafe
import Derived.Test.YtjhaanenkeceiaaDoorClone
namespace Go.Proofs.YtjhaanenkeceiaaDoor
open Go.RowKit
set_option linter.unusedVariables false

/-- One write, its first c bytes, made safe. -/
def stepS (s : List (List Int)) (p : Wt) (c : Nat) : List (List Int) := s.set p.1.toNat (mixed (s[p.1.toNat]?.getD []) p.2 c)
def flushS (s : List (List Int)) (ws : List Wt) : List (List Int) := ws.foldl (fun s p => stepS s p 32) s
def flushD (d : Dk) : Dk := if okD d then (flushS d.1 d.2, []) else ([], [])
@[simp] theorem stepS_length (s : List (List Int)) (p : Wt) (c : Nat) : (stepS s p c).length = s.length := by simp [stepS]
theorem flushS_length (ws : List Wt) (s : List (List Int)) : (flushS s ws).length = s.length := by
  unfold flushS
  induction ws generalizing s with
  | nil => rfl
  | cons p r ih => rw [List.foldl_cons, ih, stepS_length]
theorem flushS_next (s : List (List Int)) (ws : List Wt) (k : Nat) (h : k < ws.length) : flushS s (ws.take (k + 1)) = stepS (flushS s (ws.take k)) (ws[k]?.getD (0, [])) 32 := by
  unfold flushS
  rw [takeW_next _ _ h, List.foldl_append]
  rfl
/-- Every sector has 32 bytes. -/
def Whole (s : List (List Int)) : Prop := ∀ i, i < s.length → (s[i]?.getD []).length = 32
theorem Whole.step {s : List (List Int)} {p : Wt} {c : Nat} (h : Whole s) (hp : p.2.length = 32) (hc : c ≤ 32) : Whole (stepS s p c) := by
  intro i hi
  rw [stepS_length] at hi
  unfold stepS
  rw [List.getElem?_set]
  by_cases e : p.1.toNat = i
  · subst e
    rw [if_pos rfl, if_pos hi, Option.getD_some]
    exact mixed_length (h _ hi) hp hc
  · rw [if_neg e]; exact h i hi
theorem Whole.flush {s : List (List Int)} {ws : List Wt} (h : Whole s) (hp : ∀ i, i < ws.length → (ws[i]?.getD (0, [])).2.length = 32) : ∀ k, k ≤ ws.length → Whole (flushS s (ws.take k)) := by
  intro k
  induction k with
  | zero => intro _; simpa [flushS] using h
  | succ k ih => intro hk; rw [flushS_next _ _ _ (by omega)]; exact (ih (by omega)).step (hp k (by omega)) (by omega)

theorem Blk.cons {v : Value} {vs : List Value} {q : Nat} (h : Blk vs q) : Blk (v :: vs) q := by
  obtain ⟨i, hi, hq⟩ := h
  exact ⟨i + 1, by simpa using hi, by simpa using hq⟩
theorem TurnsV.more {v : Value} {vs : List Value} {w w' : World} (t : TurnsV vs w w') : TurnsV (v :: vs) w w' := ⟨t.os, t.tape, t.output, t.size, fun k hk hb => t.block k hk (fun h => hb h.cons)⟩
theorem TurnsV.ofBelow {vs : List Value} {a b : World} (h : Below a.heap.size a b) : TurnsV vs a b := ⟨h.os, h.tape, h.output, h.size, fun i hi _ => h.block i hi⟩

/-- What holds at the head of each round. -/
def FRel (w : World) (b : Nat) (x y : Value) (d : Dk) (vs xs : List Value) (l h m : Nat) (i : Value) (wr : World) : Prop :=
  ∃ k : Nat, k ≤ m ∧ i = .int .i64 k ∧ OwX wr l h x (flushS d.1 (d.2.take k)) vs ∧ OwY wr l h y d.2 xs ∧ VarD wr b x y ∧ TurnsV vs w wr

set_option maxHeartbeats 2000000 in
theorem flush_any (b : Nat) (x y : Value) (d : Dk) (vs xs : List Value) (l h : Nat) (w : World) (hv : VarD w b x y) (o1 : OwX w l h x d.1 vs) (o2 : OwY w l h y d.2 xs) (ha : ∀ q, Blk vs q → ¬ Blk xs q) (hb : ¬ Blk vs b) (hh : h ≤ w.heap.size) (hok : okD d = true) :
    Calls Tryd.prog 68 #[.pointer (some ⟨b, 0, none⟩)] w fun e w' => (∃ u, e = .returned u) ∧ OwX w' l h x (flushS d.1 d.2) vs ∧ VarD w' b x (.slice none 0 0) ∧ TurnsV (.slice (some ⟨b, 0, none⟩) 0 0 :: vs) w w' := by
  obtain ⟨d1, d2⟩ := d
  have hok' := hok
  unfold okD at hok'
  simp only [Bool.and_eq_true, decide_eq_true_eq, List.all_eq_true] at hok'
  obtain ⟨⟨⟨hn2, hm2⟩, hs⟩, hw⟩ := hok'
  have HWH : Hid (Whole d1) := fun i hi => by
    have := hs _ (List.getElem_mem hi)
    simp [secOk] at this
    simp [hi, this]
  have HWW : Hid (∀ i, i < d2.length → 0 ≤ (d2[i]?.getD (0, [])).1 ∧ (d2[i]?.getD (0, [])).1 < (d1.length : Int) ∧ (d2[i]?.getD (0, [])).2.length = 32) := fun i hi => by
    have := hw _ (List.getElem_mem hi)
    simp [waitOk, secOk] at this
    simp [hi]
    omega
  obtain ⟨ya, m, yc, us, rfl, hm, hhd, hc, he⟩ := o2.ww.rd
  replace hm : m = d2.length := hm
  have hbw := hv.lt
  have HM : Hid _ := hm
  have hm3 : m ≤ 2000 := by omega
  have c1 := hv.c1
  have HA : Hid _ := ha
  have HBN : Hid _ := hb
  have HST : Hid (FRel w b x (.slice ya m yc) (d1, d2) vs xs l h m (.int .i64 0) w) := ⟨0, Nat.zero_le _, rfl, by simpa [flushS] using o1, o2, hv, TurnsV.refl _ _⟩
  clear hok hs hw hm hc he hhd o1 o2 hv ha hb us
  go_enter Tryd.func68, Tryd.ntmps68
  go_wp2
  go_loopw [9] (fun i wr => FRel w b x (.slice ya m yc) (d1, d2) vs xs l h m i wr) (fun i _ => m - (intOf i).toNat)
  case atStart => exact HST.out
  case round =>
    clear HST c1
    obtain ⟨k, hk, rfl, hX, hY, vO, ht⟩ := hrel
    have hsz := ht.size
    by_cases hlt : k < m
    · obtain ⟨hp0, hp1, hp2⟩ := HWW.out k (by rw [← HM.out]; exact hlt)
      have hfl : (flushS d1 (d2.take k)).length = d1.length := flushS_length _ _
      have hwh := Whole.flush HWH.out (fun i hi => (HWW.out i hi).2.2) k (by rw [← HM.out]; omega)
      have hnx := flushS_next d1 d2 k (by rw [← HM.out]; exact hlt)
      obtain ⟨a2, m2, c2, us, hye, hm2', _, hcc, hee⟩ := hY.ww.rd
      simp only [Value.slice.injEq] at hye
      obtain ⟨rfl, rfl, rfl⟩ := hye
      obtain ⟨g, off, rfl, hg0, hgh, hcell⟩ := hcc.resolve_left (by omega)
      have h1 := (hcell k hlt).1
      have h2 := (hcell k hlt).2
      have hrd := hee k hlt
      have hws : g < wr.heap.size := by omega
      obtain ⟨q, hq⟩ : ∃ q : Nat, (d2[k]?.getD (0, [])).1 = (q : Int) := ⟨(d2[k]?.getD (0, [])).1.toNat, by omega⟩
      have hst : stepS (flushS d1 (d2.take k)) (d2[k]?.getD (0, [])) 32 = (flushS d1 (d2.take k)).set q (mixed ((flushS d1 (d2.take k))[q]?.getD []) (d2[k]?.getD (0, [])).2 32) := by unfold stepS; rw [hq, Int.toNat_natCast]
      rw [hq] at h1 hp0 hp1
      rw [hst] at hnx
      generalize (d2[k]?.getD (0, [])).2 = zs at hrd hp2 hnx
      generalize us k = sl at h2 hrd
      generalize flushS d1 (d2.take k) = S0 at hX hfl hwh hnx
      have hqs : q < S0.length := by omega
      obtain ⟨sa, sn, sc, rfl⟩ := hrd.sliced
      have hi0 : (0 : Int) ≤ (k : Int) := by omega
      have hi1 : (k : Int) < (m : Int) := by omega
      have b4 := Below.new (w := wr) (.cells #[.int .i64 (q : Int), .slice sa sn sc] 75)
      have HMS : Hid _ := makeSafe_any b q 32 x (.slice (some ⟨g, off, none⟩) m yc) S0 vs l h (.slice sa sn sc) zs l h _ (vO.step b4) (hX.same (SameIn.ofBelow b4 (by omega))) hqs (hwh q hqs) (hrd.same (SameIn.ofBelow b4 (by omega))) hp2 (by omega) (by simp; omega) (by simp; omega) (by omega)
      have HX : Hid (OwX wr l h x S0 vs) := hX
      have HY : Hid (OwY wr l h _ d2 xs) := hY
      have HVO : Hid (VarD wr b _ _) := vO
      have HNX : Hid _ := hnx
      have HT : Hid (TurnsV vs w wr) := ht
      have HB4 : Hid _ := b4
      have HQV : Hid (q < vs.length) := by show q < _; have := hX.1; omega
      clear hm2' hX hY vO ht hnx hst hq hcc hcell hee hrd hwh hfl b4
      go_wp2_with fail
      refine Calls.mono HMS.out ?_
      rintro e w5 ⟨⟨u, rfl⟩, hX5, hg5⟩
      have hgv : TurnsV vs wr w5 := (TurnsV.ofBelow HB4.out).trans (TurnsV.ofGrown hg5 (fun q' hq' => ⟨q, HQV.out, hq'⟩))
      have hlX := OwX.lt HX.out
      have HR : Hid (FRel w b x (.slice (some ⟨g, off, none⟩) m yc) (d1, d2) vs xs l h m (.int .i64 ((k : Int) + 1)) w5) := by
        refine ⟨k + 1, by omega, by go_num, by rw [HNX.out]; exact hX5, ?_, ?_, HT.out.trans hgv⟩
        · refine OwY.keep HY.out (fun q' hq' => hgv.block q' (by have := OwY.lt HY.out q' hq'; omega) (fun hbv => ?_))
          obtain ⟨i, hi, hk'⟩ := hq'
          cases i with
          | zero =>
            obtain ⟨C, _, h2, _⟩ := HY.out
            obtain ⟨j, hj, hjk⟩ := hbv
            exact tag_ne h2 ((OwX.same HX.out (SameIn.refl _ _ _)).2.2.2.1 j hj).2.1 (by decide) q' (by simpa using hk') hjk
          | succ i => exact HA.out q' hbv ⟨i, by simpa using hi, by simpa using hk'⟩
        · exact (hgv.block b (VarD.lt HVO.out) HBN.out).trans HVO.out
      clear HX HY HVO HMS hX5 hg5 hgv hlX HNX HT HB4 h1 h2
      go_wp2
      refine ⟨?_, by simp [intOf]; omega⟩
      first | exact HR.out | exact ⟨_, _, _, _, _, _, _, _, _, HR.out, rfl⟩
    · have hkm : k = m := by omega
      subst hkm
      have c1 := vO.c1
      have f1 := vO.f 1
      have e1 : d2.take k = d2 := List.take_of_length_le (by rw [← HM.out]; exact Nat.le_refl _)
      rw [e1] at hX
      have HX : Hid (OwX wr l h x (flushS d1 d2) vs) := hX
      have HVO : Hid (VarD wr b _ _) := vO
      have HT : Hid (TurnsV vs w wr) := ht
      have hxb : ∀ q, x.ownBlock = some q → q ≠ b := fun q hq e => by
        subst e
        rcases hX.2.1.2 with ⟨h0, _⟩ | ⟨g, c, cur, h0, _, hh1, _⟩
        · rw [h0] at hq; cases hq
        · rw [h0] at hq; cases hq
          have := vO; unfold VarD at this
          rw [hh1] at this; simp at this
      have HXB : Hid _ := hxb
      clear hX vO ht hY e1 hxb
      go_wp2
      refine bodyPost_end (v := .tuple #[]) (by simp [results, Tryd.results68, go_sem]) rfl ⟨⟨_, rfl⟩, ?_, ?_, ?_⟩
      · refine OwX.keep HX.out (fun q hq => heap_setCell_other _ _ _ _ (HXB.out q hq)) (fun q hq => heap_setCell_other _ _ _ _ (fun e => HBN.out (by rw [← show q = b from e]; exact hq)))
      · show _ = _
        rw [heap_setCell_same _ _ _ _ _ _ HVO.out]; rfl
      · refine HT.out.more.trans ⟨rfl, rfl, rfl, by simp, fun q _ hq => heap_setCell_other _ _ _ _ (fun e => hq ⟨0, by simp, ?_⟩)⟩
        have e' : q = b := e
        rw [e']; rfl
end Go.Proofs.YtjhaanenkeceiaaDoor
