/- Joined: SameDisk OpenD2 ReadBack ImplWrite. -/
import Derived.Test.YtjhaanenkeceiaaDoorJ05
import Derived.Test.YtjhaanenkeceiaaDoorJ19
import Derived.Test.YtjhaanenkeceiaaDoorJ10
import Derived.Test.YtjhaanenkeceiaaDoorJ16
import Derived.Test.YtjhaanenkeceiaaDoorJ14

section
/- The verifier's sameDisk tells two disks that read alike to be the same. No condition. -/
namespace Go.Proofs.YtjhaanenkeceiaaDoor
open Go.RowKit
set_option linter.unusedVariables false
set_option linter.unusedSimpArgs false
attribute [local go_sem ↓] Go.wp_at_zero Go.wp_at_succ

theorem sameB_any (u v : Value) (xs ys : List Int) (l h l' h' : Nat) (w : World) (r : RdB w l h u xs) (s : RdB w l' h' v ys) :
    Calls Tryd.prog 14 #[u, v] w fun e w' => e = .returned (.bool ((strOfNums xs).toList == (strOfNums ys).toList)) ∧ w' = w := by
  obtain ⟨_, a, la, ca, rfl, hla, _, hx⟩ := r.reads
  obtain ⟨_, b, lb, cb, rfl, hlb, _, hy⟩ := s.reads
  have h1 := conv_any a xs la ca w hx hla
  have h2 := conv_any b ys lb cb w hy hlb
  generalize strOfNums xs = s1 at h1
  generalize strOfNums ys = s2 at h2
  clear hla hlb hx hy r s
  go_enter Tryd.func14, Tryd.ntmps14
  go_wp2
  go_ret
  exact ⟨rfl, rfl⟩
theorem sameB_same (u v : Value) (xs : List Int) (l h l' h' : Nat) (w : World) (r : RdB w l h u xs) (s : RdB w l' h' v xs) :
    Calls Tryd.prog 14 #[u, v] w fun e w' => e = .returned (.bool true) ∧ w' = w :=
  (sameB_any u v xs xs l h l' h' w r s).mono fun e w' ⟨he, hw⟩ => ⟨by rw [he, beq_self_eq_true], hw⟩

def SDRel (w2 : World) (n : Nat) (i : Value) (wr : World) : Prop := ∃ k : Nat, k ≤ n ∧ i = .int .i64 k ∧ Below w2.heap.size w2 wr

set_option maxHeartbeats 4000000 in
theorem sameDisk_any (u v : Value) (d : Dk) (l h l' h' : Nat) (w : World) (r : RdD w l h u d) (s : RdD w l' h' v d) (hh : h ≤ w.heap.size) (hh' : h' ≤ w.heap.size) :
    Calls Tryd.prog 10 #[u, v] w fun e w' => e = .returned (.bool true) ∧ Below w.heap.size w w' := by
  obtain ⟨xa, n, xc, ya, m, yc, rfl⟩ := r.open
  obtain ⟨xa', n', xc', ya', m', yc', rfl⟩ := s.open
  have b0 := Below.new (w := w) (.cells #[.slice xa n xc, .slice ya m yc] 26)
  have v0 := VarD.new w (.slice xa n xc) (.slice ya m yc)
  generalize hw0 : w.alloc (.cells #[.slice xa n xc, .slice ya m yc] 26) = w0 at b0 v0
  have s0 : w0.heap.size = w.heap.size + 1 := by rw [← hw0]; simp
  have b1 := Below.new (w := w0) (.cells #[.slice xa' n' xc', .slice ya' m' yc'] 26)
  have vB := VarD.new w0 (.slice xa' n' xc') (.slice ya' m' yc')
  rw [s0] at vB
  have vA := v0.step b1
  generalize hw1 : w0.alloc (.cells #[.slice xa' n' xc', .slice ya' m' yc'] 26) = w1 at b1 vB vA
  have HW : Hid ((w.alloc (.cells #[.slice xa n xc, .slice ya m yc] 26)).alloc (.cells #[.slice xa' n' xc', .slice ya' m' yc'] 26) = w1) := by show _ = _; rw [hw0, hw1]
  have B1 : Below w.heap.size w w1 := b0.trans (b1.mono (by omega))
  have HRR : Hid (∀ W, Below w.heap.size w W → RdBB W l h (.slice xa n xc) d.1 ∧ RdWs W l h (.slice ya m yc) d.2) := fun W hW => (r.step hh hW).parts
  have HSS : Hid (∀ W, Below w.heap.size w W → RdBB W l' h' (.slice xa' n' xc') d.1 ∧ RdWs W l' h' (.slice ya' m' yc') d.2) := fun W hW => (s.step hh' hW).parts
  have hn := r.parts.1.len
  have hm := r.parts.2.len
  have hn' := s.parts.1.len
  have hm' := s.parts.2.len
  have hnm := hn.2
  have hmm := hm.2
  obtain rfl : n' = n := by omega
  obtain rfl : m' = m := by omega
  have HN : Hid _ := hn.1
  have HM : Hid _ := hm.1
  have HVA : Hid (∀ W, Below w1.heap.size w1 W → VarD W w.heap.size _ _) := fun W hW => vA.step hW
  have HVB : Hid (∀ W, Below w1.heap.size w1 W → VarD W (w.heap.size + 1) _ _) := fun W hW => vB.step hW
  have HBB : Hid (∀ W, Below w1.heap.size w1 W → Below w.heap.size w W) := fun W hW => B1.trans (hW.mono B1.size)
  have c0 := vA.c0
  have c1 := vA.c1
  have e0 := vB.c0
  have e1 := vB.c1
  have hsw : w.heap.size + 1 < w1.heap.size := vB.lt
  have hq1 : ((n' : Int) != (n' : Int)) = false := by simp
  have hq2 : ((m' : Int) != (m' : Int)) = false := by simp
  clear hn hm hn' hm' r s b0 v0 b1 vA vB hw0 hw1 s0 B1
  go_enter Tryd.func10, Tryd.ntmps10
  go_wp2_with (rw [HW.out])
  go_loopw [5] (fun i wr => SDRel w1 n' i wr) (fun i _ => n' - (intOf i).toNat)
  case atStart => exact ⟨0, Nat.zero_le _, rfl, Below.refl _ _⟩
  case round =>
    clear c0 c1 e0 e1
    obtain ⟨k, hk, rfl, hbel⟩ := hrel
    have c0 := (HVA.out _ hbel).c0
    have e0 := (HVB.out _ hbel).c0
    by_cases hlt : k < n'
    · obtain ⟨a1, n1, q1, vs, he1, hl1, _, hc1, hv1⟩ := (HRR.out _ (HBB.out _ hbel)).1
      obtain ⟨a2, n2, q2, us, he2, hl2, _, hc2, hv2⟩ := (HSS.out _ (HBB.out _ hbel)).1
      simp only [Value.slice.injEq] at he1 he2
      obtain ⟨rfl, rfl, rfl⟩ := he1
      obtain ⟨rfl, rfl, rfl⟩ := he2
      obtain ⟨g1, o1, rfl, _, _, hcc1⟩ := hc1.resolve_left (by omega)
      obtain ⟨g2, o2, rfl, _, _, hcc2⟩ := hc2.resolve_left (by omega)
      have f1 := hcc1 k hlt
      have f2 := hcc2 k hlt
      have hr1 := hv1 k hlt
      have hr2 := hv2 k hlt
      generalize vs k = p1 at f1 hr1
      generalize us k = p2 at f2 hr2
      obtain ⟨p1a, p1n, p1c, rfl⟩ := hr1.sliced
      obtain ⟨p2a, p2n, p2c, rfl⟩ := hr2.sliced
      have HC : Hid _ := sameB_same _ _ _ _ _ _ _ wr.drew (hr1.same (w' := wr.drew) ⟨Nat.le_refl _, fun _ _ _ => rfl⟩) (hr2.same (w' := wr.drew) ⟨Nat.le_refl _, fun _ _ _ => rfl⟩)
      have hi0 : (0 : Int) ≤ (k : Int) := by omega
      have hi1 : (k : Int) < (n' : Int) := by omega
      have HB : Hid _ := hbel
      clear hcc1 hcc2 hv1 hv2 hr1 hr2 hl1 hl2 hbel hc1 hc2
      go_wp2
      refine wp_region_noPanic ?_
      refine wp_region_held_drew (S := fun w' => w'.cell? ⟨w.heap.size, 0, none⟩ = some (.slice (some ⟨g1, o1, none⟩) n' xc) ∧ w'.cell? ⟨w.heap.size + 1, 0, none⟩ = some (.slice (some ⟨g2, o2, none⟩) n' xc') ∧ w'.cell? ⟨g1, o1 + k, none⟩ = some (.slice p1a p1n p1c) ∧ w'.cell? ⟨g2, o2 + k, none⟩ = some (.slice p2a p2n p2c)) (by kernel_rfl) ⟨c0, e0, f1, f2⟩ (fun hHeld => ?_)
      refine wpAnyH_take (i := 0) (v := ?_) rfl (by kernel_rfl) (by kernel_rfl) (by kernel_rfl) (fun _ _ _ h => h) (Or.inl ⟨by rfl, ?_⟩) (by assumption) ?_
      rotate_left
      · (intro w_ hSw_; (try dsimp only at hSw_); go_simp; try with_reducible rfl)
      try simp only [Act.put, List.setIfInBounds_toArray, List.set_cons_zero, List.set_cons_succ, List.getElem_toArray, List.getElem_cons_zero, List.getElem_cons_succ]
      refine wpAnyH_take (i := 1) (v := ?_) rfl (by kernel_rfl) (by kernel_rfl) (by kernel_rfl) (fun _ _ _ h => h) (Or.inl ⟨by rfl, ?_⟩) (by assumption) ?_
      rotate_left
      · (intro w_ hSw_; (try dsimp only at hSw_); go_simp; try with_reducible rfl)
      try simp only [Act.put, List.setIfInBounds_toArray, List.set_cons_zero, List.set_cons_succ, List.getElem_toArray, List.getElem_cons_zero, List.getElem_cons_succ]
      refine wpAnyH_take (i := 2) (v := ?_) rfl (by kernel_rfl) (by kernel_rfl) (by kernel_rfl) (fun _ _ _ h => h) (Or.inl ⟨by rfl, ?_⟩) (by assumption) ?_
      rotate_left
      · (intro w_ hSw_; (try dsimp only at hSw_); go_simp; try with_reducible rfl)
      try simp only [Act.put, List.setIfInBounds_toArray, List.set_cons_zero, List.set_cons_succ, List.getElem_toArray, List.getElem_cons_zero, List.getElem_cons_succ]
      refine wpAnyH_take (i := 3) (v := ?_) rfl (by kernel_rfl) (by kernel_rfl) (by kernel_rfl) (fun _ _ _ h => h) (Or.inl ⟨by rfl, ?_⟩) (by assumption) ?_
      rotate_left
      · (intro w_ hSw_; (try dsimp only at hSw_); go_simp; try with_reducible rfl)
      try simp only [Act.put, List.setIfInBounds_toArray, List.set_cons_zero, List.set_cons_succ, List.getElem_toArray, List.getElem_cons_zero, List.getElem_cons_succ]
      refine wpAnyH_take (i := 4) (v := ?_) rfl (by kernel_rfl) (by kernel_rfl) (by kernel_rfl) (fun _ _ _ h => h) (Or.inl ⟨by rfl, ?_⟩) (by assumption) ?_
      rotate_left
      · (intro w_ hSw_; (try dsimp only at hSw_); go_simp; try with_reducible rfl)
      try simp only [Act.put, List.setIfInBounds_toArray, List.set_cons_zero, List.set_cons_succ, List.getElem_toArray, List.getElem_cons_zero, List.getElem_cons_succ]
      refine wpAnyH_take (i := 5) (v := ?_) rfl (by kernel_rfl) (by kernel_rfl) (by kernel_rfl) (fun _ _ _ h => h) (Or.inl ⟨by rfl, ?_⟩) (by assumption) ?_
      rotate_left
      · (intro w_ hSw_; (try dsimp only at hSw_); go_simp; try with_reducible rfl)
      try simp only [Act.put, List.setIfInBounds_toArray, List.set_cons_zero, List.set_cons_succ, List.getElem_toArray, List.getElem_cons_zero, List.getElem_cons_succ]
      refine wpAnyH_take (i := 6) (v := ?_) rfl (by kernel_rfl) (by kernel_rfl) (by kernel_rfl) (fun _ _ _ h => h) (Or.inl ⟨by rfl, ?_⟩) (by assumption) ?_
      rotate_left
      · (intro w_ hSw_; (try dsimp only at hSw_); go_simp; try with_reducible rfl)
      try simp only [Act.put, List.setIfInBounds_toArray, List.set_cons_zero, List.set_cons_succ, List.getElem_toArray, List.getElem_cons_zero, List.getElem_cons_succ]
      refine wpAnyH_take (i := 7) (v := ?_) rfl (by kernel_rfl) (by kernel_rfl) (by kernel_rfl) (fun _ _ _ h => h) (Or.inl ⟨by rfl, ?_⟩) (by assumption) ?_
      rotate_left
      · (intro w_ hSw_; (try dsimp only at hSw_); go_simp; try with_reducible rfl)
      try simp only [Act.put, List.setIfInBounds_toArray, List.set_cons_zero, List.set_cons_succ, List.getElem_toArray, List.getElem_cons_zero, List.getElem_cons_succ]
      refine wpAnyH_take (i := 8) (v := ?_) rfl (by kernel_rfl) (by kernel_rfl) (by kernel_rfl) (fun _ _ _ h => h) (Or.inl ⟨by rfl, ?_⟩) (by assumption) ?_
      rotate_left
      · (intro w_ hSw_; (try dsimp only at hSw_); go_simp; try with_reducible rfl)
      try simp only [Act.put, List.setIfInBounds_toArray, List.set_cons_zero, List.set_cons_succ, List.getElem_toArray, List.getElem_cons_zero, List.getElem_cons_succ]
      refine wpAnyH_take (i := 9) (v := ?_) rfl (by kernel_rfl) (by kernel_rfl) (by kernel_rfl) (fun _ _ _ h => h) (Or.inl ⟨by rfl, ?_⟩) (by assumption) ?_
      rotate_left
      · (intro w_ hSw_; (try dsimp only at hSw_); go_simp; try with_reducible rfl)
      try simp only [Act.put, List.setIfInBounds_toArray, List.set_cons_zero, List.set_cons_succ, List.getElem_toArray, List.getElem_cons_zero, List.getElem_cons_succ]
      refine wpAnyH_ready (rs := [10]) (by kernel_rfl) (by simp) ?_
      refine AllReadyH.cons rfl (fun K hK => ?_) AllReadyH.nil
      go_simp
      refine Calls.mono HC.out ?_
      rintro e w7 ⟨rfl, hw7⟩
      subst hw7
      go_wp2_with fail
      refine hK.out _ _ (by assumption) (fun hHeld => ?_)
      clear hK K
      try simp only [Act.put, List.setIfInBounds_toArray, List.set_cons_zero, List.set_cons_succ, List.getElem_toArray, List.getElem_cons_zero, List.getElem_cons_succ]
      refine wpAnyH_take (i := 11) (v := ?_) rfl (by kernel_rfl) (by kernel_rfl) (by kernel_rfl) (fun _ _ _ h => h) (Or.inl ⟨by rfl, ?_⟩) (by assumption) ?_
      rotate_left
      · (intro w_ hSw_; (try dsimp only at hSw_); go_simp; try with_reducible rfl)
      try simp only [Act.put, List.setIfInBounds_toArray, List.set_cons_zero, List.set_cons_succ, List.getElem_toArray, List.getElem_cons_zero, List.getElem_cons_succ]
      refine wpAnyH_done (by kernel_rfl) (NoPanic.normal ?_) _
      go_wp2
      refine ⟨?_, by simp [intOf]; omega⟩
      have HR : SDRel w1 n' (.int .i64 ((k : Int) + 1)) wr.drew := ⟨k + 1, by omega, by go_num, HB.out.drew⟩
      first | exact HR | (repeat (first | exact ⟨HR, rfl⟩ | apply Exists.intro))
    · clear hk
      have hk9 : ¬ (k : Int) < (n' : Int) := by omega
      have HB : Hid _ := hbel
      clear hbel
      go_wp2
      go_loopw [6] (fun i wr => SDRel w1 m' i wr) (fun i _ => m' - (intOf i).toNat)
      case atStart => exact ⟨0, Nat.zero_le _, rfl, HB.out⟩
      case round =>
        clear HB c0 e0
        obtain ⟨j, hj, rfl, hbel⟩ := hrel
        have c1 := (HVA.out _ hbel).c1
        have e1 := (HVB.out _ hbel).c1
        by_cases hltj : j < m'
        · obtain ⟨a1, n1, q1, vs, he1, hl1, _, hc1, hv1⟩ := (HRR.out _ (HBB.out _ hbel)).2
          obtain ⟨a2, n2, q2, us, he2, hl2, _, hc2, hv2⟩ := (HSS.out _ (HBB.out _ hbel)).2
          simp only [Value.slice.injEq] at he1 he2
          obtain ⟨rfl, rfl, rfl⟩ := he1
          obtain ⟨rfl, rfl, rfl⟩ := he2
          obtain ⟨g1, o1, rfl, _, _, hcc1⟩ := hc1.resolve_left (by omega)
          obtain ⟨g2, o2, rfl, _, _, hcc2⟩ := hc2.resolve_left (by omega)
          have f1 := (hcc1 j hltj).1
          have f2 := (hcc2 j hltj).1
          have f3 := (hcc1 j hltj).2
          have f4 := (hcc2 j hltj).2
          have hr1 := hv1 j hltj
          have hr2 := hv2 j hltj
          generalize vs j = p1 at f3 hr1
          generalize us j = p2 at f4 hr2
          generalize (d.2[j]?.getD (0, [])).1 = pp at f1 f2
          obtain ⟨p1a, p1n, p1c, rfl⟩ := hr1.sliced
          obtain ⟨p2a, p2n, p2c, rfl⟩ := hr2.sliced
          have HC : Hid _ := sameB_same _ _ _ _ _ _ _ wr.drew (hr1.same (w' := wr.drew) ⟨Nat.le_refl _, fun _ _ _ => rfl⟩) (hr2.same (w' := wr.drew) ⟨Nat.le_refl _, fun _ _ _ => rfl⟩)
          have hi0 : (0 : Int) ≤ (j : Int) := by omega
          have hi1 : (j : Int) < (m' : Int) := by omega
          have hpp : (pp != pp) = false := by simp
          have HB : Hid _ := hbel
          clear hcc1 hcc2 hv1 hv2 hr1 hr2 hl1 hl2 hbel hc1 hc2
          go_wp2
          refine wp_region_noPanic ?_
          refine wp_region_held_drew (S := fun w' => w'.cell? ⟨w.heap.size, 1, none⟩ = some (.slice (some ⟨g1, o1, none⟩) m' yc) ∧ w'.cell? ⟨w.heap.size + 1, 1, none⟩ = some (.slice (some ⟨g2, o2, none⟩) m' yc') ∧ w'.cell? ⟨g1, o1 + j * 2, none⟩ = some (.int .i64 pp) ∧ w'.cell? ⟨g2, o2 + j * 2, none⟩ = some (.int .i64 pp) ∧ w'.cell? ⟨g1, o1 + j * 2 + 1, none⟩ = some (.slice p1a p1n p1c) ∧ w'.cell? ⟨g2, o2 + j * 2 + 1, none⟩ = some (.slice p2a p2n p2c)) (by kernel_rfl) ⟨c1, e1, f1, f2, f3, f4⟩ (fun hHeld => ?_)
          refine wpAnyH_take (i := 0) (v := ?_) rfl (by kernel_rfl) (by kernel_rfl) (by kernel_rfl) (fun _ _ _ h => h) (Or.inl ⟨by rfl, ?_⟩) (by assumption) ?_
          rotate_left
          · (intro w_ hSw_; (try dsimp only at hSw_); go_simp; try with_reducible rfl)
          try simp only [Act.put, List.setIfInBounds_toArray, List.set_cons_zero, List.set_cons_succ, List.getElem_toArray, List.getElem_cons_zero, List.getElem_cons_succ]
          refine wpAnyH_take (i := 1) (v := ?_) rfl (by kernel_rfl) (by kernel_rfl) (by kernel_rfl) (fun _ _ _ h => h) (Or.inl ⟨by rfl, ?_⟩) (by assumption) ?_
          rotate_left
          · (intro w_ hSw_; (try dsimp only at hSw_); go_simp; try with_reducible rfl)
          try simp only [Act.put, List.setIfInBounds_toArray, List.set_cons_zero, List.set_cons_succ, List.getElem_toArray, List.getElem_cons_zero, List.getElem_cons_succ]
          refine wpAnyH_take (i := 2) (v := ?_) rfl (by kernel_rfl) (by kernel_rfl) (by kernel_rfl) (fun _ _ _ h => h) (Or.inl ⟨by rfl, ?_⟩) (by assumption) ?_
          rotate_left
          · (intro w_ hSw_; (try dsimp only at hSw_); go_simp; try with_reducible rfl)
          try simp only [Act.put, List.setIfInBounds_toArray, List.set_cons_zero, List.set_cons_succ, List.getElem_toArray, List.getElem_cons_zero, List.getElem_cons_succ]
          refine wpAnyH_take (i := 3) (v := ?_) rfl (by kernel_rfl) (by kernel_rfl) (by kernel_rfl) (fun _ _ _ h => h) (Or.inl ⟨by rfl, ?_⟩) (by assumption) ?_
          rotate_left
          · (intro w_ hSw_; (try dsimp only at hSw_); go_simp; try with_reducible rfl)
          try simp only [Act.put, List.setIfInBounds_toArray, List.set_cons_zero, List.set_cons_succ, List.getElem_toArray, List.getElem_cons_zero, List.getElem_cons_succ]
          refine wpAnyH_take (i := 4) (v := ?_) rfl (by kernel_rfl) (by kernel_rfl) (by kernel_rfl) (fun _ _ _ h => h) (Or.inl ⟨by rfl, ?_⟩) (by assumption) ?_
          rotate_left
          · (intro w_ hSw_; (try dsimp only at hSw_); go_simp; try with_reducible rfl)
          try simp only [Act.put, List.setIfInBounds_toArray, List.set_cons_zero, List.set_cons_succ, List.getElem_toArray, List.getElem_cons_zero, List.getElem_cons_succ]
          refine wpAnyH_take (i := 5) (v := ?_) rfl (by kernel_rfl) (by kernel_rfl) (by kernel_rfl) (fun _ _ _ h => h) (Or.inl ⟨by rfl, ?_⟩) (by assumption) ?_
          rotate_left
          · (intro w_ hSw_; (try dsimp only at hSw_); go_simp; try with_reducible rfl)
          try simp only [Act.put, List.setIfInBounds_toArray, List.set_cons_zero, List.set_cons_succ, List.getElem_toArray, List.getElem_cons_zero, List.getElem_cons_succ]
          refine wpAnyH_take (i := 6) (v := ?_) rfl (by kernel_rfl) (by kernel_rfl) (by kernel_rfl) (fun _ _ _ h => h) (Or.inl ⟨by rfl, ?_⟩) (by assumption) ?_
          rotate_left
          · (intro w_ hSw_; (try dsimp only at hSw_); go_simp; try with_reducible rfl)
          try simp only [Act.put, List.setIfInBounds_toArray, List.set_cons_zero, List.set_cons_succ, List.getElem_toArray, List.getElem_cons_zero, List.getElem_cons_succ]
          refine wpAnyH_take (i := 7) (v := ?_) rfl (by kernel_rfl) (by kernel_rfl) (by kernel_rfl) (fun _ _ _ h => h) (Or.inl ⟨by rfl, ?_⟩) (by assumption) ?_
          rotate_left
          · (intro w_ hSw_; (try dsimp only at hSw_); go_simp; try with_reducible rfl)
          try simp only [Act.put, List.setIfInBounds_toArray, List.set_cons_zero, List.set_cons_succ, List.getElem_toArray, List.getElem_cons_zero, List.getElem_cons_succ]
          refine wpAnyH_take (i := 8) (v := ?_) rfl (by kernel_rfl) (by kernel_rfl) (by kernel_rfl) (fun _ _ _ h => h) (Or.inl ⟨by rfl, ?_⟩) (by assumption) ?_
          rotate_left
          · (intro w_ hSw_; (try dsimp only at hSw_); go_simp; try with_reducible rfl)
          try simp only [Act.put, List.setIfInBounds_toArray, List.set_cons_zero, List.set_cons_succ, List.getElem_toArray, List.getElem_cons_zero, List.getElem_cons_succ]
          refine wpAnyH_take (i := 9) (v := ?_) rfl (by kernel_rfl) (by kernel_rfl) (by kernel_rfl) (fun _ _ _ h => h) (Or.inl ⟨by rfl, ?_⟩) (by assumption) ?_
          rotate_left
          · (intro w_ hSw_; (try dsimp only at hSw_); go_simp; try with_reducible rfl)
          try simp only [Act.put, List.setIfInBounds_toArray, List.set_cons_zero, List.set_cons_succ, List.getElem_toArray, List.getElem_cons_zero, List.getElem_cons_succ]
          refine wpAnyH_take (i := 10) (v := ?_) rfl (by kernel_rfl) (by kernel_rfl) (by kernel_rfl) (fun _ _ _ h => h) (Or.inl ⟨by rfl, ?_⟩) (by assumption) ?_
          rotate_left
          · (intro w_ hSw_; (try dsimp only at hSw_); go_simp; try with_reducible rfl)
          try simp only [Act.put, List.setIfInBounds_toArray, List.set_cons_zero, List.set_cons_succ, List.getElem_toArray, List.getElem_cons_zero, List.getElem_cons_succ]
          refine wpAnyH_take (i := 11) (v := ?_) rfl (by kernel_rfl) (by kernel_rfl) (by kernel_rfl) (fun _ _ _ h => h) (Or.inl ⟨by rfl, ?_⟩) (by assumption) ?_
          rotate_left
          · (intro w_ hSw_; (try dsimp only at hSw_); go_simp; try with_reducible rfl)
          try simp only [Act.put, List.setIfInBounds_toArray, List.set_cons_zero, List.set_cons_succ, List.getElem_toArray, List.getElem_cons_zero, List.getElem_cons_succ]
          refine wpAnyH_take (i := 12) (v := ?_) rfl (by kernel_rfl) (by kernel_rfl) (by kernel_rfl) (fun _ _ _ h => h) (Or.inl ⟨by rfl, ?_⟩) (by assumption) ?_
          rotate_left
          · (intro w_ hSw_; (try dsimp only at hSw_); go_simp; try with_reducible rfl)
          try simp only [Act.put, List.setIfInBounds_toArray, List.set_cons_zero, List.set_cons_succ, List.getElem_toArray, List.getElem_cons_zero, List.getElem_cons_succ]
          refine wpAnyH_take (i := 13) (v := ?_) rfl (by kernel_rfl) (by kernel_rfl) (by kernel_rfl) (fun _ _ _ h => h) (Or.inl ⟨by rfl, ?_⟩) (by assumption) ?_
          rotate_left
          · (intro w_ hSw_; (try dsimp only at hSw_); go_simp; try with_reducible rfl)
          try simp only [Act.put, List.setIfInBounds_toArray, List.set_cons_zero, List.set_cons_succ, List.getElem_toArray, List.getElem_cons_zero, List.getElem_cons_succ]
          refine wpAnyH_take (i := 14) (v := ?_) rfl (by kernel_rfl) (by kernel_rfl) (by kernel_rfl) (fun _ _ _ h => h) (Or.inl ⟨by rfl, ?_⟩) (by assumption) ?_
          rotate_left
          · (intro w_ hSw_; (try dsimp only at hSw_); go_simp; try with_reducible rfl)
          try simp only [Act.put, List.setIfInBounds_toArray, List.set_cons_zero, List.set_cons_succ, List.getElem_toArray, List.getElem_cons_zero, List.getElem_cons_succ]
          refine wpAnyH_take (i := 15) (v := ?_) rfl (by kernel_rfl) (by kernel_rfl) (by kernel_rfl) (fun _ _ _ h => h) (Or.inl ⟨by rfl, ?_⟩) (by assumption) ?_
          rotate_left
          · (intro w_ hSw_; (try dsimp only at hSw_); go_simp; try with_reducible rfl)
          try simp only [Act.put, List.setIfInBounds_toArray, List.set_cons_zero, List.set_cons_succ, List.getElem_toArray, List.getElem_cons_zero, List.getElem_cons_succ]
          refine wpAnyH_take (i := 16) (v := ?_) rfl (by kernel_rfl) (by kernel_rfl) (by kernel_rfl) (fun _ _ _ h => h) (Or.inl ⟨by rfl, ?_⟩) (by assumption) ?_
          rotate_left
          · (intro w_ hSw_; (try dsimp only at hSw_); go_simp; try with_reducible rfl)
          try simp only [Act.put, List.setIfInBounds_toArray, List.set_cons_zero, List.set_cons_succ, List.getElem_toArray, List.getElem_cons_zero, List.getElem_cons_succ]
          refine wpAnyH_take (i := 17) (v := ?_) rfl (by kernel_rfl) (by kernel_rfl) (by kernel_rfl) (fun _ _ _ h => h) (Or.inl ⟨by rfl, ?_⟩) (by assumption) ?_
          rotate_left
          · (intro w_ hSw_; (try dsimp only at hSw_); go_simp; try with_reducible rfl)
          try simp only [Act.put, List.setIfInBounds_toArray, List.set_cons_zero, List.set_cons_succ, List.getElem_toArray, List.getElem_cons_zero, List.getElem_cons_succ]
          refine wpAnyH_take (i := 18) (v := ?_) rfl (by kernel_rfl) (by kernel_rfl) (by kernel_rfl) (fun _ _ _ h => h) (Or.inl ⟨by rfl, ?_⟩) (by assumption) ?_
          rotate_left
          · (intro w_ hSw_; (try dsimp only at hSw_); go_simp; try with_reducible rfl)
          try simp only [Act.put, List.setIfInBounds_toArray, List.set_cons_zero, List.set_cons_succ, List.getElem_toArray, List.getElem_cons_zero, List.getElem_cons_succ]
          refine wpAnyH_take (i := 19) (v := ?_) rfl (by kernel_rfl) (by kernel_rfl) (by kernel_rfl) (fun _ _ _ h => h) (Or.inl ⟨by rfl, ?_⟩) (by assumption) ?_
          rotate_left
          · (intro w_ hSw_; (try dsimp only at hSw_); go_simp; try with_reducible rfl)
          try simp only [Act.put, List.setIfInBounds_toArray, List.set_cons_zero, List.set_cons_succ, List.getElem_toArray, List.getElem_cons_zero, List.getElem_cons_succ]
          refine wpAnyH_take (i := 20) (v := ?_) rfl (by kernel_rfl) (by kernel_rfl) (by kernel_rfl) (fun _ _ _ h => h) (Or.inl ⟨by rfl, ?_⟩) (by assumption) ?_
          rotate_left
          · (intro w_ hSw_; (try dsimp only at hSw_); go_simp; try with_reducible rfl)
          try simp only [Act.put, List.setIfInBounds_toArray, List.set_cons_zero, List.set_cons_succ, List.getElem_toArray, List.getElem_cons_zero, List.getElem_cons_succ]
          refine wpAnyH_take (i := 21) (v := ?_) rfl (by kernel_rfl) (by kernel_rfl) (by kernel_rfl) (fun _ _ _ h => h) (Or.inl ⟨by rfl, ?_⟩) (by assumption) ?_
          rotate_left
          · (intro w_ hSw_; (try dsimp only at hSw_); go_simp; try with_reducible rfl)
          try simp only [Act.put, List.setIfInBounds_toArray, List.set_cons_zero, List.set_cons_succ, List.getElem_toArray, List.getElem_cons_zero, List.getElem_cons_succ]
          refine wpAnyH_take (i := 22) (v := ?_) rfl (by kernel_rfl) (by kernel_rfl) (by kernel_rfl) (fun _ _ _ h => h) (Or.inl ⟨by rfl, ?_⟩) (by assumption) ?_
          rotate_left
          · (intro w_ hSw_; (try dsimp only at hSw_); go_simp; try with_reducible rfl)
          try simp only [Act.put, List.setIfInBounds_toArray, List.set_cons_zero, List.set_cons_succ, List.getElem_toArray, List.getElem_cons_zero, List.getElem_cons_succ]
          refine wpAnyH_take (i := 23) (v := ?_) rfl (by kernel_rfl) (by kernel_rfl) (by kernel_rfl) (fun _ _ _ h => h) (Or.inl ⟨by rfl, ?_⟩) (by assumption) ?_
          rotate_left
          · (intro w_ hSw_; (try dsimp only at hSw_); go_simp; try with_reducible rfl)
          try simp only [Act.put, List.setIfInBounds_toArray, List.set_cons_zero, List.set_cons_succ, List.getElem_toArray, List.getElem_cons_zero, List.getElem_cons_succ]
          refine wpAnyH_take (i := 24) (v := ?_) rfl (by kernel_rfl) (by kernel_rfl) (by kernel_rfl) (fun _ _ _ h => h) (Or.inl ⟨by rfl, ?_⟩) (by assumption) ?_
          rotate_left
          · (intro w_ hSw_; (try dsimp only at hSw_); go_simp; try with_reducible rfl)
          try simp only [Act.put, List.setIfInBounds_toArray, List.set_cons_zero, List.set_cons_succ, List.getElem_toArray, List.getElem_cons_zero, List.getElem_cons_succ]
          refine wpAnyH_take (i := 25) (v := ?_) rfl (by kernel_rfl) (by kernel_rfl) (by kernel_rfl) (fun _ _ _ h => h) (Or.inl ⟨by rfl, ?_⟩) (by assumption) ?_
          rotate_left
          · (intro w_ hSw_; (try dsimp only at hSw_); go_simp; try with_reducible rfl)
          try simp only [Act.put, List.setIfInBounds_toArray, List.set_cons_zero, List.set_cons_succ, List.getElem_toArray, List.getElem_cons_zero, List.getElem_cons_succ]
          refine wpAnyH_ready (rs := [26]) (by kernel_rfl) (by simp) ?_
          refine AllReadyH.cons rfl (fun K hK => ?_) AllReadyH.nil
          go_simp
          refine Calls.mono HC.out ?_
          rintro e w7 ⟨rfl, hw7⟩
          subst hw7
          go_wp2_with fail
          refine hK.out _ _ (by assumption) (fun hHeld => ?_)
          clear hK K
          try simp only [Act.put, List.setIfInBounds_toArray, List.set_cons_zero, List.set_cons_succ, List.getElem_toArray, List.getElem_cons_zero, List.getElem_cons_succ]
          refine wpAnyH_take (i := 27) (v := ?_) rfl (by kernel_rfl) (by kernel_rfl) (by kernel_rfl) (fun _ _ _ h => h) (Or.inl ⟨by rfl, ?_⟩) (by assumption) ?_
          rotate_left
          · (intro w_ hSw_; (try dsimp only at hSw_); go_simp; try with_reducible rfl)
          try simp only [Act.put, List.setIfInBounds_toArray, List.set_cons_zero, List.set_cons_succ, List.getElem_toArray, List.getElem_cons_zero, List.getElem_cons_succ]
          refine wpAnyH_take (i := 28) (v := ?_) rfl (by kernel_rfl) (by kernel_rfl) (by kernel_rfl) (fun _ _ _ h => h) (Or.inl ⟨by rfl, ?_⟩) (by assumption) ?_
          rotate_left
          · (intro w_ hSw_; (try dsimp only at hSw_); go_simp; try with_reducible rfl)
          try simp only [Act.put, List.setIfInBounds_toArray, List.set_cons_zero, List.set_cons_succ, List.getElem_toArray, List.getElem_cons_zero, List.getElem_cons_succ]
          refine wpAnyH_done (by kernel_rfl) (NoPanic.normal ?_) _
          go_wp2
          refine ⟨?_, by simp [intOf]; omega⟩
          have HR : SDRel w1 m' (.int .i64 ((j : Int) + 1)) wr.drew := ⟨j + 1, by omega, by go_num, HB.out.drew⟩
          first | exact HR | (repeat (first | exact ⟨HR, rfl⟩ | apply Exists.intro))
        · have hj9 : ¬ (j : Int) < (m' : Int) := by omega
          have HBF : Hid _ := HBB.out _ hbel
          clear hbel
          go_wp2
          go_ret
          exact ⟨rfl, HBF.out⟩
end Go.Proofs.YtjhaanenkeceiaaDoor
end

section
/- A record that is appended where a disk's records end is read there, behind all ahead of it. No walk. -/
namespace Go.Proofs.YtjhaanenkeceiaaDoor
set_option linter.unusedVariables false

theorem read_parts {S : List (List Int)} {P q : Nat} {r : List Int} (hr : readD S P q = some r) : r = claimD S P ∧ q < 60000 ∧ P < S.length ∧ sizeAt S P ≤ 200 ∧ P + manyN (sizeAt S P) ≤ S.length ∧ matchB S P (frameN q (claimD S P)) = true := by
  unfold readD at hr
  split at hr
  · rename_i hc; simp only [Option.some.injEq] at hr; exact ⟨hr.symm, hc⟩
  · cases hr
theorem read_below {S S' : List (List Int)} (hw : ∀ i, i < S.length → (S[i]?.getD []).length = 32) (hl : S'.length = S.length) {P q : Nat} {r : List Int} (hr : readD S P q = some r) (hs : ∀ i, i < P + manyN r.length → S'[i]?.getD [] = S[i]?.getD []) : readD S' P q = some r := by
  obtain ⟨h1, h2, h3, h4, h5, h6⟩ := read_parts hr
  have hlen : r.length = sizeAt S P := by rw [h1]; exact claimD_len hw P ⟨h3, h5⟩
  rw [hlen] at hs
  have hp := manyN_pos (sizeAt S P)
  have hz : sizeAt S' P = sizeAt S P := by unfold sizeAt; rw [hs P (by omega)]
  have hcat : catN S' P (manyN (sizeAt S P)) = catN S P (manyN (sizeAt S P)) := by
    unfold catN
    congr 1
    refine List.map_congr_left (fun i hi => ?_)
    unfold pieceS
    rw [hs (P + i) (by have := List.mem_range.1 hi; omega)]
  have hc : claimD S' P = claimD S P := by
    unfold claimD
    rw [hz, hcat, hl]
  have hm : matchB S' P (frameN q (claimD S P)) = true := by
    unfold matchB at h6 ⊢
    rw [Bool.and_eq_true, decide_eq_true_eq, List.all_eq_true] at h6 ⊢
    refine ⟨by rw [hl]; exact h6.1, fun i hi => ?_⟩
    have hi' := List.mem_range.1 hi
    rw [frameN_len, ← h1, hlen] at hi'
    rw [hs (P + i) (by omega)]
    exact h6.2 i hi
  unfold readD
  rw [hc, if_pos ⟨h2, by omega, by rw [hz]; exact h4, by rw [hz]; omega, hm⟩, h1]
theorem run_prefix (S : List (List Int)) : ∀ (k P q : Nat) (acc : List (List Int)), ∃ t, (runN S k (P, q, acc)).2.2 = acc ++ t := by
  intro k
  induction k with
  | zero => intro P q acc; exact ⟨[], by simp [runN]⟩
  | succ k ih =>
    intro P q acc
    rw [runN]
    split
    · exact ⟨[], by simp⟩
    · rename_i r _
      obtain ⟨t, ht⟩ := ih (P + manyN r.length) (q + 1) (acc ++ [r])
      exact ⟨[r] ++ t, by rw [ht, List.append_assoc]⟩
theorem run_same {S S' : List (List Int)} (hw : ∀ i, i < S.length → (S[i]?.getD []).length = 32) (hl : S'.length = S.length) {Pe qe : Nat} {acce : List (List Int)} (hs : ∀ i, i < Pe → S'[i]?.getD [] = S[i]?.getD []) :
    ∀ (k P q : Nat) (acc : List (List Int)), runN S k (P, q, acc) = (Pe, qe, acce) → S.length + 1 ≤ k + P → P ≤ Pe ∧ ∃ k', runN S' k (P, q, acc) = runN S' k' (Pe, qe, acce) ∧ S.length + 1 ≤ k' + Pe := by
  intro k
  induction k with
  | zero =>
    intro P q acc h hk
    rw [runN] at h
    simp only [Prod.mk.injEq] at h
    obtain ⟨rfl, rfl, rfl⟩ := h
    exact ⟨Nat.le_refl _, 0, rfl, hk⟩
  | succ k ih =>
    intro P q acc h hk
    cases hr : readD S P q with
    | none =>
      rw [runN, hr] at h
      simp only [Prod.mk.injEq] at h
      obtain ⟨rfl, rfl, rfl⟩ := h
      exact ⟨Nat.le_refl _, k + 1, rfl, hk⟩
    | some r =>
      rw [runN, hr] at h
      have hp := manyN_pos r.length
      obtain ⟨h1, k', h2, h3⟩ := ih (P + manyN r.length) (q + 1) (acc ++ [r]) h (by omega)
      refine ⟨by omega, k', ?_, h3⟩
      rw [runN, read_below hw hl hr (fun i hi => hs i (by omega))]
      exact h2
/-- The frame's sectors, laid. -/
theorem flush_frame (S : List (List Int)) (P : Nat) (fr : List (List Int)) (hw : ∀ i, i < S.length → (S[i]?.getD []).length = 32) (hf : ∀ i, i < fr.length → (fr[i]?.getD []).length = 32) (hfit : P + fr.length ≤ S.length) :
    ∀ k, k ≤ fr.length → (flushS S (frameW P (fr.take k))).length = S.length ∧ (∀ i, (flushS S (frameW P (fr.take k)))[i]?.getD [] = if P ≤ i ∧ i < P + k then fr[i - P]?.getD [] else S[i]?.getD []) := by
  intro k
  induction k with
  | zero =>
    intro _
    refine ⟨by simp [frameW, flushS], fun i => ?_⟩
    rw [if_neg (by omega)]
    simp [frameW, flushS]
  | succ k ih =>
    intro hk
    obtain ⟨h1, h2⟩ := ih (by omega)
    have hst : flushS S (frameW P (fr.take (k + 1))) = stepS (flushS S (frameW P (fr.take k))) ((P : Int) + (k : Int), fr[k]?.getD []) 32 := by
      rw [frameW_next _ _ _ (by omega)]
      unfold flushS
      rw [List.foldl_append]; rfl
    have htn : ((P : Int) + (k : Int)).toNat = P + k := by omega
    have hold : (flushS S (frameW P (fr.take k)))[P + k]?.getD [] = S[P + k]?.getD [] := by rw [h2, if_neg (by omega)]
    rw [hst]
    unfold stepS
    simp only [htn]
    rw [hold, mixed_all (hw _ (by omega)) (hf k (by omega))]
    refine ⟨by rw [List.length_set]; exact h1, fun i => ?_⟩
    by_cases hi : i = P + k
    · subst hi
      rw [List.getElem?_set_self (by omega), if_pos (by omega)]
      simp
    · rw [List.getElem?_set_ne (by omega), h2]
      by_cases h3 : P ≤ i ∧ i < P + k
      · rw [if_pos h3, if_pos (by omega)]
      · rw [if_neg h3, if_neg (by omega)]
theorem sec_piece (q : Nat) (zs : List Int) (k : Nat) : ((secN q zs k).drop 6).take 24 = pieceN zs k ++ List.replicate (24 - (pieceN zs k).length) 0 := by
  have h := pieceN_length zs k
  have h2 : Nat.min (zs.length - 24 * k) 24 ≤ 24 := Nat.min_le_right _ _
  unfold secN
  rw [List.drop_append, List.drop_eq_nil_of_le (by simp), List.nil_append]
  simp only [List.length_cons, List.length_nil, Nat.reduceAdd, Nat.sub_self, List.drop_zero]
  rw [← List.append_assoc, List.take_append, List.take_of_length_le (by simp; omega)]
  have h3 : 24 - (pieceN zs k ++ List.replicate (24 - (pieceN zs k).length) 0).length = 0 := by simp; omega
  rw [h3, List.take_zero, List.append_nil]
theorem cat_frame {S' : List (List Int)} {P q : Nat} {zs : List Int} (hat : ∀ i, i < manyN zs.length → S'[P + i]?.getD [] = secN q zs i) : ∀ k, k ≤ manyN zs.length → catN S' P k = zs.take (24 * k) ++ List.replicate (24 * k - zs.length) 0 := by
  intro k
  induction k with
  | zero => intro _; simp [catN]
  | succ k ih =>
    intro hk
    have hm := manyN_at zs.length k (by omega)
    rw [catN_succ, ih (by omega)]
    unfold pieceS
    rw [hat k (by omega), sec_piece]
    have h0 : 24 * k - zs.length = 0 := by omega
    have hpl := pieceN_length zs k
    have hpl2 : (pieceN zs k).length = min (zs.length - 24 * k) 24 := hpl
    rw [h0, List.replicate_zero, List.append_nil, ← List.append_assoc]
    congr 1
    · unfold pieceN
      rw [show 24 * (k + 1) = 24 * k + 24 by omega, List.take_add]
    · congr 1
      omega
theorem read_frame {S' : List (List Int)} {P q : Nat} {zs : List Int} (hq : q < 60000) (hz : zs.length ≤ 200) (hfit : P + manyN zs.length ≤ S'.length) (hat : ∀ i, i < manyN zs.length → S'[P + i]?.getD [] = secN q zs i) : readD S' P q = some zs := by
  have hp := manyN_pos zs.length
  have hs : sizeAt S' P = zs.length := by
    unfold sizeAt
    have := hat 0 hp
    rw [Nat.add_zero] at this
    rw [this, sec_byte4]; rfl
  have hc : claimD S' P = zs := by
    unfold claimD
    rw [hs, if_pos ⟨by omega, hfit⟩, cat_frame hat _ (Nat.le_refl _), List.take_append]
    have := manyN_most zs.length
    rw [List.take_take, List.length_take]
    have h1 : min zs.length (24 * manyN zs.length) = zs.length := by omega
    rw [h1, List.take_of_length_le (Nat.le_refl _)]
    have h2 : zs.length - min (24 * manyN zs.length) zs.length = 0 := by omega
    rw [h2, List.take_zero, List.append_nil]
  unfold readD
  rw [hc, hs, if_pos]
  refine ⟨hq, by omega, hz, hfit, ?_⟩
  unfold matchB
  rw [Bool.and_eq_true, decide_eq_true_eq, List.all_eq_true, frameN_len]
  refine ⟨by omega, fun i hi => ?_⟩
  rw [hat i (List.mem_range.1 hi), frameN_at q zs i (List.mem_range.1 hi)]
  exact beq_self_eq_true _
/-- What was appended at the end is read behind all ahead of it. -/
theorem open_append {S : List (List Int)} (hw : ∀ i, i < S.length → (S[i]?.getD []).length = 32) {P q : Nat} {acc : List (List Int)} (ho : openS S = (P, q, acc)) (hP : P ≤ S.length) (zs : List Int) (hq : q < 60000) (hz : zs.length ≤ 200) (hfit : P + manyN zs.length ≤ S.length) :
    ∃ t, (openS (flushS S (frameW P (frameN q zs)))).2.2 = acc ++ [zs] ++ t := by
  have hfl := frameN_len q zs
  obtain ⟨h1, h2⟩ := flush_frame S P (frameN q zs) hw (fun i hi => by rw [hfl] at hi; rw [frameN_at q zs i hi]; exact secN_length q zs i) (by rw [hfl]; exact hfit) _ (Nat.le_refl _)
  rw [List.take_of_length_le (Nat.le_refl _)] at h1 h2
  rw [hfl] at h2
  generalize flushS S (frameW P (frameN q zs)) = S' at h1 h2
  have hat : ∀ i, i < manyN zs.length → S'[P + i]?.getD [] = secN q zs i := fun i hi => by
    rw [h2, if_pos (by omega), Nat.add_sub_cancel_left, frameN_at q zs i hi]
  obtain ⟨_, k', hk1, hk2⟩ := run_same (S' := S') hw h1 (fun i hi => by rw [h2, if_neg (by omega)]) (S.length + 1) 0 0 [] ho (by omega)
  unfold openS
  rw [h1, hk1]
  cases k' with
  | zero => omega
  | succ k' =>
    rw [runN, read_frame hq hz (by omega) hat]
    obtain ⟨t, ht⟩ := run_prefix S' k' (P + manyN zs.length) (q + 1) (acc ++ [zs])
    exact ⟨t, ht⟩
theorem runN_le {S : List (List Int)} (hw : ∀ i, i < S.length → (S[i]?.getD []).length = 32) : ∀ (k P q : Nat) (acc : List (List Int)), P ≤ S.length → (runN S k (P, q, acc)).1 ≤ S.length := by
  intro k
  induction k with
  | zero => intro P q acc h; exact h
  | succ k ih =>
    intro P q acc h
    rw [runN]
    split
    · exact h
    · rename_i r hr
      obtain ⟨h1, _, h3, _, h5, _⟩ := read_parts hr
      have hlen : r.length = sizeAt S P := by rw [h1]; exact claimD_len hw P ⟨h3, h5⟩
      exact ih _ _ _ (by rw [hlen]; exact h5)
end Go.Proofs.YtjhaanenkeceiaaDoor
end

section
/- What was appended is read again, as plain functions. -/
namespace Go.Proofs.YtjhaanenkeceiaaDoor.fnJournals
open Go.RowKit Go.Lib
set_option linter.unusedVariables false

theorem okD_flushed {d : Dk} (h : okD d = true) : okD (flushS d.1 d.2, []) = true := by
  obtain ⟨⟨h1, h2⟩, hw, hp⟩ := okD_whole h
  have hf := Whole.flush hw (fun i hi => (hp i hi).2.2) d.2.length (Nat.le_refl _)
  rw [List.take_length] at hf
  have hl : (flushS d.1 d.2).length ≤ 2000 := by rw [flushS_length]; exact h1
  generalize flushS d.1 d.2 = S at hf hl
  unfold okD
  simp only [Bool.and_eq_true, decide_eq_true_eq, List.all_eq_true]
  refine ⟨⟨⟨hl, by simp⟩, fun z hz => ?_⟩, fun z hz => by simp at hz⟩
  obtain ⟨i, hi, rfl⟩ := List.mem_iff_getElem.mp hz
  have := hf i hi
  simp [hi] at this
  simp [secOk, this]
theorem accepted {j : Jn} {zs : List Int} (hk : (appendJ j zs).2 = true) : okJ j = true ∧ zs.length ≤ 200 ∧ roomJ j zs = true ∧ (appendJ j zs).1 = ((flushS j.1.1 (j.1.2 ++ frameW j.2.1 (frameN j.2.2.toNat zs)), []), j.2.1 + (manyN zs.length : Int), j.2.2 + 1) := by
  unfold appendJ at hk ⊢
  split at hk
  · rename_i hok
    split at hk
    · rename_i hy
      exact ⟨hok, hy.1, hy.2, by rw [if_pos hok, if_pos hy]⟩
    · simp at hk
  · simp at hk
theorem good_open {j : Jn} {zs : List Int} (hk : (appendJ j zs).2 = true) : openOk (appendJ j zs).1.1 = true := by
  obtain ⟨h1, h2, h3, h4⟩ := accepted hk
  rw [h4]
  unfold openOk
  unfold okJ at h1
  simp only [Bool.and_eq_true, decide_eq_true_eq] at h1
  obtain ⟨⟨⟨⟨hd, hp0⟩, hp1⟩, hq0⟩, hq1⟩ := h1
  obtain ⟨⟨d1, d2⟩, P, Q⟩ := j
  obtain ⟨p, rfl⟩ : ∃ p : Nat, P = (p : Int) := ⟨P.toNat, by simp at hp0; omega⟩
  obtain ⟨q, rfl⟩ : ∃ q : Nat, Q = (q : Int) := ⟨Q.toNat, by simp at hq0; omega⟩
  have hf := okD_frame (d := (d1, d2)) (p := p) (q := q) (zs := zs) hd h3
  have hfl := okD_flushed hf
  simp only [Int.toNat_natCast]
  simpa using hfl
theorem read_back {j : Jn} {zs : List Int} (hk : (appendJ j zs).2 = true) (ho : openOk j.1 = true) (hP : (openJ j.1).2.1 = j.2.1) (hQ : (openJ j.1).2.2 = j.2.2) : ∃ t, openR (appendJ j zs).1.1 = openR j.1 ++ [zs] ++ t := by
  have hg := good_open hk
  obtain ⟨h1, h2, h3, h4⟩ := accepted hk
  have ho' := ho
  unfold openOk at ho'
  rw [Bool.and_eq_true] at ho'
  have hd2 : j.1.2 = [] := by simpa using ho'.2
  have e1 : openJ j.1 = (j.1, ((openS j.1.1).1 : Int), ((openS j.1.1).2.1 : Int)) := by unfold openJ; rw [ho]; rfl
  have e2 : openR j.1 = (openS j.1.1).2.2 := by unfold openR; rw [ho]; rfl
  have e3 : openR (appendJ j zs).1.1 = (openS (appendJ j zs).1.1.1).2.2 := by unfold openR; rw [hg]; rfl
  rw [e1] at hP hQ
  have hpar := ho'.1
  unfold okD at hpar
  simp only [Bool.and_eq_true, decide_eq_true_eq, List.all_eq_true] at hpar
  have hw : ∀ i, i < j.1.1.length → (j.1.1[i]?.getD []).length = 32 := fun i hi => by
    have := hpar.1.2 _ (List.getElem_mem hi)
    simp [secOk] at this
    rw [List.getElem?_eq_getElem hi]
    simpa using this
  unfold roomJ at h3
  simp only [Bool.and_eq_true, decide_eq_true_eq] at h3
  obtain ⟨⟨hr1, hr2⟩, hr3⟩ := h3
  have hle := runN_le hw (j.1.1.length + 1) 0 0 [] (Nat.zero_le _)
  have hP' : ((openS j.1.1).1 : Int) = j.2.1 := hP
  have hQ' : ((openS j.1.1).2.1 : Int) = j.2.2 := hQ
  have hle' : (openS j.1.1).1 ≤ j.1.1.length := hle
  obtain ⟨t, ht⟩ := open_append hw (P := (openS j.1.1).1) (q := (openS j.1.1).2.1) (acc := (openS j.1.1).2.2) rfl hle' zs (by omega) h2 (by omega)
  refine ⟨t, ?_⟩
  rw [e3, e2, h4, hd2, List.nil_append, ← hP', ← hQ', Int.toNat_natCast]
  exact ht
end Go.Proofs.YtjhaanenkeceiaaDoor.fnJournals
end

section
/- The program's write and WriteSector as plain functions; they lean on the package's three errors. No condition of ours. -/
namespace Go.Proofs.YtjhaanenkeceiaaDoor
open Go.RowKit
set_option linter.unusedVariables false
set_option linter.unusedSimpArgs false
attribute [local go_sem ↓] Go.wp_at_zero Go.wp_at_succ

theorem OwY.snoc {w wa w' : World} {l h g cap : Nat} {y u : Value} {p : Int} {zs : List Int} {ws : List Wt} {xs C : List Value} (hl : xs.length = ws.length) (ho : w.ownsRow l 75 2 y xs.length C)
    (hC : ∀ i, i < xs.length → C[i * 2]? = some (.int .i64 (ws[i]?.getD (0, [])).1) ∧ C[i * 2 + 1]? = some (xs[i]?.getD undef)) (he : ∀ i, i < xs.length → OwB w l h (xs[i]?.getD undef) (ws[i]?.getD (0, [])).2)
    (hd : ∀ i j k, i < j → j < xs.length → (xs[i]?.getD undef).ownBlock = some k → (xs[j]?.getD undef).ownBlock ≠ some k) (hh : h ≤ w.heap.size) (hb : Below w.heap.size w wa)
    (hr' : w'.ownsRow l 75 2 (.slice (some ⟨g, 0, none⟩) (xs.length + 1) cap) (xs.length + 1) (C ++ [.int .i64 p, u])) (hgr : wa.grownBy w' y.ownBlock) (hgl : g < w'.heap.size)
    (hu : OwB wa w.heap.size wa.heap.size u zs) (hlw : l ≤ w.heap.size) : OwY w' l w'.heap.size (.slice (some ⟨g, 0, none⟩) (xs.length + 1) cap) (ws ++ [(p, zs)]) (xs ++ [u]) := by
  have hs := hb.size
  have hs' := hgr.size
  have hCl : C.length = xs.length * 2 := ho.1
  refine ⟨C ++ [.int .i64 p, u], by simp [hl], by simpa using hr', fun k hk => by have := slice_block hk; simp at this; omega, fun i hi => ?_, fun i hi => ?_, fun i j k hij hj hk => ?_⟩
  · rw [List.length_append, List.length_singleton] at hi
    rw [getD_snoc, getD_snoc, List.getElem?_append, List.getElem?_append]
    by_cases h1 : i < xs.length
    · rw [if_pos (by omega), if_pos (by omega), if_pos (by omega), if_pos h1]
      exact hC i h1
    · have e : i = xs.length := by omega
      subst e
      rw [if_neg (by omega), if_neg (by omega), if_pos hl, if_neg (by omega), if_neg (by omega), if_pos rfl]
      rw [show xs.length * 2 - C.length = 0 by omega, show xs.length * 2 + 1 - C.length = 1 by omega]
      exact ⟨rfl, rfl⟩
  · rw [List.length_append, List.length_singleton] at hi
    rw [getD_snoc, getD_snoc]
    by_cases h1 : i < xs.length
    · rw [if_pos h1, if_pos (by omega)]
      obtain ⟨e1, e2, e3⟩ := he i h1
      refine ⟨e1, ?_, e3.le (by omega)⟩
      have e4 : Owns wa l (xs[i]?.getD undef) (ws[i]?.getD (0, [])).2 := e2.below hb (fun k hk => (e2.lt k hk).2)
      exact e4.kept2 (fun q hq => hgr.block q (e4.lt q hq).2 (fun e => tag_ne ho e2 (by decide) q e.symm hq))
    · have e : i = xs.length := by omega
      subst e
      rw [if_neg (by omega), if_pos rfl, if_neg (by omega), if_pos hl]
      obtain ⟨e1, e2, e3⟩ := hu
      refine ⟨e1, ?_, e3.le hs'⟩
      refine (e2.base hlw).kept2 (fun q hq => hgr.block q (e2.lt q hq).2 (fun e => ?_))
      have := (e2.lt q hq).1
      have := (ho.lt q e.symm).2
      omega
  · rw [List.length_append, List.length_singleton] at hj
    rw [getD_snoc] at hk ⊢
    rw [if_pos (by omega)] at hk
    by_cases h1 : j < xs.length
    · rw [if_pos h1]; exact hd i j k hij h1 hk
    · rw [if_neg h1, if_pos (by omega)]
      intro e
      have := (he i (by omega)).2.2 k hk
      have := (hu.2.1.lt k e).1
      omega

end Go.Proofs.YtjhaanenkeceiaaDoor
end
