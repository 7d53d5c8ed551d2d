/- Disks as values: what is read and owned of them, and what the verifier's helpers do with them. Conditions: at most 2^21 of each and of their bytes. -/
import Derived.Test.YtjhaanenkeceiaaDoorWaits3
namespace Go.Proofs.YtjhaanenkeceiaaDoor
open Go.RowKit
set_option linter.unusedVariables false

abbrev Dk := List (List Int) × List Wt

theorem OwBB.wide {w : World} {l h l' h' : Nat} {v : Value} {zss : List (List Int)} (o : OwBB w l h v zss) (h1 : l' ≤ l) (h2 : h ≤ h') : OwBB w l' h' v zss := by
  obtain ⟨vs, hl, ho, hb, he, hd⟩ := o
  refine ⟨vs, hl, ⟨ho.1, ?_⟩, hb.le h2, fun i hi => (he i hi).wide h1 h2, hd⟩
  rcases ho.2 with h0 | ⟨g, c, cur, hv, hg, r⟩
  · exact .inl h0
  · exact .inr ⟨g, c, cur, hv, by omega, r⟩
theorem OwWs.wide {w : World} {l h l' h' : Nat} {v : Value} {ws : List Wt} (o : OwWs w l h v ws) (h1 : l' ≤ l) (h2 : h ≤ h') : OwWs w l' h' v ws := by
  obtain ⟨xs, C, hl, ho, hb, hC, he, hd⟩ := o
  refine ⟨xs, C, hl, ⟨ho.1, ?_⟩, hb.le h2, hC, fun i hi => (he i hi).wide h1 h2, hd⟩
  rcases ho.2 with h0 | ⟨g, c, cur, hv, hg, r⟩
  · exact .inl h0
  · exact .inr ⟨g, c, cur, hv, by omega, r⟩
theorem SameIn.set {l h : Nat} {w : World} {p : Addr} {u : Value} (hp : p.block < l ∨ h ≤ p.block) : SameIn l h w (w.setCell p u) :=
  ⟨by simp, fun k h1 h2 => heap_setCell_other _ _ _ _ (by omega)⟩

/-- v reads as the disk d; all of it lies in blocks l .. h-1. -/
def RdD (w : World) (l h : Nat) (v : Value) (d : Dk) : Prop := ∃ x y, v = .agg #[x, y] ∧ RdBB w l h x d.1 ∧ RdWs w l h y d.2
theorem RdD.same {w w' : World} {l h : Nat} {v : Value} {d : Dk} (r : RdD w l h v d) (t : SameIn l h w w') : RdD w' l h v d := by
  obtain ⟨x, y, hv, h1, h2⟩ := r
  exact ⟨x, y, hv, h1.same t, h2.same t⟩
theorem RdD.wide {w : World} {l h l' h' : Nat} {v : Value} {d : Dk} (r : RdD w l h v d) (h1 : l' ≤ l) (h2 : h ≤ h') : RdD w l' h' v d := by
  obtain ⟨x, y, hv, r1, r2⟩ := r
  exact ⟨x, y, hv, r1.wide h1 h2, r2.wide h1 h2⟩
/-- v is the call's own, with the disk d: its sectors lie ahead of its waiting writes, all in blocks l .. h-1. -/
def OwD (w : World) (l h : Nat) (v : Value) (d : Dk) : Prop := ∃ x y m, v = .agg #[x, y] ∧ l ≤ m ∧ m ≤ h ∧ OwBB w l m x d.1 ∧ OwWs w m h y d.2
theorem OwD.rd {w : World} {l h : Nat} {v : Value} {d : Dk} (o : OwD w l h v d) : RdD w l h v d := by
  obtain ⟨x, y, m, hv, h1, h2, o1, o2⟩ := o
  exact ⟨x, y, hv, o1.rd.wide (Nat.le_refl _) h2, o2.rd.wide h1 (Nat.le_refl _)⟩
theorem SameIn.part {l h l' h' : Nat} {w w' : World} (t : SameIn l h w w') (h1 : l ≤ l') (h2 : h' ≤ h) : SameIn l' h' w w' := ⟨t.1, fun k a b => t.2 k (by omega) (by omega)⟩
theorem OwD.same {w w' : World} {l h : Nat} {v : Value} {d : Dk} (o : OwD w l h v d) (t : SameIn l h w w') : OwD w' l h v d := by
  obtain ⟨x, y, m, hv, h1, h2, o1, o2⟩ := o
  exact ⟨x, y, m, hv, h1, h2, o1.same (t.part (Nat.le_refl _) h2), o2.same (t.part h1 (Nat.le_refl _))⟩
theorem OwD.wide {w : World} {l h l' h' : Nat} {v : Value} {d : Dk} (o : OwD w l h v d) (h1 : l' ≤ l) (h2 : h ≤ h') : OwD w l' h' v d := by
  obtain ⟨x, y, m, hv, a, b, o1, o2⟩ := o
  exact ⟨x, y, m, hv, by omega, by omega, o1.wide h1 (Nat.le_refl _), o2.wide (Nat.le_refl _) h2⟩
theorem RdBB.sliced {w : World} {l h : Nat} {v : Value} {z : List (List Int)} (r : RdBB w l h v z) : ∃ a n c, v = .slice a n c := by
  obtain ⟨a, n, c, _, hv, _⟩ := r; exact ⟨a, n, c, hv⟩
theorem RdWs.sliced {w : World} {l h : Nat} {v : Value} {z : List Wt} (r : RdWs w l h v z) : ∃ a n c, v = .slice a n c := by
  obtain ⟨a, n, c, _, hv, _⟩ := r; exact ⟨a, n, c, hv⟩

/-- What the sizes of a disk must be for the helpers. -/
def Small (d : Dk) : Prop := d.1.length ≤ 2097152 ∧ lenBB d.1 ≤ 2097152 ∧ lenWs d.2 ≤ 2097152
theorem Small.a {d : Dk} (h : Small d) : ∀ i : Nat, (d.1[i]?.getD []).length ≤ 2097152 := fun i => Nat.le_trans (lenBB_at _ _) h.2.1
theorem Small.b {d : Dk} (h : Small d) : ∀ i : Nat, (d.2[i]?.getD (0, [])).2.length ≤ 2097152 := fun i => Nat.le_trans (lenWs_at _ _) h.2.2
theorem Small.c {d : Dk} (h : Small d) : d.2.length ≤ 2097152 := Nat.le_trans (lenWs_len _) h.2.2

theorem heap3 (w : World) (o1 o2 o3 : Obj) : (((w.alloc o1).alloc o2).alloc o3).heap[w.heap.size]? = some o1 ∧ (((w.alloc o1).alloc o2).alloc o3).heap[w.heap.size + 1]? = some o2 ∧ (((w.alloc o1).alloc o2).alloc o3).heap[w.heap.size + 1 + 1]? = some o3 := by
  refine ⟨?_, ?_, ?_⟩
  · show (((w.heap.push o1).push o2).push o3)[w.heap.size]? = _
    rw [Array.getElem?_push, if_neg (by simp; omega), Array.getElem?_push, if_neg (by simp), Array.getElem?_push, if_pos rfl]
  · show (((w.heap.push o1).push o2).push o3)[w.heap.size + 1]? = _
    rw [Array.getElem?_push, if_neg (by simp), Array.getElem?_push, if_pos (by simp)]
  · show (((w.heap.push o1).push o2).push o3)[w.heap.size + 1 + 1]? = _
    rw [Array.getElem?_push, if_pos (by simp)]

set_option maxHeartbeats 1000000 in
theorem toDisk_any (v : Value) (d : Dk) (l h : Nat) (w : World) (r : RdD w l h v d) (hh : h ≤ w.heap.size) (hs : Small d) :
    Calls Tryd.prog 29 #[v] w fun e w' => ∃ u, e = .returned u ∧ OwD w' w.heap.size w'.heap.size u d ∧ Below w.heap.size w w' := by
  obtain ⟨x, y, rfl, r1, r2⟩ := r
  obtain ⟨xa, xn, xc, rfl⟩ := r1.sliced
  obtain ⟨ya, yn, yc, rfl⟩ := r2.sliced
  have HR1 : Hid (∀ W, Below w.heap.size w W → RdBB W l h (.slice xa xn xc) d.1) := fun W hW => r1.same (SameIn.ofBelow hW hh)
  have HR2 : Hid (∀ W, Below w.heap.size w W → RdWs W l h (.slice ya yn yc) d.2) := fun W hW => r2.same (SameIn.ofBelow hW hh)
  have HSM : Hid _ := hs
  clear r1 r2 hs
  go_enter Tryd.func29, Tryd.ntmps29
  go_wp2_with fail
  have hb0 : Below w.heap.size w (((w.alloc (.cells #[.slice xa xn xc, .slice ya yn yc] 48)).alloc (.cells #[.slice none 0 0, .slice none 0 0] 26)).alloc (.cells #[.slice none 0 0, .slice none 0 0] 26)) := (((Below.refl _ _).alloc (Nat.le_refl _) _).alloc (by simp) _).alloc (by simp; omega) _
  refine (toByteSS_any _ d.1 l h _ (HR1.out _ hb0) (by simp; omega) HSM.out.1 (Small.a HSM.out)).mono ?_
  rintro e w2 ⟨u, rfl, ho, hb⟩
  obtain ⟨ua, un, uc, rfl⟩ := ho.rd.sliced
  have hz : w.heap.size + 1 + 1 < w2.heap.size := by have := hb.size; simp at this; omega
  have g0a : w2.heap[w.heap.size]? = some (.cells #[.slice xa xn xc, .slice ya yn yc] 48 (0, 0)) := (hb.block _ (by simp; omega)).trans (heap3 w _ _ _).1
  have g1a : w2.heap[w.heap.size + 1]? = some (.cells #[.slice none 0 0, .slice none 0 0] 26 (0, 0)) := (hb.block _ (by simp)).trans (heap3 w _ _ _).2.1
  have g2a : w2.heap[w.heap.size + 1 + 1]? = some (.cells #[.slice none 0 0, .slice none 0 0] 26 (0, 0)) := (hb.block _ (by simp)).trans (heap3 w _ _ _).2.2
  have c01 : w2.cell? ⟨w.heap.size, 1, none⟩ = some (.slice ya yn yc) := by rw [cell_of_row _ _ _ _ _ _ g0a]; rfl
  have k20 : w2.cell? ⟨w.heap.size + 1 + 1, 0, none⟩ = some (.slice none 0 0) := by rw [cell_of_row _ _ _ _ _ _ g2a]; rfl
  have f20 : w2.frozen? ⟨w.heap.size + 1 + 1, 0, none⟩ = false := frozen_of_row _ _ _ _ _ g2a
  clear g0a
  have hbA : Below w.heap.size w w2 := hb0.trans (hb.mono (by simp; omega))
  have HO : Hid (OwBB w2 (w.heap.size + 3) w2.heap.size (.slice ua un uc) d.1) := ho.wide (by simp) (Nat.le_refl _)
  have HBA : Hid _ := hbA
  clear ho hb hb0 hbA
  go_wp2_with fail
  have hbB : Below w.heap.size w (w2.setCell ⟨w.heap.size + 1 + 1, 0, none⟩ (.slice ua un uc)) := HBA.out.setCell (by show w.heap.size ≤ w.heap.size + 1 + 1; omega) _
  refine (toWaitS_any _ d.2 l h _ (HR2.out _ hbB) (by simp; omega) (Small.c HSM.out) (Small.b HSM.out)).mono ?_
  rintro e w3 ⟨u2, rfl, ho3, hb3⟩
  obtain ⟨va, vn, vc, rfl⟩ := ho3.rd.sliced
  have hs3 : w2.heap.size ≤ w3.heap.size := by have := hb3.size; simpa using this
  have hbC : Below w.heap.size w w3 := hbB.trans (hb3.mono (by simp; omega))
  have HO3 : Hid (OwD w3 (w.heap.size + 3) w3.heap.size (.agg #[.slice ua un uc, .slice va vn vc]) d) := by
    refine ⟨_, _, w2.heap.size, rfl, by omega, hs3, ?_, ?_⟩
    · refine OwBB.same HO.out (SameIn.trans (SameIn.set (p := ⟨w.heap.size + 1 + 1, 0, none⟩) (u := .slice ua un uc) (.inl (by show w.heap.size + 1 + 1 < _; omega))) ?_)
      exact SameIn.ofBelow hb3 (by simp)
    · exact ho3.wide (by simp) (Nat.le_refl _)
  have HBC : Hid _ := hbC
  have g1 : w3.heap[w.heap.size + 1]? = some (.cells #[.slice none 0 0, .slice none 0 0] 26 (0, 0)) := by
    rw [hb3.block _ (by simp; omega), heap_setCell_other _ _ _ _ (by simp)]; exact g1a
  have g2 : w3.heap[w.heap.size + 1 + 1]? = some (.cells #[.slice ua un uc, .slice none 0 0] 26 (0, 0)) := by
    rw [hb3.block _ (by simp; omega), heap_setCell_same _ _ _ _ _ _ g2a]; rfl
  have c10 : w3.cell? ⟨w.heap.size + 1, 0, none⟩ = some (.slice none 0 0) := by rw [cell_of_row _ _ _ _ _ _ g1]; rfl
  have c11 : w3.cell? ⟨w.heap.size + 1, 1, none⟩ = some (.slice none 0 0) := by rw [cell_of_row _ _ _ _ _ _ g1]; rfl
  have c20 : w3.cell? ⟨w.heap.size + 1 + 1, 0, none⟩ = some (.slice ua un uc) := by rw [cell_of_row _ _ _ _ _ _ g2]; rfl
  have c21 : w3.cell? ⟨w.heap.size + 1 + 1, 1, none⟩ = some (.slice none 0 0) := by rw [cell_of_row _ _ _ _ _ _ g2]; rfl
  have f10 : w3.frozen? ⟨w.heap.size + 1, 0, none⟩ = false := frozen_of_row _ _ _ _ _ g1
  have f11 : w3.frozen? ⟨w.heap.size + 1, 1, none⟩ = false := frozen_of_row _ _ _ _ _ g1
  have f21 : w3.frozen? ⟨w.heap.size + 1 + 1, 1, none⟩ = false := frozen_of_row _ _ _ _ _ g2
  clear ho3 hb3 hbB hbC HO HBA g1 g2 g1a g2a
  go_wp2
  refine bodyPost_ret (v := .agg #[.slice ua un uc, .slice va vn vc]) (by simp [results, Tryd.results29, go_sem, c10, c11]) rfl ⟨_, rfl, ?_, ?_⟩
  · refine OwD.wide (l := w.heap.size + 3) (h := w3.heap.size) ?_ (by omega) (by simp)
    exact HO3.out.same (SameIn.trans (SameIn.trans (SameIn.set (.inl (by simp))) (SameIn.set (.inl (by simp)))) (SameIn.set (.inl (by simp))))
  · exact ((HBC.out.setCell (by simp; omega) _).setCell (by simp) _).setCell (by simp) _

theorem pair_beq {α β : Type} [BEq α] [BEq β] [LawfulBEq α] [LawfulBEq β] (a a' : α) (b b' : β) : ((a, b) == (a', b')) = (a == a' && b == b') := rfl

set_option maxHeartbeats 1000000 in
theorem eqDisk_any (v u : Value) (d e : Dk) (l h l' h' : Nat) (w : World) (r : RdD w l h v d) (s : RdD w l' h' u e) (hh : h ≤ w.heap.size) (hh' : h' ≤ w.heap.size) (hd : Small d) (he : Small e) :
    Calls Tryd.prog 31 #[v, u] w fun x w' => x = .returned (.bool (d == e)) ∧ Below w.heap.size w w' := by
  obtain ⟨x, y, rfl, r1, r2⟩ := r
  obtain ⟨x', y', rfl, s1, s2⟩ := s
  obtain ⟨xa, xn, xc, rfl⟩ := r1.sliced
  obtain ⟨ya, yn, yc, rfl⟩ := r2.sliced
  obtain ⟨xa', xn', xc', rfl⟩ := s1.sliced
  obtain ⟨ya', yn', yc', rfl⟩ := s2.sliced
  obtain ⟨d1, d2⟩ := d
  obtain ⟨e1, e2⟩ := e
  rw [pair_beq]
  have hbb : Below w.heap.size w ((w.alloc (.cells #[.slice xa xn xc, .slice ya yn yc] 26)).alloc (.cells #[.slice xa' xn' xc', .slice ya' yn' yc'] 26)) := ((Below.refl _ _).alloc (Nat.le_refl _) _).alloc (by simp) _
  have R1 := eqByteSS_any _ _ d1 e1 l h l' h' _ (r1.same (SameIn.ofBelow hbb hh)) (s1.same (SameIn.ofBelow hbb hh')) hd.1 he.1 hd.a he.a
  have R2 := fun q => eqWaitS_any _ _ d2 e2 l h l' h' (((w.alloc (.cells #[.slice xa xn xc, .slice ya yn yc] 26)).alloc (.cells #[.slice xa' xn' xc', .slice ya' yn' yc'] 26)).drewN q) (r2.same (SameIn.ofBelow (below_drewN2 hbb q) hh)) (s2.same (SameIn.ofBelow (below_drewN2 hbb q) hh')) (by simp; omega) (by simp; omega) hd.c he.c hd.b he.b
  generalize (d1 == e1) = t1 at R1 ⊢
  generalize (d2 == e2) = t2 at R2 ⊢
  have RC1 : Hid _ := R1
  have RC2 : Hid _ := R2
  have HB : Hid _ := hbb
  clear R1 R2 hbb r1 r2 s1 s2 hd he
  cases t1 with
  | false =>
    go_enter Tryd.func31, Tryd.ntmps31
    go_wp2_with fail
    refine Calls.mono RC1.out ?_
    rintro x w2 ⟨rfl, k, rfl⟩
    go_wp2
    go_ret
    exact ⟨rfl, below_drewN2 HB.out k⟩
  | true =>
    cases t2 with
    | false =>
      go_enter Tryd.func31, Tryd.ntmps31
      go_wp2_with fail
      refine Calls.mono RC1.out ?_
      rintro x w2 ⟨rfl, k, rfl⟩
      go_wp2_with fail
      refine Calls.mono (RC2.out k) ?_
      rintro x w3 ⟨rfl, hb3⟩
      go_wp2
      go_ret
      exact ⟨rfl, (below_drewN2 HB.out k).trans (hb3.mono (by simp; omega))⟩
    | true =>
      go_enter Tryd.func31, Tryd.ntmps31
      go_wp2_with fail
      refine Calls.mono RC1.out ?_
      rintro x w2 ⟨rfl, k, rfl⟩
      go_wp2_with fail
      refine Calls.mono (RC2.out k) ?_
      rintro x w3 ⟨rfl, hb3⟩
      go_wp2
      go_ret
      exact ⟨rfl, (below_drewN2 HB.out k).trans (hb3.mono (by simp; omega))⟩

theorem ret_int {k : IntKind} {a b : Int} (h : a = b) : Ending.returned (.int k a) = .returned (.int k b) := by rw [h]
def markD (d : Dk) (k : Nat) : Dk := (markBB d.1 k, markWs d.2 (k + lenBB d.1))
def lenD (d : Dk) : Nat := lenBB d.1 + lenWs d.2

set_option maxHeartbeats 1000000 in
theorem markDisk_any (v : Value) (d : Dk) (l h : Nat) (k : Nat) (w : World) (o : OwD w l h v d) (hh : h ≤ w.heap.size) (hd : Small d) (hk : k ≤ 2097152) :
    Calls Tryd.prog 32 #[v, .int .i64 k] w fun x w' => x = .returned (.int .i64 ((k : Int) + (lenD d : Int))) ∧ OwD w' l h v (markD d k) ∧ Turns l h w w' := by
  obtain ⟨x, y, m, rfl, h1, h2, o1, o2⟩ := o
  obtain ⟨xa, xn, xc, rfl⟩ := o1.rd.sliced
  obtain ⟨ya, yn, yc, rfl⟩ := o2.rd.sliced
  have hb0 : Below w.heap.size w (w.alloc (.cells #[.slice xa xn xc, .slice ya yn yc] 26)) := (Below.refl _ _).alloc (Nat.le_refl _) _
  have HO1 : Hid _ := o1.same (SameIn.ofBelow hb0 (by omega))
  have HO2 : Hid _ := o2.same (SameIn.ofBelow hb0 hh)
  have HSM : Hid _ := hd
  have hlb := hd.2.1
  clear o1 o2 hb0 hd
  go_enter Tryd.func32, Tryd.ntmps32
  go_wp2_with fail
  refine (markByteSS_any _ d.1 k l m _ HO1.out HSM.out.1 HSM.out.2.1 hk).mono ?_
  rintro e w2 ⟨rfl, p1, t1⟩
  have HP1 : Hid _ := p1
  have HP2 : Hid _ := OwWs.same HO2.out (t1.same (by simp; omega) (.inr (Nat.le_refl _)))
  have g0 : w2.heap[w.heap.size]? = some (.cells #[.slice xa xn xc, .slice ya yn yc] 26 (0, 0)) := (t1.block _ (by simp) (.inr (by omega))).trans (heap_alloc_new w _)
  have c01 : w2.cell? ⟨w.heap.size, 1, none⟩ = some (.slice ya yn yc) := by rw [cell_of_row _ _ _ _ _ _ g0]; rfl
  have HT1 : Hid (Turns l h w w2) := (Turns.ofBelow ((Below.refl _ _).alloc (Nat.le_refl _) _)).trans (t1.wide (Nat.le_refl _) h2)
  clear p1 t1 g0 HO1 HO2
  have hkk : (k : Int) + (lenBB d.1 : Int) = ((k + lenBB d.1 : Nat) : Int) := by omega
  have HS2 : Hid _ := markWaitS_any _ d.2 (k + lenBB d.1) m h w2 HP2.out HSM.out.2.2 (by omega)
  rw [← hkk] at HS2
  have HKK : Hid _ := hkk
  clear hkk
  go_wp2_with fail
  refine Calls.mono HS2.out ?_
  rintro e w3 ⟨rfl, p2, t2⟩
  have HF : Hid (OwD w3 l h (.agg #[.slice xa xn xc, .slice ya yn yc]) (markD d k)) := ⟨_, _, m, rfl, h1, h2, OwBB.same HP1.out (t2.same (by have := HT1.out.size; omega) (.inl (Nat.le_refl _))), p2⟩
  have HT2 : Hid (Turns l h w w3) := HT1.out.trans (t2.wide h1 (Nat.le_refl _))
  clear p2 t2 HT1 HS2 HP1 HP2
  go_wp2
  go_ret
  exact ⟨ret_int (by simp only [lenD]; omega), HF.out, HT2.out⟩

set_option maxHeartbeats 1000000 in
theorem heldDisk_any (v : Value) (d : Dk) (l h : Nat) (k : Nat) (w : World) (r : RdD w l h v (markD d k)) (hh : h ≤ w.heap.size) (hd : Small d) (hk : k ≤ 2097152) :
    Calls Tryd.prog 59 #[v, .int .i64 k] w fun x w' => x = .returned (.int .i64 ((k : Int) + (lenD d : Int))) ∧ Below w.heap.size w w' := by
  obtain ⟨x, y, rfl, r1, r2⟩ := r
  obtain ⟨xa, xn, xc, rfl⟩ := r1.sliced
  obtain ⟨ya, yn, yc, rfl⟩ := r2.sliced
  have hb0 : Below w.heap.size w (w.alloc (.cells #[.slice xa xn xc, .slice ya yn yc] 26)) := (Below.refl _ _).alloc (Nat.le_refl _) _
  have hl1 := hd.2.1
  have hl2 := hd.2.2
  have S1 := heldByteSS_any _ d.1 k l h _ (r1.same (SameIn.ofBelow hb0 hh)) hd.1 hd.2.1 hk
  have S2 := heldWaitS_any _ d.2 (k + lenBB d.1) l h _ (r2.same (SameIn.ofBelow hb0 hh)) hd.2.2 (by omega)
  have hkk : ((k + lenBB d.1 : Nat) : Int) = (k : Int) + (lenBB d.1 : Int) := by omega
  rw [hkk] at S2
  have HS1 : Hid _ := S1
  have HS2 : Hid _ := S2
  have HB : Hid _ := hb0
  clear S1 S2 hkk hb0 r1 r2 hd
  go_enter Tryd.func59, Tryd.ntmps59
  go_wp2_with fail
  refine Calls.mono HS1.out ?_
  rintro e w2 ⟨rfl, hw2⟩
  subst hw2
  go_wp2_with fail
  refine Calls.mono HS2.out ?_
  rintro e w3 ⟨rfl, hw3⟩
  subst hw3
  go_wp2
  go_ret
  exact ⟨ret_int (by simp only [lenD]; omega), HB.out⟩
end Go.Proofs.YtjhaanenkeceiaaDoor
