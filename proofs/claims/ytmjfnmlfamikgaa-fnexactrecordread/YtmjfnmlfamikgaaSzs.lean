/- What the verifier's counting of entries, nodes, trees and operations answers; no condition on them. -/
import Derived.Test.YtmjfnmlfamikgaaEnts
namespace Go.Proofs.Ytmjfnmlfamikgaa
open Go.RowKit
set_option linter.unusedVariables false

def leftT (n s : Nat) : Int := if n ≤ s then (s : Int) - n else -1

/-- f, summed up over the first j. -/
def psum {α : Type} (f : α → Nat) (l : List α) (j : Nat) : Nat := ((l.take j).map f).sum
theorem psum_zero {α : Type} (f : α → Nat) (l : List α) : psum f l 0 = 0 := by simp [psum]
theorem psum_all {α : Type} (f : α → Nat) (l : List α) : psum f l l.length = (l.map f).sum := by simp [psum]
theorem psum_next {α : Type} (f : α → Nat) (l : List α) (d : α) (j : Nat) (h : j < l.length) : psum f l (j + 1) = psum f l j + f (l[j]?.getD d) := by
  unfold psum
  rw [List.take_succ_eq_append_getElem h, List.map_append, List.sum_append]
  simp [h]
theorem psum_le {α : Type} (f : α → Nat) (l : List α) (j : Nat) : psum f l j ≤ (l.map f).sum := by
  have : (l.map f).sum = ((l.take j).map f).sum + ((l.drop j).map f).sum := by rw [← List.sum_append, ← List.map_append, List.take_append_drop]
  unfold psum
  omega

theorem psum_mono0 {α : Type} (f g : α → Nat) (h : ∀ a, f a ≤ g a) (l : List α) : (l.map f).sum ≤ (l.map g).sum := by
  induction l with
  | nil => simp
  | cons x r ih => have := h x; simp; omega

theorem szByteS_d (v : Value) (zs : List Int) (S : Nat → Prop) (s : Nat) (w : World) (r : RdV w S v (.bytes zs)) (hs : s ≤ 1048576) :
    Calls Try.prog 64 #[v, .int .i64 s] w fun e w' => e = .returned (.int .i64 (leftT zs.length s)) ∧ Below w.heap.size w w' := by
  obtain ⟨a, c, rfl, hh, _⟩ := r.b.reads
  have hm : zs.length ≤ 9223372036854775807 := by have := hh.1; have := hh.2.1; unfold maxLen at this; omega
  generalize zs.length = n at hm ⊢
  unfold leftT
  clear hh
  by_cases hle : n ≤ s
  · rw [if_pos hle]
    go_enter Try.func64, Try.ntmps64
    go_wp2
    go_ret
    exact ⟨rfl, Below.refl _ _⟩
  · rw [if_neg hle]
    go_enter Try.func64, Try.ntmps64
    go_wp2
    go_ret
    exact ⟨rfl, Below.refl _ _⟩

set_option maxHeartbeats 1000000 in
theorem szEntry_d (x : Value) (e : En) (S : Nat → Prop) (s : Nat) (w : World) (hs : s ≤ 1048576) (r : RdV w S x (.bytes e.nm)) :
    Calls Try.prog 100 #[enV x e.h, .int .i64 s] w fun ret w' => ret = .returned (.int .i64 (leftT (e.nm.length) s)) ∧ Below w.heap.size w w' := by
  obtain ⟨a, cap, rfl⟩ := r.sliceB
  obtain ⟨nm, ⟨p, q, d⟩⟩ := e
  dsimp only at r ⊢
  have HS : Hid (∀ W, Below w.heap.size w W → _) := fun W hW => szByteS_d _ nm S s W (r.step hW) hs
  clear r
  generalize nm.length = m at HS ⊢
  by_cases hle : m ≤ s
  · have hl : leftT m s = (s : Int) - m := by unfold leftT; rw [if_pos hle]
    rw [hl] at HS ⊢
    clear hl
    go_enter Try.func100, Try.ntmps100
    go_wp2_with fail
    refine Calls.mono (HS.out _ (Below.newH _)) ?_
    rintro e w2 ⟨rfl, b_⟩
    go_wp2
    go_ret
    exact ⟨rfl, (Below.newH (w := w) _).trans (b_.mono (by simp))⟩
  · have hl : leftT m s = -1 := by unfold leftT; rw [if_neg hle]
    rw [hl] at HS ⊢
    clear hl
    go_enter Try.func100, Try.ntmps100
    go_wp2_with fail
    refine Calls.mono (HS.out _ (Below.newH _)) ?_
    rintro e w2 ⟨rfl, b_⟩
    go_wp2
    go_ret
    exact ⟨rfl, (Below.newH (w := w) _).trans (b_.mono (by simp))⟩

set_option maxHeartbeats 2000000 in
theorem szEntryS_d (v : Value) (l : List En) (S : Nat → Prop) (s : Nat) (w : World) (hs : s ≤ 1048576) (r : RdV w S v (ensDt l)) :
    Calls Try.prog 65 #[v, .int .i64 s] w fun e w' => e = .returned (.int .i64 (leftT (szEns l) s)) ∧ Below w.heap.size w w' := by
  obtain ⟨a, cap, rfl, hm⟩ := RdV.sliced r
  have HR : Hid (∀ W, Below w.heap.size w W → RdV W S (.slice a l.length cap) (ensDt l)) := r.old
  have HD : Hid (ensDt l = .rows 107 4 l.length (fun i j => enCell (l[i]?.getD en0) j)) := rfl
  have HX : Hid (szEns l = l.length + psum (fun e : En => e.nm.length) l l.length) := by show _ = _; rw [psum_all]; rfl
  have HU : Hid (∀ j, j < l.length → psum (fun e : En => e.nm.length) l (j + 1) = psum (fun e : En => e.nm.length) l j + (fun e : En => e.nm.length) (l[j]?.getD en0) ∧ psum (fun e : En => e.nm.length) l (j + 1) ≤ psum (fun e : En => e.nm.length) l l.length) := fun j hj => ⟨psum_next _ l _ j hj, by rw [psum_all]; exact psum_le _ l _⟩
  unfold maxLen at hm
  clear r
  rw [HD.out] at HR
  clear HD
  rw [HX.out]
  clear HX
  have HZ0 : Hid (psum (fun e : En => e.nm.length) l 0 = 0) := psum_zero _ _
  generalize psum (fun e : En => e.nm.length) l = P at HU HZ0 ⊢
  generalize l.length = n at hm HR HU ⊢
  by_cases hle : n ≤ s
  · go_enter Try.func65, Try.ntmps65
    go_wp2
    go_loopw [1, 5] (fun q i wr => ∃ j t : Nat, j ≤ n ∧ i = .int .i64 j ∧ q = .int .i64 t ∧ t ≤ s ∧ Hid (t + (n + P j) = s) ∧ Below w.heap.size w wr) (fun _ i _ => n - (intOf i).toNat)
    case atStart => exact ⟨0, s - n, Nat.zero_le _, rfl, by go_num, by omega, by show _ = _; rw [HZ0.out]; omega, Below.refl _ _⟩
    case round =>
      obtain ⟨j, t, hj, rfl, rfl, ht, HS, hbel⟩ := hrel
      by_cases hlt : j < n
      · obtain ⟨b, off, rfl, hbl, _, hx⟩ := RdV.at (HR.out wr hbel) hlt
        obtain ⟨hu1, hu2⟩ := HU.out j hlt
        obtain ⟨e, he⟩ : ∃ e, l[j]?.getD en0 = e := ⟨_, rfl⟩
        obtain ⟨x0, c0, r0⟩ := hx 0 (by omega)
        obtain ⟨x1, c1, r1⟩ := hx 1 (by omega)
        obtain ⟨x2, c2, r2⟩ := hx 2 (by omega)
        obtain ⟨x3, c3, r3⟩ := hx 3 (by omega)
        rw [he] at hu1 r0 r1 r2 r3
        clear hx he
        obtain ⟨nm, ⟨p, q, d⟩⟩ := e
        obtain rfl : x1 = .int .i64 p := r1
        obtain rfl : x2 = .int .i64 q := r2
        obtain rfl : x3 = .bool d := r3
        simp only [Nat.add_zero] at c0
        dsimp only at hu1
        have RS : Hid (RdV wr S x0 (.bytes nm)) := r0
        clear r0
        obtain ⟨xa, xc, rfl⟩ := RdV.sliceB RS.out
        have HSZ : Hid _ := szEntry_d _ ⟨nm, p, q, d⟩ S t wr (by omega) RS.out
        generalize nm.length = m at hu1 HSZ c0
        clear RS
        have hws := hbel.size
        by_cases hmt : m ≤ t
        · have hl : leftT m t = (t : Int) - m := by unfold leftT; rw [if_pos hmt]
          rw [hl] at HSZ
          have HF : Hid (t - m + (n + P (j + 1)) = s) := by show _ = _; have := HS.out; omega
          clear hl hu1 hu2 HS
          go_wp2_with fail
          refine Calls.mono HSZ.out ?_
          rintro e w2 ⟨rfl, hb2⟩
          go_wp2
          go_roundw
          case rel => exact ⟨j + 1, t - m, by omega, by go_num, by go_num, by omega, HF, hbel.trans (hb2.mono hws)⟩
          case measure => simp [intOf]; omega
        · have hl : leftT m t = -1 := by unfold leftT; rw [if_neg hmt]
          rw [hl] at HSZ
          have HF : Hid (leftT (n + P n) s = -1) := by show _ = _; unfold leftT; rw [if_neg (by have := HS.out; omega)]
          clear hl hu1 hu2 HS
          go_wp2_with fail
          refine Calls.mono HSZ.out ?_
          rintro e w2 ⟨rfl, hb2⟩
          go_wp2
          go_ret
          exact ⟨by rw [HF.out]; rfl, hbel.trans (hb2.mono hws)⟩
      · have hjn : j = n := by omega
        subst hjn
        have HF : Hid (leftT (j + P j) s = (t : Int)) := by have := HS.out; show _ = _; unfold leftT; rw [if_pos (by omega)]; omega
        go_wp2
        go_ret
        exact ⟨by rw [HF.out]; rfl, hbel⟩
  · have HF : Hid (leftT (n + P n) s = -1) := by show _ = _; unfold leftT; rw [if_neg (by omega)]
    clear HU HR
    go_enter Try.func65, Try.ntmps65
    go_wp2
    go_ret
    exact ⟨by rw [HF.out]; rfl, Below.refl _ _⟩

set_option maxHeartbeats 2000000 in
theorem szOp_d (x y : Value) (o : OpD) (S : Nat → Prop) (s : Nat) (w : World) (hs : s ≤ 1048576) (r : RdV w S x (.bytes o.nm)) (r2 : RdV w S y (.bytes o.asn)) :
    Calls Try.prog 21 #[opV o x y, .int .i64 s] w fun e w' => e = .returned (.int .i64 (leftT (o.nm.length + o.asn.length) s)) ∧ Below w.heap.size w w' := by
  obtain ⟨a, cap, rfl⟩ := r.sliceB
  obtain ⟨a2, cap2, rfl⟩ := r2.sliceB
  obtain ⟨kd, ⟨p, q, d⟩, nm, ⟨p2, q2, d2⟩, asn, vl⟩ := o
  dsimp only at r r2 ⊢
  have HS : Hid (∀ W, Below w.heap.size w W → _) := fun W hW => szByteS_d _ nm S s W (r.step hW) hs
  have HS2 : Hid (∀ t W, t ≤ 1048576 → Below w.heap.size w W → _) := fun t W ht hW => szByteS_d _ asn S t W (r2.step hW) ht
  clear r r2
  generalize nm.length = n at HS ⊢
  generalize asn.length = m at HS2 ⊢
  by_cases hle : n ≤ s
  · have hl : leftT n s = ((s - n : Nat) : Int) := by unfold leftT; rw [if_pos hle]; omega
    rw [hl] at HS
    have HS3 := HS2.out (s - n)
    generalize hq : s - n = t at HS HS3
    have HQ : Hid _ := hq
    have hts : t ≤ 1048576 := by omega
    clear hl HS2 hq
    by_cases hle2 : m ≤ t
    · have hl : leftT m t = ((t - m : Nat) : Int) := by unfold leftT; rw [if_pos hle2]; omega
      rw [hl] at HS3
      have HF : Hid (leftT (n + m) s = ((t - m : Nat) : Int)) := by have := HQ.out; show _ = _; unfold leftT; rw [if_pos (by omega)]; omega
      have HS4 : Hid _ := HS3
      clear HS3 hl
      generalize t - m = z at HS4 HF
      rw [HF.out]
      go_enter Try.func21, Try.ntmps21
      go_wp2_with fail
      refine Calls.mono (HS.out _ (Below.newH _)) ?_
      rintro e w2 ⟨rfl, b_⟩
      have vA := VarA.step (VarA.new w _ _) b_
      have HB : Hid _ := (Below.newH (w := w) _).trans (b_.mono (by simp))
      clear b_
      obtain ⟨a0_, a1_, a2_, a3_, a4_, a5_, a6_, a7_, a8_, a9_⟩ := vA.l10
      go_wp2_with fail
      refine Calls.mono (HS4.out _ hts HB.out) ?_
      rintro e w3 ⟨rfl, b_⟩
      go_wp2
      go_ret
      exact ⟨rfl, HB.out.trans (b_.mono HB.out.size)⟩
    · have hl : leftT m t = -1 := by unfold leftT; rw [if_neg hle2]
      rw [hl] at HS3
      have HF : Hid (leftT (n + m) s = -1) := by have := HQ.out; show _ = _; unfold leftT; rw [if_neg (by omega)]
      have HS4 : Hid _ := HS3
      clear HS3 hl
      rw [HF.out]
      go_enter Try.func21, Try.ntmps21
      go_wp2_with fail
      refine Calls.mono (HS.out _ (Below.newH _)) ?_
      rintro e w2 ⟨rfl, b_⟩
      have vA := VarA.step (VarA.new w _ _) b_
      have HB : Hid _ := (Below.newH (w := w) _).trans (b_.mono (by simp))
      clear b_
      obtain ⟨a0_, a1_, a2_, a3_, a4_, a5_, a6_, a7_, a8_, a9_⟩ := vA.l10
      go_wp2_with fail
      refine Calls.mono (HS4.out _ hts HB.out) ?_
      rintro e w3 ⟨rfl, b_⟩
      go_wp2
      go_ret
      exact ⟨rfl, HB.out.trans (b_.mono HB.out.size)⟩
  · have hl : leftT n s = -1 := by unfold leftT; rw [if_neg hle]
    rw [hl] at HS
    have HF : Hid (leftT (n + m) s = -1) := by show _ = _; unfold leftT; rw [if_neg (by omega)]
    clear hl HS2
    rw [HF.out]
    go_enter Try.func21, Try.ntmps21
    go_wp2_with fail
    refine Calls.mono (HS.out _ (Below.newH _)) ?_
    rintro e w2 ⟨rfl, b_⟩
    go_wp2
    go_ret
    exact ⟨rfl, (Below.newH (w := w) _).trans (b_.mono (by simp))⟩
end Go.Proofs.Ytmjfnmlfamikgaa
