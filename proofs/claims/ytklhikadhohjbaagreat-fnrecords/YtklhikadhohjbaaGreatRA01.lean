/- Joined: SpecT1 SpecT3 Draws1. -/
import Derived.Test.YtklhikadhohjbaaGreatRA00
import Derived.Test.YtklhikadhohjbaaGreatRSzs
import Derived.Test.YtklhikadhohjbaaGreatRCursor

namespace Go.Proofs.YtklhikadhohjbaaGreat
open Go.RowKit
set_option linter.unusedVariables false
set_option linter.unusedSimpArgs false
set_option maxRecDepth 100000
section
def lessH (a b : Hd) : Bool := decide (a.sh < b.sh) || (decide (a.sh = b.sh) && decide (a.ino < b.ino))
theorem specLess_any (a b : Hd) (w : World) : Calls Tryz.prog 95 #[a.v, b.v] w fun e w' => e = .returned (.bool (lessH a b)) ∧ Below w.heap.size w w' := by
 obtain ⟨s, i, d⟩ := a
 obtain ⟨s2, i2, d2⟩ := b
 go_enter Tryz.func95, Tryz.ntmps95
 go_wp2
 all_goals (go_ret; exact ⟨by first | rfl | (simp_all [lessH] <;> omega), Below.newH2 _ _⟩)

def fi (l : List Nd) (h : Hd) : Nat := l.findIdx (fun n => decide (n.h = h))
def findH (l : List Nd) (h : Hd) : Int := if fi l h < l.length then (fi l h : Int) else -1
theorem fi_at (l : List Nd) (h : Hd) (k : Nat) (hk : k < l.length) (h1 : (l[k]?.getD nd0).h = h) (h2 : ∀ i, i < k → (l[i]?.getD nd0).h ≠ h) : fi l h = k := by
 unfold fi
 rw [List.findIdx_eq hk]
 refine ⟨by simpa [hk] using h1, fun j hj => ?_⟩
 have := h2 j hj
 have hj' : j < l.length := by omega
 simpa [hj'] using this
theorem fi_none (l : List Nd) (h : Hd) (h2 : ∀ i, i < l.length → (l[i]?.getD nd0).h ≠ h) : findH l h = -1 := by
 unfold findH fi
 rw [if_neg]
 rw [List.findIdx_lt_length]
 rintro ⟨x, hx, hp⟩
 obtain ⟨i, hi, rfl⟩ := List.getElem_of_mem hx
 exact h2 i hi (by simpa [hi] using hp)

set_option maxHeartbeats 2000000 in
theorem specFind_any (x : Value) (l : List Nd) (h : Hd) (S : Nat → Prop) (w : World) (r : RdV w S x (ndsDt l)) (hl : l.length ≤ 2097152) :
  Calls Tryz.prog 96 #[.agg #[x], h.v] w fun e w' => e = .returned (.int .i64 (findH l h)) ∧ Below w.heap.size w w' := by
 obtain ⟨a, cap, rfl, _⟩ := RdV.sliced r
 obtain ⟨s, ino, d⟩ := h
 have HR : Hid (∀ W, Below w.heap.size w W → RdV W S (.slice a l.length cap) (.rows 133 9 l.length (fun i j => ndCell (l[i]?.getD nd0) j))) := RdV.old r
 obtain ⟨n, hn⟩ : ∃ n, l.length = n := ⟨_, rfl⟩
 rw [hn] at hl HR ⊢
 have HN : Hid _ := hn
 clear r hn
 go_enter Tryz.func96, Tryz.ntmps96
 go_wp2
 go_loopw [5] (fun i wr => ∃ k : Nat, k ≤ n ∧ i = .int .i64 k ∧ Below w.heap.size w wr ∧ VarA wr w.heap.size 55 #[.slice a n cap] ∧ VarA wr (w.heap.size + 1) 24 #[.int .i64 s, .int .i64 ino, .bool d] ∧ Hid (∀ i, i < k → (l[i]?.getD nd0).h ≠ (s, ino, d))) (fun i _ => n - (intOf i).toNat)
 case atStart => exact ⟨0, Nat.zero_le _, rfl, Below.newH2 _ _, (VarA.new w _ _).alloc _, by have := VarA.new (w.alloc (.cells #[.slice a n cap] 55)) 24 #[.int .i64 s, .int .i64 ino, .bool d]; simpa using this, fun i hi => absurd hi (Nat.not_lt_zero _)⟩
 case round =>
  obtain ⟨k, hk, rfl, hbel, v0, v1, HA⟩ := hrel
  have c0 := v0.l1
  obtain ⟨f0, f1, f2⟩ := v1.l3
  by_cases hlt : k < n
  ·obtain ⟨b, off, rfl, hbl, _, hx⟩ := RdV.at (HR.out wr hbel) hlt
   obtain ⟨e, he⟩ : ∃ e, l[k]?.getD nd0 = e := ⟨_, rfl⟩
   obtain ⟨x0, c1, r0⟩ := hx 0 (by omega)
   obtain ⟨x1, c2, r1⟩ := hx 1 (by omega)
   obtain ⟨x2, c3, r2⟩ := hx 2 (by omega)
   rw [he] at r0 r1 r2
   have HE : Hid _ := he
   clear hx he
   obtain ⟨⟨p, q, dd⟩, par, lk, vl, es⟩ := e
   obtain rfl : x0 = .int .i64 p := r0
   obtain rfl : x1 = .int .i64 q := r1
   obtain rfl : x2 = .bool dd := r2
   simp only [Nat.add_zero] at c1
   have HY : Hid ((p = s ∧ q = ino ∧ dd = d) → findH l (s, ino, d) = (k : Int)) := by
    rintro ⟨rfl, rfl, rfl⟩
    have := fi_at l (p, q, dd) k (by rw [HN.out]; exact hlt) (by rw [HE.out]) HA.out
    show _ = _
    unfold findH
    rw [this, if_pos (by rw [HN.out]; exact hlt)]
   have HZ : Hid (¬ (p = s ∧ q = ino ∧ dd = d) → ∀ i, i < k + 1 → (l[i]?.getD nd0).h ≠ (s, ino, d)) := fun hne i hi => by
    by_cases h1 : i < k
    ·exact HA.out i h1
    ·obtain rfl : i = k := by omega
     rw [HE.out]
     intro e
     simp only [Prod.mk.injEq] at e
     exact hne e
   clear HA
   by_cases h1 : p = s
   case neg =>
    have g1 : (p == s) = false := by simpa using h1
    have HF : Hid _ := HZ.out (fun e => h1 e.1)
    clear HY HZ
    go_wp2
    go_quiet (fail)
    go_wp2
    go_roundw
    case rel => exact ⟨k + 1, by omega, by go_num, below_drewN2 hbel _, v0, v1, HF.out⟩
    case measure => simp [intOf]; omega
   subst h1
   by_cases h2 : q = ino
   case neg =>
    have g1 : (q == ino) = false := by simpa using h2
    have HF : Hid _ := HZ.out (fun e => h2 e.2.1)
    clear HY HZ
    go_wp2
    go_quiet (fail)
    go_wp2
    go_roundw
    case rel => exact ⟨k + 1, by omega, by go_num, below_drewN2 hbel _, v0, v1, HF.out⟩
    case measure => simp [intOf]; omega
   subst h2
   by_cases h3 : dd = d
   case neg =>
    have g1 : (dd == d) = false := by simpa using h3
    have HF : Hid _ := HZ.out (fun e => h3 e.2.2)
    clear HY HZ
    go_wp2
    go_quiet (fail)
    go_wp2
    go_roundw
    case rel => exact ⟨k + 1, by omega, by go_num, below_drewN2 hbel _, v0, v1, HF.out⟩
    case measure => simp [intOf]; omega
   subst h3
   have HF : Hid _ := HY.out ⟨rfl, rfl, rfl⟩
   clear HY HZ
   go_wp2
   go_quiet (fail)
   go_wp2
   go_ret
   exact ⟨by rw [HF.out]; rfl, below_drewN2 hbel _⟩
  ·have he : k = n := by omega
   subst he
   have HF : Hid (findH l (s, ino, d) = -1) := fi_none l _ (fun i hi => HA.out i (by rw [HN.out] at hi; exact hi))
   go_wp2
   go_ret
   exact ⟨by rw [HF.out]; rfl, hbel⟩

def cntE (es : List En) (h : Hd) : Nat := es.countP (fun e => decide (e.h = h))
def cntH (l : List Nd) (h : Hd) : Nat := psum (fun n => cntE n.es h) l l.length
theorem cntE_next (es : List En) (h : Hd) (k : Nat) (hk : k < es.length) : cntE (es.take (k + 1)) h = cntE (es.take k) h + (if (es[k]?.getD en0).h = h then 1 else 0) := by
 unfold cntE
 rw [List.take_succ_eq_append_getElem hk, List.countP_append]
 simp [hk, List.countP_cons]
theorem cntE_le (es : List En) (h : Hd) (k : Nat) : cntE (es.take k) h ≤ es.length := by
 unfold cntE
 exact Nat.le_trans List.countP_le_length (by simp; omega)
end
section
def ei (es : List En) (nm : List Int) : Nat := es.findIdx (fun e => decide (e.nm = nm))
def findE (es : List En) (nm : List Int) : Int := if ei es nm < es.length then (ei es nm : Int) else -1
theorem ei_at (l : List En) (h : List Int) (k : Nat) (hk : k < l.length) (h1 : (l[k]?.getD en0).nm = h) (h2 : ∀ i, i < k → (l[i]?.getD en0).nm ≠ h) : ei l h = k := by
 unfold ei
 rw [List.findIdx_eq hk]
 refine ⟨by simpa [hk] using h1, fun j hj => ?_⟩
 have := h2 j hj
 have hj' : j < l.length := by omega
 simpa [hj'] using this
theorem ei_none (l : List En) (h : List Int) (h2 : ∀ i, i < l.length → (l[i]?.getD en0).nm ≠ h) : findE l h = -1 := by
 unfold findE ei
 rw [if_neg]
 rw [List.findIdx_lt_length]
 rintro ⟨x, hx, hp⟩
 obtain ⟨i, hi, rfl⟩ := List.getElem_of_mem hx
 exact h2 i hi (by simpa [hi] using hp)
theorem conv_d (v : Value) (zs : List Int) (S : Nat → Prop) (w : World) (r : RdV w S v (.bytes zs)) : (convert 22 9 v).run Tryz.prog w = .ok (.string (strOfNums zs)) w := by
 obtain ⟨a, cap, rfl, _, hr⟩ := r.b.reads
 exact conv_any a zs zs.length cap w hr rfl

set_option maxHeartbeats 2000000 in
theorem specEntry_any (x y : Value) (n : Nd) (nm : List Int) (S S2 : Nat → Prop) (w : World) (r : RdV w S x (ensDt n.es)) (r2 : RdV w S2 y (.bytes nm)) (hl : n.es.length ≤ 2097152) :
  Calls Tryz.prog 182 #[ndV n x, y] w fun e w' => e = .returned (.int .i64 (findE n.es nm)) ∧ Below w.heap.size w w' := by
 obtain ⟨a, cap, rfl, _⟩ := RdV.sliced r
 obtain ⟨ya, yc, rfl⟩ := r2.sliceB
 obtain ⟨⟨p, q, d⟩, ⟨p2, q2, d2⟩, lk, vl, es⟩ := n
 dsimp only at r hl ⊢
 have hbn := r2.b.1
 have HR : Hid (∀ W, Below w.heap.size w W → RdV W S (.slice a es.length cap) (.rows 139 4 es.length (fun i j => enCell (es[i]?.getD en0) j))) := RdV.old r
 have HY : Hid (∀ W, Below w.heap.size w W → (convert 22 9 (.slice ya nm.length yc)).run Tryz.prog W = .ok (.string (strOfNums nm)) W) := fun W hW => conv_d _ nm S2 W (r2.step hW)
 obtain ⟨m, hm⟩ : ∃ m, es.length = m := ⟨_, rfl⟩
 rw [hm] at hl HR ⊢
 have HN : Hid _ := hm
 generalize nm.length = yn at *
 clear r r2 hm
 go_enter Tryz.func182, Tryz.ntmps182
 go_wp2
 go_loopw [5] (fun i wr => ∃ k : Nat, k ≤ m ∧ i = .int .i64 k ∧ Below w.heap.size w wr ∧ VarA wr w.heap.size 133 #[.int .i64 p, .int .i64 q, .bool d, .int .i64 p2, .int .i64 q2, .bool d2, .int .i64 lk, .int .i64 vl, .slice a m cap] ∧ Hid (∀ i, i < k → (es[i]?.getD en0).nm ≠ nm)) (fun i _ => m - (intOf i).toNat)
 case atStart => exact ⟨0, Nat.zero_le _, rfl, Below.newH _, VarA.new w _ _, fun i hi => absurd hi (Nat.not_lt_zero _)⟩
 case round =>
  obtain ⟨k, hk, rfl, hbel, v0, HA⟩ := hrel
  have c8 := v0.c 8 rfl
  dsimp at c8
  by_cases hlt : k < m
  ·obtain ⟨b, off, rfl, hbl, _, hx⟩ := RdV.at (HR.out wr hbel) hlt
   obtain ⟨e, he⟩ : ∃ e, es[k]?.getD en0 = e := ⟨_, rfl⟩
   obtain ⟨x0, c1, r0⟩ := hx 0 (by omega)
   rw [he] at r0
   have HE : Hid _ := he
   clear hx he
   obtain ⟨nm1, hh⟩ := e
   simp only [Nat.add_zero] at c1
   have RB : RdV wr S x0 (.bytes nm1) := r0
   have hb1 := RB.b.1
   have hcv : ∀ n, (convert 22 9 x0).run Tryz.prog (wr.drewN n) = .ok (.string (strOfNums nm1)) (wr.drewN n) := fun n => conv_d x0 nm1 S _ (RB.step (below_drewN2 (Below.refl _ _) n))
   have hcy : ∀ n, (convert 22 9 (.slice ya yn yc)).run Tryz.prog (wr.drewN n) = .ok (.string (strOfNums nm)) (wr.drewN n) := fun n => HY.out _ (below_drewN2 hbel n)
   obtain ⟨xa, xc, rfl⟩ := RB.sliceB
   generalize nm1.length = xn at *
   have hstr := str_eq nm1 nm hb1 hbn
   generalize strOfNums nm1 = s1 at hcv hstr
   generalize strOfNums nm = s2 at hcy hstr HY
   clear r0 RB hb1
   by_cases heq : nm1 = nm
   ·have HF : Hid (findE es nm = (k : Int)) := by
     have := ei_at es nm k (by rw [HN.out]; exact hlt) (by rw [HE.out]; exact heq) HA.out
     show _ = _
     unfold findE
     rw [this, if_pos (by rw [HN.out]; exact hlt)]
    simp only [heq, decide_true] at hstr
    clear HA HY
    go_wp2
    go_quiet (fail)
    go_wp2
    go_ret
    exact ⟨by rw [HF.out]; rfl, below_drewN2 hbel _⟩
   ·have HF : Hid (∀ i, i < k + 1 → (es[i]?.getD en0).nm ≠ nm) := fun i hi => by
     by_cases h1 : i < k
     ·exact HA.out i h1
     ·obtain rfl : i = k := by omega
      rw [HE.out]; exact heq
    simp only [heq, decide_false] at hstr
    clear HA HY
    go_wp2
    go_quiet (fail)
    go_wp2
    go_roundw
    case rel => exact ⟨k + 1, by omega, by go_num, below_drewN2 hbel _, v0, HF.out⟩
    case measure => simp [intOf]; omega
  ·have he : k = m := by omega
   subst he
   have HF : Hid (findE es nm = -1) := ei_none es _ (fun i hi => HA.out i (by rw [HN.out] at hi; exact hi))
   go_wp2
   go_ret
   exact ⟨by rw [HF.out]; rfl, hbel⟩
end
section
def SomeRel (w : World) (pb N : Nat) (o i : Value) (wr : World) : Prop :=
 ∃ (k : Nat) (ys : List Int), k ≤ N ∧ i = .int .i64 k ∧ ys.length = k ∧ isBytes ys ∧ Owns wr w.heap.size o ys ∧ CurAt wr pb ∧ w.grownBy wr (some pb)

set_option maxHeartbeats 1000000 in
theorem num_any (pb : Nat) (w : World) (h : CurAt w pb) :
  Calls Tryz.prog 144 #[.pointer (some ⟨pb, 0, none⟩)] w fun e w' => ∃ n : Int, e = .returned (.int .i64 n) ∧ -9223372036854775808 ≤ n ∧ n ≤ 9223372036854775807 ∧ CurAt w' pb ∧ w.grownBy w' (some pb) := by
 have hpb := h.lt
 go_enter Tryz.func144, Tryz.ntmps144
 go_wp2_with fail
 refine (below_any pb _ w h (by omega) (by omega)).mono ?_
 rintro e w1 ⟨x, rfl, hx0, hx1, hc1, hg1⟩
 have hs1 := hg1.size
 by_cases hx : x = 0
 ·subst hx
  go_wp2_with fail
  refine (pick_any pb w1.heap.size [0, 1, 127, 128, 16383, 16384, 2147483647, 2147483646] _ (hc1.alloc _) (by simp) (by simp) (by omega) (heap_alloc_new w1 _)).mono ?_
  rintro e w2 ⟨y, rfl, hm, hc2, hg2⟩
  go_wp2
  go_ret
  exact ⟨y, rfl, by simp at hm; omega, by simp at hm; omega, hc2, grown_trans (grown_alloc hg1 _) hg2⟩
 ·by_cases hx1' : x = 1
  ·subst hx1'
   go_wp2_with fail
   refine (pick_any pb w1.heap.size [-1, 2147483648, 4611686018427387904, -9223372036854775808, 9223372036854775807] _ (hc1.alloc _) (by simp) (by simp) (by omega) (heap_alloc_new w1 _)).mono ?_
   rintro e w2 ⟨y, rfl, hm, hc2, hg2⟩
   go_wp2
   go_ret
   exact ⟨y, rfl, by simp at hm; omega, by simp at hm; omega, hc2, grown_trans (grown_alloc hg1 _) hg2⟩
  ·have e0 : (x == 0) = false := beq_eq_false_iff_ne.2 hx
   have e1 : (x == 1) = false := beq_eq_false_iff_ne.2 hx1'
   go_wp2_with fail
   refine (below_any pb _ w1 hc1 (by omega) (by omega)).mono ?_
   rintro e w2 ⟨y, rfl, hy0, hy1, hc2, hg2⟩
   go_wp2
   go_ret
   exact ⟨y, rfl, by omega, by omega, hc2, grown_trans hg1 hg2⟩
end
end Go.Proofs.YtklhikadhohjbaaGreat
