/- May a reply be? By the specification and by the program. Condition: no more than 2^21 of all. -/
import Derived.Test.YtklhikadhohjbaaGreatMWOk2
import Derived.Test.YtklhikadhohjbaaGreatMOpOks2
import Derived.Deep.RegionHeld3
namespace Go.Proofs.YtklhikadhohjbaaGreat
open Go.RowKit
set_option linter.unusedVariables false
set_option linter.unusedSimpArgs false
set_option maxRecDepth 100000

theorem range_all_nextW (f : Nat → Bool) (k : Nat) (h : (List.range k).all f = true) (hk : f k = true) : (List.range (k + 1)).all f = true := by rw [List.range_succ, List.all_append, h]; simp [hk]
theorem range_all_falseW (f : Nat → Bool) (n k : Nat) (hk : k < n) (h : f k = false) : (List.range n).all f = false := by
 rw [Bool.eq_false_iff]; intro ha; rw [List.all_eq_true] at ha; have := ha k (by simpa using hk); rw [h] at this; cases this
def enOk (e : En) : Bool := isNm e.nm && HOk e.h
def enOkAt (l : List En) (i : Nat) : Bool := enOk (l[i]?.getD en0)
def noneOk (h : Hd) : Bool := decide (h = hd0) || HOk h
def ROk (r : RpD) : Bool := ((decide (0 ≤ r.code) && decide (r.code ≤ 11)) && (num r.val && (noneOk r.h && decide (r.list.length ≤ 12)))) && (List.range r.list.length).all (enOkAt r.list)
theorem specNum_w (n : Int) (w : World) : Calls Tryz.prog 56 #[.i n] w fun e w' => e = .returned (.bool (num n)) ∧ w' = w := by
 go_enter Tryz.func56, Tryz.ntmps56
 go_wp2
 all_goals (go_ret; exact ⟨by first | rfl | (simp_all [num]; done) | (simp_all [num]; omega), rfl⟩)
theorem implCode_w (n : Int) (w : World) : Calls Tryz.prog 106 #[.i n] w fun e w' => e = .returned (.bool (decide (0 ≤ n) && decide (n ≤ 11))) ∧ w' = w := by
 go_enter Tryz.func106, Tryz.ntmps106
 go_wp2
 all_goals (go_ret; exact ⟨by first | rfl | (simp_all; done) | (simp_all; omega), rfl⟩)
set_option maxHeartbeats 1000000 in
theorem implNone_any (h : Hd) (w : World) : Calls Tryz.prog 108 #[h.v] w fun e w' => e = .returned (.bool (noneOk h)) ∧ Below w.heap.size w w' := by
 obtain ⟨p, q, d⟩ := h
 have HH : Hid (∀ (p q : Int) (d : Bool) (W : World), Calls Tryz.prog 110 #[.agg #[.i p, .i q, .bool d]] W fun e w' => e = .returned (.bool (HOk (p, q, d))) ∧ w' = W.alloc (.cells #[.i p, .i q, .bool d] 24)) := fun p q d W => implHandleOk_w (p, q, d) W
 obtain ⟨res, hres⟩ : ∃ res, noneOk (p, q, d) = res := ⟨_, rfl⟩
 rw [hres]
 have HRES : Hid _ := hres
 clear hres
 go_enter Tryz.func108, Tryz.ntmps108
 go_wp2_with (go_at_call 110; refine Calls.mono (HH.out _ _ _ _) ?_; rintro e w' ⟨rfl, rfl⟩)
 all_goals (clear HH; go_ret; refine ⟨?_, by repeat (first | exact Below.refl _ _ | refine Below.al ?_ _ | refine below_drewN2 ?_ _)⟩; rw [← HRES.out]; clear HRES; first | rfl | (simp_all [noneOk, hd0, Hd.sh, Hd.ino, Hd.dir]; done) | (simp_all [noneOk, hd0, Hd.sh, Hd.ino, Hd.dir]; omega))
set_option maxHeartbeats 4000000 in
theorem specReplyOk_any (x : Value) (o : RpD) (S : Nat → Prop) (w : World) (r : RdV w S x (ensDt o.list)) (hl : szEns o.list ≤ 2097152) :
  Calls Tryz.prog 58 #[rpV o x] w fun e w' => e = .returned (.bool (ROk o)) ∧ Below w.heap.size w w' := by
 obtain ⟨a, cap, rfl, _⟩ := RdV.sliced r
 obtain ⟨rc, ⟨p, q, d⟩, rv, es⟩ := o
 dsimp only at r hl ⊢
 have HR2 : Hid (∀ W, Below w.heap.size w W → RdV W S (.slice a es.length cap) (.rows 139 4 es.length (fun i j => enCell (es[i]?.getD en0) j))) := RdV.old r
 have hmm : es.length ≤ 2097152 := by unfold szEns at hl; omega
 have HL : Hid _ := hl
 have HH : Hid (∀ (p q : Int) (d : Bool) (W : World), Calls Tryz.prog 63 #[.agg #[.i p, .i q, .bool d]] W fun e w' => e = .returned (.bool (HOk (p, q, d))) ∧ w' = W.alloc (.cells #[.i p, .i q, .bool d] 24)) := fun p q d W => specHandleOk_w (p, q, d) W
 have HU : Hid (∀ (n : Int) (W : World), Calls Tryz.prog 56 #[.i n] W fun e w' => e = .returned (.bool (num n)) ∧ w' = W) := fun n W => specNum_w n W
 obtain ⟨m, hm⟩ : ∃ m, es.length = m := ⟨_, rfl⟩
 obtain ⟨res, hres⟩ : ∃ res, ROk ⟨rc, (p, q, d), rv, es⟩ = res := ⟨_, rfl⟩
 rw [hres]
 simp only [ROk] at hres
 rw [hm] at HR2 hmm hres ⊢
 have HRES : Hid _ := hres
 clear r hl hm hres
 by_cases hA : (0 ≤ rc ∧ rc ≤ 11) ∧ (num rv = true ∧ noneOk (p, q, d) = true ∧ m ≤ 12)
 case neg =>
  have HF : Hid (res = false) := by
   rw [← HRES.out]
   show _ = _
   rw [Bool.eq_false_iff]
   intro h
   rw [Bool.and_eq_true] at h
   have h1 := h.1
   simp only [Bool.and_eq_true, decide_eq_true_eq] at h1
   exact hA h1
  rw [HF.out]
  clear HR2 HRES HF HL
  go_enter Tryz.func58, Tryz.ntmps58
  go_wp2_with (first | (go_at_call 56; refine Calls.mono (HU.out _ _) ?_; rintro e w' ⟨rfl, rfl⟩) | (go_at_call 63; refine Calls.mono (HH.out _ _ _ _) ?_; rintro e w' ⟨rfl, rfl⟩))
  all_goals first | (go_ret; exact ⟨rfl, by repeat (first | exact Below.refl _ _ | refine Below.al ?_ _ | refine below_drewN2 ?_ _)⟩) | (exfalso; apply hA; simp_all [noneOk, hd0, Hd.sh, Hd.ino, Hd.dir]; done) | (exfalso; apply hA; simp_all [noneOk, hd0, Hd.sh, Hd.ino, Hd.dir]; omega)
 obtain ⟨⟨h1, h2⟩, h3, h4, h5⟩ := hA
 have HRES2 : Hid ((List.range m).all (enOkAt es) = res) := by
  rw [← HRES.out]; show _ = _; simp [h1, h2, h3, h4, h5]
 rw [← HRES2.out]
 clear HRES HRES2 res
 by_cases hz : (p, q, d) = hd0
 ·simp only [hd0, Prod.mk.injEq] at hz
  obtain ⟨rfl, rfl, rfl⟩ := hz
  clear h4
  go_enter Tryz.func58, Tryz.ntmps58
  go_wp2_with (first | (go_at_call 56; refine Calls.mono (HU.out _ _) ?_; rintro e w' ⟨rfl, rfl⟩) | (go_at_call 63; refine Calls.mono (HH.out _ _ _ _) ?_; rintro e w' ⟨rfl, rfl⟩))
  go_loopw [3] (fun i wr => ∃ k : Nat, k ≤ m ∧ i = .i k ∧ Below w.heap.size w wr ∧ VarA wr w.heap.size 29 #[.i rc, .i 0, .i 0, .bool false, .i rv, .slice a m cap] ∧ Hid ((List.range k).all (enOkAt es) = true)) (fun i _ => m - (intOf i).toNat)
  case atStart => exact ⟨0, Nat.zero_le _, rfl, (by repeat (first | exact Below.refl _ _ | refine Below.al ?_ _ | refine below_drewN2 ?_ _)), VarA.new w _ _, by show _ = _; simp⟩
  case round =>
   obtain ⟨k, hk, rfl, hbel, vA, HA⟩ := hrel
   obtain ⟨a0_, a1_, a2_, a3_, a4_, a5_⟩ := vA.l6
   have hvl_ := vA.lt
   by_cases hlt : k < m
   case neg =>
    have he : k = m := by omega
    subst he
    go_wp2
    go_ret
    exact ⟨by rw [HA.out]; rfl, hbel⟩
   obtain ⟨b, off, rfl, hbl, _, hx⟩ := RdV.at (HR2.out wr hbel) hlt
   obtain ⟨e, he⟩ : ∃ e, es[k]?.getD en0 = e := ⟨_, rfl⟩
   obtain ⟨x0, c0, r0⟩ := hx 0 (by omega)
   obtain ⟨x1, c1, r1⟩ := hx 1 (by omega)
   obtain ⟨x2, c2, r2⟩ := hx 2 (by omega)
   obtain ⟨x3, c3, r3⟩ := hx 3 (by omega)
   rw [he] at r0 r1 r2 r3
   have HZ : Hid (e.nm.length ≤ 2097152) := by have h1 := szEns_at es k; rw [he] at h1; have h2 := HL.out; show _ ≤ _; omega
   have HAT : Hid (enOkAt es k = (isNm e.nm && HOk e.h)) := by show _ = _; unfold enOkAt enOk; rw [he]
   clear hx he
   obtain ⟨nm, ⟨s, ino, dd⟩⟩ := e
   obtain rfl : x1 = .i s := r1
   obtain rfl : x2 = .i ino := r2
   obtain rfl : x3 = .bool dd := r3
   simp only [Nat.add_zero] at c0
   dsimp only at HAT
   have RB : Hid (RdV wr S x0 (.bytes nm)) := r0
   clear r0
   have HNM : Hid (∀ W, Below wr.heap.size wr W → _) := fun W hW => specName_any x0 nm S W (RdV.step RB.out hW) HZ.out
   have HHO : Hid (∀ W, _) := fun W => specHandleOk_w (s, ino, dd) W
   obtain ⟨xa, xc, rfl⟩ := RdV.sliceB RB.out
   clear RB HZ
   generalize nm.length = xn at *
   generalize isNm nm = bn at HNM HAT
   generalize HOk (s, ino, dd) = bh at HHO HAT
   cases bn with
   | false =>
    have HF : Hid ((List.range m).all (enOkAt es) = false) := range_all_falseW _ _ k hlt (by rw [HAT.out]; rfl)
    go_wp2_with (first | (go_at_call 100; refine Calls.mono (HNM.out _ (by repeat (first | exact Below.refl _ _ | refine Below.al ?_ _ | refine below_drewN2 ?_ _))) ?_; rintro e w' ⟨rfl, rfl⟩) | (go_at_call 63; refine Calls.mono (HHO.out _) ?_; rintro e w' ⟨rfl, rfl⟩))
    go_ret
    exact ⟨by rw [HF.out]; rfl, hbel.trans (Below.mono (by repeat (first | exact Below.refl _ _ | refine Below.al ?_ _ | refine below_drewN2 ?_ _)) hbel.size)⟩
   | true =>
   cases bh with
   | false =>
    have HF : Hid ((List.range m).all (enOkAt es) = false) := range_all_falseW _ _ k hlt (by rw [HAT.out]; rfl)
    go_wp2_with (first | (go_at_call 100; refine Calls.mono (HNM.out _ (by repeat (first | exact Below.refl _ _ | refine Below.al ?_ _ | refine below_drewN2 ?_ _))) ?_; rintro e w' ⟨rfl, rfl⟩) | (go_at_call 63; refine Calls.mono (HHO.out _) ?_; rintro e w' ⟨rfl, rfl⟩))
    go_ret
    exact ⟨by rw [HF.out]; rfl, hbel.trans (Below.mono (by repeat (first | exact Below.refl _ _ | refine Below.al ?_ _ | refine below_drewN2 ?_ _)) hbel.size)⟩
   | true =>
    have HF : Hid ((List.range (k + 1)).all (enOkAt es) = true) := range_all_nextW _ _ HA.out (by rw [HAT.out]; rfl)
    go_wp2_with (first | (go_at_call 100; refine Calls.mono (HNM.out _ (by repeat (first | exact Below.refl _ _ | refine Below.al ?_ _ | refine below_drewN2 ?_ _))) ?_; rintro e w' ⟨rfl, rfl⟩) | (go_at_call 63; refine Calls.mono (HHO.out _) ?_; rintro e w' ⟨rfl, rfl⟩))
    go_roundw
    case rel => exact ⟨k + 1, by omega, by go_num, hbel.trans (Below.mono (by repeat (first | exact Below.refl _ _ | refine Below.al ?_ _ | refine below_drewN2 ?_ _)) hbel.size), vA.step (by repeat (first | exact Below.refl _ _ | refine Below.al ?_ _ | refine below_drewN2 ?_ _)), HF⟩
    case measure => simp [intOf]; omega
 ·have h6 : HOk (p, q, d) = true := by simpa [noneOk, hz] using h4
  have hz2 : ¬ (p = 0 ∧ q = 0 ∧ d = false) := by simpa [hd0] using hz
  clear h4 hz
  have hE := fun W => neH_run p q 0 0 d false W
  rw [decide_eq_false hz2] at hE
  go_enter Tryz.func58, Tryz.ntmps58
  go_wp2_with (first | (go_at_call 56; refine Calls.mono (HU.out _ _) ?_; rintro e w' ⟨rfl, rfl⟩) | (go_at_call 63; refine Calls.mono (HH.out _ _ _ _) ?_; rintro e w' ⟨rfl, rfl⟩))
  all_goals first | (exfalso; apply hz2; simp_all; done) | skip
  go_loopw [3] (fun i wr => ∃ k : Nat, k ≤ m ∧ i = .i k ∧ Below w.heap.size w wr ∧ VarA wr w.heap.size 29 #[.i rc, .i p, .i q, .bool d, .i rv, .slice a m cap] ∧ Hid ((List.range k).all (enOkAt es) = true)) (fun i _ => m - (intOf i).toNat)
  case atStart => exact ⟨0, Nat.zero_le _, rfl, (by repeat (first | exact Below.refl _ _ | refine Below.al ?_ _ | refine below_drewN2 ?_ _)), (VarA.new w _ _).alloc _, by show _ = _; simp⟩
  case round =>
   obtain ⟨k, hk, rfl, hbel, vA, HA⟩ := hrel
   obtain ⟨a0_, a1_, a2_, a3_, a4_, a5_⟩ := vA.l6
   have hvl_ := vA.lt
   by_cases hlt : k < m
   case neg =>
    have he : k = m := by omega
    subst he
    go_wp2
    go_ret
    exact ⟨by rw [HA.out]; rfl, hbel⟩
   obtain ⟨b, off, rfl, hbl, _, hx⟩ := RdV.at (HR2.out wr hbel) hlt
   obtain ⟨e, he⟩ : ∃ e, es[k]?.getD en0 = e := ⟨_, rfl⟩
   obtain ⟨x0, c0, r0⟩ := hx 0 (by omega)
   obtain ⟨x1, c1, r1⟩ := hx 1 (by omega)
   obtain ⟨x2, c2, r2⟩ := hx 2 (by omega)
   obtain ⟨x3, c3, r3⟩ := hx 3 (by omega)
   rw [he] at r0 r1 r2 r3
   have HZ : Hid (e.nm.length ≤ 2097152) := by have h1 := szEns_at es k; rw [he] at h1; have h2 := HL.out; show _ ≤ _; omega
   have HAT : Hid (enOkAt es k = (isNm e.nm && HOk e.h)) := by show _ = _; unfold enOkAt enOk; rw [he]
   clear hx he
   obtain ⟨nm, ⟨s, ino, dd⟩⟩ := e
   obtain rfl : x1 = .i s := r1
   obtain rfl : x2 = .i ino := r2
   obtain rfl : x3 = .bool dd := r3
   simp only [Nat.add_zero] at c0
   dsimp only at HAT
   have RB : Hid (RdV wr S x0 (.bytes nm)) := r0
   clear r0
   have HNM : Hid (∀ W, Below wr.heap.size wr W → _) := fun W hW => specName_any x0 nm S W (RdV.step RB.out hW) HZ.out
   have HHO : Hid (∀ W, _) := fun W => specHandleOk_w (s, ino, dd) W
   obtain ⟨xa, xc, rfl⟩ := RdV.sliceB RB.out
   clear RB HZ
   generalize nm.length = xn at *
   generalize isNm nm = bn at HNM HAT
   generalize HOk (s, ino, dd) = bh at HHO HAT
   cases bn with
   | false =>
    have HF : Hid ((List.range m).all (enOkAt es) = false) := range_all_falseW _ _ k hlt (by rw [HAT.out]; rfl)
    go_wp2_with (first | (go_at_call 100; refine Calls.mono (HNM.out _ (by repeat (first | exact Below.refl _ _ | refine Below.al ?_ _ | refine below_drewN2 ?_ _))) ?_; rintro e w' ⟨rfl, rfl⟩) | (go_at_call 63; refine Calls.mono (HHO.out _) ?_; rintro e w' ⟨rfl, rfl⟩))
    go_ret
    exact ⟨by rw [HF.out]; rfl, hbel.trans (Below.mono (by repeat (first | exact Below.refl _ _ | refine Below.al ?_ _ | refine below_drewN2 ?_ _)) hbel.size)⟩
   | true =>
   cases bh with
   | false =>
    have HF : Hid ((List.range m).all (enOkAt es) = false) := range_all_falseW _ _ k hlt (by rw [HAT.out]; rfl)
    go_wp2_with (first | (go_at_call 100; refine Calls.mono (HNM.out _ (by repeat (first | exact Below.refl _ _ | refine Below.al ?_ _ | refine below_drewN2 ?_ _))) ?_; rintro e w' ⟨rfl, rfl⟩) | (go_at_call 63; refine Calls.mono (HHO.out _) ?_; rintro e w' ⟨rfl, rfl⟩))
    go_ret
    exact ⟨by rw [HF.out]; rfl, hbel.trans (Below.mono (by repeat (first | exact Below.refl _ _ | refine Below.al ?_ _ | refine below_drewN2 ?_ _)) hbel.size)⟩
   | true =>
    have HF : Hid ((List.range (k + 1)).all (enOkAt es) = true) := range_all_nextW _ _ HA.out (by rw [HAT.out]; rfl)
    go_wp2_with (first | (go_at_call 100; refine Calls.mono (HNM.out _ (by repeat (first | exact Below.refl _ _ | refine Below.al ?_ _ | refine below_drewN2 ?_ _))) ?_; rintro e w' ⟨rfl, rfl⟩) | (go_at_call 63; refine Calls.mono (HHO.out _) ?_; rintro e w' ⟨rfl, rfl⟩))
    go_roundw
    case rel => exact ⟨k + 1, by omega, by go_num, hbel.trans (Below.mono (by repeat (first | exact Below.refl _ _ | refine Below.al ?_ _ | refine below_drewN2 ?_ _)) hbel.size), vA.step (by repeat (first | exact Below.refl _ _ | refine Below.al ?_ _ | refine below_drewN2 ?_ _)), HF⟩
    case measure => simp [intOf]; omega
set_option maxHeartbeats 4000000 in
theorem implReplyOk_any (x : Value) (o : RpD) (S : Nat → Prop) (w : World) (r : RdV w S x (ensDt o.list)) (hl : szEns o.list ≤ 2097152) :
  Calls Tryz.prog 28 #[rpV o x] w fun e w' => e = .returned (.bool (ROk o)) ∧ Below w.heap.size w w' := by
 obtain ⟨a, cap, rfl, _⟩ := RdV.sliced r
 obtain ⟨rc, ⟨p, q, d⟩, rv, es⟩ := o
 dsimp only at r hl ⊢
 have HR2 : Hid (∀ W, Below w.heap.size w W → RdV W S (.slice a es.length cap) (.rows 139 4 es.length (fun i j => enCell (es[i]?.getD en0) j))) := RdV.old r
 have hmm : es.length ≤ 2097152 := by unfold szEns at hl; omega
 have HL : Hid _ := hl
 have HH : Hid (∀ (p q : Int) (d : Bool) (W : World), Calls Tryz.prog 110 #[.agg #[.i p, .i q, .bool d]] W fun e w' => e = .returned (.bool (HOk (p, q, d))) ∧ w' = W.alloc (.cells #[.i p, .i q, .bool d] 24)) := fun p q d W => implHandleOk_w (p, q, d) W
 have HU : Hid (∀ (n : Int) (W : World), Calls Tryz.prog 107 #[.i n] W fun e w' => e = .returned (.bool (num n)) ∧ w' = W) := fun n W => isNumber_any n W
 have HC : Hid (∀ (n : Int) (W : World), Calls Tryz.prog 106 #[.i n] W fun e w' => e = .returned (.bool (decide (0 ≤ n) && decide (n ≤ 11))) ∧ w' = W) := fun n W => implCode_w n W
 have HN1 : Hid (∀ (W : World), Calls Tryz.prog 108 #[.agg #[.i p, .i q, .bool d]] W fun e w' => e = .returned (.bool (noneOk (p, q, d))) ∧ Below W.heap.size W w') := fun W => implNone_any (p, q, d) W
 obtain ⟨m, hm⟩ : ∃ m, es.length = m := ⟨_, rfl⟩
 obtain ⟨res, hres⟩ : ∃ res, ROk ⟨rc, (p, q, d), rv, es⟩ = res := ⟨_, rfl⟩
 rw [hres]
 simp only [ROk] at hres
 rw [hm] at HR2 hmm hres ⊢
 have HRES : Hid _ := hres
 clear r hl hm hres
 by_cases hA : (0 ≤ rc ∧ rc ≤ 11) ∧ (num rv = true ∧ noneOk (p, q, d) = true ∧ m ≤ 12)
 case neg =>
  have HF : Hid (res = false) := by
   rw [← HRES.out]
   show _ = _
   rw [Bool.eq_false_iff]
   intro h
   rw [Bool.and_eq_true] at h
   have h1 := h.1
   simp only [Bool.and_eq_true, decide_eq_true_eq] at h1
   exact hA h1
  rw [HF.out]
  clear HR2 HRES HF HL
  by_cases hA1 : (0 ≤ rc ∧ rc ≤ 11) ∧ num rv = true
  case neg =>
   go_enter Tryz.func28, Tryz.ntmps28
   go_wp2_with (first | (go_at_call 106; refine Calls.mono (HC.out _ _) ?_; rintro e w' ⟨rfl, rfl⟩) | (go_at_call 107; refine Calls.mono (HU.out _ _) ?_; rintro e w' ⟨rfl, rfl⟩))
   all_goals first | (go_ret; exact ⟨rfl, by repeat (first | exact Below.refl _ _ | refine Below.al ?_ _ | refine below_drewN2 ?_ _)⟩) | (exfalso; apply hA1; simp_all; done) | (exfalso; apply hA1; simp_all; omega)
  obtain ⟨⟨h1, h2⟩, h3⟩ := hA1
  have hA2 : ¬ (noneOk (p, q, d) = true ∧ m ≤ 12) := fun h => hA ⟨⟨h1, h2⟩, h3, h⟩
  clear hA
  go_enter Tryz.func28, Tryz.ntmps28
  go_wp2_with (first | (go_at_call 106; refine Calls.mono (HC.out _ _) ?_; rintro e w' ⟨rfl, rfl⟩) | (go_at_call 107; refine Calls.mono (HU.out _ _) ?_; rintro e w' ⟨rfl, rfl⟩))
  refine Calls.mono (HN1.out _) ?_
  rintro e w2 ⟨rfl, b_⟩
  have vA := VarA.step (VarA.new w _ _) b_
  have hB := (Below.newH (w := w) _).trans (b_.mono (by simp))
  clear b_
  obtain ⟨a0_, a1_, a2_, a3_, a4_, a5_⟩ := vA.l6
  go_wp2
  all_goals first | (go_ret; exact ⟨rfl, hB⟩) | (exfalso; apply hA2; simp_all; done) | (exfalso; apply hA2; simp_all; omega)
 obtain ⟨⟨h1, h2⟩, h3, h4, h5⟩ := hA
 have HRES2 : Hid ((List.range m).all (enOkAt es) = res) := by
  rw [← HRES.out]; show _ = _; simp [h1, h2, h3, h4, h5]
 rw [← HRES2.out]
 clear HRES HRES2 res
 go_enter Tryz.func28, Tryz.ntmps28
 go_wp2_with (first | (go_at_call 106; refine Calls.mono (HC.out _ _) ?_; rintro e w' ⟨rfl, rfl⟩) | (go_at_call 107; refine Calls.mono (HU.out _ _) ?_; rintro e w' ⟨rfl, rfl⟩))
 refine Calls.mono (HN1.out _) ?_
 rintro e w2 ⟨rfl, b_⟩
 have vA := VarA.step (VarA.new w _ _) b_
 have hB := (Below.newH (w := w) _).trans (b_.mono (by simp))
 clear b_
 obtain ⟨a0_, a1_, a2_, a3_, a4_, a5_⟩ := vA.l6
 go_wp2
 clear a0_ a1_ a2_ a3_ a4_ a5_
 go_loopw [30] (fun i wr => ∃ k : Nat, k ≤ m ∧ i = .i k ∧ Below w.heap.size w wr ∧ VarA wr w.heap.size 29 #[.i rc, .i p, .i q, .bool d, .i rv, .slice a m cap] ∧ Hid ((List.range k).all (enOkAt es) = true)) (fun i _ => m - (intOf i).toNat)
 case atStart => exact ⟨0, Nat.zero_le _, rfl, hB, vA, by show _ = _; simp⟩
 case round =>
  obtain ⟨k, hk, rfl, hbel, vA, HA⟩ := hrel
  obtain ⟨a0_, a1_, a2_, a3_, a4_, a5_⟩ := vA.l6
  have hvl_ := vA.lt
  by_cases hlt : k < m
  case neg =>
   have he : k = m := by omega
   subst he
   go_wp2
   go_ret
   exact ⟨by rw [HA.out]; rfl, hbel⟩
  obtain ⟨b, off, rfl, hbl, _, hx⟩ := RdV.at (HR2.out wr hbel) hlt
  obtain ⟨e, he⟩ : ∃ e, es[k]?.getD en0 = e := ⟨_, rfl⟩
  obtain ⟨x0, c0, r0⟩ := hx 0 (by omega)
  obtain ⟨x1, c1, r1⟩ := hx 1 (by omega)
  obtain ⟨x2, c2, r2⟩ := hx 2 (by omega)
  obtain ⟨x3, c3, r3⟩ := hx 3 (by omega)
  rw [he] at r0 r1 r2 r3
  have HZ : Hid (e.nm.length ≤ 2097152) := by have h1 := szEns_at es k; rw [he] at h1; have h2 := HL.out; show _ ≤ _; omega
  have HAT : Hid (enOkAt es k = (isNm e.nm && HOk e.h)) := by show _ = _; unfold enOkAt enOk; rw [he]
  clear hx he
  obtain ⟨nm, ⟨s, ino, dd⟩⟩ := e
  obtain rfl : x1 = .i s := r1
  obtain rfl : x2 = .i ino := r2
  obtain rfl : x3 = .bool dd := r3
  simp only [Nat.add_zero] at c0
  dsimp only at HAT
  have RB : Hid (RdV wr S x0 (.bytes nm)) := r0
  clear r0
  have HNM : Hid (∀ W, Below wr.heap.size wr W → _) := fun W hW => implName_any x0 nm S W (RdV.step RB.out hW) HZ.out
  have HHO : Hid (∀ W, _) := fun W => implHandleOk_w (s, ino, dd) W
  obtain ⟨xa, xc, rfl⟩ := RdV.sliceB RB.out
  clear RB HZ
  generalize nm.length = xn at *
  generalize isNm nm = bn at HNM HAT
  generalize HOk (s, ino, dd) = bh at HHO HAT
  cases bn with
  | false =>
   have HF : Hid ((List.range m).all (enOkAt es) = false) := range_all_falseW _ _ k hlt (by rw [HAT.out]; rfl)
   go_wp2_with (first | (go_at_call 109; refine Calls.mono (HNM.out _ (by repeat (first | exact Below.refl _ _ | refine Below.al ?_ _ | refine below_drewN2 ?_ _))) ?_; rintro e w' ⟨rfl, rfl⟩) | (go_at_call 110; refine Calls.mono (HHO.out _) ?_; rintro e w' ⟨rfl, rfl⟩))
   go_ret
   exact ⟨by rw [HF.out]; rfl, hbel.trans (Below.mono (by repeat (first | exact Below.refl _ _ | refine Below.al ?_ _ | refine below_drewN2 ?_ _)) hbel.size)⟩
  | true =>
  cases bh with
  | false =>
   have HF : Hid ((List.range m).all (enOkAt es) = false) := range_all_falseW _ _ k hlt (by rw [HAT.out]; rfl)
   go_wp2_with (first | (go_at_call 109; refine Calls.mono (HNM.out _ (by repeat (first | exact Below.refl _ _ | refine Below.al ?_ _ | refine below_drewN2 ?_ _))) ?_; rintro e w' ⟨rfl, rfl⟩) | (go_at_call 110; refine Calls.mono (HHO.out _) ?_; rintro e w' ⟨rfl, rfl⟩))
   go_ret
   exact ⟨by rw [HF.out]; rfl, hbel.trans (Below.mono (by repeat (first | exact Below.refl _ _ | refine Below.al ?_ _ | refine below_drewN2 ?_ _)) hbel.size)⟩
  | true =>
   have HF : Hid ((List.range (k + 1)).all (enOkAt es) = true) := range_all_nextW _ _ HA.out (by rw [HAT.out]; rfl)
   go_wp2_with (first | (go_at_call 109; refine Calls.mono (HNM.out _ (by repeat (first | exact Below.refl _ _ | refine Below.al ?_ _ | refine below_drewN2 ?_ _))) ?_; rintro e w' ⟨rfl, rfl⟩) | (go_at_call 110; refine Calls.mono (HHO.out _) ?_; rintro e w' ⟨rfl, rfl⟩))
   go_roundw
   case rel => exact ⟨k + 1, by omega, by go_num, hbel.trans (Below.mono (by repeat (first | exact Below.refl _ _ | refine Below.al ?_ _ | refine below_drewN2 ?_ _)) hbel.size), vA.step (by repeat (first | exact Below.refl _ _ | refine Below.al ?_ _ | refine below_drewN2 ?_ _)), HF⟩
   case measure => simp [intOf]; omega
end Go.Proofs.YtklhikadhohjbaaGreat
