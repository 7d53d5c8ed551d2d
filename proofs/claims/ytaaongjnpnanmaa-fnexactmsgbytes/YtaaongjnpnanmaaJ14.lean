/- Joined: WSame WMsg2 WMsg3. -/
import Derived.Test.YtaaongjnpnanmaaJ08
import Derived.Test.YtaaongjnpnanmaaJ13
import Derived.Test.YtaaongjnpnanmaaJ09
import Derived.Test.YtaaongjnpnanmaaJ04

section
/- The program compares operations, replies and parts with themselves and with the zero value. Condition: no more than 2^21 of all. -/
namespace Go.Proofs.Ytaaongjnpnanmaa
open Go.RowKit
set_option linter.unusedVariables false
set_option linter.unusedSimpArgs false
set_option maxRecDepth 100000

set_option maxHeartbeats 1000000 in
theorem bytesEq_any (v u : Value) (xs ys : List Int) (S S2 : Nat → Prop) (w : World) (r : RdV w S v (.bytes xs)) (r2 : RdV w S2 u (.bytes ys)) :
    Calls Try.prog 118 #[v, u] w fun e w' => e = .returned (.bool (decide (xs = ys))) ∧ w' = w := by
  obtain ⟨a, cap, rfl, _, hx⟩ := r.b.reads
  obtain ⟨a2, cap2, rfl, _, hy⟩ := r2.b.reads
  have h1 := conv_any a xs xs.length cap w hx rfl
  have h2 := conv_any a2 ys ys.length cap2 w hy rfl
  have hst := str_eq xs ys hx.1 hy.1
  rw [← hst]
  generalize strOfNums xs = s1 at h1 hst
  generalize strOfNums ys = s2 at h2 hst
  clear hst hx hy r r2
  generalize xs.length = n1 at *
  generalize ys.length = n2 at *
  go_enter Try.func118, Try.ntmps118
  go_wp2
  go_ret
  exact ⟨rfl, rfl⟩
theorem nilB (w : World) (S : Nat → Prop) : RdV w S (.slice none 0 0) (.bytes []) := ⟨isBytes_nil, none, 0, 0, rfl, rfl, ⟨Nat.le_refl _, Nat.zero_le _, fun _ => ⟨rfl, rfl⟩⟩, .inl rfl⟩
theorem bytesEq_self (v : Value) (xs : List Int) (S : Nat → Prop) (w : World) (r : RdV w S v (.bytes xs)) : Calls Try.prog 118 #[v, v] w fun e w' => e = .returned (.bool true) ∧ w' = w :=
  (bytesEq_any v v xs xs S S w r r).mono fun e w' ⟨he, hw⟩ => ⟨by rw [he]; simp, hw⟩
theorem bytesEq_nil (v : Value) (xs : List Int) (S : Nat → Prop) (w : World) (r : RdV w S v (.bytes xs)) : Calls Try.prog 118 #[v, .slice none 0 0] w fun e w' => e = .returned (.bool (decide (xs.length = 0))) ∧ w' = w :=
  (bytesEq_any v _ xs [] S S w r (nilB w S)).mono fun e w' ⟨he, hw⟩ => ⟨by rw [he]; cases xs <;> simp, hw⟩
set_option maxHeartbeats 2000000 in
theorem sameOp_self (x y : Value) (o : OpD) (S : Nat → Prop) (w : World) (r : RdV w S x (.bytes o.nm)) (r2 : RdV w S y (.bytes o.asn)) :
    Calls Try.prog 101 #[opV o x y, opV o x y] w fun e w' => e = .returned (.bool (true)) ∧ Below w.heap.size w w' := by
  have H1 : Hid (∀ W, Below w.heap.size w W → _) := fun W hW => bytesEq_self x o.nm S W (r.step hW)
  have H2 : Hid (∀ W, Below w.heap.size w W → _) := fun W hW => bytesEq_self y o.asn S W (r2.step hW)
  obtain ⟨a, cap, rfl⟩ := r.sliceB
  obtain ⟨a2, cap2, rfl⟩ := r2.sliceB
  obtain ⟨kd, ⟨p, q, d⟩, nm, ⟨p2, q2, d2⟩, asn, vl⟩ := o
  dsimp only at H1 H2 ⊢
  clear r r2
  skip
  generalize nm.length = n0 at *
  generalize asn.length = n1 at *
  skip
  all_goals (go_enter Try.func101, Try.ntmps101; go_wp2_with fail; all_goals first | (go_ret; refine ⟨?_, by repeat (first | exact Below.refl _ _ | refine Below.al ?_ _ | refine below_drewN2 ?_ _)⟩; first | rfl | (simp_all [hd0, Hd.sh, Hd.ino, Hd.dir]; done) | (simp_all [hd0, Hd.sh, Hd.ino, Hd.dir]; omega) | (simp_all [hd0, Hd.sh, Hd.ino, Hd.dir]; rw [Bool.eq_iff_iff]; simp; done)) | (refine Calls.mono (H1.out _ (by repeat (first | exact Below.refl _ _ | refine Below.al ?_ _ | refine below_drewN2 ?_ _))) ?_; rintro e w' ⟨rfl, rfl⟩; go_wp2_with fail; all_goals first | (go_ret; refine ⟨?_, by repeat (first | exact Below.refl _ _ | refine Below.al ?_ _ | refine below_drewN2 ?_ _)⟩; first | rfl | (simp_all [hd0, Hd.sh, Hd.ino, Hd.dir]; done) | (simp_all [hd0, Hd.sh, Hd.ino, Hd.dir]; omega) | (simp_all [hd0, Hd.sh, Hd.ino, Hd.dir]; rw [Bool.eq_iff_iff]; simp; done)) | (refine Calls.mono (H2.out _ (by repeat (first | exact Below.refl _ _ | refine Below.al ?_ _ | refine below_drewN2 ?_ _))) ?_; rintro e w' ⟨rfl, rfl⟩; go_wp2_with fail; all_goals (go_ret; refine ⟨?_, by repeat (first | exact Below.refl _ _ | refine Below.al ?_ _ | refine below_drewN2 ?_ _)⟩; first | rfl | (simp_all [hd0, Hd.sh, Hd.ino, Hd.dir]; done) | (simp_all [hd0, Hd.sh, Hd.ino, Hd.dir]; omega) | (simp_all [hd0, Hd.sh, Hd.ino, Hd.dir]; rw [Bool.eq_iff_iff]; simp; done)))))
set_option maxHeartbeats 2000000 in
theorem sameOp_zero (x y : Value) (o : OpD) (S : Nat → Prop) (w : World) (r : RdV w S x (.bytes o.nm)) (r2 : RdV w S y (.bytes o.asn)) :
    Calls Try.prog 101 #[opV o x y, opV op0 (.slice none 0 0) (.slice none 0 0)] w fun e w' => e = .returned (.bool (zOp o)) ∧ Below w.heap.size w w' := by
  have H1 : Hid (∀ W, Below w.heap.size w W → _) := fun W hW => bytesEq_nil x o.nm S W (r.step hW)
  have H2 : Hid (∀ W, Below w.heap.size w W → _) := fun W hW => bytesEq_nil y o.asn S W (r2.step hW)
  obtain ⟨a, cap, rfl⟩ := r.sliceB
  obtain ⟨a2, cap2, rfl⟩ := r2.sliceB
  obtain ⟨kd, ⟨p, q, d⟩, nm, ⟨p2, q2, d2⟩, asn, vl⟩ := o
  dsimp only at H1 H2 ⊢
  clear r r2
  simp only [zOp, op0, hd0]
  generalize nm.length = n0 at *
  generalize asn.length = n1 at *
  by_cases hn0 : n0 = 0 <;> by_cases hn1 : n1 = 0 <;> simp only [hn0, hn1, decide_true, decide_false] at H1 H2 ⊢
  all_goals (go_enter Try.func101, Try.ntmps101; go_wp2_with fail; all_goals first | (go_ret; refine ⟨?_, by repeat (first | exact Below.refl _ _ | refine Below.al ?_ _ | refine below_drewN2 ?_ _)⟩; first | rfl | (simp_all [hd0, Hd.sh, Hd.ino, Hd.dir]; done) | (simp_all [hd0, Hd.sh, Hd.ino, Hd.dir]; omega) | (simp_all [hd0, Hd.sh, Hd.ino, Hd.dir]; rw [Bool.eq_iff_iff]; simp; done)) | (refine Calls.mono (H1.out _ (by repeat (first | exact Below.refl _ _ | refine Below.al ?_ _ | refine below_drewN2 ?_ _))) ?_; rintro e w' ⟨rfl, rfl⟩; go_wp2_with fail; all_goals first | (go_ret; refine ⟨?_, by repeat (first | exact Below.refl _ _ | refine Below.al ?_ _ | refine below_drewN2 ?_ _)⟩; first | rfl | (simp_all [hd0, Hd.sh, Hd.ino, Hd.dir]; done) | (simp_all [hd0, Hd.sh, Hd.ino, Hd.dir]; omega) | (simp_all [hd0, Hd.sh, Hd.ino, Hd.dir]; rw [Bool.eq_iff_iff]; simp; done)) | (refine Calls.mono (H2.out _ (by repeat (first | exact Below.refl _ _ | refine Below.al ?_ _ | refine below_drewN2 ?_ _))) ?_; rintro e w' ⟨rfl, rfl⟩; go_wp2_with fail; all_goals (go_ret; refine ⟨?_, by repeat (first | exact Below.refl _ _ | refine Below.al ?_ _ | refine below_drewN2 ?_ _)⟩; first | rfl | (simp_all [hd0, Hd.sh, Hd.ino, Hd.dir]; done) | (simp_all [hd0, Hd.sh, Hd.ino, Hd.dir]; omega) | (simp_all [hd0, Hd.sh, Hd.ino, Hd.dir]; rw [Bool.eq_iff_iff]; simp; done)))))
set_option maxHeartbeats 2000000 in
theorem samePart_self (x : Value) (o : PtD) (S : Nat → Prop) (w : World) (r : RdV w S x (.bytes o.asn)) :
    Calls Try.prog 103 #[ptV o x, ptV o x] w fun e w' => e = .returned (.bool (true)) ∧ Below w.heap.size w w' := by
  have H1 : Hid (∀ W, Below w.heap.size w W → _) := fun W hW => bytesEq_self x o.asn S W (r.step hW)
  obtain ⟨a, cap, rfl⟩ := r.sliceB
  obtain ⟨kd, ⟨p, q, d⟩, nm, ⟨p2, q2, d2⟩⟩ := o
  dsimp only at H1 ⊢
  clear r
  skip
  generalize nm.length = n0 at *
  skip
  all_goals (go_enter Try.func103, Try.ntmps103; go_wp2_with fail; all_goals first | (go_ret; refine ⟨?_, by repeat (first | exact Below.refl _ _ | refine Below.al ?_ _ | refine below_drewN2 ?_ _)⟩; first | rfl | (simp_all [hd0, Hd.sh, Hd.ino, Hd.dir]; done) | (simp_all [hd0, Hd.sh, Hd.ino, Hd.dir]; omega) | (simp_all [hd0, Hd.sh, Hd.ino, Hd.dir]; rw [Bool.eq_iff_iff]; simp; done)) | (refine Calls.mono (H1.out _ (by repeat (first | exact Below.refl _ _ | refine Below.al ?_ _ | refine below_drewN2 ?_ _))) ?_; rintro e w' ⟨rfl, rfl⟩; go_wp2_with fail; all_goals (go_ret; refine ⟨?_, by repeat (first | exact Below.refl _ _ | refine Below.al ?_ _ | refine below_drewN2 ?_ _)⟩; first | rfl | (simp_all [hd0, Hd.sh, Hd.ino, Hd.dir]; done) | (simp_all [hd0, Hd.sh, Hd.ino, Hd.dir]; omega) | (simp_all [hd0, Hd.sh, Hd.ino, Hd.dir]; rw [Bool.eq_iff_iff]; simp; done))))
set_option maxHeartbeats 2000000 in
theorem samePart_zero (x : Value) (o : PtD) (S : Nat → Prop) (w : World) (r : RdV w S x (.bytes o.asn)) :
    Calls Try.prog 103 #[ptV o x, ptV pt0 (.slice none 0 0)] w fun e w' => e = .returned (.bool (zPt o)) ∧ Below w.heap.size w w' := by
  have H1 : Hid (∀ W, Below w.heap.size w W → _) := fun W hW => bytesEq_nil x o.asn S W (r.step hW)
  obtain ⟨a, cap, rfl⟩ := r.sliceB
  obtain ⟨kd, ⟨p, q, d⟩, nm, ⟨p2, q2, d2⟩⟩ := o
  dsimp only at H1 ⊢
  clear r
  simp only [zPt, pt0, hd0]
  generalize nm.length = n0 at *
  by_cases hn0 : n0 = 0 <;> simp only [hn0, decide_true, decide_false] at H1 ⊢
  all_goals (go_enter Try.func103, Try.ntmps103; go_wp2_with fail; all_goals first | (go_ret; refine ⟨?_, by repeat (first | exact Below.refl _ _ | refine Below.al ?_ _ | refine below_drewN2 ?_ _)⟩; first | rfl | (simp_all [hd0, Hd.sh, Hd.ino, Hd.dir]; done) | (simp_all [hd0, Hd.sh, Hd.ino, Hd.dir]; omega) | (simp_all [hd0, Hd.sh, Hd.ino, Hd.dir]; rw [Bool.eq_iff_iff]; simp; done)) | (refine Calls.mono (H1.out _ (by repeat (first | exact Below.refl _ _ | refine Below.al ?_ _ | refine below_drewN2 ?_ _))) ?_; rintro e w' ⟨rfl, rfl⟩; go_wp2_with fail; all_goals (go_ret; refine ⟨?_, by repeat (first | exact Below.refl _ _ | refine Below.al ?_ _ | refine below_drewN2 ?_ _)⟩; first | rfl | (simp_all [hd0, Hd.sh, Hd.ino, Hd.dir]; done) | (simp_all [hd0, Hd.sh, Hd.ino, Hd.dir]; omega) | (simp_all [hd0, Hd.sh, Hd.ino, Hd.dir]; rw [Bool.eq_iff_iff]; simp; done))))
set_option maxHeartbeats 2000000 in
theorem sameEntry_self (x : Value) (e : En) (S : Nat → Prop) (w : World) (r : RdV w S x (.bytes e.nm)) :
    Calls Try.prog 120 #[enV x e.h, enV x e.h] w fun q w' => q = .returned (.bool true) ∧ Below w.heap.size w w' := by
  have H1 : Hid (∀ W, Below w.heap.size w W → _) := fun W hW => bytesEq_self x e.nm S W (r.step hW)
  obtain ⟨a, cap, rfl⟩ := r.sliceB
  obtain ⟨nm, ⟨p, q, d⟩⟩ := e
  dsimp only at H1 ⊢
  clear r
  generalize nm.length = n0 at *
  go_enter Try.func120, Try.ntmps120
  go_wp2_with fail
  all_goals first | (go_ret; refine ⟨?_, by repeat (first | exact Below.refl _ _ | refine Below.al ?_ _ | refine below_drewN2 ?_ _)⟩; first | rfl | (simp_all [hd0, Hd.sh, Hd.ino, Hd.dir]; done) | (simp_all [hd0, Hd.sh, Hd.ino, Hd.dir]; omega) | (simp_all [hd0, Hd.sh, Hd.ino, Hd.dir]; rw [Bool.eq_iff_iff]; simp; done)) | (refine Calls.mono (H1.out _ (by repeat (first | exact Below.refl _ _ | refine Below.al ?_ _ | refine below_drewN2 ?_ _))) ?_; rintro e w' ⟨rfl, rfl⟩; go_wp2_with fail; all_goals (go_ret; refine ⟨?_, by repeat (first | exact Below.refl _ _ | refine Below.al ?_ _ | refine below_drewN2 ?_ _)⟩; first | rfl | (simp_all [hd0, Hd.sh, Hd.ino, Hd.dir]; done) | (simp_all [hd0, Hd.sh, Hd.ino, Hd.dir]; omega) | (simp_all [hd0, Hd.sh, Hd.ino, Hd.dir]; rw [Bool.eq_iff_iff]; simp; done)))
set_option maxHeartbeats 2000000 in
theorem equalFunc_nil (a : Option Addr) (n cap : Nat) (w : World) :
    Calls Try.prog 119 #[.slice a n cap, .slice none 0 0, .func (.func 120) #[] #[]] w fun q w' => q = .returned (.bool (decide (n = 0))) ∧ Below w.heap.size w w' := by
  by_cases h0 : n = 0
  · subst h0
    go_enter Try.func119, Try.ntmps119
    go_wp2
    go_loopw [17] (fun i wr => i = .int .i64 0 ∧ wr = w) (fun _ _ => 0)
    case atStart => exact ⟨rfl, rfl⟩
    case round =>
      obtain ⟨rfl, rfl⟩ := hrel
      go_wp2
      go_ret
      exact ⟨rfl, Below.refl _ _⟩
  · simp only [h0, decide_false]
    go_enter Try.func119, Try.ntmps119
    go_wp2
    all_goals first | (go_ret; exact ⟨rfl, Below.refl _ _⟩) | (exfalso; omega)
set_option maxHeartbeats 2000000 in
theorem equalFunc_self (v : Value) (l : List En) (S : Nat → Prop) (w : World) (r : RdV w S v (ensDt l)) (hl : szEns l ≤ 2097152) :
    Calls Try.prog 119 #[v, v, .func (.func 120) #[] #[]] w fun q w' => q = .returned (.bool true) ∧ Below w.heap.size w w' := by
  obtain ⟨a, cap, rfl, _⟩ := RdV.sliced r
  have HR2 : Hid (∀ W, Below w.heap.size w W → RdV W S (.slice a l.length cap) (.rows 89 4 l.length (fun i j => enCell (l[i]?.getD en0) j))) := RdV.old r
  have hmm : l.length ≤ 2097152 := by unfold szEns at hl; omega
  obtain ⟨m, hm⟩ : ∃ m, l.length = m := ⟨_, rfl⟩
  rw [hm] at HR2 hmm ⊢
  clear r hl hm
  go_enter Try.func119, Try.ntmps119
  go_wp2
  go_loopw [17] (fun i wr => ∃ k : Nat, k ≤ m ∧ i = .int .i64 k ∧ Below w.heap.size w wr) (fun i _ => m - (intOf i).toNat)
  case atStart => exact ⟨0, Nat.zero_le _, rfl, Below.refl _ _⟩
  case round =>
    obtain ⟨k, hk, rfl, hbel⟩ := hrel
    by_cases hlt : k < m
    case neg =>
      have he : k = m := by omega
      subst he
      go_wp2
      go_ret
      exact ⟨rfl, hbel⟩
    obtain ⟨b, off, rfl, hbl, _, hx⟩ := RdV.at (HR2.out wr hbel) hlt
    obtain ⟨x0, c0, r0⟩ := hx 0 (by omega)
    obtain ⟨x1, c1, r1⟩ := hx 1 (by omega)
    obtain ⟨x2, c2, r2⟩ := hx 2 (by omega)
    obtain ⟨x3, c3, r3⟩ := hx 3 (by omega)
    generalize l[k]?.getD en0 = e at r0 r1 r2 r3
    clear hx
    have HSE : Hid (∀ W, Below wr.heap.size wr W → _) := fun W hW => sameEntry_self x0 e S W (RdV.step (show RdV wr S x0 (.bytes e.nm) from r0) hW)
    obtain ⟨nm, ⟨s, ino, dd⟩⟩ := e
    obtain rfl : x1 = .int .i64 s := r1
    obtain rfl : x2 = .int .i64 ino := r2
    obtain rfl : x3 = .bool dd := r3
    simp only [Nat.add_zero] at c0
    obtain ⟨xa, xc, rfl⟩ := RdV.sliceB (show RdV wr S x0 (.bytes nm) from r0)
    clear r0 HR2
    generalize nm.length = xn at *
    go_wp2_with (go_at_call 120; refine Calls.mono (HSE.out _ (by repeat (first | exact Below.refl _ _ | refine Below.al ?_ _ | refine below_drewN2 ?_ _))) ?_; rintro e w' ⟨rfl, b_⟩)
    exact ⟨⟨k + 1, by omega, by go_num, hbel.trans ((Below.trans (by repeat (first | exact Below.refl _ _ | refine Below.al ?_ _ | refine below_drewN2 ?_ _)) (b_.mono (by simp <;> omega))).mono hbel.size)⟩, by simp [intOf]; omega⟩
set_option maxHeartbeats 2000000 in
theorem sameReply_self (x : Value) (o : RpD) (S : Nat → Prop) (w : World) (r : RdV w S x (ensDt o.list)) (hl : szEns o.list ≤ 2097152) :
    Calls Try.prog 102 #[rpV o x, rpV o x] w fun e w' => e = .returned (.bool true) ∧ Below w.heap.size w w' := by
  have H1 : Hid (∀ W, Below w.heap.size w W → _) := fun W hW => equalFunc_self x o.list S W (r.step hW) hl
  obtain ⟨a, cap, rfl, _⟩ := RdV.sliced r
  obtain ⟨kd, ⟨p, q, d⟩, vl, es⟩ := o
  dsimp only at H1 ⊢
  clear r hl
  generalize es.length = n0 at *
  go_enter Try.func102, Try.ntmps102
  go_wp2_with fail
  refine Calls.mono (H1.out _ (by repeat (first | exact Below.refl _ _ | refine Below.al ?_ _ | refine below_drewN2 ?_ _))) ?_
  rintro e w' ⟨rfl, b_⟩
  go_wp2
  go_ret
  exact ⟨rfl, Below.trans (by repeat (first | exact Below.refl _ _ | refine Below.al ?_ _ | refine below_drewN2 ?_ _)) (b_.mono (by simp <;> omega))⟩
set_option maxHeartbeats 2000000 in
theorem sameReply_zero (x : Value) (o : RpD) (S : Nat → Prop) (w : World) (r : RdV w S x (ensDt o.list)) :
    Calls Try.prog 102 #[rpV o x, rpV rp0 (.slice none 0 0)] w fun e w' => e = .returned (.bool (zRp o)) ∧ Below w.heap.size w w' := by
  obtain ⟨a, cap, rfl, _⟩ := RdV.sliced r
  have H1 : Hid (∀ W, _) := fun W => equalFunc_nil a o.list.length cap W
  obtain ⟨kd, ⟨p, q, d⟩, vl, es⟩ := o
  dsimp only at H1 ⊢
  clear r
  simp only [zRp, rp0, hd0]
  generalize es.length = n0 at *
  by_cases hn0 : n0 = 0 <;> simp only [hn0, decide_true, decide_false] at H1 ⊢
  all_goals
    go_enter Try.func102, Try.ntmps102
    go_wp2_with fail
    all_goals first | (go_ret; refine ⟨?_, by repeat (first | exact Below.refl _ _ | refine Below.al ?_ _ | refine below_drewN2 ?_ _)⟩; first | rfl | (simp_all [hd0, Hd.sh, Hd.ino, Hd.dir]; done) | (simp_all [hd0, Hd.sh, Hd.ino, Hd.dir]; omega) | (simp_all [hd0, Hd.sh, Hd.ino, Hd.dir]; rw [Bool.eq_iff_iff]; simp; done)) | (refine Calls.mono (H1.out _) ?_; rintro e w' ⟨rfl, b_⟩; go_wp2; all_goals (go_ret; refine ⟨?_, Below.trans (by repeat (first | exact Below.refl _ _ | refine Below.al ?_ _ | refine below_drewN2 ?_ _)) (b_.mono (by simp <;> omega))⟩; first | rfl | (simp_all [hd0, Hd.sh, Hd.ino, Hd.dir]; done) | (simp_all [hd0, Hd.sh, Hd.ino, Hd.dir]; omega)))
end Go.Proofs.Ytaaongjnpnanmaa
end

section
/- The program compares two messages of one head. Condition: what the comparisons of their parts answer. -/
namespace Go.Proofs.Ytaaongjnpnanmaa
open Go.RowKit
set_option linter.unusedVariables false
set_option linter.unusedSimpArgs false
set_option maxRecDepth 100000

theorem eqT_run (p q d s i e : Int) (w : World) : (binOp .eql 36 (.agg #[.int .i64 p, .int .i64 q, .int .i64 d]) (.agg #[.int .i64 s, .int .i64 i, .int .i64 e])).run Try.prog w = .ok (.bool (decide (p = s ∧ q = i ∧ d = e))) w := by
  by_cases h1 : p = s
  · subst h1
    by_cases h2 : q = i
    · subst h2
      by_cases h3 : d = e
      · subst h3
        simp [go_sem]
      · have g : (d == e) = false := by simpa using h3
        simp [go_sem, g, h3]
    · have g : (q == i) = false := by simpa using h2
      simp [go_sem, g, h2]
  · have g : (p == s) = false := by simpa using h1
    simp [go_sem, g, h1]
set_option maxHeartbeats 8000000 in
theorem sameMsg_any (kd fr to rq rq2 cd cd2 : Int) (o oz : OpD) (r rz : RpD) (t tz : TxD) (p pz : PtD) (h hz : Hd) (a1 a2 a3 a4 : Option Addr) (n1 n2 n3 n4 c1 c2 c3 c4 : Nat) (a1z a2z a3z a4z : Option Addr) (n1z n2z n3z n4z c1z c2z c3z c4z : Nat) (bo br bp : Bool) (w : World)
    (H1 : ∀ W, Below w.heap.size w W → Calls Try.prog 101 #[opV o (.slice a1 n1 c1) (.slice a2 n2 c2), opV oz (.slice a1z n1z c1z) (.slice a2z n2z c2z)] W fun e w' => e = .returned (.bool bo) ∧ Below W.heap.size W w')
    (H2 : ∀ W, Below w.heap.size w W → Calls Try.prog 102 #[rpV r (.slice a3 n3 c3), rpV rz (.slice a3z n3z c3z)] W fun e w' => e = .returned (.bool br) ∧ Below W.heap.size W w')
    (H3 : ∀ W, Below w.heap.size w W → Calls Try.prog 103 #[ptV p (.slice a4 n4 c4), ptV pz (.slice a4z n4z c4z)] W fun e w' => e = .returned (.bool bp) ∧ Below W.heap.size W w') :
    Calls Try.prog 79 #[msV ⟨kd, fr, to, rq, o, r, t, p, cd, h⟩ (.slice a1 n1 c1) (.slice a2 n2 c2) (.slice a3 n3 c3) (.slice a4 n4 c4), msV ⟨kd, fr, to, rq2, oz, rz, tz, pz, cd2, hz⟩ (.slice a1z n1z c1z) (.slice a2z n2z c2z) (.slice a3z n3z c3z) (.slice a4z n4z c4z)] w
      fun e w' => e = .returned (.bool (decide (rq = rq2) && (bo && (br && (decide (t = tz) && (bp && (decide (cd = cd2) && decide (h = hz)))))))) ∧ Below w.heap.size w w' := by
  obtain ⟨ok, ⟨op, oq, od⟩, nm, ⟨tp, tq, td⟩, asn, ov⟩ := o
  obtain ⟨rc, ⟨rhp, rhq, rhd⟩, rv, es⟩ := r
  obtain ⟨xs, xb, xn⟩ := t
  obtain ⟨pk, ⟨pp, pq, pd⟩, pas, ⟨sp, sq, sd⟩⟩ := p
  obtain ⟨hp, hq, hd⟩ := h
  obtain ⟨okz, ⟨opz, oqz, odz⟩, nmz, ⟨tpz, tqz, tdz⟩, asnz, ovz⟩ := oz
  obtain ⟨rcz, ⟨rhpz, rhqz, rhdz⟩, rvz, esz⟩ := rz
  obtain ⟨xsz, xbz, xnz⟩ := tz
  obtain ⟨pkz, ⟨ppz, pqz, pdz⟩, pasz, ⟨spz, sqz, sdz⟩⟩ := pz
  obtain ⟨hpz, hqz, hdz⟩ := hz
  try dsimp only at H1 H2 H3 ⊢
  have HC1 : Hid _ := H1
  have HC2 : Hid _ := H2
  have HC3 : Hid _ := H3
  clear H1 H2 H3
  have hT := fun W => eqT_run xs xb xn xsz xbz xnz W
  have hE := fun W => eqH_run hp hq hpz hqz hd hdz W
  obtain ⟨res, hres⟩ : ∃ res, (decide (rq = rq2) && (bo && (br && (decide ((xs, xb, xn) = (xsz, xbz, xnz)) && (bp && (decide (cd = cd2) && decide ((hp, hq, hd) = (hpz, hqz, hdz)))))))) = res := ⟨_, rfl⟩
  rw [hres]
  simp only [Prod.mk.injEq] at hres
  have HRES : Hid _ := hres
  clear hres
  generalize hbt : decide (xs = xsz ∧ xb = xbz ∧ xn = xnz) = bt at hT HRES
  generalize hbh : decide (hp = hpz ∧ hq = hqz ∧ hd = hdz) = bh at hE HRES
  clear hbt hbh
  by_cases hrq : rq = rq2
  case neg =>
    go_enter Try.func79, Try.ntmps79
    go_wp2_with fail
    (clear HC1 HC2 HC3 hT hE; go_ret; refine ⟨?_, Below.newH2 _ _⟩; (rw [← HRES.out]; clear HRES; first | rfl | (simp_all; done) | (simp_all; omega) | (simp_all; rw [Bool.eq_iff_iff]; simp; done)))
  subst hrq
  go_enter Try.func79, Try.ntmps79
  go_wp2_with fail
  all_goals first
    | (clear HC1 HC2 HC3 hT hE; go_ret; refine ⟨?_, Below.newH2 _ _⟩; (rw [← HRES.out]; clear HRES; first | rfl | (simp_all; done) | (simp_all; omega) | (simp_all; rw [Bool.eq_iff_iff]; simp; done)))
    | (refine Calls.mono (HC1.out _ (Below.newH2 _ _)) ?_; rintro e w2 ⟨rfl, b_⟩; have vA : VarA w2 w.heap.size 72 #[.int .i64 kd, .int .i64 fr, .int .i64 to, .int .i64 rq, .int .i64 ok, .int .i64 op, .int .i64 oq, .bool od, .slice a1 n1 c1, .int .i64 tp, .int .i64 tq, .bool td, .slice a2 n2 c2, .int .i64 ov, .int .i64 rc, .int .i64 rhp, .int .i64 rhq, .bool rhd, .int .i64 rv, .slice a3 n3 c3, .int .i64 xs, .int .i64 xb, .int .i64 xn, .int .i64 pk, .int .i64 pp, .int .i64 pq, .bool pd, .slice a4 n4 c4, .int .i64 sp, .int .i64 sq, .bool sd, .int .i64 cd, .int .i64 hp, .int .i64 hq, .bool hd] := VarA.step ((VarA.new w _ _).alloc _) b_; have vB : VarA w2 (w.heap.size + 1) 72 #[.int .i64 kd, .int .i64 fr, .int .i64 to, .int .i64 rq, .int .i64 okz, .int .i64 opz, .int .i64 oqz, .bool odz, .slice a1z n1z c1z, .int .i64 tpz, .int .i64 tqz, .bool tdz, .slice a2z n2z c2z, .int .i64 ovz, .int .i64 rcz, .int .i64 rhpz, .int .i64 rhqz, .bool rhdz, .int .i64 rvz, .slice a3z n3z c3z, .int .i64 xsz, .int .i64 xbz, .int .i64 xnz, .int .i64 pkz, .int .i64 ppz, .int .i64 pqz, .bool pdz, .slice a4z n4z c4z, .int .i64 spz, .int .i64 sqz, .bool sdz, .int .i64 cd2, .int .i64 hpz, .int .i64 hqz, .bool hdz] := (by have := VarA.step (VarA.new (w.alloc _) _ _) b_; simpa using this); have HB : Hid _ := (Below.newH2 (w := w) _ _).trans (b_.mono (by simp; omega)); clear b_; obtain ⟨a0_, a1_, a2_, a3_, a4_, a5_, a6_, a7_, a8_, a9_, a10_, a11_, a12_, a13_, a14_, a15_, a16_, a17_, a18_, a19_, a20_, a21_, a22_, a23_, a24_, a25_, a26_, a27_, a28_, a29_, a30_, a31_, a32_, a33_, a34_⟩ := vA.l35; obtain ⟨b0_, b1_, b2_, b3_, b4_, b5_, b6_, b7_, b8_, b9_, b10_, b11_, b12_, b13_, b14_, b15_, b16_, b17_, b18_, b19_, b20_, b21_, b22_, b23_, b24_, b25_, b26_, b27_, b28_, b29_, b30_, b31_, b32_, b33_, b34_⟩ := vB.l35; go_wp2_with fail
       all_goals first
        | (clear HC1 HC2 HC3 hT hE; go_ret; refine ⟨?_, HB.out⟩; (rw [← HRES.out]; clear HRES; first | rfl | (simp_all; done) | (simp_all; omega) | (simp_all; rw [Bool.eq_iff_iff]; simp; done)))
        | (refine Calls.mono (HC2.out _ HB.out) ?_; rintro e w3 ⟨rfl, b_⟩; have vA_ := vA.step b_; have vB_ := vB.step b_; have HB_ : Hid _ := HB.out.trans (b_.mono HB.out.size); clear vA vB HB b_ a0_ a1_ a2_ a3_ a4_ a5_ a6_ a7_ a8_ a9_ a10_ a11_ a12_ a13_ a14_ a15_ a16_ a17_ a18_ a19_ a20_ a21_ a22_ a23_ a24_ a25_ a26_ a27_ a28_ a29_ a30_ a31_ a32_ a33_ a34_ b0_ b1_ b2_ b3_ b4_ b5_ b6_ b7_ b8_ b9_ b10_ b11_ b12_ b13_ b14_ b15_ b16_ b17_ b18_ b19_ b20_ b21_ b22_ b23_ b24_ b25_ b26_ b27_ b28_ b29_ b30_ b31_ b32_ b33_ b34_; have vA := vA_; have vB := vB_; have HB := HB_; clear vA_ vB_ HB_; obtain ⟨a0_, a1_, a2_, a3_, a4_, a5_, a6_, a7_, a8_, a9_, a10_, a11_, a12_, a13_, a14_, a15_, a16_, a17_, a18_, a19_, a20_, a21_, a22_, a23_, a24_, a25_, a26_, a27_, a28_, a29_, a30_, a31_, a32_, a33_, a34_⟩ := vA.l35; obtain ⟨b0_, b1_, b2_, b3_, b4_, b5_, b6_, b7_, b8_, b9_, b10_, b11_, b12_, b13_, b14_, b15_, b16_, b17_, b18_, b19_, b20_, b21_, b22_, b23_, b24_, b25_, b26_, b27_, b28_, b29_, b30_, b31_, b32_, b33_, b34_⟩ := vB.l35; go_wp2_with fail
           all_goals first
            | (clear HC1 HC2 HC3 hT hE; go_ret; refine ⟨?_, HB.out⟩; (rw [← HRES.out]; clear HRES; first | rfl | (simp_all; done) | (simp_all; omega) | (simp_all; rw [Bool.eq_iff_iff]; simp; done)))
            | (refine Calls.mono (HC3.out _ HB.out) ?_; rintro e w4 ⟨rfl, b_⟩; have vA_ := vA.step b_; have vB_ := vB.step b_; have HB_ : Hid _ := HB.out.trans (b_.mono HB.out.size); clear vA vB HB b_ a0_ a1_ a2_ a3_ a4_ a5_ a6_ a7_ a8_ a9_ a10_ a11_ a12_ a13_ a14_ a15_ a16_ a17_ a18_ a19_ a20_ a21_ a22_ a23_ a24_ a25_ a26_ a27_ a28_ a29_ a30_ a31_ a32_ a33_ a34_ b0_ b1_ b2_ b3_ b4_ b5_ b6_ b7_ b8_ b9_ b10_ b11_ b12_ b13_ b14_ b15_ b16_ b17_ b18_ b19_ b20_ b21_ b22_ b23_ b24_ b25_ b26_ b27_ b28_ b29_ b30_ b31_ b32_ b33_ b34_; have vA := vA_; have vB := vB_; have HB := HB_; clear vA_ vB_ HB_; obtain ⟨a0_, a1_, a2_, a3_, a4_, a5_, a6_, a7_, a8_, a9_, a10_, a11_, a12_, a13_, a14_, a15_, a16_, a17_, a18_, a19_, a20_, a21_, a22_, a23_, a24_, a25_, a26_, a27_, a28_, a29_, a30_, a31_, a32_, a33_, a34_⟩ := vA.l35; obtain ⟨b0_, b1_, b2_, b3_, b4_, b5_, b6_, b7_, b8_, b9_, b10_, b11_, b12_, b13_, b14_, b15_, b16_, b17_, b18_, b19_, b20_, b21_, b22_, b23_, b24_, b25_, b26_, b27_, b28_, b29_, b30_, b31_, b32_, b33_, b34_⟩ := vB.l35; go_wp2_with fail
               all_goals (clear HC1 HC2 HC3 hT hE; go_ret; refine ⟨?_, HB.out⟩; (rw [← HRES.out]; clear HRES; first | rfl | (simp_all; done) | (simp_all; omega) | (simp_all; rw [Bool.eq_iff_iff]; simp; done))))))
end Go.Proofs.Ytaaongjnpnanmaa
end

section
/- What the program takes of a message, kind by kind; no condition. -/
namespace Go.Proofs.Ytaaongjnpnanmaa
open Go.RowKit
set_option linter.unusedVariables false
set_option linter.unusedSimpArgs false
set_option maxRecDepth 100000

theorem VarA.new1 (w : World) (o : Obj) (T : TypeId) (cs : Array Value) : VarA ((w.alloc o).alloc (.cells cs T)) (w.heap.size + 1) T cs := by simpa using VarA.new (w.alloc o) T cs
theorem assert_hit {P : Program} {t xT : TypeId} {d : TypeDesc} (hu : P.underlying t = some d) (hd : (match d with | .interface _ => false | _ => true) = true) (v : Value) (w : World) :
    (Instr.typeAssert (.iface t v) xT t true).run P w = .ok (.tuple #[v, .bool true]) w := by
  cases d <;> simp_all [Instr.typeAssert, run_underlying hu]
theorem assert_miss {P : Program} {t a xT : TypeId} {d : TypeDesc} {z : Value} (hu : P.underlying a = some d) (hd : (match d with | .interface _ => false | _ => true) = true) (hne : t ≠ a) (hz : (P.info? a).map (·.zero) = some (some z)) (v : Value) (w : World) :
    (Instr.typeAssert (.iface t v) xT a true).run P w = .ok (.tuple #[z, .bool false]) w := by
  obtain ⟨j, hj, hz'⟩ := Option.map_eq_some_iff.1 hz
  cases d <;> simp_all [Instr.typeAssert, run_underlying hu, zeroValue, typeInfo]
set_option maxHeartbeats 4000000 in
theorem headOf_any (m : MsD) (a1 a2 a3 a4 : Option Addr) (n1 n2 n3 n4 c1 c2 c3 c4 : Nat) (w : World) :
    Calls Try.prog 80 #[msV m (.slice a1 n1 c1) (.slice a2 n2 c2) (.slice a3 n3 c3) (.slice a4 n4 c4)] w fun e w' => e = .returned (msV ⟨m.kind, m.fr, m.to, 0, op0, rp0, tx0, pt0, 0, hd0⟩ (.slice none 0 0) (.slice none 0 0) (.slice none 0 0) (.slice none 0 0)) ∧ Below w.heap.size w w' := by
  obtain ⟨kd, fr, to, rq, ⟨ok, ⟨op_, oq, od⟩, nm, ⟨tp, tq, td⟩, asn, ov⟩, ⟨rc, ⟨rp_, rq_, rd⟩, rv, es⟩, ⟨xs, xb, xn⟩, ⟨pk, ⟨pp, pq, pd⟩, pas, ⟨sp, sq, sd⟩⟩, cd, ⟨hp, hq, hd⟩⟩ := m
  simp only [op0, rp0, tx0, pt0, hd0]
  go_enter Try.func80, Try.ntmps80
  repeat (first | (with_reducible refine guardStore (ty := 72) ?_; refine wpList_storeF (VarA.new1 _ _ _ _) rfl rfl (by kernel_rfl) rfl (of_decide_eq_true rfl) rfl ?_; intro w' vR t_) | go_values | go_skip | go_guarded | go_step | go_upon)
  refine bodyPost_ret (results_cell_row Try.results80 _ _ _ _ _ _ _ rfl vR Try.underlying72 rfl (by kernel_rfl)) rfl ⟨rfl, ?_⟩
  exact Turned.below (Below.newH2 _ _) (t_.one (S := fun b => w.heap.size ≤ b) (by omega)) (by simp; omega) (fun i hi => hi)
end Go.Proofs.Ytaaongjnpnanmaa
end
