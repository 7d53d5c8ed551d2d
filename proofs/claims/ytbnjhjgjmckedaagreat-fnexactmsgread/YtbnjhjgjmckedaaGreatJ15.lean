/- Joined: WSame WMsg2 WMsg3 MdX. -/
import Derived.Test.YtbnjhjgjmckedaaGreatJ10
import Derived.Test.YtbnjhjgjmckedaaGreatJ14
import Derived.Test.YtbnjhjgjmckedaaGreatJ11
import Derived.Test.YtbnjhjgjmckedaaGreatJ04
import Derived.Test.YtbnjhjgjmckedaaGreatJ05
import Derived.Test.YtbnjhjgjmckedaaGreatJ07
import Derived.Laws.ResultCell

section
/- The program compares operations, replies and parts with themselves and with the zero value. Condition: no more than 2^21 of all. -/
namespace Go.Proofs.YtbnjhjgjmckedaaGreat
open Go.RowKit
set_option linter.unusedVariables false
set_option linter.unusedSimpArgs false
set_option maxRecDepth 100000

set_option maxHeartbeats 1000000 in
theorem bytesEq_any (v u : Value) (xs ys : List Int) (S S2 : Nat → Prop) (w : World) (r : RdV w S v (.bytes xs)) (r2 : RdV w S2 u (.bytes ys)) :
    Calls Tryz.prog 110 #[v, u] w fun e w' => e = .returned (.bool (decide (xs = ys))) ∧ w' = w := by
  obtain ⟨a, cap, rfl, _, hx⟩ := r.b.reads
  obtain ⟨a2, cap2, rfl, _, hy⟩ := r2.b.reads
  have h1 := conv_any a xs xs.length cap w hx rfl
  have h2 := conv_any a2 ys ys.length cap2 w hy rfl
  have hst := str_eq xs ys hx.1 hy.1
  rw [← hst]
  generalize strOfNums xs = s1 at h1 hst
  generalize strOfNums ys = s2 at h2 hst
  clear hst hx hy r r2
  generalize xs.length = n1 at *
  generalize ys.length = n2 at *
  go_enter Tryz.func110, Tryz.ntmps110
  go_wp2
  go_ret
  exact ⟨rfl, rfl⟩
theorem nilB (w : World) (S : Nat → Prop) : RdV w S (.slice none 0 0) (.bytes []) := ⟨isBytes_nil, none, 0, 0, rfl, rfl, ⟨Nat.le_refl _, Nat.zero_le _, fun _ => ⟨rfl, rfl⟩⟩, .inl rfl⟩
theorem bytesEq_self (v : Value) (xs : List Int) (S : Nat → Prop) (w : World) (r : RdV w S v (.bytes xs)) : Calls Tryz.prog 110 #[v, v] w fun e w' => e = .returned (.bool true) ∧ w' = w :=
  (bytesEq_any v v xs xs S S w r r).mono fun e w' ⟨he, hw⟩ => ⟨by rw [he]; simp, hw⟩
theorem bytesEq_nil (v : Value) (xs : List Int) (S : Nat → Prop) (w : World) (r : RdV w S v (.bytes xs)) : Calls Tryz.prog 110 #[v, .slice none 0 0] w fun e w' => e = .returned (.bool (decide (xs.length = 0))) ∧ w' = w :=
  (bytesEq_any v _ xs [] S S w r (nilB w S)).mono fun e w' ⟨he, hw⟩ => ⟨by rw [he]; cases xs <;> simp, hw⟩
set_option maxHeartbeats 2000000 in
theorem sameOp_self (x y : Value) (o : OpD) (S : Nat → Prop) (w : World) (r : RdV w S x (.bytes o.nm)) (r2 : RdV w S y (.bytes o.asn)) :
    Calls Tryz.prog 82 #[opV o x y, opV o x y] w fun e w' => e = .returned (.bool (true)) ∧ Below w.heap.size w w' := by
  have H1 : Hid (∀ W, Below w.heap.size w W → _) := fun W hW => bytesEq_self x o.nm S W (r.step hW)
  have H2 : Hid (∀ W, Below w.heap.size w W → _) := fun W hW => bytesEq_self y o.asn S W (r2.step hW)
  obtain ⟨a, cap, rfl⟩ := r.sliceB
  obtain ⟨a2, cap2, rfl⟩ := r2.sliceB
  obtain ⟨kd, ⟨p, q, d⟩, nm, ⟨p2, q2, d2⟩, asn, vl⟩ := o
  dsimp only at H1 H2 ⊢
  clear r r2
  skip
  generalize nm.length = n0 at *
  generalize asn.length = n1 at *
  skip
  all_goals (go_enter Tryz.func82, Tryz.ntmps82; go_wp2_with fail; all_goals first | (go_ret; refine ⟨?_, by repeat (first | exact Below.refl _ _ | refine Below.al ?_ _ | refine below_drewN2 ?_ _)⟩; first | rfl | (simp_all [hd0, Hd.sh, Hd.ino, Hd.dir]; done) | (simp_all [hd0, Hd.sh, Hd.ino, Hd.dir]; omega) | (simp_all [hd0, Hd.sh, Hd.ino, Hd.dir]; rw [Bool.eq_iff_iff]; simp; done)) | (refine Calls.mono (H1.out _ (by repeat (first | exact Below.refl _ _ | refine Below.al ?_ _ | refine below_drewN2 ?_ _))) ?_; rintro e w' ⟨rfl, rfl⟩; go_wp2_with fail; all_goals first | (go_ret; refine ⟨?_, by repeat (first | exact Below.refl _ _ | refine Below.al ?_ _ | refine below_drewN2 ?_ _)⟩; first | rfl | (simp_all [hd0, Hd.sh, Hd.ino, Hd.dir]; done) | (simp_all [hd0, Hd.sh, Hd.ino, Hd.dir]; omega) | (simp_all [hd0, Hd.sh, Hd.ino, Hd.dir]; rw [Bool.eq_iff_iff]; simp; done)) | (refine Calls.mono (H2.out _ (by repeat (first | exact Below.refl _ _ | refine Below.al ?_ _ | refine below_drewN2 ?_ _))) ?_; rintro e w' ⟨rfl, rfl⟩; go_wp2_with fail; all_goals (go_ret; refine ⟨?_, by repeat (first | exact Below.refl _ _ | refine Below.al ?_ _ | refine below_drewN2 ?_ _)⟩; first | rfl | (simp_all [hd0, Hd.sh, Hd.ino, Hd.dir]; done) | (simp_all [hd0, Hd.sh, Hd.ino, Hd.dir]; omega) | (simp_all [hd0, Hd.sh, Hd.ino, Hd.dir]; rw [Bool.eq_iff_iff]; simp; done)))))
set_option maxHeartbeats 2000000 in
theorem sameOp_zero (x y : Value) (o : OpD) (S : Nat → Prop) (w : World) (r : RdV w S x (.bytes o.nm)) (r2 : RdV w S y (.bytes o.asn)) :
    Calls Tryz.prog 82 #[opV o x y, opV op0 (.slice none 0 0) (.slice none 0 0)] w fun e w' => e = .returned (.bool (zOp o)) ∧ Below w.heap.size w w' := by
  have H1 : Hid (∀ W, Below w.heap.size w W → _) := fun W hW => bytesEq_nil x o.nm S W (r.step hW)
  have H2 : Hid (∀ W, Below w.heap.size w W → _) := fun W hW => bytesEq_nil y o.asn S W (r2.step hW)
  obtain ⟨a, cap, rfl⟩ := r.sliceB
  obtain ⟨a2, cap2, rfl⟩ := r2.sliceB
  obtain ⟨kd, ⟨p, q, d⟩, nm, ⟨p2, q2, d2⟩, asn, vl⟩ := o
  dsimp only at H1 H2 ⊢
  clear r r2
  simp only [zOp, op0, hd0]
  generalize nm.length = n0 at *
  generalize asn.length = n1 at *
  by_cases hn0 : n0 = 0 <;> by_cases hn1 : n1 = 0 <;> simp only [hn0, hn1, decide_true, decide_false] at H1 H2 ⊢
  all_goals (go_enter Tryz.func82, Tryz.ntmps82; go_wp2_with fail; all_goals first | (go_ret; refine ⟨?_, by repeat (first | exact Below.refl _ _ | refine Below.al ?_ _ | refine below_drewN2 ?_ _)⟩; first | rfl | (simp_all [hd0, Hd.sh, Hd.ino, Hd.dir]; done) | (simp_all [hd0, Hd.sh, Hd.ino, Hd.dir]; omega) | (simp_all [hd0, Hd.sh, Hd.ino, Hd.dir]; rw [Bool.eq_iff_iff]; simp; done)) | (refine Calls.mono (H1.out _ (by repeat (first | exact Below.refl _ _ | refine Below.al ?_ _ | refine below_drewN2 ?_ _))) ?_; rintro e w' ⟨rfl, rfl⟩; go_wp2_with fail; all_goals first | (go_ret; refine ⟨?_, by repeat (first | exact Below.refl _ _ | refine Below.al ?_ _ | refine below_drewN2 ?_ _)⟩; first | rfl | (simp_all [hd0, Hd.sh, Hd.ino, Hd.dir]; done) | (simp_all [hd0, Hd.sh, Hd.ino, Hd.dir]; omega) | (simp_all [hd0, Hd.sh, Hd.ino, Hd.dir]; rw [Bool.eq_iff_iff]; simp; done)) | (refine Calls.mono (H2.out _ (by repeat (first | exact Below.refl _ _ | refine Below.al ?_ _ | refine below_drewN2 ?_ _))) ?_; rintro e w' ⟨rfl, rfl⟩; go_wp2_with fail; all_goals (go_ret; refine ⟨?_, by repeat (first | exact Below.refl _ _ | refine Below.al ?_ _ | refine below_drewN2 ?_ _)⟩; first | rfl | (simp_all [hd0, Hd.sh, Hd.ino, Hd.dir]; done) | (simp_all [hd0, Hd.sh, Hd.ino, Hd.dir]; omega) | (simp_all [hd0, Hd.sh, Hd.ino, Hd.dir]; rw [Bool.eq_iff_iff]; simp; done)))))
set_option maxHeartbeats 2000000 in
theorem samePart_self (x : Value) (o : PtD) (S : Nat → Prop) (w : World) (r : RdV w S x (.bytes o.asn)) :
    Calls Tryz.prog 84 #[ptV o x, ptV o x] w fun e w' => e = .returned (.bool (true)) ∧ Below w.heap.size w w' := by
  have H1 : Hid (∀ W, Below w.heap.size w W → _) := fun W hW => bytesEq_self x o.asn S W (r.step hW)
  obtain ⟨a, cap, rfl⟩ := r.sliceB
  obtain ⟨kd, ⟨p, q, d⟩, nm, ⟨p2, q2, d2⟩⟩ := o
  dsimp only at H1 ⊢
  clear r
  skip
  generalize nm.length = n0 at *
  skip
  all_goals (go_enter Tryz.func84, Tryz.ntmps84; go_wp2_with fail; all_goals first | (go_ret; refine ⟨?_, by repeat (first | exact Below.refl _ _ | refine Below.al ?_ _ | refine below_drewN2 ?_ _)⟩; first | rfl | (simp_all [hd0, Hd.sh, Hd.ino, Hd.dir]; done) | (simp_all [hd0, Hd.sh, Hd.ino, Hd.dir]; omega) | (simp_all [hd0, Hd.sh, Hd.ino, Hd.dir]; rw [Bool.eq_iff_iff]; simp; done)) | (refine Calls.mono (H1.out _ (by repeat (first | exact Below.refl _ _ | refine Below.al ?_ _ | refine below_drewN2 ?_ _))) ?_; rintro e w' ⟨rfl, rfl⟩; go_wp2_with fail; all_goals (go_ret; refine ⟨?_, by repeat (first | exact Below.refl _ _ | refine Below.al ?_ _ | refine below_drewN2 ?_ _)⟩; first | rfl | (simp_all [hd0, Hd.sh, Hd.ino, Hd.dir]; done) | (simp_all [hd0, Hd.sh, Hd.ino, Hd.dir]; omega) | (simp_all [hd0, Hd.sh, Hd.ino, Hd.dir]; rw [Bool.eq_iff_iff]; simp; done))))
set_option maxHeartbeats 2000000 in
theorem samePart_zero (x : Value) (o : PtD) (S : Nat → Prop) (w : World) (r : RdV w S x (.bytes o.asn)) :
    Calls Tryz.prog 84 #[ptV o x, ptV pt0 (.slice none 0 0)] w fun e w' => e = .returned (.bool (zPt o)) ∧ Below w.heap.size w w' := by
  have H1 : Hid (∀ W, Below w.heap.size w W → _) := fun W hW => bytesEq_nil x o.asn S W (r.step hW)
  obtain ⟨a, cap, rfl⟩ := r.sliceB
  obtain ⟨kd, ⟨p, q, d⟩, nm, ⟨p2, q2, d2⟩⟩ := o
  dsimp only at H1 ⊢
  clear r
  simp only [zPt, pt0, hd0]
  generalize nm.length = n0 at *
  by_cases hn0 : n0 = 0 <;> simp only [hn0, decide_true, decide_false] at H1 ⊢
  all_goals (go_enter Tryz.func84, Tryz.ntmps84; go_wp2_with fail; all_goals first | (go_ret; refine ⟨?_, by repeat (first | exact Below.refl _ _ | refine Below.al ?_ _ | refine below_drewN2 ?_ _)⟩; first | rfl | (simp_all [hd0, Hd.sh, Hd.ino, Hd.dir]; done) | (simp_all [hd0, Hd.sh, Hd.ino, Hd.dir]; omega) | (simp_all [hd0, Hd.sh, Hd.ino, Hd.dir]; rw [Bool.eq_iff_iff]; simp; done)) | (refine Calls.mono (H1.out _ (by repeat (first | exact Below.refl _ _ | refine Below.al ?_ _ | refine below_drewN2 ?_ _))) ?_; rintro e w' ⟨rfl, rfl⟩; go_wp2_with fail; all_goals (go_ret; refine ⟨?_, by repeat (first | exact Below.refl _ _ | refine Below.al ?_ _ | refine below_drewN2 ?_ _)⟩; first | rfl | (simp_all [hd0, Hd.sh, Hd.ino, Hd.dir]; done) | (simp_all [hd0, Hd.sh, Hd.ino, Hd.dir]; omega) | (simp_all [hd0, Hd.sh, Hd.ino, Hd.dir]; rw [Bool.eq_iff_iff]; simp; done))))
set_option maxHeartbeats 2000000 in
theorem sameEntry_self (x : Value) (e : En) (S : Nat → Prop) (w : World) (r : RdV w S x (.bytes e.nm)) :
    Calls Tryz.prog 112 #[enV x e.h, enV x e.h] w fun q w' => q = .returned (.bool true) ∧ Below w.heap.size w w' := by
  have H1 : Hid (∀ W, Below w.heap.size w W → _) := fun W hW => bytesEq_self x e.nm S W (r.step hW)
  obtain ⟨a, cap, rfl⟩ := r.sliceB
  obtain ⟨nm, ⟨p, q, d⟩⟩ := e
  dsimp only at H1 ⊢
  clear r
  generalize nm.length = n0 at *
  go_enter Tryz.func112, Tryz.ntmps112
  go_wp2_with fail
  all_goals first | (go_ret; refine ⟨?_, by repeat (first | exact Below.refl _ _ | refine Below.al ?_ _ | refine below_drewN2 ?_ _)⟩; first | rfl | (simp_all [hd0, Hd.sh, Hd.ino, Hd.dir]; done) | (simp_all [hd0, Hd.sh, Hd.ino, Hd.dir]; omega) | (simp_all [hd0, Hd.sh, Hd.ino, Hd.dir]; rw [Bool.eq_iff_iff]; simp; done)) | (refine Calls.mono (H1.out _ (by repeat (first | exact Below.refl _ _ | refine Below.al ?_ _ | refine below_drewN2 ?_ _))) ?_; rintro e w' ⟨rfl, rfl⟩; go_wp2_with fail; all_goals (go_ret; refine ⟨?_, by repeat (first | exact Below.refl _ _ | refine Below.al ?_ _ | refine below_drewN2 ?_ _)⟩; first | rfl | (simp_all [hd0, Hd.sh, Hd.ino, Hd.dir]; done) | (simp_all [hd0, Hd.sh, Hd.ino, Hd.dir]; omega) | (simp_all [hd0, Hd.sh, Hd.ino, Hd.dir]; rw [Bool.eq_iff_iff]; simp; done)))
set_option maxHeartbeats 2000000 in
theorem equalFunc_nil (a : Option Addr) (n cap : Nat) (w : World) :
    Calls Tryz.prog 111 #[.slice a n cap, .slice none 0 0, .func (.func 112) #[] #[]] w fun q w' => q = .returned (.bool (decide (n = 0))) ∧ Below w.heap.size w w' := by
  by_cases h0 : n = 0
  · subst h0
    go_enter Tryz.func111, Tryz.ntmps111
    go_wp2
    go_loopw [17] (fun i wr => i = .int .i64 0 ∧ wr = w) (fun _ _ => 0)
    case atStart => exact ⟨rfl, rfl⟩
    case round =>
      obtain ⟨rfl, rfl⟩ := hrel
      go_wp2
      go_ret
      exact ⟨rfl, Below.refl _ _⟩
  · simp only [h0, decide_false]
    go_enter Tryz.func111, Tryz.ntmps111
    go_wp2
    all_goals first | (go_ret; exact ⟨rfl, Below.refl _ _⟩) | (exfalso; omega)
set_option maxHeartbeats 2000000 in
theorem equalFunc_self (v : Value) (l : List En) (S : Nat → Prop) (w : World) (r : RdV w S v (ensDt l)) (hl : szEns l ≤ 2097152) :
    Calls Tryz.prog 111 #[v, v, .func (.func 112) #[] #[]] w fun q w' => q = .returned (.bool true) ∧ Below w.heap.size w w' := by
  obtain ⟨a, cap, rfl, _⟩ := RdV.sliced r
  have HR2 : Hid (∀ W, Below w.heap.size w W → RdV W S (.slice a l.length cap) (.rows 132 4 l.length (fun i j => enCell (l[i]?.getD en0) j))) := RdV.old r
  have hmm : l.length ≤ 2097152 := by unfold szEns at hl; omega
  obtain ⟨m, hm⟩ : ∃ m, l.length = m := ⟨_, rfl⟩
  rw [hm] at HR2 hmm ⊢
  clear r hl hm
  go_enter Tryz.func111, Tryz.ntmps111
  go_wp2
  go_loopw [17] (fun i wr => ∃ k : Nat, k ≤ m ∧ i = .int .i64 k ∧ Below w.heap.size w wr) (fun i _ => m - (intOf i).toNat)
  case atStart => exact ⟨0, Nat.zero_le _, rfl, Below.refl _ _⟩
  case round =>
    obtain ⟨k, hk, rfl, hbel⟩ := hrel
    by_cases hlt : k < m
    case neg =>
      have he : k = m := by omega
      subst he
      go_wp2
      go_ret
      exact ⟨rfl, hbel⟩
    obtain ⟨b, off, rfl, hbl, _, hx⟩ := RdV.at (HR2.out wr hbel) hlt
    obtain ⟨x0, c0, r0⟩ := hx 0 (by omega)
    obtain ⟨x1, c1, r1⟩ := hx 1 (by omega)
    obtain ⟨x2, c2, r2⟩ := hx 2 (by omega)
    obtain ⟨x3, c3, r3⟩ := hx 3 (by omega)
    generalize l[k]?.getD en0 = e at r0 r1 r2 r3
    clear hx
    have HSE : Hid (∀ W, Below wr.heap.size wr W → _) := fun W hW => sameEntry_self x0 e S W (RdV.step (show RdV wr S x0 (.bytes e.nm) from r0) hW)
    obtain ⟨nm, ⟨s, ino, dd⟩⟩ := e
    obtain rfl : x1 = .int .i64 s := r1
    obtain rfl : x2 = .int .i64 ino := r2
    obtain rfl : x3 = .bool dd := r3
    simp only [Nat.add_zero] at c0
    obtain ⟨xa, xc, rfl⟩ := RdV.sliceB (show RdV wr S x0 (.bytes nm) from r0)
    clear r0 HR2
    generalize nm.length = xn at *
    go_wp2_with (go_at_call 112; refine Calls.mono (HSE.out _ (by repeat (first | exact Below.refl _ _ | refine Below.al ?_ _ | refine below_drewN2 ?_ _))) ?_; rintro e w' ⟨rfl, b_⟩)
    exact ⟨⟨k + 1, by omega, by go_num, hbel.trans ((Below.trans (by repeat (first | exact Below.refl _ _ | refine Below.al ?_ _ | refine below_drewN2 ?_ _)) (b_.mono (by simp <;> omega))).mono hbel.size)⟩, by simp [intOf]; omega⟩
set_option maxHeartbeats 2000000 in
theorem sameReply_self (x : Value) (o : RpD) (S : Nat → Prop) (w : World) (r : RdV w S x (ensDt o.list)) (hl : szEns o.list ≤ 2097152) :
    Calls Tryz.prog 83 #[rpV o x, rpV o x] w fun e w' => e = .returned (.bool true) ∧ Below w.heap.size w w' := by
  have H1 : Hid (∀ W, Below w.heap.size w W → _) := fun W hW => equalFunc_self x o.list S W (r.step hW) hl
  obtain ⟨a, cap, rfl, _⟩ := RdV.sliced r
  obtain ⟨kd, ⟨p, q, d⟩, vl, es⟩ := o
  dsimp only at H1 ⊢
  clear r hl
  generalize es.length = n0 at *
  go_enter Tryz.func83, Tryz.ntmps83
  go_wp2_with fail
  refine Calls.mono (H1.out _ (by repeat (first | exact Below.refl _ _ | refine Below.al ?_ _ | refine below_drewN2 ?_ _))) ?_
  rintro e w' ⟨rfl, b_⟩
  go_wp2
  go_ret
  exact ⟨rfl, Below.trans (by repeat (first | exact Below.refl _ _ | refine Below.al ?_ _ | refine below_drewN2 ?_ _)) (b_.mono (by simp <;> omega))⟩
set_option maxHeartbeats 2000000 in
theorem sameReply_zero (x : Value) (o : RpD) (S : Nat → Prop) (w : World) (r : RdV w S x (ensDt o.list)) :
    Calls Tryz.prog 83 #[rpV o x, rpV rp0 (.slice none 0 0)] w fun e w' => e = .returned (.bool (zRp o)) ∧ Below w.heap.size w w' := by
  obtain ⟨a, cap, rfl, _⟩ := RdV.sliced r
  have H1 : Hid (∀ W, _) := fun W => equalFunc_nil a o.list.length cap W
  obtain ⟨kd, ⟨p, q, d⟩, vl, es⟩ := o
  dsimp only at H1 ⊢
  clear r
  simp only [zRp, rp0, hd0]
  generalize es.length = n0 at *
  by_cases hn0 : n0 = 0 <;> simp only [hn0, decide_true, decide_false] at H1 ⊢
  all_goals
    go_enter Tryz.func83, Tryz.ntmps83
    go_wp2_with fail
    all_goals first | (go_ret; refine ⟨?_, by repeat (first | exact Below.refl _ _ | refine Below.al ?_ _ | refine below_drewN2 ?_ _)⟩; first | rfl | (simp_all [hd0, Hd.sh, Hd.ino, Hd.dir]; done) | (simp_all [hd0, Hd.sh, Hd.ino, Hd.dir]; omega) | (simp_all [hd0, Hd.sh, Hd.ino, Hd.dir]; rw [Bool.eq_iff_iff]; simp; done)) | (refine Calls.mono (H1.out _) ?_; rintro e w' ⟨rfl, b_⟩; go_wp2; all_goals (go_ret; refine ⟨?_, Below.trans (by repeat (first | exact Below.refl _ _ | refine Below.al ?_ _ | refine below_drewN2 ?_ _)) (b_.mono (by simp <;> omega))⟩; first | rfl | (simp_all [hd0, Hd.sh, Hd.ino, Hd.dir]; done) | (simp_all [hd0, Hd.sh, Hd.ino, Hd.dir]; omega)))
end Go.Proofs.YtbnjhjgjmckedaaGreat
end

section
/- The program compares two messages of one head. Condition: what the comparisons of their parts answer. -/
namespace Go.Proofs.YtbnjhjgjmckedaaGreat
open Go.RowKit
set_option linter.unusedVariables false
set_option linter.unusedSimpArgs false
set_option maxRecDepth 100000

theorem eqT_run (p q d s i e : Int) (w : World) : (binOp .eql 31 (.agg #[.int .i64 p, .int .i64 q, .int .i64 d]) (.agg #[.int .i64 s, .int .i64 i, .int .i64 e])).run Tryz.prog w = .ok (.bool (decide (p = s ∧ q = i ∧ d = e))) w := by
  by_cases h1 : p = s
  · subst h1
    by_cases h2 : q = i
    · subst h2
      by_cases h3 : d = e
      · subst h3
        simp [go_sem]
      · have g : (d == e) = false := by simpa using h3
        simp [go_sem, g, h3]
    · have g : (q == i) = false := by simpa using h2
      simp [go_sem, g, h2]
  · have g : (p == s) = false := by simpa using h1
    simp [go_sem, g, h1]
set_option maxHeartbeats 8000000 in
theorem sameMsg_any (kd fr to rq rq2 cd cd2 : Int) (o oz : OpD) (r rz : RpD) (t tz : TxD) (p pz : PtD) (h hz : Hd) (a1 a2 a3 a4 : Option Addr) (n1 n2 n3 n4 c1 c2 c3 c4 : Nat) (a1z a2z a3z a4z : Option Addr) (n1z n2z n3z n4z c1z c2z c3z c4z : Nat) (bo br bp : Bool) (w : World)
    (H1 : ∀ W, Below w.heap.size w W → Calls Tryz.prog 82 #[opV o (.slice a1 n1 c1) (.slice a2 n2 c2), opV oz (.slice a1z n1z c1z) (.slice a2z n2z c2z)] W fun e w' => e = .returned (.bool bo) ∧ Below W.heap.size W w')
    (H2 : ∀ W, Below w.heap.size w W → Calls Tryz.prog 83 #[rpV r (.slice a3 n3 c3), rpV rz (.slice a3z n3z c3z)] W fun e w' => e = .returned (.bool br) ∧ Below W.heap.size W w')
    (H3 : ∀ W, Below w.heap.size w W → Calls Tryz.prog 84 #[ptV p (.slice a4 n4 c4), ptV pz (.slice a4z n4z c4z)] W fun e w' => e = .returned (.bool bp) ∧ Below W.heap.size W w') :
    Calls Tryz.prog 36 #[msV ⟨kd, fr, to, rq, o, r, t, p, cd, h⟩ (.slice a1 n1 c1) (.slice a2 n2 c2) (.slice a3 n3 c3) (.slice a4 n4 c4), msV ⟨kd, fr, to, rq2, oz, rz, tz, pz, cd2, hz⟩ (.slice a1z n1z c1z) (.slice a2z n2z c2z) (.slice a3z n3z c3z) (.slice a4z n4z c4z)] w
      fun e w' => e = .returned (.bool (decide (rq = rq2) && (bo && (br && (decide (t = tz) && (bp && (decide (cd = cd2) && decide (h = hz)))))))) ∧ Below w.heap.size w w' := by
  obtain ⟨ok, ⟨op, oq, od⟩, nm, ⟨tp, tq, td⟩, asn, ov⟩ := o
  obtain ⟨rc, ⟨rhp, rhq, rhd⟩, rv, es⟩ := r
  obtain ⟨xs, xb, xn⟩ := t
  obtain ⟨pk, ⟨pp, pq, pd⟩, pas, ⟨sp, sq, sd⟩⟩ := p
  obtain ⟨hp, hq, hd⟩ := h
  obtain ⟨okz, ⟨opz, oqz, odz⟩, nmz, ⟨tpz, tqz, tdz⟩, asnz, ovz⟩ := oz
  obtain ⟨rcz, ⟨rhpz, rhqz, rhdz⟩, rvz, esz⟩ := rz
  obtain ⟨xsz, xbz, xnz⟩ := tz
  obtain ⟨pkz, ⟨ppz, pqz, pdz⟩, pasz, ⟨spz, sqz, sdz⟩⟩ := pz
  obtain ⟨hpz, hqz, hdz⟩ := hz
  try dsimp only at H1 H2 H3 ⊢
  have HC1 : Hid _ := H1
  have HC2 : Hid _ := H2
  have HC3 : Hid _ := H3
  clear H1 H2 H3
  have hT := fun W => eqT_run xs xb xn xsz xbz xnz W
  have hE := fun W => eqH_run hp hq hpz hqz hd hdz W
  obtain ⟨res, hres⟩ : ∃ res, (decide (rq = rq2) && (bo && (br && (decide ((xs, xb, xn) = (xsz, xbz, xnz)) && (bp && (decide (cd = cd2) && decide ((hp, hq, hd) = (hpz, hqz, hdz)))))))) = res := ⟨_, rfl⟩
  rw [hres]
  simp only [Prod.mk.injEq] at hres
  have HRES : Hid _ := hres
  clear hres
  generalize hbt : decide (xs = xsz ∧ xb = xbz ∧ xn = xnz) = bt at hT HRES
  generalize hbh : decide (hp = hpz ∧ hq = hqz ∧ hd = hdz) = bh at hE HRES
  clear hbt hbh
  by_cases hrq : rq = rq2
  case neg =>
    go_enter Tryz.func36, Tryz.ntmps36
    go_wp2_with fail
    (clear HC1 HC2 HC3 hT hE; go_ret; refine ⟨?_, Below.newH2 _ _⟩; (rw [← HRES.out]; clear HRES; first | rfl | (simp_all; done) | (simp_all; omega) | (simp_all; rw [Bool.eq_iff_iff]; simp; done)))
  subst hrq
  go_enter Tryz.func36, Tryz.ntmps36
  go_wp2_with fail
  all_goals first
    | (clear HC1 HC2 HC3 hT hE; go_ret; refine ⟨?_, Below.newH2 _ _⟩; (rw [← HRES.out]; clear HRES; first | rfl | (simp_all; done) | (simp_all; omega) | (simp_all; rw [Bool.eq_iff_iff]; simp; done)))
    | (refine Calls.mono (HC1.out _ (Below.newH2 _ _)) ?_; rintro e w2 ⟨rfl, b_⟩; have vA : VarA w2 w.heap.size 35 #[.int .i64 kd, .int .i64 fr, .int .i64 to, .int .i64 rq, .int .i64 ok, .int .i64 op, .int .i64 oq, .bool od, .slice a1 n1 c1, .int .i64 tp, .int .i64 tq, .bool td, .slice a2 n2 c2, .int .i64 ov, .int .i64 rc, .int .i64 rhp, .int .i64 rhq, .bool rhd, .int .i64 rv, .slice a3 n3 c3, .int .i64 xs, .int .i64 xb, .int .i64 xn, .int .i64 pk, .int .i64 pp, .int .i64 pq, .bool pd, .slice a4 n4 c4, .int .i64 sp, .int .i64 sq, .bool sd, .int .i64 cd, .int .i64 hp, .int .i64 hq, .bool hd] := VarA.step ((VarA.new w _ _).alloc _) b_; have vB : VarA w2 (w.heap.size + 1) 35 #[.int .i64 kd, .int .i64 fr, .int .i64 to, .int .i64 rq, .int .i64 okz, .int .i64 opz, .int .i64 oqz, .bool odz, .slice a1z n1z c1z, .int .i64 tpz, .int .i64 tqz, .bool tdz, .slice a2z n2z c2z, .int .i64 ovz, .int .i64 rcz, .int .i64 rhpz, .int .i64 rhqz, .bool rhdz, .int .i64 rvz, .slice a3z n3z c3z, .int .i64 xsz, .int .i64 xbz, .int .i64 xnz, .int .i64 pkz, .int .i64 ppz, .int .i64 pqz, .bool pdz, .slice a4z n4z c4z, .int .i64 spz, .int .i64 sqz, .bool sdz, .int .i64 cd2, .int .i64 hpz, .int .i64 hqz, .bool hdz] := (by have := VarA.step (VarA.new (w.alloc _) _ _) b_; simpa using this); have HB : Hid _ := (Below.newH2 (w := w) _ _).trans (b_.mono (by simp; omega)); clear b_; obtain ⟨a0_, a1_, a2_, a3_, a4_, a5_, a6_, a7_, a8_, a9_, a10_, a11_, a12_, a13_, a14_, a15_, a16_, a17_, a18_, a19_, a20_, a21_, a22_, a23_, a24_, a25_, a26_, a27_, a28_, a29_, a30_, a31_, a32_, a33_, a34_⟩ := vA.l35; obtain ⟨b0_, b1_, b2_, b3_, b4_, b5_, b6_, b7_, b8_, b9_, b10_, b11_, b12_, b13_, b14_, b15_, b16_, b17_, b18_, b19_, b20_, b21_, b22_, b23_, b24_, b25_, b26_, b27_, b28_, b29_, b30_, b31_, b32_, b33_, b34_⟩ := vB.l35; go_wp2_with fail
       all_goals first
        | (clear HC1 HC2 HC3 hT hE; go_ret; refine ⟨?_, HB.out⟩; (rw [← HRES.out]; clear HRES; first | rfl | (simp_all; done) | (simp_all; omega) | (simp_all; rw [Bool.eq_iff_iff]; simp; done)))
        | (refine Calls.mono (HC2.out _ HB.out) ?_; rintro e w3 ⟨rfl, b_⟩; have vA_ := vA.step b_; have vB_ := vB.step b_; have HB_ : Hid _ := HB.out.trans (b_.mono HB.out.size); clear vA vB HB b_ a0_ a1_ a2_ a3_ a4_ a5_ a6_ a7_ a8_ a9_ a10_ a11_ a12_ a13_ a14_ a15_ a16_ a17_ a18_ a19_ a20_ a21_ a22_ a23_ a24_ a25_ a26_ a27_ a28_ a29_ a30_ a31_ a32_ a33_ a34_ b0_ b1_ b2_ b3_ b4_ b5_ b6_ b7_ b8_ b9_ b10_ b11_ b12_ b13_ b14_ b15_ b16_ b17_ b18_ b19_ b20_ b21_ b22_ b23_ b24_ b25_ b26_ b27_ b28_ b29_ b30_ b31_ b32_ b33_ b34_; have vA := vA_; have vB := vB_; have HB := HB_; clear vA_ vB_ HB_; obtain ⟨a0_, a1_, a2_, a3_, a4_, a5_, a6_, a7_, a8_, a9_, a10_, a11_, a12_, a13_, a14_, a15_, a16_, a17_, a18_, a19_, a20_, a21_, a22_, a23_, a24_, a25_, a26_, a27_, a28_, a29_, a30_, a31_, a32_, a33_, a34_⟩ := vA.l35; obtain ⟨b0_, b1_, b2_, b3_, b4_, b5_, b6_, b7_, b8_, b9_, b10_, b11_, b12_, b13_, b14_, b15_, b16_, b17_, b18_, b19_, b20_, b21_, b22_, b23_, b24_, b25_, b26_, b27_, b28_, b29_, b30_, b31_, b32_, b33_, b34_⟩ := vB.l35; go_wp2_with fail
           all_goals first
            | (clear HC1 HC2 HC3 hT hE; go_ret; refine ⟨?_, HB.out⟩; (rw [← HRES.out]; clear HRES; first | rfl | (simp_all; done) | (simp_all; omega) | (simp_all; rw [Bool.eq_iff_iff]; simp; done)))
            | (refine Calls.mono (HC3.out _ HB.out) ?_; rintro e w4 ⟨rfl, b_⟩; have vA_ := vA.step b_; have vB_ := vB.step b_; have HB_ : Hid _ := HB.out.trans (b_.mono HB.out.size); clear vA vB HB b_ a0_ a1_ a2_ a3_ a4_ a5_ a6_ a7_ a8_ a9_ a10_ a11_ a12_ a13_ a14_ a15_ a16_ a17_ a18_ a19_ a20_ a21_ a22_ a23_ a24_ a25_ a26_ a27_ a28_ a29_ a30_ a31_ a32_ a33_ a34_ b0_ b1_ b2_ b3_ b4_ b5_ b6_ b7_ b8_ b9_ b10_ b11_ b12_ b13_ b14_ b15_ b16_ b17_ b18_ b19_ b20_ b21_ b22_ b23_ b24_ b25_ b26_ b27_ b28_ b29_ b30_ b31_ b32_ b33_ b34_; have vA := vA_; have vB := vB_; have HB := HB_; clear vA_ vB_ HB_; obtain ⟨a0_, a1_, a2_, a3_, a4_, a5_, a6_, a7_, a8_, a9_, a10_, a11_, a12_, a13_, a14_, a15_, a16_, a17_, a18_, a19_, a20_, a21_, a22_, a23_, a24_, a25_, a26_, a27_, a28_, a29_, a30_, a31_, a32_, a33_, a34_⟩ := vA.l35; obtain ⟨b0_, b1_, b2_, b3_, b4_, b5_, b6_, b7_, b8_, b9_, b10_, b11_, b12_, b13_, b14_, b15_, b16_, b17_, b18_, b19_, b20_, b21_, b22_, b23_, b24_, b25_, b26_, b27_, b28_, b29_, b30_, b31_, b32_, b33_, b34_⟩ := vB.l35; go_wp2_with fail
               all_goals (clear HC1 HC2 HC3 hT hE; go_ret; refine ⟨?_, HB.out⟩; (rw [← HRES.out]; clear HRES; first | rfl | (simp_all; done) | (simp_all; omega) | (simp_all; rw [Bool.eq_iff_iff]; simp; done))))))
end Go.Proofs.YtbnjhjgjmckedaaGreat
end

section
/- What the program takes of a message, kind by kind; no condition. -/
namespace Go.Proofs.YtbnjhjgjmckedaaGreat
open Go.RowKit
set_option linter.unusedVariables false
set_option linter.unusedSimpArgs false
set_option maxRecDepth 100000

theorem VarA.new1 (w : World) (o : Obj) (T : TypeId) (cs : Array Value) : VarA ((w.alloc o).alloc (.cells cs T)) (w.heap.size + 1) T cs := by simpa using VarA.new (w.alloc o) T cs
theorem assert_hit {P : Program} {t xT : TypeId} {d : TypeDesc} (hu : P.underlying t = some d) (hd : (match d with | .interface _ => false | _ => true) = true) (v : Value) (w : World) :
    (Instr.typeAssert (.iface t v) xT t true).run P w = .ok (.tuple #[v, .bool true]) w := by
  cases d <;> simp_all [Instr.typeAssert, run_underlying hu]
theorem assert_miss {P : Program} {t a xT : TypeId} {d : TypeDesc} {z : Value} (hu : P.underlying a = some d) (hd : (match d with | .interface _ => false | _ => true) = true) (hne : t ≠ a) (hz : (P.info? a).map (·.zero) = some (some z)) (v : Value) (w : World) :
    (Instr.typeAssert (.iface t v) xT a true).run P w = .ok (.tuple #[z, .bool false]) w := by
  obtain ⟨j, hj, hz'⟩ := Option.map_eq_some_iff.1 hz
  cases d <;> simp_all [Instr.typeAssert, run_underlying hu, zeroValue, typeInfo]
set_option maxHeartbeats 4000000 in
theorem headOf_any (m : MsD) (a1 a2 a3 a4 : Option Addr) (n1 n2 n3 n4 c1 c2 c3 c4 : Nat) (w : World) :
    Calls Tryz.prog 37 #[msV m (.slice a1 n1 c1) (.slice a2 n2 c2) (.slice a3 n3 c3) (.slice a4 n4 c4)] w fun e w' => e = .returned (msV ⟨m.kind, m.fr, m.to, 0, op0, rp0, tx0, pt0, 0, hd0⟩ (.slice none 0 0) (.slice none 0 0) (.slice none 0 0) (.slice none 0 0)) ∧ Below w.heap.size w w' := by
  obtain ⟨kd, fr, to, rq, ⟨ok, ⟨op_, oq, od⟩, nm, ⟨tp, tq, td⟩, asn, ov⟩, ⟨rc, ⟨rp_, rq_, rd⟩, rv, es⟩, ⟨xs, xb, xn⟩, ⟨pk, ⟨pp, pq, pd⟩, pas, ⟨sp, sq, sd⟩⟩, cd, ⟨hp, hq, hd⟩⟩ := m
  simp only [op0, rp0, tx0, pt0, hd0]
  go_enter Tryz.func37, Tryz.ntmps37
  repeat (first | (with_reducible refine guardStore (ty := 35) ?_; refine wpList_storeF (VarA.new1 _ _ _ _) rfl rfl (by kernel_rfl) rfl (of_decide_eq_true rfl) rfl ?_; intro w' vR t_) | go_values | go_skip | go_guarded | go_step | go_upon)
  refine bodyPost_ret (results_cell_row Tryz.results37 _ _ _ _ _ _ _ rfl vR Tryz.underlying35 rfl (by kernel_rfl)) rfl ⟨rfl, ?_⟩
  exact Turned.below (Below.newH2 _ _) (t_.one (S := fun b => w.heap.size ≤ b) (by omega)) (by simp; omega) (fun i hi => hi)
end Go.Proofs.YtbnjhjgjmckedaaGreat
end

section
/- Helpers for reading to the end; plain facts of a message read. -/
namespace Go.Proofs.YtbnjhjgjmckedaaGreat
open Go.RowKit
set_option linter.unusedVariables false
set_option linter.unusedSimpArgs false
set_option maxRecDepth 100000

theorem results_row_tmp {fn : Func} {p u : Tmp} {ty : TypeId} (h : fn.results = #[.cell p ty, .tmp u]) (tmps : Array Value) (w : World) (g : Nat) (t : TypeId) (cs : Array Value) (d : TypeDesc)
    (hp : tmps.getD p undef = .pointer (some ⟨g, 0, none⟩)) (hg : VarA w g t cs)
    (hu : Tryz.prog.underlying ty = some d) (hd : d.isRow = true) (hi : (Tryz.prog.info? ty).map (·.size) = some cs.size) :
    (results fn tmps).run Tryz.prog w = .ok (.tuple #[.agg cs, tmps.getD u undef]) w := by
  rw [results_cell_tmp h, hp]
  simp [asAddr, loadA_run hg hu hd hi]
/-- A whole variable loaded, where a guard says so. -/
theorem wpList_loadW {ty t' : TypeId} {dst : Option Tmp} {x : Operand} {pos : String} {af : Array Edge} {gd : Option (Nat × Bool)} {ops : Array Oper} {rest : List Oper} {a : Act} {Q : Exit → Act → World → Prop} {w : World} {g : Nat} {T : TypeId} {cs : Array Value} {d : TypeDesc}
    (hw : Region.wanted ⟨dst, .load ty x, t', pos, af, gd⟩ (yielded ops a.tmps) = true) (hv : VarA w g T cs) (hx : a.eval x = .pointer (some ⟨g, 0, none⟩)) (hu : Tryz.prog.underlying ty = some d) (hd : d.isRow = true) (hi : (Tryz.prog.info? ty).map (·.size) = some cs.size)
    (hK : wpList Tryz.prog ops Q rest (a.put dst (.agg cs)) w) :
    wpList Tryz.prog ops Q (⟨dst, .load ty x, t', pos, af, gd⟩ :: rest) a w := by
  refine BigFrame.wpList_want hw fun K' hK' => ?_
  unfold Oper.wp execOp
  simp only [hx, Instr.loadAt, Instr.sureAddr, Sem.run_bind, Sem.run_pure, Result.andThen_ok, loadA_run hv hu hd hi]
  exact hK' _ _ hK
theorem guardLoadW {ty t' : TypeId} {dst : Option Tmp} {x : Operand} {pos : String} {af : Array Edge} {gd : Option (Nat × Bool)} {ops : Array Oper} {rest : List Oper} {a : Act} {Q : Exit → Act → World → Prop} {w : World}
    (h : wpList Tryz.prog ops Q (⟨dst, .load ty x, t', pos, af, gd⟩ :: rest) a w) : wpList Tryz.prog ops Q (⟨dst, .load ty x, t', pos, af, gd⟩ :: rest) a w := h
theorem RdV.here {w : World} {S : Nat → Prop} {v : Value} {zs : List Int} (r : RdV w S v (.bytes zs)) : RdV w (fun b => b < w.heap.size) v (.bytes zs) := by
  obtain ⟨hb, a, len, cap, hv, hl, hh, hc⟩ := r.b
  refine ⟨hb, a, len, cap, hv, hl, hh, ?_⟩
  rcases hc with h0 | ⟨b, off, ha, h1, h2, hc⟩
  · exact .inl h0
  · exact .inr ⟨b, off, ha, h2, h2, hc⟩
theorem CurV.start {w : World} {S : Nat → Prop} {v : Value} {zs : List Int} (T : TypeId) (o : Obj) (r : RdV w S v (.bytes zs)) : CurV T (w.heap.size + 1) zs v 0 ((w.alloc o).alloc (.cells #[v, .int .i64 0] T)) :=
  ⟨VarA.new1 w o T _, RdV.mono (fun b hb => by omega) (RdV.step r.here ((Below.new1 (w := w) o).trans ((Below.new1 (w := w.alloc o) _).mono (by simp)))), by omega, by omega⟩
theorem OwM.nil (w : World) (S : Nat → Prop) : OwM w S ms0 (.slice none 0 0) (.slice none 0 0) (.slice none 0 0) (.slice none 0 0) :=
  ⟨fun _ => False, fun _ => False, fun _ => False, fun _ => False, OwV.nilB _ _, OwV.nilB _ _, OwV.nilR _ _ _ _ _, OwV.nilB _ _, fun b hb => by rcases hb with h | h | h | h <;> exact h.elim, fun b hb => hb.elim, fun b hb => hb.elim, fun b hb => hb.elim⟩
set_option maxHeartbeats 2000000 in
theorem implEndC (pb : Nat) (zs : List Int) (v : Value) (p : Int) (w : World) (h : CurV 69 pb zs v p w) (hl : zs.length ≤ 2000000) :
    Calls Tryz.prog 41 #[.pointer (some ⟨pb, 0, none⟩)] w fun e w' => e = .returned (.bool (decide (p = zs.length))) ∧ Below w.heap.size w w' := by
  obtain ⟨c0, c1⟩ := VarA.l2 h.1
  obtain ⟨a, cap, rfl⟩ := RdV.sliceB h.2.1
  clear h
  have hb : (p == (zs.length : Int)) = decide (p = zs.length) := by simp [BEq.beq]
  rw [← hb]
  clear hb
  go_enter Tryz.func41, Tryz.ntmps41
  go_wp2
  all_goals first
    | (go_ret; exact ⟨rfl, by repeat (first | exact Below.refl _ _ | refine Below.drew ?_ | refine below_drewN2 ?_ _)⟩)
    | (go_quiet (fail); go_wp2; go_ret; exact ⟨rfl, by repeat (first | exact Below.refl _ _ | refine Below.drew ?_ | refine below_drewN2 ?_ _)⟩)
theorem szEns_le40 : ∀ (l : List En), (∀ e ∈ l, e.nm.length ≤ 40) → szEns l ≤ 41 * l.length
  | [], _ => by simp [szEns]
  | e :: l, h => by
    have h1 := szEns_le40 l (fun x hx => h x (List.mem_cons_of_mem _ hx))
    have h2 := h e (List.mem_cons_self ..)
    unfold szEns at h1 ⊢
    simp only [List.map_cons, List.sum_cons, List.length_cons] at h1 ⊢
    omega
theorem ensP_40 (zs : List Int) (k : Nat) : ∀ p : Int, ∀ e ∈ (rdEnsP zs k p).1, e.nm.length ≤ 40 := by
  induction k with
  | zero => intro p e he; cases he
  | succ k ih =>
    intro p e he
    rw [rdEnsP] at he
    rcases List.mem_cons.1 he with h | h
    · rw [h]; exact getText_len zs p
    · exact ih _ e h
theorem ens_40 (zs : List Int) (k : Nat) : ∀ p : Int, ∀ e ∈ (rdEns zs k p).1, e.nm.length ≤ 40 := by
  induction k with
  | zero => intro p e he; cases he
  | succ k ih =>
    intro p e he
    rw [rdEns] at he
    split at he
    · cases he
    · rcases List.mem_cons.1 he with h | h
      · rw [h]; exact getText_len zs p
      · exact ih _ e h
theorem szP (zs : List Int) (p : Int) : szEns (rdEnP zs p).1 ≤ 1000 := by
  unfold rdEnP
  split
  · simp [szEns]
  · have h1 := szEns_le40 _ (ensP_40 zs (getNum zs p).1.toNat (getNum zs p).2)
    have h2 := ensP_len zs (getNum zs p).1.toNat (getNum zs p).2
    omega
theorem szS (zs : List Int) (p : Int) : szEns (rdEnS zs p).1 ≤ 1000 := by
  unfold rdEnS
  have h1 := szEns_le40 _ (ens_40 zs (min (getNum zs p).1.toNat 13) (getNum zs p).2)
  have h2 := ens_lenle zs (min (getNum zs p).1.toNat 13) (getNum zs p).2
  have h3 : min (getNum zs p).1.toNat 13 ≤ 13 := Nat.min_le_right _ _
  omega
/-- A region that draws its order, while a variable stays as it is. -/
theorem wp_region_cur {P : Program} {id : Nat} {ops : Array Oper} {Q : Exit → Act → World → Prop} {a : Act} {w : World} {T : TypeId} {pb : Nat} {zs : List Int} {v : Value} {p : Int} {ba : Nat} {Ta : TypeId} {ca : Array Value} (hm : P.follows .mixedOrders = true) (hc : CurV T pb zs v p w) (vA : VarA w ba Ta ca)
    (h : (CurV T pb zs v p w.drew ∧ VarA w.drew ba Ta ca) → wpAnyH P .any ops Q (fun W => CurV T pb zs v p W ∧ VarA W ba Ta ca) ops.size (Array.replicate ops.size false) a w.drew) : (Code.region id ops true).wp P Q a w :=
  wp_region_held_drew (S := fun W => CurV T pb zs v p W ∧ VarA W ba Ta ca) hm ⟨hc.dr, vA⟩ h
theorem RdV.rd0 {w : World} {S : Nat → Prop} {a : Option Addr} {n cap : Nat} {zs : List Int} (r : RdV w S (.slice a n cap) (.bytes zs)) : Reads w a zs := by
  obtain ⟨a', cap', h, _, hr⟩ := r.b.reads
  simp only [Value.slice.injEq] at h
  rw [h.1]; exact hr
theorem step_loadA {ty t' : TypeId} {dst : Option Tmp} {x : Operand} {pos : String} {af : Array Edge} {ops : Array Oper} {a : Act} {K : Act → World → Prop} {Q : Exit → Act → World → Prop} {E : Prop} {w : World} {g : Nat} {T : TypeId} {cs : Array Value} {d : TypeDesc}
    (hv : VarA w g T cs) (hx : a.eval x = .pointer (some ⟨g, 0, none⟩)) (hu : Tryz.prog.underlying ty = some d) (hd : d.isRow = true) (hi : (Tryz.prog.info? ty).map (·.size) = some cs.size)
    (hK : K (a.put dst (.agg cs)) w) :
    if Region.wanted ⟨dst, .load ty x, t', pos, af, none⟩ (yielded ops a.tmps) = true then Oper.wp Tryz.prog ⟨dst, .load ty x, t', pos, af, none⟩ a w K Q else E := by
  rw [if_pos (by simp [Region.wanted])]
  unfold Oper.wp execOp
  simp only [hx, Instr.loadAt, Instr.sureAddr, Sem.run_bind, Sem.run_pure, Result.andThen_ok, loadA_run hv hu hd hi]
  exact hK
theorem rdOp40 (zs : List Int) (p : Int) : (rdOp zs p).1.nm.length ≤ 40 ∧ (rdOp zs p).1.asn.length ≤ 40 := ⟨getText_len zs _, getText_len zs _⟩
theorem rdPt40 (zs : List Int) (p : Int) : (rdPt zs p).1.asn.length ≤ 40 := getText_len zs _
theorem szMd (e : Int → List En × Int) (he : ∀ p, szEns (e p).1 ≤ 1000) (zs : List Int) : szMs (rdMs e zs).1 ≤ 2000 := by
  have h0 : szEns ([] : List En) = 0 := by simp [szEns]
  have g0 := rdOp40 zs (getNum zs (getNum zs (getNum zs (getNum zs 0).2).2).2).2
  have g1 : szEns (rdRp e zs (getNum zs (getNum zs (getNum zs (getNum zs 0).2).2).2).2).1.list ≤ 1000 := he _
  have g2 := rdPt40 zs (rdTx zs (getNum zs (getNum zs (getNum zs 0).2).2).2).2
  unfold rdMs
  dsimp only
  repeat' split
  all_goals (simp only [szMs, op0, rp0, pt0, h0, List.length_nil]; omega)
/-- What MsgRead answers. -/
def msRead (zs : List Int) : MsD × Bool := if (rdMs (rdEnP zs) zs).2 = zs.length ∧ MOk (rdMs (rdEnP zs) zs).1 = true then ((rdMs (rdEnP zs) zs).1, true) else (ms0, false)
theorem msRead_spec {zs : List Int} (hz : isBytes zs) : msRead zs = if (rdMs (rdEnS zs) zs).2 = zs.length ∧ MOk (rdMs (rdEnS zs) zs).1 = true ∧ msB (rdMs (rdEnS zs) zs).1 = zs then ((rdMs (rdEnS zs) zs).1, true) else (ms0, false) := by
  unfold msRead
  by_cases h : (rdMs (rdEnP zs) zs).2 = zs.length ∧ MOk (rdMs (rdEnP zs) zs).1 = true
  · have hs := ms_same (zs := zs) (by omega)
    have ht := ms_took hz (by omega)
    rw [h.1] at ht
    have hb := ht.all
    rw [if_pos h, hs, if_pos ⟨h.1, h.2, hb⟩]
  · rw [if_neg h]
    by_cases g : (rdMs (rdEnS zs) zs).2 = zs.length ∧ MOk (rdMs (rdEnS zs) zs).1 = true ∧ msB (rdMs (rdEnS zs) zs).1 = zs
    · exfalso
      apply h
      have hs := ms_same' hz (by omega) (MOk_12 g.2.1)
      rw [hs]
      exact ⟨g.1, g.2.1⟩
    · rw [if_neg g]
theorem MOk_out {m : MsD} (h : m.kind < 0 ∨ 7 < m.kind) : MOk m = false := by unfold MOk; rcases h with h | h <;> simp <;> omega
theorem msRead_out {zs : List Int} (h : (getNum zs 0).1 < 0 ∨ 7 < (getNum zs 0).1) : msRead zs = (ms0, false) := by
  unfold msRead
  rw [if_neg]
  intro g
  have hk : (rdMs (rdEnP zs) zs).1.kind = (getNum zs 0).1 := by
    unfold rdMs
    dsimp only
    repeat' split
    all_goals rfl
  have := MOk_out (m := (rdMs (rdEnP zs) zs).1) (by rw [hk]; exact h)
  rw [this] at g
  cases g.2
end Go.Proofs.YtbnjhjgjmckedaaGreat
end
