/- The program compares operations, replies and parts with themselves and with the zero value. Condition: no more than 2^21 of all. -/
import Derived.Test.YtklhikadhohjbaaGreatMA04
import Derived.Test.YtklhikadhohjbaaGreatMA01
namespace Go.Proofs.YtklhikadhohjbaaGreat
open Go.RowKit
set_option linter.unusedVariables false
set_option linter.unusedSimpArgs false
set_option maxRecDepth 100000

set_option maxHeartbeats 1000000 in
theorem bytesEq_any (v u : Value) (xs ys : List Int) (S S2 : Nat → Prop) (w : World) (r : RdV w S v (.bytes xs)) (r2 : RdV w S2 u (.bytes ys)) :
  Calls Tryz.prog 213 #[v, u] w fun e w' => e = .returned (.bool (decide (xs = ys))) ∧ w' = w := by
 obtain ⟨a, cap, rfl, _, hx⟩ := r.b.reads
 obtain ⟨a2, cap2, rfl, _, hy⟩ := r2.b.reads
 have h1 := conv_any a xs xs.length cap w hx rfl
 have h2 := conv_any a2 ys ys.length cap2 w hy rfl
 have hst := str_eq xs ys hx.1 hy.1
 rw [← hst]
 generalize strOfNums xs = s1 at h1 hst
 generalize strOfNums ys = s2 at h2 hst
 clear hst hx hy r r2
 generalize xs.length = n1 at *
 generalize ys.length = n2 at *
 go_enter Tryz.func213, Tryz.ntmps213
 go_wp2
 go_ret
 exact ⟨rfl, rfl⟩
theorem nilB (w : World) (S : Nat → Prop) : RdV w S (.slice none 0 0) (.bytes []) := ⟨isBytes_nil, none, 0, 0, rfl, rfl, ⟨Nat.le_refl _, Nat.zero_le _, fun _ => ⟨rfl, rfl⟩⟩, .inl rfl⟩
theorem bytesEq_self (v : Value) (xs : List Int) (S : Nat → Prop) (w : World) (r : RdV w S v (.bytes xs)) : Calls Tryz.prog 213 #[v, v] w fun e w' => e = .returned (.bool true) ∧ w' = w :=
 (bytesEq_any v v xs xs S S w r r).mono fun e w' ⟨he, hw⟩ => ⟨by rw [he]; simp, hw⟩
theorem bytesEq_nil (v : Value) (xs : List Int) (S : Nat → Prop) (w : World) (r : RdV w S v (.bytes xs)) : Calls Tryz.prog 213 #[v, .slice none 0 0] w fun e w' => e = .returned (.bool (decide (xs.length = 0))) ∧ w' = w :=
 (bytesEq_any v _ xs [] S S w r (nilB w S)).mono fun e w' ⟨he, hw⟩ => ⟨by rw [he]; cases xs <;> simp, hw⟩
set_option maxHeartbeats 2000000 in
theorem sameOp_self (x y : Value) (o : OpD) (S : Nat → Prop) (w : World) (r : RdV w S x (.bytes o.nm)) (r2 : RdV w S y (.bytes o.asn)) :
  Calls Tryz.prog 148 #[opV o x y, opV o x y] w fun e w' => e = .returned (.bool (true)) ∧ Below w.heap.size w w' := by
 have H1 : Hid (∀ W, Below w.heap.size w W → _) := fun W hW => bytesEq_self x o.nm S W (r.step hW)
 have H2 : Hid (∀ W, Below w.heap.size w W → _) := fun W hW => bytesEq_self y o.asn S W (r2.step hW)
 obtain ⟨a, cap, rfl⟩ := r.sliceB
 obtain ⟨a2, cap2, rfl⟩ := r2.sliceB
 obtain ⟨kd, ⟨p, q, d⟩, nm, ⟨p2, q2, d2⟩, asn, vl⟩ := o
 dsimp only at H1 H2 ⊢
 clear r r2
 skip
 generalize nm.length = n0 at *
 generalize asn.length = n1 at *
 skip
 all_goals (go_enter Tryz.func148, Tryz.ntmps148; go_wp2_with fail; all_goals first | (go_ret; refine ⟨?_, by repeat (first | exact Below.refl _ _ | refine Below.al ?_ _ | refine below_drewN2 ?_ _)⟩; first | rfl | (simp_all [hd0, Hd.sh, Hd.ino, Hd.dir]; done) | (simp_all [hd0, Hd.sh, Hd.ino, Hd.dir]; omega) | (simp_all [hd0, Hd.sh, Hd.ino, Hd.dir]; rw [Bool.eq_iff_iff]; simp; done)) | (refine Calls.mono (H1.out _ (by repeat (first | exact Below.refl _ _ | refine Below.al ?_ _ | refine below_drewN2 ?_ _))) ?_; rintro e w' ⟨rfl, rfl⟩; go_wp2_with fail; all_goals first | (go_ret; refine ⟨?_, by repeat (first | exact Below.refl _ _ | refine Below.al ?_ _ | refine below_drewN2 ?_ _)⟩; first | rfl | (simp_all [hd0, Hd.sh, Hd.ino, Hd.dir]; done) | (simp_all [hd0, Hd.sh, Hd.ino, Hd.dir]; omega) | (simp_all [hd0, Hd.sh, Hd.ino, Hd.dir]; rw [Bool.eq_iff_iff]; simp; done)) | (refine Calls.mono (H2.out _ (by repeat (first | exact Below.refl _ _ | refine Below.al ?_ _ | refine below_drewN2 ?_ _))) ?_; rintro e w' ⟨rfl, rfl⟩; go_wp2_with fail; all_goals (go_ret; refine ⟨?_, by repeat (first | exact Below.refl _ _ | refine Below.al ?_ _ | refine below_drewN2 ?_ _)⟩; first | rfl | (simp_all [hd0, Hd.sh, Hd.ino, Hd.dir]; done) | (simp_all [hd0, Hd.sh, Hd.ino, Hd.dir]; omega) | (simp_all [hd0, Hd.sh, Hd.ino, Hd.dir]; rw [Bool.eq_iff_iff]; simp; done)))))
set_option maxHeartbeats 2000000 in
theorem sameOp_zero (x y : Value) (o : OpD) (S : Nat → Prop) (w : World) (r : RdV w S x (.bytes o.nm)) (r2 : RdV w S y (.bytes o.asn)) :
  Calls Tryz.prog 148 #[opV o x y, opV op0 (.slice none 0 0) (.slice none 0 0)] w fun e w' => e = .returned (.bool (zOp o)) ∧ Below w.heap.size w w' := by
 have H1 : Hid (∀ W, Below w.heap.size w W → _) := fun W hW => bytesEq_nil x o.nm S W (r.step hW)
 have H2 : Hid (∀ W, Below w.heap.size w W → _) := fun W hW => bytesEq_nil y o.asn S W (r2.step hW)
 obtain ⟨a, cap, rfl⟩ := r.sliceB
 obtain ⟨a2, cap2, rfl⟩ := r2.sliceB
 obtain ⟨kd, ⟨p, q, d⟩, nm, ⟨p2, q2, d2⟩, asn, vl⟩ := o
 dsimp only at H1 H2 ⊢
 clear r r2
 simp only [zOp, op0, hd0]
 generalize nm.length = n0 at *
 generalize asn.length = n1 at *
 by_cases hn0 : n0 = 0 <;> by_cases hn1 : n1 = 0 <;> simp only [hn0, hn1, decide_true, decide_false] at H1 H2 ⊢
 all_goals (go_enter Tryz.func148, Tryz.ntmps148; go_wp2_with fail; all_goals first | (go_ret; refine ⟨?_, by repeat (first | exact Below.refl _ _ | refine Below.al ?_ _ | refine below_drewN2 ?_ _)⟩; first | rfl | (simp_all [hd0, Hd.sh, Hd.ino, Hd.dir]; done) | (simp_all [hd0, Hd.sh, Hd.ino, Hd.dir]; omega) | (simp_all [hd0, Hd.sh, Hd.ino, Hd.dir]; rw [Bool.eq_iff_iff]; simp; done)) | (refine Calls.mono (H1.out _ (by repeat (first | exact Below.refl _ _ | refine Below.al ?_ _ | refine below_drewN2 ?_ _))) ?_; rintro e w' ⟨rfl, rfl⟩; go_wp2_with fail; all_goals first | (go_ret; refine ⟨?_, by repeat (first | exact Below.refl _ _ | refine Below.al ?_ _ | refine below_drewN2 ?_ _)⟩; first | rfl | (simp_all [hd0, Hd.sh, Hd.ino, Hd.dir]; done) | (simp_all [hd0, Hd.sh, Hd.ino, Hd.dir]; omega) | (simp_all [hd0, Hd.sh, Hd.ino, Hd.dir]; rw [Bool.eq_iff_iff]; simp; done)) | (refine Calls.mono (H2.out _ (by repeat (first | exact Below.refl _ _ | refine Below.al ?_ _ | refine below_drewN2 ?_ _))) ?_; rintro e w' ⟨rfl, rfl⟩; go_wp2_with fail; all_goals (go_ret; refine ⟨?_, by repeat (first | exact Below.refl _ _ | refine Below.al ?_ _ | refine below_drewN2 ?_ _)⟩; first | rfl | (simp_all [hd0, Hd.sh, Hd.ino, Hd.dir]; done) | (simp_all [hd0, Hd.sh, Hd.ino, Hd.dir]; omega) | (simp_all [hd0, Hd.sh, Hd.ino, Hd.dir]; rw [Bool.eq_iff_iff]; simp; done)))))
set_option maxHeartbeats 2000000 in
theorem samePart_self (x : Value) (o : PtD) (S : Nat → Prop) (w : World) (r : RdV w S x (.bytes o.asn)) :
  Calls Tryz.prog 150 #[ptV o x, ptV o x] w fun e w' => e = .returned (.bool (true)) ∧ Below w.heap.size w w' := by
 have H1 : Hid (∀ W, Below w.heap.size w W → _) := fun W hW => bytesEq_self x o.asn S W (r.step hW)
 obtain ⟨a, cap, rfl⟩ := r.sliceB
 obtain ⟨kd, ⟨p, q, d⟩, nm, ⟨p2, q2, d2⟩⟩ := o
 dsimp only at H1 ⊢
 clear r
 skip
 generalize nm.length = n0 at *
 skip
 all_goals (go_enter Tryz.func150, Tryz.ntmps150; go_wp2_with fail; all_goals first | (go_ret; refine ⟨?_, by repeat (first | exact Below.refl _ _ | refine Below.al ?_ _ | refine below_drewN2 ?_ _)⟩; first | rfl | (simp_all [hd0, Hd.sh, Hd.ino, Hd.dir]; done) | (simp_all [hd0, Hd.sh, Hd.ino, Hd.dir]; omega) | (simp_all [hd0, Hd.sh, Hd.ino, Hd.dir]; rw [Bool.eq_iff_iff]; simp; done)) | (refine Calls.mono (H1.out _ (by repeat (first | exact Below.refl _ _ | refine Below.al ?_ _ | refine below_drewN2 ?_ _))) ?_; rintro e w' ⟨rfl, rfl⟩; go_wp2_with fail; all_goals (go_ret; refine ⟨?_, by repeat (first | exact Below.refl _ _ | refine Below.al ?_ _ | refine below_drewN2 ?_ _)⟩; first | rfl | (simp_all [hd0, Hd.sh, Hd.ino, Hd.dir]; done) | (simp_all [hd0, Hd.sh, Hd.ino, Hd.dir]; omega) | (simp_all [hd0, Hd.sh, Hd.ino, Hd.dir]; rw [Bool.eq_iff_iff]; simp; done))))
set_option maxHeartbeats 2000000 in
theorem samePart_zero (x : Value) (o : PtD) (S : Nat → Prop) (w : World) (r : RdV w S x (.bytes o.asn)) :
  Calls Tryz.prog 150 #[ptV o x, ptV pt0 (.slice none 0 0)] w fun e w' => e = .returned (.bool (zPt o)) ∧ Below w.heap.size w w' := by
 have H1 : Hid (∀ W, Below w.heap.size w W → _) := fun W hW => bytesEq_nil x o.asn S W (r.step hW)
 obtain ⟨a, cap, rfl⟩ := r.sliceB
 obtain ⟨kd, ⟨p, q, d⟩, nm, ⟨p2, q2, d2⟩⟩ := o
 dsimp only at H1 ⊢
 clear r
 simp only [zPt, pt0, hd0]
 generalize nm.length = n0 at *
 by_cases hn0 : n0 = 0 <;> simp only [hn0, decide_true, decide_false] at H1 ⊢
 all_goals (go_enter Tryz.func150, Tryz.ntmps150; go_wp2_with fail; all_goals first | (go_ret; refine ⟨?_, by repeat (first | exact Below.refl _ _ | refine Below.al ?_ _ | refine below_drewN2 ?_ _)⟩; first | rfl | (simp_all [hd0, Hd.sh, Hd.ino, Hd.dir]; done) | (simp_all [hd0, Hd.sh, Hd.ino, Hd.dir]; omega) | (simp_all [hd0, Hd.sh, Hd.ino, Hd.dir]; rw [Bool.eq_iff_iff]; simp; done)) | (refine Calls.mono (H1.out _ (by repeat (first | exact Below.refl _ _ | refine Below.al ?_ _ | refine below_drewN2 ?_ _))) ?_; rintro e w' ⟨rfl, rfl⟩; go_wp2_with fail; all_goals (go_ret; refine ⟨?_, by repeat (first | exact Below.refl _ _ | refine Below.al ?_ _ | refine below_drewN2 ?_ _)⟩; first | rfl | (simp_all [hd0, Hd.sh, Hd.ino, Hd.dir]; done) | (simp_all [hd0, Hd.sh, Hd.ino, Hd.dir]; omega) | (simp_all [hd0, Hd.sh, Hd.ino, Hd.dir]; rw [Bool.eq_iff_iff]; simp; done))))
set_option maxHeartbeats 2000000 in
theorem sameEntry_self (x : Value) (e : En) (S : Nat → Prop) (w : World) (r : RdV w S x (.bytes e.nm)) :
  Calls Tryz.prog 215 #[enV x e.h, enV x e.h] w fun q w' => q = .returned (.bool true) ∧ Below w.heap.size w w' := by
 have H1 : Hid (∀ W, Below w.heap.size w W → _) := fun W hW => bytesEq_self x e.nm S W (r.step hW)
 obtain ⟨a, cap, rfl⟩ := r.sliceB
 obtain ⟨nm, ⟨p, q, d⟩⟩ := e
 dsimp only at H1 ⊢
 clear r
 generalize nm.length = n0 at *
 go_enter Tryz.func215, Tryz.ntmps215
 go_wp2_with fail
 all_goals first | (go_ret; refine ⟨?_, by repeat (first | exact Below.refl _ _ | refine Below.al ?_ _ | refine below_drewN2 ?_ _)⟩; first | rfl | (simp_all [hd0, Hd.sh, Hd.ino, Hd.dir]; done) | (simp_all [hd0, Hd.sh, Hd.ino, Hd.dir]; omega) | (simp_all [hd0, Hd.sh, Hd.ino, Hd.dir]; rw [Bool.eq_iff_iff]; simp; done)) | (refine Calls.mono (H1.out _ (by repeat (first | exact Below.refl _ _ | refine Below.al ?_ _ | refine below_drewN2 ?_ _))) ?_; rintro e w' ⟨rfl, rfl⟩; go_wp2_with fail; all_goals (go_ret; refine ⟨?_, by repeat (first | exact Below.refl _ _ | refine Below.al ?_ _ | refine below_drewN2 ?_ _)⟩; first | rfl | (simp_all [hd0, Hd.sh, Hd.ino, Hd.dir]; done) | (simp_all [hd0, Hd.sh, Hd.ino, Hd.dir]; omega) | (simp_all [hd0, Hd.sh, Hd.ino, Hd.dir]; rw [Bool.eq_iff_iff]; simp; done)))
set_option maxHeartbeats 2000000 in
theorem equalFunc_nil (a : Option Addr) (n cap : Nat) (w : World) :
  Calls Tryz.prog 214 #[.slice a n cap, .slice none 0 0, .func (.func 215) #[] #[]] w fun q w' => q = .returned (.bool (decide (n = 0))) ∧ Below w.heap.size w w' := by
 by_cases h0 : n = 0
 ·subst h0
  go_enter Tryz.func214, Tryz.ntmps214
  go_wp2
  go_loopw [17] (fun i wr => i = .i 0 ∧ wr = w) (fun _ _ => 0)
  case atStart => exact ⟨rfl, rfl⟩
  case round =>
   obtain ⟨rfl, rfl⟩ := hrel
   go_wp2
   go_ret
   exact ⟨rfl, Below.refl _ _⟩
 ·simp only [h0, decide_false]
  go_enter Tryz.func214, Tryz.ntmps214
  go_wp2
  all_goals first | (go_ret; exact ⟨rfl, Below.refl _ _⟩) | (exfalso; omega)
set_option maxHeartbeats 2000000 in
theorem equalFunc_self (v : Value) (l : List En) (S : Nat → Prop) (w : World) (r : RdV w S v (ensDt l)) (hl : szEns l ≤ 2097152) :
  Calls Tryz.prog 214 #[v, v, .func (.func 215) #[] #[]] w fun q w' => q = .returned (.bool true) ∧ Below w.heap.size w w' := by
 obtain ⟨a, cap, rfl, _⟩ := RdV.sliced r
 have HR2 : Hid (∀ W, Below w.heap.size w W → RdV W S (.slice a l.length cap) (.rows 139 4 l.length (fun i j => enCell (l[i]?.getD en0) j))) := RdV.old r
 have hmm : l.length ≤ 2097152 := by unfold szEns at hl; omega
 obtain ⟨m, hm⟩ : ∃ m, l.length = m := ⟨_, rfl⟩
 rw [hm] at HR2 hmm ⊢
 clear r hl hm
 go_enter Tryz.func214, Tryz.ntmps214
 go_wp2
 go_loopw [17] (fun i wr => ∃ k : Nat, k ≤ m ∧ i = .i k ∧ Below w.heap.size w wr) (fun i _ => m - (intOf i).toNat)
 case atStart => exact ⟨0, Nat.zero_le _, rfl, Below.refl _ _⟩
 case round =>
  obtain ⟨k, hk, rfl, hbel⟩ := hrel
  by_cases hlt : k < m
  case neg =>
   have he : k = m := by omega
   subst he
   go_wp2
   go_ret
   exact ⟨rfl, hbel⟩
  obtain ⟨b, off, rfl, hbl, _, hx⟩ := RdV.at (HR2.out wr hbel) hlt
  obtain ⟨x0, c0, r0⟩ := hx 0 (by omega)
  obtain ⟨x1, c1, r1⟩ := hx 1 (by omega)
  obtain ⟨x2, c2, r2⟩ := hx 2 (by omega)
  obtain ⟨x3, c3, r3⟩ := hx 3 (by omega)
  generalize l[k]?.getD en0 = e at r0 r1 r2 r3
  clear hx
  have HSE : Hid (∀ W, Below wr.heap.size wr W → _) := fun W hW => sameEntry_self x0 e S W (RdV.step (show RdV wr S x0 (.bytes e.nm) from r0) hW)
  obtain ⟨nm, ⟨s, ino, dd⟩⟩ := e
  obtain rfl : x1 = .i s := r1
  obtain rfl : x2 = .i ino := r2
  obtain rfl : x3 = .bool dd := r3
  simp only [Nat.add_zero] at c0
  obtain ⟨xa, xc, rfl⟩ := RdV.sliceB (show RdV wr S x0 (.bytes nm) from r0)
  clear r0 HR2
  generalize nm.length = xn at *
  go_wp2_with (go_at_call 215; refine Calls.mono (HSE.out _ (by repeat (first | exact Below.refl _ _ | refine Below.al ?_ _ | refine below_drewN2 ?_ _))) ?_; rintro e w' ⟨rfl, b_⟩)
  exact ⟨⟨k + 1, by omega, by go_num, hbel.trans ((Below.trans (by repeat (first | exact Below.refl _ _ | refine Below.al ?_ _ | refine below_drewN2 ?_ _)) (b_.mono (by simp <;> omega))).mono hbel.size)⟩, by simp [intOf]; omega⟩
set_option maxHeartbeats 2000000 in
theorem sameReply_self (x : Value) (o : RpD) (S : Nat → Prop) (w : World) (r : RdV w S x (ensDt o.list)) (hl : szEns o.list ≤ 2097152) :
  Calls Tryz.prog 149 #[rpV o x, rpV o x] w fun e w' => e = .returned (.bool true) ∧ Below w.heap.size w w' := by
 have H1 : Hid (∀ W, Below w.heap.size w W → _) := fun W hW => equalFunc_self x o.list S W (r.step hW) hl
 obtain ⟨a, cap, rfl, _⟩ := RdV.sliced r
 obtain ⟨kd, ⟨p, q, d⟩, vl, es⟩ := o
 dsimp only at H1 ⊢
 clear r hl
 generalize es.length = n0 at *
 go_enter Tryz.func149, Tryz.ntmps149
 go_wp2_with fail
 refine Calls.mono (H1.out _ (by repeat (first | exact Below.refl _ _ | refine Below.al ?_ _ | refine below_drewN2 ?_ _))) ?_
 rintro e w' ⟨rfl, b_⟩
 go_wp2
 go_ret
 exact ⟨rfl, Below.trans (by repeat (first | exact Below.refl _ _ | refine Below.al ?_ _ | refine below_drewN2 ?_ _)) (b_.mono (by simp <;> omega))⟩
set_option maxHeartbeats 2000000 in
theorem sameReply_zero (x : Value) (o : RpD) (S : Nat → Prop) (w : World) (r : RdV w S x (ensDt o.list)) :
  Calls Tryz.prog 149 #[rpV o x, rpV rp0 (.slice none 0 0)] w fun e w' => e = .returned (.bool (zRp o)) ∧ Below w.heap.size w w' := by
 obtain ⟨a, cap, rfl, _⟩ := RdV.sliced r
 have H1 : Hid (∀ W, _) := fun W => equalFunc_nil a o.list.length cap W
 obtain ⟨kd, ⟨p, q, d⟩, vl, es⟩ := o
 dsimp only at H1 ⊢
 clear r
 simp only [zRp, rp0, hd0]
 generalize es.length = n0 at *
 by_cases hn0 : n0 = 0 <;> simp only [hn0, decide_true, decide_false] at H1 ⊢
 all_goals
  go_enter Tryz.func149, Tryz.ntmps149
  go_wp2_with fail
  all_goals first | (go_ret; refine ⟨?_, by repeat (first | exact Below.refl _ _ | refine Below.al ?_ _ | refine below_drewN2 ?_ _)⟩; first | rfl | (simp_all [hd0, Hd.sh, Hd.ino, Hd.dir]; done) | (simp_all [hd0, Hd.sh, Hd.ino, Hd.dir]; omega) | (simp_all [hd0, Hd.sh, Hd.ino, Hd.dir]; rw [Bool.eq_iff_iff]; simp; done)) | (refine Calls.mono (H1.out _) ?_; rintro e w' ⟨rfl, b_⟩; go_wp2; all_goals (go_ret; refine ⟨?_, Below.trans (by repeat (first | exact Below.refl _ _ | refine Below.al ?_ _ | refine below_drewN2 ?_ _)) (b_.mono (by simp <;> omega))⟩; first | rfl | (simp_all [hd0, Hd.sh, Hd.ino, Hd.dir]; done) | (simp_all [hd0, Hd.sh, Hd.ino, Hd.dir]; omega)))
end Go.Proofs.YtklhikadhohjbaaGreat
