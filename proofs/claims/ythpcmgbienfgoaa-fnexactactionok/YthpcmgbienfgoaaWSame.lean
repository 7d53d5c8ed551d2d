/- The program compares operations, replies and parts with themselves and with the zero value. Condition: no more than 2^21 of all. -/
import Derived.Test.YthpcmgbienfgoaaWMsg0
import Derived.Test.YthpcmgbienfgoaaStrs3
namespace Go.Proofs.Ythpcmgbienfgoaa
open Go.RowKit
set_option linter.unusedVariables false
set_option linter.unusedSimpArgs false
set_option maxRecDepth 100000

set_option maxHeartbeats 1000000 in
theorem bytesEq_any (v u : Value) (xs ys : List Int) (S S2 : Nat → Prop) (w : World) (r : RdV w S v (.bytes xs)) (r2 : RdV w S2 u (.bytes ys)) :
    Calls Try.prog 36 #[v, u] w fun e w' => e = .returned (.bool (decide (xs = ys))) ∧ w' = w := by
  obtain ⟨a, cap, rfl, _, hx⟩ := r.b.reads
  obtain ⟨a2, cap2, rfl, _, hy⟩ := r2.b.reads
  have h1 := conv_any a xs xs.length cap w hx rfl
  have h2 := conv_any a2 ys ys.length cap2 w hy rfl
  have hst := str_eq xs ys hx.1 hy.1
  rw [← hst]
  generalize strOfNums xs = s1 at h1 hst
  generalize strOfNums ys = s2 at h2 hst
  clear hst hx hy r r2
  generalize xs.length = n1 at *
  generalize ys.length = n2 at *
  go_enter Try.func36, Try.ntmps36
  go_wp2
  go_ret
  exact ⟨rfl, rfl⟩
theorem nilB (w : World) (S : Nat → Prop) : RdV w S (.slice none 0 0) (.bytes []) := ⟨isBytes_nil, none, 0, 0, rfl, rfl, ⟨Nat.le_refl _, Nat.zero_le _, fun _ => ⟨rfl, rfl⟩⟩, .inl rfl⟩
theorem bytesEq_self (v : Value) (xs : List Int) (S : Nat → Prop) (w : World) (r : RdV w S v (.bytes xs)) : Calls Try.prog 36 #[v, v] w fun e w' => e = .returned (.bool true) ∧ w' = w :=
  (bytesEq_any v v xs xs S S w r r).mono fun e w' ⟨he, hw⟩ => ⟨by rw [he]; simp, hw⟩
theorem bytesEq_nil (v : Value) (xs : List Int) (S : Nat → Prop) (w : World) (r : RdV w S v (.bytes xs)) : Calls Try.prog 36 #[v, .slice none 0 0] w fun e w' => e = .returned (.bool (decide (xs.length = 0))) ∧ w' = w :=
  (bytesEq_any v _ xs [] S S w r (nilB w S)).mono fun e w' ⟨he, hw⟩ => ⟨by rw [he]; cases xs <;> simp, hw⟩
set_option maxHeartbeats 2000000 in
theorem sameOp_self (x y : Value) (o : OpD) (S : Nat → Prop) (w : World) (r : RdV w S x (.bytes o.nm)) (r2 : RdV w S y (.bytes o.asn)) :
    Calls Try.prog 22 #[opV o x y, opV o x y] w fun e w' => e = .returned (.bool (true)) ∧ Below w.heap.size w w' := by
  have H1 : Hid (∀ W, Below w.heap.size w W → _) := fun W hW => bytesEq_self x o.nm S W (r.step hW)
  have H2 : Hid (∀ W, Below w.heap.size w W → _) := fun W hW => bytesEq_self y o.asn S W (r2.step hW)
  obtain ⟨a, cap, rfl⟩ := r.sliceB
  obtain ⟨a2, cap2, rfl⟩ := r2.sliceB
  obtain ⟨kd, ⟨p, q, d⟩, nm, ⟨p2, q2, d2⟩, asn, vl⟩ := o
  dsimp only at H1 H2 ⊢
  clear r r2
  skip
  generalize nm.length = n0 at *
  generalize asn.length = n1 at *
  skip
  all_goals (go_enter Try.func22, Try.ntmps22; go_wp2_with fail; all_goals first | (go_ret; refine ⟨?_, by repeat (first | exact Below.refl _ _ | refine Below.al ?_ _ | refine below_drewN2 ?_ _)⟩; first | rfl | (simp_all [hd0, Hd.sh, Hd.ino, Hd.dir]; done) | (simp_all [hd0, Hd.sh, Hd.ino, Hd.dir]; omega) | (simp_all [hd0, Hd.sh, Hd.ino, Hd.dir]; rw [Bool.eq_iff_iff]; simp; done)) | (refine Calls.mono (H1.out _ (by repeat (first | exact Below.refl _ _ | refine Below.al ?_ _ | refine below_drewN2 ?_ _))) ?_; rintro e w' ⟨rfl, rfl⟩; go_wp2_with fail; all_goals first | (go_ret; refine ⟨?_, by repeat (first | exact Below.refl _ _ | refine Below.al ?_ _ | refine below_drewN2 ?_ _)⟩; first | rfl | (simp_all [hd0, Hd.sh, Hd.ino, Hd.dir]; done) | (simp_all [hd0, Hd.sh, Hd.ino, Hd.dir]; omega) | (simp_all [hd0, Hd.sh, Hd.ino, Hd.dir]; rw [Bool.eq_iff_iff]; simp; done)) | (refine Calls.mono (H2.out _ (by repeat (first | exact Below.refl _ _ | refine Below.al ?_ _ | refine below_drewN2 ?_ _))) ?_; rintro e w' ⟨rfl, rfl⟩; go_wp2_with fail; all_goals (go_ret; refine ⟨?_, by repeat (first | exact Below.refl _ _ | refine Below.al ?_ _ | refine below_drewN2 ?_ _)⟩; first | rfl | (simp_all [hd0, Hd.sh, Hd.ino, Hd.dir]; done) | (simp_all [hd0, Hd.sh, Hd.ino, Hd.dir]; omega) | (simp_all [hd0, Hd.sh, Hd.ino, Hd.dir]; rw [Bool.eq_iff_iff]; simp; done)))))
set_option maxHeartbeats 2000000 in
theorem sameOp_zero (x y : Value) (o : OpD) (S : Nat → Prop) (w : World) (r : RdV w S x (.bytes o.nm)) (r2 : RdV w S y (.bytes o.asn)) :
    Calls Try.prog 22 #[opV o x y, opV op0 (.slice none 0 0) (.slice none 0 0)] w fun e w' => e = .returned (.bool (zOp o)) ∧ Below w.heap.size w w' := by
  have H1 : Hid (∀ W, Below w.heap.size w W → _) := fun W hW => bytesEq_nil x o.nm S W (r.step hW)
  have H2 : Hid (∀ W, Below w.heap.size w W → _) := fun W hW => bytesEq_nil y o.asn S W (r2.step hW)
  obtain ⟨a, cap, rfl⟩ := r.sliceB
  obtain ⟨a2, cap2, rfl⟩ := r2.sliceB
  obtain ⟨kd, ⟨p, q, d⟩, nm, ⟨p2, q2, d2⟩, asn, vl⟩ := o
  dsimp only at H1 H2 ⊢
  clear r r2
  simp only [zOp, op0, hd0]
  generalize nm.length = n0 at *
  generalize asn.length = n1 at *
  by_cases hn0 : n0 = 0 <;> by_cases hn1 : n1 = 0 <;> simp only [hn0, hn1, decide_true, decide_false] at H1 H2 ⊢
  all_goals (go_enter Try.func22, Try.ntmps22; go_wp2_with fail; all_goals first | (go_ret; refine ⟨?_, by repeat (first | exact Below.refl _ _ | refine Below.al ?_ _ | refine below_drewN2 ?_ _)⟩; first | rfl | (simp_all [hd0, Hd.sh, Hd.ino, Hd.dir]; done) | (simp_all [hd0, Hd.sh, Hd.ino, Hd.dir]; omega) | (simp_all [hd0, Hd.sh, Hd.ino, Hd.dir]; rw [Bool.eq_iff_iff]; simp; done)) | (refine Calls.mono (H1.out _ (by repeat (first | exact Below.refl _ _ | refine Below.al ?_ _ | refine below_drewN2 ?_ _))) ?_; rintro e w' ⟨rfl, rfl⟩; go_wp2_with fail; all_goals first | (go_ret; refine ⟨?_, by repeat (first | exact Below.refl _ _ | refine Below.al ?_ _ | refine below_drewN2 ?_ _)⟩; first | rfl | (simp_all [hd0, Hd.sh, Hd.ino, Hd.dir]; done) | (simp_all [hd0, Hd.sh, Hd.ino, Hd.dir]; omega) | (simp_all [hd0, Hd.sh, Hd.ino, Hd.dir]; rw [Bool.eq_iff_iff]; simp; done)) | (refine Calls.mono (H2.out _ (by repeat (first | exact Below.refl _ _ | refine Below.al ?_ _ | refine below_drewN2 ?_ _))) ?_; rintro e w' ⟨rfl, rfl⟩; go_wp2_with fail; all_goals (go_ret; refine ⟨?_, by repeat (first | exact Below.refl _ _ | refine Below.al ?_ _ | refine below_drewN2 ?_ _)⟩; first | rfl | (simp_all [hd0, Hd.sh, Hd.ino, Hd.dir]; done) | (simp_all [hd0, Hd.sh, Hd.ino, Hd.dir]; omega) | (simp_all [hd0, Hd.sh, Hd.ino, Hd.dir]; rw [Bool.eq_iff_iff]; simp; done)))))
end Go.Proofs.Ythpcmgbienfgoaa
