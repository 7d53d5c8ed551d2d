/- May a part be? By the specification and by the program. Condition: a text of at most 2^21 bytes. -/
import Derived.Test.YtklhikadhohjbaaGreatMA01
import Derived.Deep.QuietTactic
import Derived.BigQuiet
namespace Go.Proofs.YtklhikadhohjbaaGreat
open Go.RowKit
set_option linter.unusedVariables false
set_option maxRecDepth 100000
set_option linter.unusedSimpArgs false

def POk (p : PtD) : Bool :=
 if p.kind = 0 then HOk p.h && (decide (p.asn.length = 0) && decide (p.to = hd0))
 else if p.kind = 1 then (HOk p.h && !p.h.dir) && (decide (p.asn.length = 0) && decide (p.to = hd0))
 else if p.kind = 2 then ((decide (0 ≤ p.h.sh) && decide (p.h.sh < 4)) && decide (p.h.ino = 0)) && (decide (p.asn.length = 0) && (HOk p.to && p.to.dir))
 else if p.kind = 3 then (HOk p.h && p.h.dir) && (isNm p.asn && HOk p.to)
 else if p.kind = 4 then (HOk p.h && p.h.dir) && (decide (p.asn.length = 0) && (HOk p.to && p.to.dir))
 else if p.kind = 5 then decide (p.h = hd0) && (decide (p.asn.length = 0) && decide (p.to = hd0))
 else false
theorem Below.al {a b : World} (h : Below a.heap.size a b) (o : Obj) : Below a.heap.size a (b.alloc o) := h.alloc h.size _
theorem implShard_w (n : Int) (w : World) : Calls Tryz.prog 186 #[.i n] w fun e w' => e = .returned (.bool (decide (0 ≤ n) && decide (n < 4))) ∧ w' = w := by
 go_enter Tryz.func186, Tryz.ntmps186
 go_wp2
 all_goals (go_ret; exact ⟨by first | rfl | (simp_all; done) | (simp_all; omega), rfl⟩)
set_option maxHeartbeats 1000000 in
theorem implDir_w (h : Hd) (w : World) : Calls Tryz.prog 226 #[h.v] w fun e w' => e = .returned (.bool (HOk h && h.dir)) ∧ w' = (w.alloc (.cells #[.i h.sh, .i h.ino, .bool h.dir] 24)).alloc (.cells #[.i h.sh, .i h.ino, .bool h.dir] 24) := by
 obtain ⟨p, q, d⟩ := h
 have HH : Hid (∀ (W : World), Calls Tryz.prog 110 #[.agg #[.i p, .i q, .bool d]] W fun e w' => e = .returned (.bool (HOk (p, q, d))) ∧ w' = W.alloc (.cells #[.i p, .i q, .bool d] 24)) := fun W => implHandleOk_w (p, q, d) W
 go_enter Tryz.func226, Tryz.ntmps226
 go_wp2_with (go_at_call 110; refine Calls.mono (HH.out _) ?_; rintro e w' ⟨rfl, rfl⟩)
 all_goals (clear HH; go_ret; exact ⟨by first | rfl | simp_all [Hd.dir], rfl⟩)
set_option maxHeartbeats 4000000 in
theorem specPartOk_any (x : Value) (o : PtD) (S : Nat → Prop) (w : World) (r : RdV w S x (.bytes o.asn)) (hl : o.asn.length ≤ 2097152) :
  Calls Tryz.prog 61 #[ptV o x] w fun e w' => e = .returned (.bool (POk o)) ∧ Below w.heap.size w w' := by
 obtain ⟨a, cap, rfl⟩ := r.sliceB
 obtain ⟨kd, ⟨p, q, d⟩, nm, ⟨p2, q2, d2⟩⟩ := o
 dsimp only at r hl ⊢
 have HX : Hid (∀ W, Below w.heap.size w W → _) := fun W hW => specName_any _ nm S W (r.step hW) hl
 have HH : Hid (∀ (p q : Int) (d : Bool) (W : World), Calls Tryz.prog 63 #[.agg #[.i p, .i q, .bool d]] W fun e w' => e = .returned (.bool (HOk (p, q, d))) ∧ w' = W.alloc (.cells #[.i p, .i q, .bool d] 24)) := fun p q d W => specHandleOk_w (p, q, d) W
 obtain ⟨res, hres⟩ : ∃ res, POk ⟨kd, (p, q, d), nm, (p2, q2, d2)⟩ = res := ⟨_, rfl⟩
 rw [hres]
 simp only [POk] at hres
 generalize isNm nm = bn at HX hres
 generalize nm.length = n0 at *
 have HRES : Hid _ := hres
 clear r hl hres
 go_enter Tryz.func61, Tryz.ntmps61
 go_wp2_with (first | (go_at_call 100; refine Calls.mono (HX.out _ (by repeat (first | exact Below.refl _ _ | refine Below.al ?_ _ | refine below_drewN2 ?_ _))) ?_; rintro e w' ⟨rfl, rfl⟩) | (go_at_call 63; refine Calls.mono (HH.out _ _ _ _) ?_; rintro e w' ⟨rfl, rfl⟩))
 all_goals (clear HX HH; go_ret; refine ⟨?_, by repeat (first | exact Below.refl _ _ | refine Below.al ?_ _ | refine below_drewN2 ?_ _)⟩; rw [← HRES.out]; clear HRES; first | rfl | (simp_all [hd0, Hd.sh, Hd.ino, Hd.dir]; done) | (simp_all [hd0, Hd.sh, Hd.ino, Hd.dir]; omega) | (simp_all [hd0, Hd.sh, Hd.ino, Hd.dir]; intros; simp_all; done))
set_option maxHeartbeats 4000000 in
theorem implPartOk_any (x : Value) (o : PtD) (S : Nat → Prop) (w : World) (r : RdV w S x (.bytes o.asn)) (hl : o.asn.length ≤ 2097152) :
  Calls Tryz.prog 163 #[ptV o x] w fun e w' => e = .returned (.bool (POk o)) ∧ Below w.heap.size w w' := by
 obtain ⟨a, cap, rfl⟩ := r.sliceB
 obtain ⟨kd, ⟨p, q, d⟩, nm, ⟨p2, q2, d2⟩⟩ := o
 dsimp only at r hl ⊢
 have HX : Hid (∀ W, Below w.heap.size w W → _) := fun W hW => implName_any _ nm S W (r.step hW) hl
 have HH : Hid (∀ (p q : Int) (d : Bool) (W : World), Calls Tryz.prog 110 #[.agg #[.i p, .i q, .bool d]] W fun e w' => e = .returned (.bool (HOk (p, q, d))) ∧ w' = W.alloc (.cells #[.i p, .i q, .bool d] 24)) := fun p q d W => implHandleOk_w (p, q, d) W
 have HS : Hid (∀ (n : Int) (W : World), Calls Tryz.prog 186 #[.i n] W fun e w' => e = .returned (.bool (decide (0 ≤ n) && decide (n < 4))) ∧ w' = W) := fun n W => implShard_w n W
 have HD : Hid (∀ (p q : Int) (d : Bool) (W : World), Calls Tryz.prog 226 #[.agg #[.i p, .i q, .bool d]] W fun e w' => e = .returned (.bool (HOk (p, q, d) && d)) ∧ w' = (W.alloc (.cells #[.i p, .i q, .bool d] 24)).alloc (.cells #[.i p, .i q, .bool d] 24)) := fun p q d W => implDir_w (p, q, d) W
 obtain ⟨res, hres⟩ : ∃ res, POk ⟨kd, (p, q, d), nm, (p2, q2, d2)⟩ = res := ⟨_, rfl⟩
 rw [hres]
 simp only [POk] at hres
 generalize isNm nm = bn at HX hres
 generalize nm.length = n0 at *
 have HRES : Hid _ := hres
 clear r hl hres
 go_enter Tryz.func163, Tryz.ntmps163
 go_wp2_with fail
 have hE := fun W => eqH_run p2 q2 0 0 d2 false W
 go_quiet (fail)
 go_wp2_with (first | (go_at_call 109; refine Calls.mono (HX.out _ (by repeat (first | exact Below.refl _ _ | refine Below.al ?_ _ | refine below_drewN2 ?_ _))) ?_; rintro e w' ⟨rfl, rfl⟩) | (go_at_call 110; refine Calls.mono (HH.out _ _ _ _) ?_; rintro e w' ⟨rfl, rfl⟩) | (go_at_call 186; refine Calls.mono (HS.out _ _) ?_; rintro e w' ⟨rfl, rfl⟩) | (go_at_call 226; refine Calls.mono (HD.out _ _ _ _) ?_; rintro e w' ⟨rfl, rfl⟩))
 all_goals (clear HX HH HD HS; go_ret; refine ⟨?_, by repeat (first | exact Below.refl _ _ | refine Below.al ?_ _ | refine below_drewN2 ?_ _)⟩; rw [← HRES.out]; clear HRES; first | rfl | (simp_all [hd0, Hd.sh, Hd.ino, Hd.dir]; done) | (simp_all [hd0, Hd.sh, Hd.ino, Hd.dir]; omega) | (simp_all [hd0, Hd.sh, Hd.ino, Hd.dir]; intros; simp_all; done))
end Go.Proofs.YtklhikadhohjbaaGreat
