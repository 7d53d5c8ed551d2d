/- What the walks of the laws on disks share: the variables in which they keep disks; no condition. -/
import Derived.Test.YtjhaanenkeceiaaDoorImplOk
import Derived.Deep.RegionHeld3
namespace Go.Proofs.YtjhaanenkeceiaaDoor
open Go.RowKit
set_option linter.unusedVariables false

/-- A variable that holds the caller's disk. -/
def VarL (w : World) (b : Nat) (x y : Value) : Prop := w.heap[b]? = some (.cells #[x, y] 48 (0, 0))
theorem VarL.c0 {w : World} {b : Nat} {x y : Value} (h : VarL w b x y) : w.cell? ⟨b, 0, none⟩ = some x := by rw [cell_of_row _ _ _ _ _ _ h]; rfl
theorem VarL.c1 {w : World} {b : Nat} {x y : Value} (h : VarL w b x y) : w.cell? ⟨b, 1, none⟩ = some y := by rw [cell_of_row _ _ _ _ _ _ h]; rfl
theorem VarL.lt {w : World} {b : Nat} {x y : Value} (h : VarL w b x y) : b < w.heap.size := lt_of_block h
theorem VarL.step {w w' : World} {b : Nat} {x y : Value} (h : VarL w b x y) (hb : Below w.heap.size w w') : VarL w' b x y := (hb.block b h.lt).trans h
theorem VarL.turn {w w' : World} {b l k : Nat} {x y : Value} (h : VarL w b x y) (t : Turns l k w w') (ho : b < l ∨ k ≤ b) : VarL w' b x y := (t.block b h.lt ho).trans h
theorem VarL.new (w : World) (x y : Value) : VarL (w.alloc (.cells #[x, y] 48)) w.heap.size x y := heap_alloc_new w _
theorem sizeD_small {d : Dk} (h : ¬ left (sizeD d) 1048576 < 0) : Small d := small_of d (by
  unfold left at h
  split at h
  · assumption
  · exact absurd (by decide) h)

theorem eqB_same (v u : Value) (zs : List Int) (l h l' h' : Nat) (w : World) (r : RdB w l h v zs) (s : RdB w l' h' u zs) (hl : zs.length ≤ 2097152) :
    Calls Tryd.prog 24 #[v, u] w fun e w' => e = .returned (.bool true) ∧ Below w.heap.size w w' :=
  (eqByteS_r v u zs zs l h l' h' w r s hl hl).mono fun e w' ⟨he, n, h⟩ => ⟨by rw [he, beq_self_eq_true], by rw [h]; exact below_drewN2 (Below.refl _ _) n⟩
theorem markB_any (v : Value) (zs : List Int) (k l h : Nat) (w : World) (o : OwB w l h v zs) (hl : zs.length ≤ 2097152) (hk : k ≤ 4194304) :
    Calls Tryd.prog 26 #[v, .int .i64 k] w fun e w' => e = .returned (.int .i64 ((k : Int) + (zs.length : Int))) ∧ OwB w' l h v (marks zs.length k) ∧ Turns l h w w' := by
  refine (mark_v v zs k l w o.2.1 hl (by omega) (by omega)).mono fun e w' ⟨he, ho, hg⟩ => ⟨he, ⟨marks_isBytes _ _, by simpa using ho, o.2.2⟩, Turns.ofGrown hg fun q hq => ⟨(o.2.1.lt q hq).1, o.2.2 q hq⟩⟩
theorem heldB_any (v : Value) (n k l h : Nat) (w : World) (r : RdB w l h v (marks n k)) (hl : n ≤ 2097152) (hk : k ≤ 8388608) :
    Calls Tryd.prog 66 #[v, .int .i64 k] w fun e w' => e = .returned (.int .i64 ((k : Int) + (n : Int))) ∧ Below w.heap.size w w' :=
  (held_r v n k l h w r hl hk).mono fun e w' ⟨he, hw⟩ => ⟨by rw [he]; simp, by rw [hw]; exact Below.refl _ _⟩
theorem RdB.sliced {w : World} {l h : Nat} {v : Value} {zs : List Int} (r : RdB w l h v zs) : ∃ a n c, v = .slice a n c := by
  obtain ⟨_, a, n, c, hv, _⟩ := r; exact ⟨a, n, c, hv⟩
end Go.Proofs.YtjhaanenkeceiaaDoor
