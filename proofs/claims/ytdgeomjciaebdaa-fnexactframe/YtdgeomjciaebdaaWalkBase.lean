/- What the walks of the laws on disks share: the variables in which they keep disks; no condition. -/
import Derived.Test.YtdgeomjciaebdaaImplOk
import Derived.Deep.RegionHeld3
namespace Go.Proofs.Ytdgeomjciaebdaa
open Go.RowKit
set_option linter.unusedVariables false

theorem sizeD_small {d : Dk} (h : ¬ left (sizeD d) 1048576 < 0) : Small d := small_of d (by
  unfold left at h
  split at h
  · assumption
  · exact absurd (by decide) h)

theorem eqB_same (v u : Value) (zs : List Int) (l h l' h' : Nat) (w : World) (r : RdB w l h v zs) (s : RdB w l' h' u zs) (hl : zs.length ≤ 2097152) :
    Calls Try.prog 8 #[v, u] w fun e w' => e = .returned (.bool true) ∧ Below w.heap.size w w' :=
  (eqByteS_r v u zs zs l h l' h' w r s hl hl).mono fun e w' ⟨he, n, h⟩ => ⟨by rw [he, beq_self_eq_true], by rw [h]; exact below_drewN2 (Below.refl _ _) n⟩
theorem markB_any (v : Value) (zs : List Int) (k l h : Nat) (w : World) (o : OwB w l h v zs) (hl : zs.length ≤ 2097152) (hk : k ≤ 4194304) :
    Calls Try.prog 9 #[v, .int .i64 k] w fun e w' => e = .returned (.int .i64 ((k : Int) + (zs.length : Int))) ∧ OwB w' l h v (marks zs.length k) ∧ Turns l h w w' := by
  refine (mark_v v zs k l w o.2.1 hl (by omega) (by omega)).mono fun e w' ⟨he, ho, hg⟩ => ⟨he, ⟨marks_isBytes _ _, by simpa using ho, o.2.2⟩, Turns.ofGrown hg fun q hq => ⟨(o.2.1.lt q hq).1, o.2.2 q hq⟩⟩
theorem heldB_any (v : Value) (n k l h : Nat) (w : World) (r : RdB w l h v (marks n k)) (hl : n ≤ 2097152) (hk : k ≤ 8388608) :
    Calls Try.prog 17 #[v, .int .i64 k] w fun e w' => e = .returned (.int .i64 ((k : Int) + (n : Int))) ∧ Below w.heap.size w w' :=
  (held_r v n k l h w r hl hk).mono fun e w' ⟨he, hw⟩ => ⟨by rw [he]; simp, by rw [hw]; exact Below.refl _ _⟩
theorem RdB.sliced {w : World} {l h : Nat} {v : Value} {zs : List Int} (r : RdB w l h v zs) : ∃ a n c, v = .slice a n c := by
  obtain ⟨_, a, n, c, hv, _⟩ := r; exact ⟨a, n, c, hv⟩
end Go.Proofs.Ytdgeomjciaebdaa
