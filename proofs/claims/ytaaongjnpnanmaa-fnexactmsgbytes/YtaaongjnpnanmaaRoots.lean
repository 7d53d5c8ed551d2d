/- The tree of the root alone, as the specification and the program make it; no condition. -/
import Derived.Test.YtaaongjnpnanmaaEnts
import Derived.Deep.QuietTactic
import Derived.Deep.RegionHeld3
import Derived.BigQuiet
namespace Go.Proofs.Ytaaongjnpnanmaa
open Go.RowKit
set_option linter.unusedVariables false
set_option linter.unusedSimpArgs false

def rootH : Hd := (0, 1, true)
def rootN : Nd := ⟨rootH, rootH, 1, 0, []⟩
abbrev rootV : Value := .agg #[.int .i64 0, .int .i64 1, .bool true]
theorem specRootH_any (w : World) : Calls Try.prog 39 #[] w fun e w' => e = .returned rootV ∧ w' = w.alloc (.cells #[.int .i64 0, .int .i64 1, .bool true] 46) := by
  go_enter Try.func39, Try.ntmps39
  go_wp2
  refine bodyPost_ret (v := rootV) (by simp [results, Try.results39, go_sem]) rfl ⟨rfl, rfl⟩
theorem implRootH_any (w : World) : Calls Try.prog 47 #[] w fun e w' => e = .returned rootV ∧ w' = w.alloc (.cells #[.int .i64 0, .int .i64 1, .bool true] 46) := by
  go_enter Try.func47, Try.ntmps47
  go_wp2
  refine bodyPost_ret (v := rootV) (by simp [results, Try.results47, go_sem]) rfl ⟨rfl, rfl⟩
theorem ow_root (w : World) (B : Nat) (hB : B ≤ w.heap.size) : OwV (w.alloc (.cells #[.int .i64 0, .int .i64 1, .bool true, .int .i64 0, .int .i64 1, .bool true, .int .i64 1, .int .i64 0, .slice none 0 0] 83)) (fun b => B ≤ b ∧ b < (w.alloc (.cells #[.int .i64 0, .int .i64 1, .bool true, .int .i64 0, .int .i64 1, .bool true, .int .i64 1, .int .i64 0, .slice none 0 0] 83)).heap.size) (.slice (some ⟨w.heap.size, 0, none⟩) 1 1) (ndsDt [rootN]) := by
  have h := World.ownsRow_lit (base := 0) (e := 83) (size := 9) w #[.int .i64 0, .int .i64 1, .bool true, .int .i64 0, .int .i64 1, .bool true, .int .i64 1, .int .i64 0, .slice none 0 0] 1 (Nat.zero_le _) (by unfold maxLen; omega) rfl
  refine OwV.mkRows ⟨fun _ j => #[Value.int .i64 0, .int .i64 1, .bool true, .int .i64 0, .int .i64 1, .bool true, .int .i64 1, .int .i64 0, .slice none 0 0][j]?.getD undef, _, fun _ _ _ => False, h, fun b hb => ?_, fun i j hi hj => ?_, fun i j hi hj => ?_, fun i j b _ _ hq => hq.elim, fun i j i' j' b _ _ _ _ hq => hq.elim⟩
  · cases hb
    exact ⟨hB, by simp⟩
  · obtain rfl : i = 0 := by simpa using hi
    match j, hj with
    | 0, _ => rfl
    | 1, _ => rfl
    | 2, _ => rfl
    | 3, _ => rfl
    | 4, _ => rfl
    | 5, _ => rfl
    | 6, _ => rfl
    | 7, _ => rfl
    | 8, _ => rfl
  · obtain rfl : i = 0 := by simpa using hi
    match j, hj with
    | 0, _ => rfl
    | 1, _ => rfl
    | 2, _ => rfl
    | 3, _ => rfl
    | 4, _ => rfl
    | 5, _ => rfl
    | 6, _ => rfl
    | 7, _ => rfl
    | 8, _ => exact OwV.nilR _ _ _ _ _

end Go.Proofs.Ytaaongjnpnanmaa
