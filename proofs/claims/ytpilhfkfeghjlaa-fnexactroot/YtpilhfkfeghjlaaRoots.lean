/- The tree of the root alone, as the specification and the program make it; no condition. -/
import Derived.Test.YtpilhfkfeghjlaaEnts
import Derived.Deep.QuietTactic
import Derived.Deep.RegionHeld3
import Derived.BigQuiet
namespace Go.Proofs.Ytpilhfkfeghjlaa
open Go.RowKit
set_option linter.unusedVariables false
set_option linter.unusedSimpArgs false

def rootH : Hd := (0, 1, true)
def rootN : Nd := ⟨rootH, rootH, 1, 0, []⟩
abbrev rootV : Value := .agg #[.int .i64 0, .int .i64 1, .bool true]
theorem specRootH_any (w : World) : Calls Try.prog 35 #[] w fun e w' => e = .returned rootV ∧ w' = w.alloc (.cells #[.int .i64 0, .int .i64 1, .bool true] 25) := by
  go_enter Try.func35, Try.ntmps35
  go_wp2
  refine bodyPost_ret (v := rootV) (by simp [results, Try.results35, go_sem]) rfl ⟨rfl, rfl⟩
theorem implRootH_any (w : World) : Calls Try.prog 36 #[] w fun e w' => e = .returned rootV ∧ w' = w.alloc (.cells #[.int .i64 0, .int .i64 1, .bool true] 25) := by
  go_enter Try.func36, Try.ntmps36
  go_wp2
  refine bodyPost_ret (v := rootV) (by simp [results, Try.results36, go_sem]) rfl ⟨rfl, rfl⟩
theorem ow_root (w : World) (B : Nat) (hB : B ≤ w.heap.size) : OwV (w.alloc (.cells #[.int .i64 0, .int .i64 1, .bool true, .int .i64 0, .int .i64 1, .bool true, .int .i64 1, .int .i64 0, .slice none 0 0] 63)) (fun b => B ≤ b ∧ b < (w.alloc (.cells #[.int .i64 0, .int .i64 1, .bool true, .int .i64 0, .int .i64 1, .bool true, .int .i64 1, .int .i64 0, .slice none 0 0] 63)).heap.size) (.slice (some ⟨w.heap.size, 0, none⟩) 1 1) (ndsDt [rootN]) := by
  have h := World.ownsRow_lit (base := 0) (e := 63) (size := 9) w #[.int .i64 0, .int .i64 1, .bool true, .int .i64 0, .int .i64 1, .bool true, .int .i64 1, .int .i64 0, .slice none 0 0] 1 (Nat.zero_le _) (by unfold maxLen; omega) rfl
  refine OwV.mkRows ⟨fun _ j => #[Value.int .i64 0, .int .i64 1, .bool true, .int .i64 0, .int .i64 1, .bool true, .int .i64 1, .int .i64 0, .slice none 0 0][j]?.getD undef, _, fun _ _ _ => False, h, fun b hb => ?_, fun i j hi hj => ?_, fun i j hi hj => ?_, fun i j b _ _ hq => hq.elim, fun i j i' j' b _ _ _ _ hq => hq.elim⟩
  · cases hb
    exact ⟨hB, by simp⟩
  · obtain rfl : i = 0 := by simpa using hi
    match j, hj with
    | 0, _ => rfl
    | 1, _ => rfl
    | 2, _ => rfl
    | 3, _ => rfl
    | 4, _ => rfl
    | 5, _ => rfl
    | 6, _ => rfl
    | 7, _ => rfl
    | 8, _ => rfl
  · obtain rfl : i = 0 := by simpa using hi
    match j, hj with
    | 0, _ => rfl
    | 1, _ => rfl
    | 2, _ => rfl
    | 3, _ => rfl
    | 4, _ => rfl
    | 5, _ => rfl
    | 6, _ => rfl
    | 7, _ => rfl
    | 8, _ => exact OwV.nilR _ _ _ _ _

set_option maxHeartbeats 1000000 in
theorem implRoot_any (w : World) : Calls Try.prog 16 #[] w fun e w' => ∃ a n c, e = .returned (.agg #[.slice a n c]) ∧ OwV w' (fun b => w.heap.size ≤ b ∧ b < w'.heap.size) (.slice a n c) (ndsDt [rootN]) ∧ Below w.heap.size w w' := by
  have HH : Hid (∀ W, _) := fun W => implRootH_any W
  go_enter Try.func16, Try.ntmps16
  go_wp2_with fail
  refine Calls.mono (HH.out _) ?_
  rintro e w2 ⟨rfl, rfl⟩
  go_wp2
  refine bodyPost_ret (v := .agg #[.slice (some ⟨w.heap.size + 1 + 1 + 1, 0, none⟩) 1 1]) (by simp [results, Try.results16, go_sem]) rfl ⟨_, _, _, rfl, ?_, ?_⟩
  · have := ow_root (((w.alloc (.cells #[.slice (some ⟨w.heap.size + 1 + 1 + 1, 0, none⟩) 1 1] 40)).alloc (.cells #[.int .i64 0, .int .i64 1, .bool true] 25)).alloc (.cells #[.int .i64 0, .int .i64 1, .bool true] 25)) w.heap.size (by simp; omega)
    simpa using this
  · exact (((((Below.refl _ _).alloc (Nat.le_refl _) _).alloc (by simp) _).alloc (by simp; omega) _).alloc (by simp; omega) _)
set_option maxHeartbeats 1000000 in
theorem specRoot_any (w : World) : Calls Try.prog 15 #[] w fun e w' => ∃ a n c, e = .returned (.agg #[.slice a n c]) ∧ OwV w' (fun b => w.heap.size ≤ b ∧ b < w'.heap.size) (.slice a n c) (ndsDt [rootN]) ∧ Below w.heap.size w w' := by
  have HH : Hid (∀ W, _) := fun W => specRootH_any W
  go_enter Try.func15, Try.ntmps15
  go_wp2_with fail
  refine Calls.mono (HH.out _) ?_
  rintro e w2 ⟨rfl, rfl⟩
  go_wp2_with fail
  refine Calls.mono (HH.out _) ?_
  rintro e w2 ⟨rfl, rfl⟩
  go_wp2
  refine bodyPost_ret (v := .agg #[.slice (some ⟨w.heap.size + 1 + 1 + 1, 0, none⟩) 1 1]) (by simp [results, Try.results15, go_sem]) rfl ⟨_, _, _, rfl, ?_, ?_⟩
  · have := ow_root (((w.alloc (.cells #[.slice (some ⟨w.heap.size + 1 + 1 + 1, 0, none⟩) 1 1] 40)).alloc (.cells #[.int .i64 0, .int .i64 1, .bool true] 25)).alloc (.cells #[.int .i64 0, .int .i64 1, .bool true] 25)) w.heap.size (by simp; omega)
    simpa using this
  · exact (((((Below.refl _ _).alloc (Nat.le_refl _) _).alloc (by simp) _).alloc (by simp; omega) _).alloc (by simp; omega) _)
end Go.Proofs.Ytpilhfkfeghjlaa
