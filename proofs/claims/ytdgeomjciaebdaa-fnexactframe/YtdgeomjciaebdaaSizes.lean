/- What the verifier's counting of a disk's sizes answers; no condition on the disk. -/
import Derived.Test.YtdgeomjciaebdaaDisk
namespace Go.Proofs.Ytdgeomjciaebdaa
open Go.RowKit
set_option linter.unusedVariables false

def left (n s : Nat) : Int := if n ≤ s then (s : Int) - n else -1

def SRelB (zss : List (List Int)) (s n : Nat) (q i : Value) : Prop := ∃ j t : Nat, j ≤ n ∧ i = .int .i64 j ∧ q = .int .i64 t ∧ t ≤ s ∧ Hid (t + (n + lenBB (zss.take j)) = s)

theorem lenWs_rest (ws : List Wt) (j : Nat) : lenWs (ws.take j) + (ws.length - j) ≤ lenWs ws := by
  have h1 := lenWs_append (ws.take j) (ws.drop j)
  rw [List.take_append_drop] at h1
  have h2 := lenWs_len (ws.drop j)
  rw [List.length_drop] at h2
  omega

def sizeD (d : Dk) : Nat := d.1.length + lenBB d.1 + lenWs d.2
theorem small_of (d : Dk) (h : sizeD d ≤ 1048576) : Small d := by unfold sizeD at h; exact ⟨by omega, by omega, by omega⟩

end Go.Proofs.Ytdgeomjciaebdaa
