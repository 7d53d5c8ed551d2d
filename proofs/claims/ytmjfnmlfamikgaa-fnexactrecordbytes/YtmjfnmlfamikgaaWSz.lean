/- What the verifier's counting of parts, replies and messages answers; no condition on them. -/
import Derived.Test.YtmjfnmlfamikgaaWires
import Derived.Test.YtmjfnmlfamikgaaSzs
namespace Go.Proofs.Ytmjfnmlfamikgaa
open Go.RowKit
set_option linter.unusedVariables false
set_option maxRecDepth 100000

set_option maxHeartbeats 1000000 in
theorem szPart_d (x : Value) (o : PtD) (S : Nat → Prop) (s : Nat) (w : World) (hs : s ≤ 1048576) (r : RdV w S x (.bytes o.asn)) :
    Calls Try.prog 23 #[ptV o x, .int .i64 s] w fun ret w' => ret = .returned (.int .i64 (leftT (o.asn.length) s)) ∧ Below w.heap.size w w' := by
  obtain ⟨a, cap, rfl⟩ := r.sliceB
  obtain ⟨kd, ⟨p, q, d⟩, nm, ⟨p2, q2, d2⟩⟩ := o
  dsimp only at r ⊢
  have HS : Hid (∀ W, Below w.heap.size w W → _) := fun W hW => szByteS_d _ nm S s W (r.step hW) hs
  clear r
  generalize nm.length = m at HS ⊢
  by_cases hle : m ≤ s
  · have hl : leftT m s = (s : Int) - m := by unfold leftT; rw [if_pos hle]
    rw [hl] at HS ⊢
    clear hl
    go_enter Try.func23, Try.ntmps23
    go_wp2_with fail
    refine Calls.mono (HS.out _ (Below.newH _)) ?_
    rintro e w2 ⟨rfl, b_⟩
    go_wp2
    go_ret
    exact ⟨rfl, (Below.newH (w := w) _).trans (b_.mono (by simp))⟩
  · have hl : leftT m s = -1 := by unfold leftT; rw [if_neg hle]
    rw [hl] at HS ⊢
    clear hl
    go_enter Try.func23, Try.ntmps23
    go_wp2_with fail
    refine Calls.mono (HS.out _ (Below.newH _)) ?_
    rintro e w2 ⟨rfl, b_⟩
    go_wp2
    go_ret
    exact ⟨rfl, (Below.newH (w := w) _).trans (b_.mono (by simp))⟩

set_option maxHeartbeats 1000000 in
theorem szReply_d (x : Value) (o : RpD) (S : Nat → Prop) (s : Nat) (w : World) (hs : s ≤ 1048576) (r : RdV w S x (ensDt o.list)) :
    Calls Try.prog 22 #[rpV o x, .int .i64 s] w fun ret w' => ret = .returned (.int .i64 (leftT (szEns o.list) s)) ∧ Below w.heap.size w w' := by
  obtain ⟨a, cap, rfl, _⟩ := RdV.sliced r
  obtain ⟨kd, ⟨p, q, d⟩, vl, es⟩ := o
  dsimp only at r ⊢
  generalize hq : es.length = n0 at r
  have HQ : Hid _ := hq
  clear hq
  have HS : Hid (∀ W, Below w.heap.size w W → _) := fun W hW => szEntryS_d _ es S s W hs (r.step hW)
  clear r
  generalize szEns es = m at HS ⊢
  by_cases hle : m ≤ s
  · have hl : leftT m s = (s : Int) - m := by unfold leftT; rw [if_pos hle]
    rw [hl] at HS ⊢
    clear hl
    go_enter Try.func22, Try.ntmps22
    go_wp2_with fail
    refine Calls.mono (HS.out _ (Below.newH _)) ?_
    rintro e w2 ⟨rfl, b_⟩
    go_wp2
    go_ret
    exact ⟨rfl, (Below.newH (w := w) _).trans (b_.mono (by simp))⟩
  · have hl : leftT m s = -1 := by unfold leftT; rw [if_neg hle]
    rw [hl] at HS ⊢
    clear hl
    go_enter Try.func22, Try.ntmps22
    go_wp2_with fail
    refine Calls.mono (HS.out _ (Below.newH _)) ?_
    rintro e w2 ⟨rfl, b_⟩
    go_wp2
    go_ret
    exact ⟨rfl, (Below.newH (w := w) _).trans (b_.mono (by simp))⟩

end Go.Proofs.Ytmjfnmlfamikgaa
