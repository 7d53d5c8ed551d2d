/- May a message be? By the specification. Condition: no more than 2^21 of all. -/
import Derived.Test.YtaaongjnpnanmaaWMsg1a
import Derived.Test.YtaaongjnpnanmaaWMsg1b
import Derived.Test.YtaaongjnpnanmaaWMsg1c
import Derived.Test.YtaaongjnpnanmaaWMsg1d
namespace Go.Proofs.Ytaaongjnpnanmaa
open Go.RowKit
set_option linter.unusedVariables false
set_option linter.unusedSimpArgs false
set_option maxRecDepth 100000

set_option maxHeartbeats 2000000 in
theorem specMsgBad (x y z u : Value) (m : MsD) (S : Nat → Prop) (w : World) (r : RdM w S m x y z u) (hk : m.kind < 0 ∨ 7 < m.kind) :
    Calls Try.prog 28 #[msV m x y z u] w fun e w' => e = .returned (.bool (MOk m)) ∧ Below w.heap.size w w' := by
  obtain ⟨r1, r2, r3, r4⟩ := r
  obtain ⟨a1, cap1, rfl⟩ := r1.sliceB
  obtain ⟨a2, cap2, rfl⟩ := r2.sliceB
  obtain ⟨a3, cap3, rfl, _⟩ := RdV.sliced r3
  obtain ⟨a4, cap4, rfl⟩ := r4.sliceB
  have HF : Hid (MOk m = false) := by show _ = _; unfold MOk; rcases hk with h | h <;> simp <;> omega
  rw [HF.out]
  obtain ⟨kd, fr, to, rq, ⟨ok, ⟨op_, oq, od⟩, nm, ⟨tp, tq, td⟩, asn, ov⟩, ⟨rc, ⟨rp_, rq_, rd⟩, rv, es⟩, ⟨xs, xb, xn⟩, ⟨pk, ⟨pp, pq, pd⟩, pas, ⟨sp, sq, sd⟩⟩, cd, ⟨hp, hq, hd⟩⟩ := m
  clear r1 r2 r3 r4 HF
  dsimp only at hk ⊢
  generalize nm.length = n1 at *
  generalize asn.length = n2 at *
  generalize es.length = n3 at *
  generalize pas.length = n4 at *
  go_enter Try.func28, Try.ntmps28
  go_wp2_with fail
  all_goals first | (go_ret; exact ⟨rfl, Below.newH _⟩) | (exfalso; omega)
theorem specMsgOk_any (x y z u : Value) (m : MsD) (S : Nat → Prop) (w : World) (r : RdM w S m x y z u) (hl : szMs m ≤ 2097152) :
    Calls Try.prog 28 #[msV m x y z u] w fun e w' => e = .returned (.bool (MOk m)) ∧ Below w.heap.size w w' := by
  by_cases hk : m.kind < 0 ∨ 7 < m.kind
  · exact specMsgBad x y z u m S w r hk
  · have h : m.kind = 0 ∨ m.kind = 1 ∨ m.kind = 2 ∨ m.kind = 3 ∨ m.kind = 4 ∨ m.kind = 5 ∨ m.kind = 6 ∨ m.kind = 7 := by omega
    rcases h with h | h | h | h | h | h | h | h
    · exact specMsg0 x y z u m S w r hl h
    · exact specMsg1 x y z u m S w r hl h
    · exact specMsg2 x y z u m S w r hl h
    · exact specMsg3 x y z u m S w r hl h
    · exact specMsg4 x y z u m S w r hl h
    · exact specMsg5 x y z u m S w r hl h
    · exact specMsg6 x y z u m S w r hl h
    · exact specMsg7 x y z u m S w r hl h
end Go.Proofs.Ytaaongjnpnanmaa
