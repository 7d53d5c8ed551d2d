/- May a record be? By the specification, kind by kind. Condition: no more than 2^21 of all. -/
import Derived.Test.YtmjfnmlfamikgaaRSp1
import Derived.Test.YtmjfnmlfamikgaaRSp2
import Derived.Test.YtmjfnmlfamikgaaRSp3
import Derived.Test.YtmjfnmlfamikgaaRSp4
namespace Go.Proofs.Ytmjfnmlfamikgaa
open Go.RowKit
set_option linter.unusedVariables false
set_option linter.unusedSimpArgs false
set_option maxRecDepth 100000

set_option maxHeartbeats 2000000 in
theorem specRecBad (x y z u : Value) (m : MsD) (S : Nat → Prop) (w : World) (r : RdM w S m x y z u) (hk : m.kind < 0 ∨ 4 < m.kind) :
    Calls Try.prog 7 #[rcV m x y z u] w fun e w' => e = .returned (.bool (COk m)) ∧ Below w.heap.size w w' := by
  obtain ⟨r1, r2, r3, r4⟩ := r
  obtain ⟨a1, cap1, rfl⟩ := r1.sliceB
  obtain ⟨a2, cap2, rfl⟩ := r2.sliceB
  obtain ⟨a3, cap3, rfl, _⟩ := RdV.sliced r3
  obtain ⟨a4, cap4, rfl⟩ := r4.sliceB
  have HF : Hid (COk m = false) := by show _ = _; unfold COk; rcases hk with h | h <;> simp <;> omega
  rw [HF.out]
  obtain ⟨kd, fr, to, rq, ⟨ok, ⟨op_, oq, od⟩, nm, ⟨tp, tq, td⟩, asn, ov⟩, ⟨rc, ⟨rp_, rq_, rd⟩, rv, es⟩, ⟨xs, xb, xn⟩, ⟨pk, ⟨pp, pq, pd⟩, pas, ⟨sp, sq, sd⟩⟩, cd, ⟨hp, hq, hd⟩⟩ := m
  clear r1 r2 r3 r4 HF
  dsimp only at hk ⊢
  generalize nm.length = n1 at *
  generalize asn.length = n2 at *
  generalize es.length = n3 at *
  generalize pas.length = n4 at *
  go_enter Try.func7, Try.ntmps7
  go_wp2_with fail
  all_goals first | (go_ret; exact ⟨rfl, Below.newH _⟩) | (exfalso; omega)
theorem specRecordOk_any (x y z u : Value) (m : MsD) (S : Nat → Prop) (w : World) (r : RdM w S m x y z u) (hl : szMs m ≤ 2097152) :
    Calls Try.prog 7 #[rcV m x y z u] w fun e w' => e = .returned (.bool (COk m)) ∧ Below w.heap.size w w' := by
  by_cases hk : m.kind < 0 ∨ 4 < m.kind
  · exact specRecBad x y z u m S w r hk
  · have h : m.kind = 0 ∨ m.kind = 1 ∨ m.kind = 2 ∨ m.kind = 3 ∨ m.kind = 4 := by omega
    rcases h with h | h | h | h | h
    · exact specRec0 x y z u m S w r hl h
    · exact specRec1 x y z u m S w r hl h
    · exact specRec2 x y z u m S w r hl h
    · exact specRec3 x y z u m S w r hl h
    · exact specRec4 x y z u m S w r hl h
end Go.Proofs.Ytmjfnmlfamikgaa
