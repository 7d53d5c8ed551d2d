/- May a message be? By the program. Condition: no more than 2^21 of all. -/
import Derived.Test.YtaaongjnpnanmaaWMsg6a
import Derived.Test.YtaaongjnpnanmaaWMsg6b
namespace Go.Proofs.Ytaaongjnpnanmaa
open Go.RowKit
set_option linter.unusedVariables false
set_option linter.unusedSimpArgs false
set_option maxRecDepth 100000

set_option maxHeartbeats 4000000 in
theorem contentBad (m : MsD) (a1 a2 a3 a4 : Option Addr) (n1 n2 n3 n4 c1 c2 c3 c4 : Nat) (w : World) (hk : m.kind < 0 ∨ 7 < m.kind) :
    Calls Try.prog 77 #[msV m (.slice a1 n1 c1) (.slice a2 n2 c2) (.slice a3 n3 c3) (.slice a4 n4 c4)] w fun e w' => e = .returned .nilIface ∧ Below w.heap.size w w' := by
  obtain ⟨kd, fr, to, rq, ⟨ok, ⟨op_, oq, od⟩, nm, ⟨tp, tq, td⟩, asn, ov⟩, ⟨rc, ⟨rp_, rq_, rd⟩, rv, es⟩, ⟨xs, xb, xn⟩, ⟨pk, ⟨pp, pq, pd⟩, pas, ⟨sp, sq, sd⟩⟩, cd, ⟨hp, hq, hd⟩⟩ := m
  dsimp only at hk ⊢
  go_enter Try.func77, Try.ntmps77
  go_wp2
  all_goals first | (go_ret; exact ⟨rfl, by repeat (first | exact Below.refl _ _ | refine Below.al ?_ _ | refine below_drewN2 ?_ _)⟩) | (exfalso; omega)
set_option maxHeartbeats 4000000 in
theorem implMsgBad (m : MsD) (a1 a2 a3 a4 : Option Addr) (n1 n2 n3 n4 c1 c2 c3 c4 : Nat) (w : World) (hk : m.kind < 0 ∨ 7 < m.kind) :
    Calls Try.prog 30 #[msV m (.slice a1 n1 c1) (.slice a2 n2 c2) (.slice a3 n3 c3) (.slice a4 n4 c4)] w fun e w' => e = .returned (.bool (MOk m)) ∧ Below w.heap.size w w' := by
  have HF : Hid (MOk m = false) := by show _ = _; unfold MOk; rcases hk with h | h <;> simp <;> omega
  rw [HF.out]
  have HCO : Hid (∀ W, _) := fun W => contentBad m a1 a2 a3 a4 n1 n2 n3 n4 c1 c2 c3 c4 W hk
  clear HF
  obtain ⟨kd, fr, to, rq, ⟨ok, ⟨op_, oq, od⟩, nm, ⟨tp, tq, td⟩, asn, ov⟩, ⟨rc, ⟨rp_, rq_, rd⟩, rv, es⟩, ⟨xs, xb, xn⟩, ⟨pk, ⟨pp, pq, pd⟩, pas, ⟨sp, sq, sd⟩⟩, cd, ⟨hp, hq, hd⟩⟩ := m
  dsimp only at hk HCO ⊢
  go_enter Try.func30, Try.ntmps30
  repeat (first | (with_reducible refine guardLoad (ty := 72) ?_; refine wpList_loadA (VarA.new w _ _) rfl Try.underlying72 rfl (by kernel_rfl) ?_) | go_values | go_skip | go_guarded | go_step)
  refine Calls.mono (HCO.out _) ?_
  rintro e w2 ⟨rfl, b_⟩
  have vA : VarA w2 w.heap.size 72 #[.int .i64 kd, .int .i64 fr, .int .i64 to, .int .i64 rq, .int .i64 ok, .int .i64 op_, .int .i64 oq, .bool od, .slice a1 n1 c1, .int .i64 tp, .int .i64 tq, .bool td, .slice a2 n2 c2, .int .i64 ov, .int .i64 rc, .int .i64 rp_, .int .i64 rq_, .bool rd, .int .i64 rv, .slice a3 n3 c3, .int .i64 xs, .int .i64 xb, .int .i64 xn, .int .i64 pk, .int .i64 pp, .int .i64 pq, .bool pd, .slice a4 n4 c4, .int .i64 sp, .int .i64 sq, .bool sd, .int .i64 cd, .int .i64 hp, .int .i64 hq, .bool hd] := VarA.step (VarA.new w _ _) b_
  have HB : Hid (Below w.heap.size w w2) := (Below.newH (w := w) _).trans (b_.mono (by simp))
  clear b_ HCO
  haveI := VarA.ne vA
  go_wp2_with fail
  refine wp_region_cls (by kernel_rfl) (by kernel_rfl) ?_
  repeat (go_big_quiet_step (fail))
  refine wpQuiet_nil ?_
  rintro w' ⟨⟨w', b_⟩, rfl⟩
  have HB_ : Hid _ := HB.out.trans (b_.mono HB.out.size)
  clear this vA b_
  go_wp2
  go_ret
  exact ⟨rfl, HB_.out⟩
theorem implMsgOk_any (x y z u : Value) (m : MsD) (S : Nat → Prop) (w : World) (r : RdM w S m x y z u) (hl : szMs m ≤ 2097152) :
    Calls Try.prog 30 #[msV m x y z u] w fun e w' => e = .returned (.bool (MOk m)) ∧ Below w.heap.size w w' := by
  obtain ⟨a1, c1, rfl⟩ := r.1.sliceB
  obtain ⟨a2, c2, rfl⟩ := r.2.1.sliceB
  obtain ⟨a3, c3, rfl, _⟩ := RdV.sliced r.2.2.1
  obtain ⟨a4, c4, rfl⟩ := r.2.2.2.sliceB
  by_cases hk : m.kind < 0 ∨ 7 < m.kind
  · exact implMsgBad m _ _ _ _ _ _ _ _ _ _ _ _ w hk
  · have h : m.kind = 0 ∨ m.kind = 1 ∨ m.kind = 2 ∨ m.kind = 3 ∨ m.kind = 4 ∨ m.kind = 5 ∨ m.kind = 6 ∨ m.kind = 7 := by omega
    rcases h with h | h | h | h | h | h | h | h
    · exact implMsg0 m _ _ _ _ _ _ _ _ _ _ _ _ S w r hl h
    · exact implMsg1 m _ _ _ _ _ _ _ _ _ _ _ _ S w r hl h
    · exact implMsg2 m _ _ _ _ _ _ _ _ _ _ _ _ S w r hl h
    · exact implMsg3 m _ _ _ _ _ _ _ _ _ _ _ _ S w r hl h
    · exact implMsg4 m _ _ _ _ _ _ _ _ _ _ _ _ S w r hl h
    · exact implMsg5 m _ _ _ _ _ _ _ _ _ _ _ _ S w r hl h
    · exact implMsg6 m _ _ _ _ _ _ _ _ _ _ _ _ S w r hl h
    · exact implMsg7 m _ _ _ _ _ _ _ _ _ _ _ _ S w r hl h
end Go.Proofs.Ytaaongjnpnanmaa
