/- The specification's Flush as a plain function of the disk. Condition: the disk is of at most 2^21 bytes and writes. -/
import Derived.Test.YtjhaanenkeceiaaDoorSpecFlush
namespace Go.Proofs.YtjhaanenkeceiaaDoor
open Go.RowKit
set_option linter.unusedVariables false

theorem RdWs_nil (w : World) (l h : Nat) : RdWs w l h (.slice none 0 0) [] :=
  ⟨none, 0, 0, fun _ => undef, rfl, rfl, ⟨Nat.le_refl _, Nat.zero_le _, fun _ => ⟨rfl, rfl⟩⟩, .inl rfl, fun i hi => absurd hi (Nat.not_lt_zero _)⟩
theorem RdBB_nil (w : World) (l h : Nat) : RdBB w l h (.slice none 0 0) [] :=
  ⟨none, 0, 0, fun _ => undef, rfl, rfl, ⟨Nat.le_refl _, Nat.zero_le _, fun _ => ⟨rfl, rfl⟩⟩, .inl rfl, fun i hi => absurd hi (Nat.not_lt_zero _)⟩
theorem RdD_nil (w : World) (l h : Nat) : RdD w l h (.agg #[.slice none 0 0, .slice none 0 0]) ([], []) := ⟨_, _, rfl, RdBB_nil _ _ _, RdWs_nil _ _ _⟩
theorem lenBB_all (s : List (List Int)) (h : ∀ z ∈ s, z.length = 32) : lenBB s = 32 * s.length := by
  induction s with
  | nil => rfl
  | cons z r ih => rw [lenBB, ih (fun y hy => h y (List.mem_cons_of_mem _ hy)), h z (List.mem_cons_self ..), List.length_cons]; omega
theorem lenBB_whole {s : List (List Int)} (h : Whole s) : lenBB s = 32 * s.length := lenBB_all s (fun z hz => by
  obtain ⟨i, hi, rfl⟩ := List.mem_iff_getElem.mp hz
  have := h i hi
  simpa [hi] using this)
theorem okD_whole {d : Dk} (hok : okD d = true) : (d.1.length ≤ 2000 ∧ d.2.length ≤ 2000) ∧ Whole d.1 ∧ ∀ i, i < d.2.length → 0 ≤ (d.2[i]?.getD (0, [])).1 ∧ (d.2[i]?.getD (0, [])).1 < (d.1.length : Int) ∧ (d.2[i]?.getD (0, [])).2.length = 32 := by
  unfold okD at hok
  simp only [Bool.and_eq_true, decide_eq_true_eq, List.all_eq_true] at hok
  obtain ⟨⟨⟨hn2, hm2⟩, hs⟩, hw⟩ := hok
  refine ⟨⟨hn2, hm2⟩, fun i hi => ?_, fun i hi => ?_⟩
  · have := hs _ (List.getElem_mem hi)
    simp [secOk] at this
    simp [hi, this]
  · have := hw _ (List.getElem_mem hi)
    simp [waitOk, secOk] at this
    simp [hi]
    omega
theorem flushD_small {d : Dk} (hs : Small d) : Small (flushD d) := by
  unfold flushD
  split
  · rename_i h
    obtain ⟨⟨h1, h2⟩, hw, hp⟩ := okD_whole h
    have hf := Whole.flush hw (fun i hi => (hp i hi).2.2) d.2.length (Nat.le_refl _)
    rw [List.take_length] at hf
    refine ⟨?_, ?_, ?_⟩
    · rw [flushS_length]; omega
    · rw [lenBB_whole hf, flushS_length]; omega
    · simp [lenWs]
  · exact ⟨by simp, by simp [lenBB], by simp [lenWs]⟩

end Go.Proofs.YtjhaanenkeceiaaDoor
