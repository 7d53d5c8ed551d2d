/- The specification's look for an entry of a name. Condition: at most 2^21 entries. -/
import Derived.Test.YtaaongjnpnanmaaSpecT1
import Derived.Test.YtaaongjnpnanmaaStrs3
namespace Go.Proofs.Ytaaongjnpnanmaa
open Go.RowKit
set_option linter.unusedVariables false
set_option linter.unusedSimpArgs false

def ei (es : List En) (nm : List Int) : Nat := es.findIdx (fun e => decide (e.nm = nm))
def findE (es : List En) (nm : List Int) : Int := if ei es nm < es.length then (ei es nm : Int) else -1
theorem ei_at (l : List En) (h : List Int) (k : Nat) (hk : k < l.length) (h1 : (l[k]?.getD en0).nm = h) (h2 : ∀ i, i < k → (l[i]?.getD en0).nm ≠ h) : ei l h = k := by
  unfold ei
  rw [List.findIdx_eq hk]
  refine ⟨by simpa [hk] using h1, fun j hj => ?_⟩
  have := h2 j hj
  have hj' : j < l.length := by omega
  simpa [hj'] using this
theorem ei_none (l : List En) (h : List Int) (h2 : ∀ i, i < l.length → (l[i]?.getD en0).nm ≠ h) : findE l h = -1 := by
  unfold findE ei
  rw [if_neg]
  rw [List.findIdx_lt_length]
  rintro ⟨x, hx, hp⟩
  obtain ⟨i, hi, rfl⟩ := List.getElem_of_mem hx
  exact h2 i hi (by simpa [hi] using hp)
theorem conv_d (v : Value) (zs : List Int) (S : Nat → Prop) (w : World) (r : RdV w S v (.bytes zs)) : (convert 41 9 v).run Try.prog w = .ok (.string (strOfNums zs)) w := by
  obtain ⟨a, cap, rfl, _, hr⟩ := r.b.reads
  exact conv_any a zs zs.length cap w hr rfl

set_option maxHeartbeats 2000000 in
theorem specEntry_any (x y : Value) (n : Nd) (nm : List Int) (S S2 : Nat → Prop) (w : World) (r : RdV w S x (ensDt n.es)) (r2 : RdV w S2 y (.bytes nm)) (hl : n.es.length ≤ 2097152) :
    Calls Try.prog 91 #[ndV n x, y] w fun e w' => e = .returned (.int .i64 (findE n.es nm)) ∧ Below w.heap.size w w' := by
  obtain ⟨a, cap, rfl, _⟩ := RdV.sliced r
  obtain ⟨ya, yc, rfl⟩ := r2.sliceB
  obtain ⟨⟨p, q, d⟩, ⟨p2, q2, d2⟩, lk, vl, es⟩ := n
  dsimp only at r hl ⊢
  have hbn := r2.b.1
  have HR : Hid (∀ W, Below w.heap.size w W → RdV W S (.slice a es.length cap) (.rows 89 4 es.length (fun i j => enCell (es[i]?.getD en0) j))) := RdV.old r
  have HY : Hid (∀ W, Below w.heap.size w W → (convert 41 9 (.slice ya nm.length yc)).run Try.prog W = .ok (.string (strOfNums nm)) W) := fun W hW => conv_d _ nm S2 W (r2.step hW)
  obtain ⟨m, hm⟩ : ∃ m, es.length = m := ⟨_, rfl⟩
  rw [hm] at hl HR ⊢
  have HN : Hid _ := hm
  generalize nm.length = yn at *
  clear r r2 hm
  go_enter Try.func91, Try.ntmps91
  go_wp2
  go_loopw [5] (fun i wr => ∃ k : Nat, k ≤ m ∧ i = .int .i64 k ∧ Below w.heap.size w wr ∧ VarA wr w.heap.size 83 #[.int .i64 p, .int .i64 q, .bool d, .int .i64 p2, .int .i64 q2, .bool d2, .int .i64 lk, .int .i64 vl, .slice a m cap] ∧ Hid (∀ i, i < k → (es[i]?.getD en0).nm ≠ nm)) (fun i _ => m - (intOf i).toNat)
  case atStart => exact ⟨0, Nat.zero_le _, rfl, Below.newH _, VarA.new w _ _, fun i hi => absurd hi (Nat.not_lt_zero _)⟩
  case round =>
    obtain ⟨k, hk, rfl, hbel, v0, HA⟩ := hrel
    have c8 := v0.c 8 rfl
    dsimp at c8
    by_cases hlt : k < m
    · obtain ⟨b, off, rfl, hbl, _, hx⟩ := RdV.at (HR.out wr hbel) hlt
      obtain ⟨e, he⟩ : ∃ e, es[k]?.getD en0 = e := ⟨_, rfl⟩
      obtain ⟨x0, c1, r0⟩ := hx 0 (by omega)
      rw [he] at r0
      have HE : Hid _ := he
      clear hx he
      obtain ⟨nm1, hh⟩ := e
      simp only [Nat.add_zero] at c1
      have RB : RdV wr S x0 (.bytes nm1) := r0
      have hb1 := RB.b.1
      have hcv : ∀ n, (convert 41 9 x0).run Try.prog (wr.drewN n) = .ok (.string (strOfNums nm1)) (wr.drewN n) := fun n => conv_d x0 nm1 S _ (RB.step (below_drewN2 (Below.refl _ _) n))
      have hcy : ∀ n, (convert 41 9 (.slice ya yn yc)).run Try.prog (wr.drewN n) = .ok (.string (strOfNums nm)) (wr.drewN n) := fun n => HY.out _ (below_drewN2 hbel n)
      obtain ⟨xa, xc, rfl⟩ := RB.sliceB
      generalize nm1.length = xn at *
      have hstr := str_eq nm1 nm hb1 hbn
      generalize strOfNums nm1 = s1 at hcv hstr
      generalize strOfNums nm = s2 at hcy hstr HY
      clear r0 RB hb1
      by_cases heq : nm1 = nm
      · have HF : Hid (findE es nm = (k : Int)) := by
          have := ei_at es nm k (by rw [HN.out]; exact hlt) (by rw [HE.out]; exact heq) HA.out
          show _ = _
          unfold findE
          rw [this, if_pos (by rw [HN.out]; exact hlt)]
        simp only [heq, decide_true] at hstr
        clear HA HY
        go_wp2
        go_quiet (fail)
        go_wp2
        go_ret
        exact ⟨by rw [HF.out]; rfl, below_drewN2 hbel _⟩
      · have HF : Hid (∀ i, i < k + 1 → (es[i]?.getD en0).nm ≠ nm) := fun i hi => by
          by_cases h1 : i < k
          · exact HA.out i h1
          · obtain rfl : i = k := by omega
            rw [HE.out]; exact heq
        simp only [heq, decide_false] at hstr
        clear HA HY
        go_wp2
        go_quiet (fail)
        go_wp2
        go_roundw
        case rel => exact ⟨k + 1, by omega, by go_num, below_drewN2 hbel _, v0, HF.out⟩
        case measure => simp [intOf]; omega
    · have he : k = m := by omega
      subst he
      have HF : Hid (findE es nm = -1) := ei_none es _ (fun i hi => HA.out i (by rw [HN.out] at hi; exact hi))
      go_wp2
      go_ret
      exact ⟨by rw [HF.out]; rfl, hbel⟩
end Go.Proofs.Ytaaongjnpnanmaa
