/- What opening a disk gives, as a plain function. No walk. -/
import Derived.Test.YtjhaanenkeceiaaDoorFrames
namespace Go.Proofs.YtjhaanenkeceiaaDoor
set_option linter.unusedVariables false

/-- The piece that a sector has. -/
def pieceS (S : List (List Int)) (i : Nat) : List Int := ((S[i]?.getD []).drop 6).take 24
def catN (S : List (List Int)) (P k : Nat) : List Int := ((List.range k).map (fun i => pieceS S (P + i))).flatten
def sizeAt (S : List (List Int)) (P : Nat) : Nat := ((S[P]?.getD [])[4]?.getD 0).toNat
/-- The bytes that the sectors from P on speak of. -/
def claimD (S : List (List Int)) (P : Nat) : List Int := if P < S.length ∧ P + manyN (sizeAt S P) ≤ S.length then (catN S P (manyN (sizeAt S P))).take (sizeAt S P) else []
/-- Do just these sectors lie from P on? -/
def matchB (S : List (List Int)) (P : Nat) (fr : List (List Int)) : Bool := decide (fr.length ≤ S.length - P) && (List.range fr.length).all (fun i => S[P + i]?.getD [] == fr[i]?.getD [])
/-- The record at P, if one lies there. -/
def readD (S : List (List Int)) (P q : Nat) : Option (List Int) :=
  if q < 60000 ∧ P < S.length ∧ sizeAt S P ≤ 200 ∧ P + manyN (sizeAt S P) ≤ S.length ∧ matchB S P (frameN q (claimD S P)) = true then some (claimD S P) else none
def runN (S : List (List Int)) : Nat → Nat × Nat × List (List Int) → Nat × Nat × List (List Int)
  | 0, s => s
  | k + 1, (P, q, acc) => match readD S P q with
    | none => (P, q, acc)
    | some r => runN S k (P + manyN r.length, q + 1, acc ++ [r])
def openS (S : List (List Int)) : Nat × Nat × List (List Int) := runN S (S.length + 1) (0, 0, [])
/-- On the way: so far have they come. -/
def OpenAt (S : List (List Int)) (P q : Nat) (acc : List (List Int)) : Prop := P ≤ S.length ∧ q ≤ P ∧ acc.length ≤ P ∧ (∀ i : Nat, (acc[i]?.getD []).length ≤ 200) ∧ ∃ k, S.length + 1 ≤ k + P ∧ runN S k (P, q, acc) = openS S
theorem OpenAt.start (S : List (List Int)) : OpenAt S 0 0 [] := ⟨Nat.zero_le _, Nat.le_refl _, Nat.le_refl _, fun i => by simp, _, by omega, rfl⟩
theorem OpenAt.stop {S : List (List Int)} {P q : Nat} {acc : List (List Int)} (h : OpenAt S P q acc) (hn : readD S P q = none) : openS S = (P, q, acc) := by
  obtain ⟨hP, _, _, _, k, hk, hr⟩ := h
  cases k with
  | zero => omega
  | succ k => rw [runN, hn] at hr; exact hr.symm

theorem whole_len {S : List (List Int)} (hw : ∀ i, i < S.length → (S[i]?.getD []).length = 32) (i : Nat) (h : i < S.length) : (pieceS S i).length = 24 := by
  unfold pieceS
  rw [List.length_take, List.length_drop, hw i h]; rfl
theorem catN_succ (S : List (List Int)) (P k : Nat) : catN S P (k + 1) = catN S P k ++ pieceS S (P + k) := by
  unfold catN
  rw [List.range_succ, List.map_append, List.flatten_append]
  simp
theorem catN_len {S : List (List Int)} (hw : ∀ i, i < S.length → (S[i]?.getD []).length = 32) (P k : Nat) (h : P + k ≤ S.length) : (catN S P k).length = 24 * k := by
  induction k with
  | zero => simp [catN]
  | succ k ih =>
    rw [catN_succ, List.length_append, ih (by omega), whole_len hw _ (by omega)]; omega
theorem manyN_most (n : Nat) : n ≤ 24 * manyN n := by unfold manyN; split <;> omega
theorem claimD_len {S : List (List Int)} (hw : ∀ i, i < S.length → (S[i]?.getD []).length = 32) (P : Nat) (h : P < S.length ∧ P + manyN (sizeAt S P) ≤ S.length) : (claimD S P).length = sizeAt S P := by
  unfold claimD
  rw [if_pos h, List.length_take, catN_len hw P _ h.2]
  have := manyN_most (sizeAt S P)
  omega
theorem OpenAt.next {S : List (List Int)} {P q : Nat} {acc : List (List Int)} {r : List Int} (hw : ∀ i, i < S.length → (S[i]?.getD []).length = 32) (h : OpenAt S P q acc) (hn : readD S P q = some r) : OpenAt S (P + manyN r.length) (q + 1) (acc ++ [r]) := by
  obtain ⟨hP, hq, ha, hl, k, hk, hr⟩ := h
  have hp := manyN_pos r.length
  have h1 : r = claimD S P ∧ (q < 60000 ∧ P < S.length ∧ sizeAt S P ≤ 200 ∧ P + manyN (sizeAt S P) ≤ S.length ∧ matchB S P (frameN q (claimD S P)) = true) := by
    unfold readD at hn
    split at hn
    · rename_i hc; simp only [Option.some.injEq] at hn; exact ⟨hn.symm, hc⟩
    · cases hn
  have hlen : r.length = sizeAt S P := by rw [h1.1]; exact claimD_len hw P ⟨h1.2.2.1, h1.2.2.2.2.1⟩
  refine ⟨by rw [hlen]; exact h1.2.2.2.2.1, by omega, by simp; omega, fun i => ?_, ?_⟩
  · rw [getD_snoc]
    split
    · exact hl i
    · split
      · rw [hlen]; exact h1.2.2.2.1
      · simp
  · cases k with
    | zero => omega
    | succ k => exact ⟨k, by omega, by rw [runN, hn] at hr; exact hr⟩
theorem sec_byte4 (q : Nat) (zs : List Int) (k : Nat) : (secN q zs k)[4]?.getD 0 = (zs.length : Int) := by simp [secN]
/-- What the program asks comes to the same. -/
theorem read_same {S : List (List Int)} (hw : ∀ i, i < S.length → (S[i]?.getD []).length = 32) (hb : ∀ i : Nat, isBytes (S[i]?.getD [])) (P q : Nat) (hq : q < 60000) :
    readD S P q = if frameD (q : Int) (claimD S P) ≠ [] ∧ matchB S P (frameD (q : Int) (claimD S P)) = true then some (claimD S P) else none := by
  have hfr : ∀ zs : List Int, zs.length ≤ 200 → frameD (q : Int) zs = frameN q zs := fun zs hz => by unfold frameD; rw [if_pos (by omega), Int.toNat_natCast]
  have hne : ∀ zs : List Int, frameN q zs ≠ [] := fun zs h => by
    have h1 := congrArg List.length h
    have h2 := manyN_pos zs.length
    unfold frameN at h1
    simp at h1
    omega
  by_cases hfit : P < S.length ∧ P + manyN (sizeAt S P) ≤ S.length
  · have hl := claimD_len hw P hfit
    by_cases h2 : sizeAt S P ≤ 200
    · rw [hfr _ (by omega)]
      unfold readD
      by_cases hm : matchB S P (frameN q (claimD S P)) = true
      · rw [if_pos ⟨hq, hfit.1, h2, hfit.2, hm⟩, if_pos ⟨hne _, hm⟩]
      · rw [if_neg (fun h => hm h.2.2.2.2), if_neg (fun h => hm h.2)]
    · have hf : frameD (q : Int) (claimD S P) = [] := by unfold frameD; rw [if_neg (by omega)]
      unfold readD
      rw [if_neg (fun h => h2 h.2.2.1), hf, if_neg (fun h => h.1 rfl)]
  · have hc : claimD S P = [] := by unfold claimD; rw [if_neg hfit]
    have h1 : readD S P q = none := by unfold readD; rw [if_neg (fun h => hfit ⟨h.2.1, h.2.2.2.1⟩)]
    rw [h1, hc, hfr [] (by simp), if_neg]
    rintro ⟨_, hm⟩
    unfold matchB at hm
    have hfl : (frameN q []).length = 1 := by simp [frameN, manyN]
    rw [hfl] at hm
    simp only [Bool.and_eq_true, decide_eq_true_eq, List.all_eq_true, List.mem_range, beq_iff_eq] at hm
    have hP : P < S.length := by omega
    have h4 := hm.2 0 (by omega)
    rw [Nat.add_zero] at h4
    have h5 : (frameN q [])[0]?.getD [] = secN q [] 0 := by simp [frameN, manyN]
    rw [h5] at h4
    have h6 : sizeAt S P = 0 := by unfold sizeAt; rw [h4, sec_byte4]; rfl
    exact hfit ⟨hP, by rw [h6]; simp [manyN]; omega⟩
end Go.Proofs.YtjhaanenkeceiaaDoor
