/- Plain facts on numbers and texts as bytes: what was put is got; what is got is just the bytes of it. -/
import Derived.Test.YtglpijcfnapdlaaTexts
namespace Go.Proofs.Ytglpijcfnapdlaa
set_option linter.unusedVariables false

theorem getLoop_put (f : Nat) (n : Int) (r : List Int) (i : Nat) (m sc : Int) (h0 : 0 ≤ n) (h1 : n < wt (f + 1)) (hf : f ≤ 4) (hi : i = 0 ∨ 0 < n) (hs : 0 ≤ sc) (hm : m + n * sc ≤ 2147483647) :
    getLoop (f + 1) (numB f n ++ r) i m sc = some (m + n * sc, i + (numB f n).length) := by
  induction f generalizing n i m sc with
  | zero =>
    have h2 : n < 128 := h1
    show getLoop 1 (n :: r) i m sc = _
    rw [getLoop_end (by omega) (by omega)]; rfl
  | succ f ih =>
    by_cases h2 : n < 128
    · rw [numB_small _ _ h2]
      show getLoop (f + 1 + 1) (n :: r) i m sc = _
      rw [getLoop_end (by omega) (by omega)]; rfl
    · rw [numB_more _ _ h2]
      show getLoop (f + 1 + 1) ((n % 128 + 128) :: (numB f (n / 128) ++ r)) i m sc = _
      rw [getLoop_more (by omega)]
      have hw := wt_succ (f + 1) (by omega)
      have e : m + (n % 128 + 128 - 128) * sc + n / 128 * (sc * 128) = m + n * sc := by
        have hn : n = 128 * (n / 128) + n % 128 := by omega
        generalize n / 128 = q at hn
        generalize n % 128 = t at hn
        subst hn
        grind
      rw [ih (n / 128) (i + 1) _ _ (by omega) (by omega) (by omega) (.inr (by omega)) (by omega) (by rw [e]; exact hm), e]
      simp only [List.length_cons]
      congr 2
      omega
theorem getNum_put (ys r : List Int) (n : Int) (h0 : 0 ≤ n) (h1 : n ≤ 2147483647) : getNum (ys ++ putB n ++ r) (ys.length : Int) = (n, (ys.length : Int) + ((putB n).length : Int)) := by
  have hp : putB n = numB 4 n := by unfold putB; rw [if_neg (by omega)]
  rw [hp, getNum_some (n := n) (c := (numB 4 n).length)]
  rw [List.append_assoc, List.drop_left]
  have := getLoop_put 4 n r 0 0 1 h0 (by show n < 34359738368; omega) (by omega) (.inl rfl) (by omega) (by omega)
  rw [this]
  simp
theorem getText_put (cs ts : List Int) (h : ts.length ≤ 40) : getText (cs ++ textB ts) (cs.length : Int) = (ts, ((cs ++ textB ts).length : Int)) := by
  have ht : textB ts = putB (ts.length : Int) ++ ts := by unfold textB; rw [if_neg (by omega)]
  rw [ht, ← List.append_assoc]
  have hg := getNum_put cs ts (ts.length : Int) (by omega) (by omega)
  unfold getText
  rw [hg]
  rw [if_neg (by simp only [List.length_append]; omega)]
  have e : ((cs.length : Int) + ((putB (ts.length : Int)).length : Int)).toNat = (cs ++ putB (ts.length : Int)).length := by rw [List.length_append]; omega
  simp only [e, List.drop_left, Int.toNat_natCast, List.take_length]
  simp only [List.length_append]
  congr 1
theorem getLoop_only (f : Nat) (r : List Int) (i : Nat) (m sc v : Int) (c : Nat) (hr : isBytes r) (h : getLoop (f + 1) r i m sc = some (v, c)) :
    ∃ q, 0 ≤ q ∧ v = m + q * sc ∧ i < c ∧ r.take (c - i) = numB f q ∧ (0 < i → 0 < q) := by
  induction f generalizing r i m sc with
  | zero =>
    cases r with
    | nil => cases h
    | cons x r =>
      have hx : 0 ≤ x ∧ x ≤ 255 := by simpa using hr 0
      by_cases h1 : 128 ≤ x
      · rw [getLoop_more h1] at h; cases h
      · by_cases h2 : (0 < i ∧ x = 0) ∨ 2147483647 < m + x * sc
        · rw [getLoop_bad h1 h2] at h; cases h
        · rw [getLoop_end h1 h2] at h
          simp only [Option.some.injEq, Prod.mk.injEq] at h
          obtain ⟨rfl, rfl⟩ := h
          exact ⟨x, hx.1, rfl, by omega, by rw [show i + 1 - i = 1 by omega]; rfl, fun hi => by omega⟩
  | succ f ih =>
    cases r with
    | nil => cases h
    | cons x r =>
      have hx : 0 ≤ x ∧ x ≤ 255 := by simpa using hr 0
      have hr' : isBytes r := fun j => by simpa using hr (j + 1)
      by_cases h1 : 128 ≤ x
      · rw [getLoop_more h1] at h
        obtain ⟨q, hq0, hv, hic, htk, hpos⟩ := ih r (i + 1) _ _ hr' h
        have hq := hpos (by omega)
        refine ⟨(x - 128) + 128 * q, by omega, ?_, by omega, ?_, fun _ => by omega⟩
        · rw [hv]; grind
        · rw [show c - i = (c - (i + 1)) + 1 by omega, List.take_succ_cons, htk, numB_more _ _ (by omega)]
          have e1 : (x - 128 + 128 * q) % 128 + 128 = x := by omega
          have e2 : (x - 128 + 128 * q) / 128 = q := by omega
          rw [e1, e2]
      · by_cases h2 : (0 < i ∧ x = 0) ∨ 2147483647 < m + x * sc
        · rw [getLoop_bad h1 h2] at h; cases h
        · rw [getLoop_end h1 h2] at h
          simp only [Option.some.injEq, Prod.mk.injEq] at h
          obtain ⟨rfl, rfl⟩ := h
          exact ⟨x, hx.1, rfl, by omega, by rw [show i + 1 - i = 1 by omega, numB_small _ _ (by omega)]; rfl, fun hi => by omega⟩
theorem getNum_only (zs : List Int) (p n : Int) (s : Nat) (hz : isBytes zs) (h : getNum zs p = (n, (s : Int))) : 0 ≤ p ∧ p.toNat ≤ s ∧ s ≤ zs.length ∧ zs.take p.toNat ++ putB n = zs.take s := by
  have hfit := getNum_fits hz h
  obtain ⟨hn0, hn1, hp0, hps, hsl⟩ : 0 ≤ n ∧ n ≤ 2147483647 ∧ 0 ≤ p ∧ p < (s : Int) ∧ (s : Int) ≤ zs.length := by omega
  refine ⟨hp0, by omega, by omega, ?_⟩
  unfold getNum at h
  rw [if_neg (by omega)] at h
  split at h
  · simp only [Prod.mk.injEq] at h; omega
  · rename_i m c hg
    simp only [Prod.mk.injEq] at h
    obtain ⟨rfl, hs⟩ := h
    obtain ⟨q, hq0, hv, hic, htk, _⟩ := getLoop_only 4 _ 0 0 1 _ _ (isBytes_drop hz _) hg
    obtain rfl : m = q := by omega
    have hpb : putB m = numB 4 m := by unfold putB; rw [if_neg (by omega)]
    rw [hpb, ← htk, Nat.sub_zero, ← List.take_add]
    congr 1
    omega
end Go.Proofs.Ytglpijcfnapdlaa
