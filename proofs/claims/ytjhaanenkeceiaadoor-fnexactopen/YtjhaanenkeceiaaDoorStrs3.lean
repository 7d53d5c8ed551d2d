/- Two lists of bytes are alike just if the strings of them are. -/
import Derived.Test.YtjhaanenkeceiaaDoorSame
import Derived.Lib.Bytes
namespace Go.Proofs.YtjhaanenkeceiaaDoor
open Go.RowKit Go.Lib
set_option linter.unusedVariables false

theorem bytes_inj : ∀ (xs ys : List Int), isBytes xs → isBytes ys → bytesOf xs = bytesOf ys → xs = ys := by
  intro xs
  induction xs with
  | nil => intro ys _ _ h; cases ys with
    | nil => rfl
    | cons y r => simp [bytesOf] at h
  | cons x r ih =>
    intro ys hx hy h
    cases ys with
    | nil => simp [bytesOf] at h
    | cons y s =>
      have h0 := hx 0
      have k0 := hy 0
      simp only [List.getElem?_cons_zero, Option.getD_some] at h0 k0
      simp only [bytesOf, List.map_cons, List.cons.injEq] at h
      have e : x = y := by
        have h1 := congrArg UInt8.toNat h.1
        simp only [UInt8.toNat_ofNat'] at h1
        omega
      subst e
      rw [ih s (fun j => by have := hx (j + 1); simpa using this) (fun j => by have := hy (j + 1); simpa using this) h.2]
theorem str_eq (xs ys : List Int) (hx : isBytes xs) (hy : isBytes ys) : ((strOfNums xs).toList == (strOfNums ys).toList) = decide (xs = ys) := by
  rw [strOfNums_toList, strOfNums_toList]
  by_cases h : xs = ys
  · subst h; simp
  · simp only [h, decide_false]
    exact beq_eq_false_iff_ne.2 (fun e => h (bytes_inj xs ys hx hy e))
end Go.Proofs.YtjhaanenkeceiaaDoor
