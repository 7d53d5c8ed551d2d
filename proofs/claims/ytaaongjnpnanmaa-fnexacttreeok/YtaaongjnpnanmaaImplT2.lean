/- bytes.Compare, as the program calls it; no condition. -/
import Derived.Test.YtaaongjnpnanmaaSpecT4a
import Derived.Lib.BytesEntry
namespace Go.Proofs.Ytaaongjnpnanmaa
open Go.RowKit
set_option linter.unusedVariables false
set_option linter.unusedSimpArgs false

def cmpB (xs ys : List Int) : Int := Lib.compareBytes (Lib.bytesOf xs) (Lib.bytesOf ys)
theorem cmp_less : ∀ (a b : List UInt8), decide (0 ≤ Lib.compareBytes a b) = !Op.bytesLess a b
  | [], [] => by simp [Lib.compareBytes, Op.bytesLess]
  | [], _ :: _ => by simp [Lib.compareBytes, Op.bytesLess]
  | _ :: _, [] => by simp [Lib.compareBytes, Op.bytesLess]
  | x :: a, y :: b => by
    have ih := cmp_less a b
    simp only [Lib.compareBytes, Op.bytesLess]
    by_cases h1 : x < y
    · simp [h1]
    · by_cases h2 : y < x
      · have h3 : ¬ x = y := fun e => by subst e; exact UInt8.lt_irrefl x h2
        simp [h1, h2, h3]
      · have h3 : x = y := UInt8.le_antisymm (UInt8.not_lt.1 h2) (UInt8.not_lt.1 h1)
        subst h3
        simp [h1]
        simpa using ih
theorem cmpB_ge (xs ys : List Int) : decide (0 ≤ cmpB xs ys) = geS xs ys := by
  unfold cmpB geS
  rw [cmp_less, Lib.strOfNums_toList, Lib.strOfNums_toList]
theorem run_bytesOf (v : Value) (xs : List Int) (S : Nat → Prop) (w : World) (r : RdV w S v (.bytes xs)) : (Extern.Bytes.bytesOf v).run Try.prog w = .ok ⟨(Lib.bytesOf xs).toArray⟩ w := by
  obtain ⟨a, cap, rfl, hh, hr⟩ := r.b.reads
  cases a with
  | none =>
    have h0 := (hh.2.2 rfl).1
    have : xs = [] := List.eq_nil_of_length_eq_zero h0
    subst this
    simp [Extern.Bytes.bytesOf, Lib.bytesOf]
    rfl
  | some ad =>
    have hl := Lib.run_loadBytesX (P := Try.prog) w xs ad .empty (fun j x hj => by
      have hjl : j < xs.length := (List.getElem?_eq_some_iff.1 hj).1
      have := hr.srcAt j (.int .u8 x) (by simp [bcells, hj])
      exact this)
    have he : (⟨ByteArray.empty.data ++ (Lib.bytesOf xs).toArray⟩ : ByteArray) = ⟨(Lib.bytesOf xs).toArray⟩ := by
      apply ByteArray.ext
      show (#[] : Array UInt8) ++ (Lib.bytesOf xs).toArray = (Lib.bytesOf xs).toArray
      simp
    rw [he] at hl
    exact hl
theorem run_cmp (v u : Value) (xs ys : List Int) (S S2 : Nat → Prop) (w : World) (r : RdV w S v (.bytes xs)) (r2 : RdV w S2 u (.bytes ys)) :
    (Extern.BytealgCompare.compare #[v, u]).run Try.prog w = .ok (.int .i64 (cmpB xs ys)) w := by
  change Sem.run Try.prog (do pure (goInt (Extern.BytealgCompare.cmp (← Extern.Bytes.bytesOf v) (← Extern.Bytes.bytesOf u)))) w = _
  have h1 := run_bytesOf v xs S w r
  have h2 := run_bytesOf u ys S2 w r2
  simp only [Sem.run_bind, Sem.run_pure, h1, h2, Result.andThen]
  rw [Lib.cmp_eq]
  rfl
set_option maxRecDepth 100000 in
theorem bytesCompare_any (v u : Value) (xs ys : List Int) (S S2 : Nat → Prop) (w : World) (r : RdV w S v (.bytes xs)) (r2 : RdV w S2 u (.bytes ys)) :
    Calls Try.prog 117 #[v, u] w fun e w' => e = .returned (.int .i64 (cmpB xs ys)) ∧ w' = w := by
  have HC : Hid _ := run_cmp v u xs ys S S2 w r r2
  obtain ⟨a, cap, rfl⟩ := r.sliceB
  obtain ⟨a2, cap2, rfl⟩ := r2.sliceB
  generalize xs.length = n0 at *
  generalize ys.length = n1 at *
  generalize cmpB xs ys = c at *
  clear r r2
  go_enter Try.func117, Try.ntmps117
  go_wp2
  rw [run_callFunc_extern Try.func125 (by kernel_rfl) (by kernel_rfl) (by kernel_rfl) (e := Extern.BytealgCompare.compare) (by kernel_rfl), HC.out]
  simp only [Result.andThen]
  rw [Oper.upon_value]
  go_wp2
  go_ret
  exact ⟨rfl, rfl⟩
end Go.Proofs.Ytaaongjnpnanmaa
