/- Joined: OpenD Same Strs3 Journals Lens JBase. -/
import Derived.Test.YtjhaanenkeceiaaDoorJ09
import Derived.Test.YtjhaanenkeceiaaDoorJ01
import Derived.WalkSpells
import Derived.Laws.BytesArg
import Derived.Lib.Bytes
import Derived.Test.YtjhaanenkeceiaaDoorJ03
import Derived.Test.YtjhaanenkeceiaaDoorJ05

section
/- What opening a disk gives, as a plain function. No walk. -/
namespace Go.Proofs.YtjhaanenkeceiaaDoor
set_option linter.unusedVariables false

/-- The piece that a sector has. -/
def pieceS (S : List (List Int)) (i : Nat) : List Int := ((S[i]?.getD []).drop 6).take 24
def catN (S : List (List Int)) (P k : Nat) : List Int := ((List.range k).map (fun i => pieceS S (P + i))).flatten
def sizeAt (S : List (List Int)) (P : Nat) : Nat := ((S[P]?.getD [])[4]?.getD 0).toNat
/-- The bytes that the sectors from P on speak of. -/
def claimD (S : List (List Int)) (P : Nat) : List Int := if P < S.length ∧ P + manyN (sizeAt S P) ≤ S.length then (catN S P (manyN (sizeAt S P))).take (sizeAt S P) else []
/-- Do just these sectors lie from P on? -/
def matchB (S : List (List Int)) (P : Nat) (fr : List (List Int)) : Bool := decide (fr.length ≤ S.length - P) && (List.range fr.length).all (fun i => S[P + i]?.getD [] == fr[i]?.getD [])
/-- The record at P, if one lies there. -/
def readD (S : List (List Int)) (P q : Nat) : Option (List Int) :=
  if q < 60000 ∧ P < S.length ∧ sizeAt S P ≤ 200 ∧ P + manyN (sizeAt S P) ≤ S.length ∧ matchB S P (frameN q (claimD S P)) = true then some (claimD S P) else none
def runN (S : List (List Int)) : Nat → Nat × Nat × List (List Int) → Nat × Nat × List (List Int)
  | 0, s => s
  | k + 1, (P, q, acc) => match readD S P q with
    | none => (P, q, acc)
    | some r => runN S k (P + manyN r.length, q + 1, acc ++ [r])
def openS (S : List (List Int)) : Nat × Nat × List (List Int) := runN S (S.length + 1) (0, 0, [])
/-- On the way: so far have they come. -/
def OpenAt (S : List (List Int)) (P q : Nat) (acc : List (List Int)) : Prop := P ≤ S.length ∧ q ≤ P ∧ acc.length ≤ P ∧ (∀ i : Nat, (acc[i]?.getD []).length ≤ 200) ∧ ∃ k, S.length + 1 ≤ k + P ∧ runN S k (P, q, acc) = openS S
theorem OpenAt.start (S : List (List Int)) : OpenAt S 0 0 [] := ⟨Nat.zero_le _, Nat.le_refl _, Nat.le_refl _, fun i => by simp, _, by omega, rfl⟩
theorem OpenAt.stop {S : List (List Int)} {P q : Nat} {acc : List (List Int)} (h : OpenAt S P q acc) (hn : readD S P q = none) : openS S = (P, q, acc) := by
  obtain ⟨hP, _, _, _, k, hk, hr⟩ := h
  cases k with
  | zero => omega
  | succ k => rw [runN, hn] at hr; exact hr.symm

theorem whole_len {S : List (List Int)} (hw : ∀ i, i < S.length → (S[i]?.getD []).length = 32) (i : Nat) (h : i < S.length) : (pieceS S i).length = 24 := by
  unfold pieceS
  rw [List.length_take, List.length_drop, hw i h]; rfl
theorem catN_succ (S : List (List Int)) (P k : Nat) : catN S P (k + 1) = catN S P k ++ pieceS S (P + k) := by
  unfold catN
  rw [List.range_succ, List.map_append, List.flatten_append]
  simp
theorem catN_len {S : List (List Int)} (hw : ∀ i, i < S.length → (S[i]?.getD []).length = 32) (P k : Nat) (h : P + k ≤ S.length) : (catN S P k).length = 24 * k := by
  induction k with
  | zero => simp [catN]
  | succ k ih =>
    rw [catN_succ, List.length_append, ih (by omega), whole_len hw _ (by omega)]; omega
theorem manyN_most (n : Nat) : n ≤ 24 * manyN n := by unfold manyN; split <;> omega
theorem claimD_len {S : List (List Int)} (hw : ∀ i, i < S.length → (S[i]?.getD []).length = 32) (P : Nat) (h : P < S.length ∧ P + manyN (sizeAt S P) ≤ S.length) : (claimD S P).length = sizeAt S P := by
  unfold claimD
  rw [if_pos h, List.length_take, catN_len hw P _ h.2]
  have := manyN_most (sizeAt S P)
  omega
theorem OpenAt.next {S : List (List Int)} {P q : Nat} {acc : List (List Int)} {r : List Int} (hw : ∀ i, i < S.length → (S[i]?.getD []).length = 32) (h : OpenAt S P q acc) (hn : readD S P q = some r) : OpenAt S (P + manyN r.length) (q + 1) (acc ++ [r]) := by
  obtain ⟨hP, hq, ha, hl, k, hk, hr⟩ := h
  have hp := manyN_pos r.length
  have h1 : r = claimD S P ∧ (q < 60000 ∧ P < S.length ∧ sizeAt S P ≤ 200 ∧ P + manyN (sizeAt S P) ≤ S.length ∧ matchB S P (frameN q (claimD S P)) = true) := by
    unfold readD at hn
    split at hn
    · rename_i hc; simp only [Option.some.injEq] at hn; exact ⟨hn.symm, hc⟩
    · cases hn
  have hlen : r.length = sizeAt S P := by rw [h1.1]; exact claimD_len hw P ⟨h1.2.2.1, h1.2.2.2.2.1⟩
  refine ⟨by rw [hlen]; exact h1.2.2.2.2.1, by omega, by simp; omega, fun i => ?_, ?_⟩
  · rw [getD_snoc]
    split
    · exact hl i
    · split
      · rw [hlen]; exact h1.2.2.2.1
      · simp
  · cases k with
    | zero => omega
    | succ k => exact ⟨k, by omega, by rw [runN, hn] at hr; exact hr⟩
theorem sec_byte4 (q : Nat) (zs : List Int) (k : Nat) : (secN q zs k)[4]?.getD 0 = (zs.length : Int) := by simp [secN]
/-- What the program asks comes to the same. -/
theorem read_same {S : List (List Int)} (hw : ∀ i, i < S.length → (S[i]?.getD []).length = 32) (hb : ∀ i : Nat, isBytes (S[i]?.getD [])) (P q : Nat) (hq : q < 60000) :
    readD S P q = if frameD (q : Int) (claimD S P) ≠ [] ∧ matchB S P (frameD (q : Int) (claimD S P)) = true then some (claimD S P) else none := by
  have hfr : ∀ zs : List Int, zs.length ≤ 200 → frameD (q : Int) zs = frameN q zs := fun zs hz => by unfold frameD; rw [if_pos (by omega), Int.toNat_natCast]
  have hne : ∀ zs : List Int, frameN q zs ≠ [] := fun zs h => by
    have h1 := congrArg List.length h
    have h2 := manyN_pos zs.length
    unfold frameN at h1
    simp at h1
    omega
  by_cases hfit : P < S.length ∧ P + manyN (sizeAt S P) ≤ S.length
  · have hl := claimD_len hw P hfit
    by_cases h2 : sizeAt S P ≤ 200
    · rw [hfr _ (by omega)]
      unfold readD
      by_cases hm : matchB S P (frameN q (claimD S P)) = true
      · rw [if_pos ⟨hq, hfit.1, h2, hfit.2, hm⟩, if_pos ⟨hne _, hm⟩]
      · rw [if_neg (fun h => hm h.2.2.2.2), if_neg (fun h => hm h.2)]
    · have hf : frameD (q : Int) (claimD S P) = [] := by unfold frameD; rw [if_neg (by omega)]
      unfold readD
      rw [if_neg (fun h => h2 h.2.2.1), hf, if_neg (fun h => h.1 rfl)]
  · have hc : claimD S P = [] := by unfold claimD; rw [if_neg hfit]
    have h1 : readD S P q = none := by unfold readD; rw [if_neg (fun h => hfit ⟨h.2.1, h.2.2.2.1⟩)]
    rw [h1, hc, hfr [] (by simp), if_neg]
    rintro ⟨_, hm⟩
    unfold matchB at hm
    have hfl : (frameN q []).length = 1 := by simp [frameN, manyN]
    rw [hfl] at hm
    simp only [Bool.and_eq_true, decide_eq_true_eq, List.all_eq_true, List.mem_range, beq_iff_eq] at hm
    have hP : P < S.length := by omega
    have h4 := hm.2 0 (by omega)
    rw [Nat.add_zero] at h4
    have h5 : (frameN q [])[0]?.getD [] = secN q [] 0 := by simp [frameN, manyN]
    rw [h5] at h4
    have h6 : sizeAt S P = 0 := by unfold sizeAt; rw [h4, sec_byte4]; rfl
    exact hfit ⟨hP, by rw [h6]; simp [manyN]; omega⟩
end Go.Proofs.YtjhaanenkeceiaaDoor
end

section
/- The verifier's sameBytes tells two slices of the same bytes to be the same. Condition: at most 2^21 bytes. -/
namespace Go.Proofs.YtjhaanenkeceiaaDoor
open Go.RowKit
set_option linter.unusedVariables false

theorem conv_any (a : Option Addr) (xs : List Int) (len cap : Nat) (w : World) (hx : Reads w a xs) (hl : len = xs.length) : (convert 22 9 (.slice a len cap)).run Tryd.prog w = .ok (.string (strOfNums xs)) w := by
  subst hl
  cases a with
  | none =>
    rcases hx.2 with rfl | ⟨b, off, ha, _⟩
    · exact run_convert_bytes_nil w 22 5 Tryd.underlying22 Tryd.underlying5 _ _ 9 Tryd.underlying9
    · cases ha
  | some ad =>
    by_cases h0 : xs = []
    · subst h0
      rw [run_convert_bytes_string w 22 9 5 _ _ cap Tryd.underlying22 Tryd.underlying5 Tryd.underlying9]
      have hld : (loadCells ad 0).run Tryd.prog w = .ok (([] : List Int).map (Value.int .u8)).toArray w := by
        have := run_loadCells_list (P := Tryd.prog) w ad [] (fun j v hj => by simp at hj)
        simpa using this
      rw [List.length_nil, run_bytesToString w ad 0 cap [] hld]
      rfl
    · rcases hx.2 with h1 | ⟨b, off, ha, hb, hc⟩
      · exact absurd h1 h0
      · cases ha
        exact run_convert_bytes_arg w 22 5 Tryd.underlying22 Tryd.underlying5 b off xs.length cap xs rfl (fun i hi => by rw [hc i hi]; simp) 9 Tryd.underlying9

end Go.Proofs.YtjhaanenkeceiaaDoor
end

section
/- Two lists of bytes are alike just if the strings of them are. -/
namespace Go.Proofs.YtjhaanenkeceiaaDoor
open Go.RowKit Go.Lib
set_option linter.unusedVariables false

theorem bytes_inj : ∀ (xs ys : List Int), isBytes xs → isBytes ys → bytesOf xs = bytesOf ys → xs = ys := by
  intro xs
  induction xs with
  | nil => intro ys _ _ h; cases ys with
    | nil => rfl
    | cons y r => simp [bytesOf] at h
  | cons x r ih =>
    intro ys hx hy h
    cases ys with
    | nil => simp [bytesOf] at h
    | cons y s =>
      have h0 := hx 0
      have k0 := hy 0
      simp only [List.getElem?_cons_zero, Option.getD_some] at h0 k0
      simp only [bytesOf, List.map_cons, List.cons.injEq] at h
      have e : x = y := by
        have h1 := congrArg UInt8.toNat h.1
        simp only [UInt8.toNat_ofNat'] at h1
        omega
      subst e
      rw [ih s (fun j => by have := hx (j + 1); simpa using this) (fun j => by have := hy (j + 1); simpa using this) h.2]
theorem str_eq (xs ys : List Int) (hx : isBytes xs) (hy : isBytes ys) : ((strOfNums xs).toList == (strOfNums ys).toList) = decide (xs = ys) := by
  rw [strOfNums_toList, strOfNums_toList]
  by_cases h : xs = ys
  · subst h; simp
  · simp only [h, decide_false]
    exact beq_eq_false_iff_ne.2 (fun e => h (bytes_inj xs ys hx hy e))
end Go.Proofs.YtjhaanenkeceiaaDoor
end

section
/- Journals: what is read and owned of them, the variables they lie in, and what the verifier's helpers do with them. Condition: the disk is of at most 2^21 bytes and writes. -/
namespace Go.Proofs.YtjhaanenkeceiaaDoor
open Go.RowKit
set_option linter.unusedVariables false
set_option linter.unusedSimpArgs false

abbrev Jn := Dk × Int × Int
/-- v is the journal j, its disk's memory in blocks l .. h-1. -/
def RdJ (w : World) (l h : Nat) (v : Value) (j : Jn) : Prop := ∃ x y, v = .agg #[x, y, .int .i64 j.2.1, .int .i64 j.2.2] ∧ RdD w l h (.agg #[x, y]) j.1
def OwJ (w : World) (l h : Nat) (v : Value) (j : Jn) : Prop := ∃ x y, v = .agg #[x, y, .int .i64 j.2.1, .int .i64 j.2.2] ∧ OwD w l h (.agg #[x, y]) j.1
def OwJ2 (w : World) (l h : Nat) (v : Value) (j : Jn) : Prop := ∃ x y, v = .agg #[x, y, .int .i64 j.2.1, .int .i64 j.2.2] ∧ OwD2 w l h (.agg #[x, y]) j.1
theorem OwJ2.rd {w : World} {l h : Nat} {v : Value} {j : Jn} (o : OwJ2 w l h v j) : RdJ w l h v j := by obtain ⟨x, y, hv, o⟩ := o; exact ⟨x, y, hv, o.rd⟩
theorem RdJ.same {w w' : World} {l h : Nat} {v : Value} {j : Jn} (r : RdJ w l h v j) (t : SameIn l h w w') : RdJ w' l h v j := by obtain ⟨x, y, hv, o⟩ := r; exact ⟨x, y, hv, o.same t⟩
theorem RdJ.step {w w' : World} {l h : Nat} {v : Value} {j : Jn} (r : RdJ w l h v j) (hh : h ≤ w.heap.size) (hb : Below w.heap.size w w') : RdJ w' l h v j := r.same (SameIn.ofBelow hb hh)
theorem RdJ.wide {w : World} {l h l' h' : Nat} {v : Value} {j : Jn} (r : RdJ w l h v j) (h1 : l' ≤ l) (h2 : h ≤ h') : RdJ w l' h' v j := by obtain ⟨x, y, hv, o⟩ := r; exact ⟨x, y, hv, o.wide h1 h2⟩
theorem RdJ.open {w : World} {l h : Nat} {v : Value} {j : Jn} (r : RdJ w l h v j) : ∃ xa xn xc ya yn yc, v = .agg #[.slice xa xn xc, .slice ya yn yc, .int .i64 j.2.1, .int .i64 j.2.2] ∧ RdD w l h (.agg #[.slice xa xn xc, .slice ya yn yc]) j.1 := by
  obtain ⟨x, y, hv, o⟩ := r
  obtain ⟨xa, xn, xc, ya, yn, yc, he⟩ := o.open
  simp only [Value.agg.injEq, Array.mk.injEq, List.cons.injEq, and_true] at he
  obtain ⟨rfl, rfl⟩ := he
  exact ⟨xa, xn, xc, ya, yn, yc, hv, o⟩

/-- A variable of type T that holds a journal. -/
def VarJ (T : TypeId) (w : World) (b : Nat) (x y : Value) (p q : Int) : Prop := w.heap[b]? = some (.cells #[x, y, .int .i64 p, .int .i64 q] T (0, 0))
section
variable {T : TypeId} {w w' : World} {b : Nat} {x y : Value} {p q : Int}
theorem VarJ.c0 (h : VarJ T w b x y p q) : w.cell? ⟨b, 0, none⟩ = some x := by rw [cell_of_row _ _ _ _ _ _ h]; rfl
theorem VarJ.c1 (h : VarJ T w b x y p q) : w.cell? ⟨b, 1, none⟩ = some y := by rw [cell_of_row _ _ _ _ _ _ h]; rfl
theorem VarJ.c2 (h : VarJ T w b x y p q) : w.cell? ⟨b, 2, none⟩ = some (.int .i64 p) := by rw [cell_of_row _ _ _ _ _ _ h]; rfl
theorem VarJ.c3 (h : VarJ T w b x y p q) : w.cell? ⟨b, 3, none⟩ = some (.int .i64 q) := by rw [cell_of_row _ _ _ _ _ _ h]; rfl
theorem VarJ.f (h : VarJ T w b x y p q) (i : Nat) : w.frozen? ⟨b, i, none⟩ = false := frozen_of_row _ _ _ _ _ h
theorem VarJ.lt (h : VarJ T w b x y p q) : b < w.heap.size := lt_of_block h
theorem VarJ.step (h : VarJ T w b x y p q) (hb : Below w.heap.size w w') : VarJ T w' b x y p q := (hb.block b h.lt).trans h
theorem VarJ.new (w : World) (x y : Value) (p q : Int) : VarJ T (w.alloc (.cells #[x, y, .int .i64 p, .int .i64 q] T)) w.heap.size x y p q := heap_alloc_new w _
end

end Go.Proofs.YtjhaanenkeceiaaDoor
end

section
/- Lengths of lists that are read, and marks on bytes; at most 2^21 bytes. -/
namespace Go.Proofs.YtjhaanenkeceiaaDoor
open Go.RowKit
set_option linter.unusedVariables false

theorem RdWs.len {w : World} {l h : Nat} {a : Option Addr} {n c : Nat} {z : List Wt} (r : RdWs w l h (.slice a n c) z) : n = z.length ∧ n ≤ 9223372036854775807 := by
  obtain ⟨a', n', c', vs, he, hl, hh, _⟩ := r
  simp only [Value.slice.injEq] at he
  obtain ⟨rfl, rfl, rfl⟩ := he
  exact ⟨hl, by have := hh.1; have := hh.2.1; unfold maxLen at this; omega⟩
theorem RdB.len {w : World} {l h : Nat} {a : Option Addr} {n c : Nat} {z : List Int} (r : RdB w l h (.slice a n c) z) : n = z.length := by
  obtain ⟨_, a', n', c', he, hl, _⟩ := r
  simp only [Value.slice.injEq] at he
  obtain ⟨rfl, rfl, rfl⟩ := he
  exact hl
end Go.Proofs.YtjhaanenkeceiaaDoor
end

section
/- Small laws on variables that hold a journal, and on lists of the call's own. -/
namespace Go.Proofs.YtjhaanenkeceiaaDoor
open Go.RowKit
set_option linter.unusedVariables false

/-- A list of the call's own lies in another block than a variable of another type. -/
theorem row_ne {w : World} {b l : Nat} {A : Array Value} {T e : TypeId} {size n : Nat} {v : Value} {xs : List Value} (hv : w.heap[b]? = some (.cells A T (0, 0))) (ho : w.ownsRow l e size v n xs) (hne : e ≠ T) (q : Nat) (hq : v.ownBlock = some q) : q ≠ b := fun h => by
  subst h
  rcases ho.2 with ⟨h0, _⟩ | ⟨g, c, cur, h0, _, hh1, _⟩
  · rw [h0] at hq; cases hq
  · rw [h0] at hq; cases hq
    rw [hh1] at hv
    simp only [Option.some.injEq, Obj.cells.injEq] at hv
    exact hne hv.2.1
/-- Two lists of the call's own of unlike types lie in unlike blocks. -/
theorem row_row {w : World} {l l' : Nat} {e e' : TypeId} {size size' n n' : Nat} {v u : Value} {xs xs' : List Value} (ho : w.ownsRow l e size v n xs) (ho' : w.ownsRow l' e' size' u n' xs') (hne : e ≠ e') (q : Nat) (hq : v.ownBlock = some q) : u.ownBlock ≠ some q := fun h => by
  rcases ho'.2 with ⟨h0, _⟩ | ⟨g, c, cur, h0, _, hh1, _⟩
  · rw [h0] at h; cases h
  · rw [h0] at h; cases h
    exact row_ne hh1 ho hne g hq rfl
theorem wrap_id (x : Int) (h1 : -9223372036854775808 ≤ x) (h2 : x ≤ 9223372036854775807) : IntKind.i64.wrap x = x := by
  simp only [IntKind.wrap, IntKind.bits, IntKind.signed]
  simp
  omega
theorem frameN_len (q : Nat) (zs : List Int) : (frameN q zs).length = manyN zs.length := by unfold frameN; rw [List.length_map, List.length_range]
theorem frameN_at (q : Nat) (zs : List Int) (k : Nat) (h : k < manyN zs.length) : (frameN q zs)[k]?.getD [] = secN q zs k := by
  unfold frameN
  rw [List.getElem?_map, List.getElem?_range h]; rfl
theorem VarJ.fill {T : TypeId} {w : World} {b : Nat} {x y : Value} {p q : Int} (h : VarJ T w b x y p q) (x' y' : Value) (p' q' : Int) : VarJ T ((((w.setCell ⟨b, 0, none⟩ x').setCell ⟨b, 1, none⟩ y').setCell ⟨b, 2, none⟩ (.int .i64 p')).setCell ⟨b, 3, none⟩ (.int .i64 q')) b x' y' p' q' := by
  unfold VarJ at *
  rw [heap_setCell_same _ _ _ _ _ _ (heap_setCell_same _ _ _ _ _ _ (heap_setCell_same _ _ _ _ _ _ (heap_setCell_same _ _ _ _ _ _ h)))]
  rfl
theorem OwD2.wide {w : World} {l h l' h' : Nat} {v : Value} {d : Dk} (o : OwD2 w l h v d) (h1 : l' ≤ l) (h2 : h ≤ h') : OwD2 w l' h' v d := by
  obtain ⟨x, y, vs, xs, hv, a, b, c⟩ := o
  exact ⟨x, y, vs, xs, hv, a.wide h1 h2, b.wide h1 h2, c⟩
theorem VarJ.set1 {T : TypeId} {w : World} {b : Nat} {x y : Value} {p q : Int} (h : VarJ T w b x y p q) (u : Value) : VarJ T (w.setCell ⟨b, 1, none⟩ u) b x u p q := by
  show _ = _
  rw [heap_setCell_same _ _ _ _ _ _ h]; rfl
theorem VarJ.set2 {T : TypeId} {w : World} {b : Nat} {x y : Value} {p q : Int} (h : VarJ T w b x y p q) (u : Int) : VarJ T (w.setCell ⟨b, 2, none⟩ (.int .i64 u)) b x y u q := by
  show _ = _
  rw [heap_setCell_same _ _ _ _ _ _ h]; rfl
theorem VarJ.set3 {T : TypeId} {w : World} {b : Nat} {x y : Value} {p q : Int} (h : VarJ T w b x y p q) (u : Int) : VarJ T (w.setCell ⟨b, 3, none⟩ (.int .i64 u)) b x y p u := by
  show _ = _
  rw [heap_setCell_same _ _ _ _ _ _ h]; rfl
theorem nilX (w : World) (l h : Nat) : OwX w l h (.slice none 0 0) [] [] :=
  ⟨rfl, World.ownsRow_nil _ _ _ _, (fun (k : Nat) (hk : Value.ownBlock (.slice none 0 0) = some k) => by cases hk), fun i hi => absurd hi (Nat.not_lt_zero _), fun i j k _ hj => absurd hj (Nat.not_lt_zero _)⟩
theorem nilY (w : World) (l h : Nat) : OwY w l h (.slice none 0 0) [] [] :=
  ⟨[], rfl, World.ownsRow_nil _ _ _ _, (fun (k : Nat) (hk : Value.ownBlock (.slice none 0 0) = some k) => by cases hk), fun i hi => absurd hi (Nat.not_lt_zero _), fun i hi => absurd hi (Nat.not_lt_zero _), fun i j k _ hj => absurd hj (Nat.not_lt_zero _)⟩
theorem nilD2 (w : World) (l h : Nat) : OwD2 w l h (.agg #[.slice none 0 0, .slice none 0 0]) ([], []) := ⟨_, _, [], [], rfl, nilX w l h, nilY w l h, fun q ⟨i, hi, _⟩ => absurd hi (Nat.not_lt_zero _)⟩
end Go.Proofs.YtjhaanenkeceiaaDoor
end
