/- Small laws on variables that hold a journal, and on lists of the call's own. -/
import Derived.Test.YtjhaanenkeceiaaDoorJournals
import Derived.Test.YtjhaanenkeceiaaDoorClone
import Derived.Test.YtjhaanenkeceiaaDoorFrames
import Derived.Test.YtjhaanenkeceiaaDoorLens
namespace Go.Proofs.YtjhaanenkeceiaaDoor
open Go.RowKit
set_option linter.unusedVariables false

/-- A list of the call's own lies in another block than a variable of another type. -/
theorem row_ne {w : World} {b l : Nat} {A : Array Value} {T e : TypeId} {size n : Nat} {v : Value} {xs : List Value} (hv : w.heap[b]? = some (.cells A T (0, 0))) (ho : w.ownsRow l e size v n xs) (hne : e ≠ T) (q : Nat) (hq : v.ownBlock = some q) : q ≠ b := fun h => by
  subst h
  rcases ho.2 with ⟨h0, _⟩ | ⟨g, c, cur, h0, _, hh1, _⟩
  · rw [h0] at hq; cases hq
  · rw [h0] at hq; cases hq
    rw [hh1] at hv
    simp only [Option.some.injEq, Obj.cells.injEq] at hv
    exact hne hv.2.1
/-- Two lists of the call's own of unlike types lie in unlike blocks. -/
theorem row_row {w : World} {l l' : Nat} {e e' : TypeId} {size size' n n' : Nat} {v u : Value} {xs xs' : List Value} (ho : w.ownsRow l e size v n xs) (ho' : w.ownsRow l' e' size' u n' xs') (hne : e ≠ e') (q : Nat) (hq : v.ownBlock = some q) : u.ownBlock ≠ some q := fun h => by
  rcases ho'.2 with ⟨h0, _⟩ | ⟨g, c, cur, h0, _, hh1, _⟩
  · rw [h0] at h; cases h
  · rw [h0] at h; cases h
    exact row_ne hh1 ho hne g hq rfl
theorem wrap_id (x : Int) (h1 : -9223372036854775808 ≤ x) (h2 : x ≤ 9223372036854775807) : IntKind.i64.wrap x = x := by
  simp only [IntKind.wrap, IntKind.bits, IntKind.signed]
  simp
  omega
theorem frameN_len (q : Nat) (zs : List Int) : (frameN q zs).length = manyN zs.length := by unfold frameN; rw [List.length_map, List.length_range]
theorem frameN_at (q : Nat) (zs : List Int) (k : Nat) (h : k < manyN zs.length) : (frameN q zs)[k]?.getD [] = secN q zs k := by
  unfold frameN
  rw [List.getElem?_map, List.getElem?_range h]; rfl
theorem VarJ.fill {T : TypeId} {w : World} {b : Nat} {x y : Value} {p q : Int} (h : VarJ T w b x y p q) (x' y' : Value) (p' q' : Int) : VarJ T ((((w.setCell ⟨b, 0, none⟩ x').setCell ⟨b, 1, none⟩ y').setCell ⟨b, 2, none⟩ (.int .i64 p')).setCell ⟨b, 3, none⟩ (.int .i64 q')) b x' y' p' q' := by
  unfold VarJ at *
  rw [heap_setCell_same _ _ _ _ _ _ (heap_setCell_same _ _ _ _ _ _ (heap_setCell_same _ _ _ _ _ _ (heap_setCell_same _ _ _ _ _ _ h)))]
  rfl
theorem OwD2.wide {w : World} {l h l' h' : Nat} {v : Value} {d : Dk} (o : OwD2 w l h v d) (h1 : l' ≤ l) (h2 : h ≤ h') : OwD2 w l' h' v d := by
  obtain ⟨x, y, vs, xs, hv, a, b, c⟩ := o
  exact ⟨x, y, vs, xs, hv, a.wide h1 h2, b.wide h1 h2, c⟩
theorem VarJ.set1 {T : TypeId} {w : World} {b : Nat} {x y : Value} {p q : Int} (h : VarJ T w b x y p q) (u : Value) : VarJ T (w.setCell ⟨b, 1, none⟩ u) b x u p q := by
  show _ = _
  rw [heap_setCell_same _ _ _ _ _ _ h]; rfl
theorem VarJ.set2 {T : TypeId} {w : World} {b : Nat} {x y : Value} {p q : Int} (h : VarJ T w b x y p q) (u : Int) : VarJ T (w.setCell ⟨b, 2, none⟩ (.int .i64 u)) b x y u q := by
  show _ = _
  rw [heap_setCell_same _ _ _ _ _ _ h]; rfl
theorem VarJ.set3 {T : TypeId} {w : World} {b : Nat} {x y : Value} {p q : Int} (h : VarJ T w b x y p q) (u : Int) : VarJ T (w.setCell ⟨b, 3, none⟩ (.int .i64 u)) b x y p u := by
  show _ = _
  rw [heap_setCell_same _ _ _ _ _ _ h]; rfl
theorem nilX (w : World) (l h : Nat) : OwX w l h (.slice none 0 0) [] [] :=
  ⟨rfl, World.ownsRow_nil _ _ _ _, (fun (k : Nat) (hk : Value.ownBlock (.slice none 0 0) = some k) => by cases hk), fun i hi => absurd hi (Nat.not_lt_zero _), fun i j k _ hj => absurd hj (Nat.not_lt_zero _)⟩
theorem nilY (w : World) (l h : Nat) : OwY w l h (.slice none 0 0) [] [] :=
  ⟨[], rfl, World.ownsRow_nil _ _ _ _, (fun (k : Nat) (hk : Value.ownBlock (.slice none 0 0) = some k) => by cases hk), fun i hi => absurd hi (Nat.not_lt_zero _), fun i hi => absurd hi (Nat.not_lt_zero _), fun i j k _ hj => absurd hj (Nat.not_lt_zero _)⟩
theorem nilD2 (w : World) (l h : Nat) : OwD2 w l h (.agg #[.slice none 0 0, .slice none 0 0]) ([], []) := ⟨_, _, [], [], rfl, nilX w l h, nilY w l h, fun q ⟨i, hi, _⟩ => absurd hi (Nat.not_lt_zero _)⟩
end Go.Proofs.YtjhaanenkeceiaaDoor
