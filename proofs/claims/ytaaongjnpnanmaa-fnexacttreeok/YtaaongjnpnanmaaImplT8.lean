/- The program and where the entries lead. Condition: handles' numbers are numbers of their type; at most 240 nodes with at most 12 entries each. -/
import Derived.Test.YtaaongjnpnanmaaImplT7
import Derived.Test.YtaaongjnpnanmaaMapH2
namespace Go.Proofs.Ytaaongjnpnanmaa
open Go.RowKit
open Go.Maps
set_option linter.unusedVariables false
set_option maxRecDepth 100000
set_option linter.unusedSimpArgs false

def intP (n : Nat) (v : Value) : Prop := v = .int .i64 n
def cmap (es : List En) (h : Hd) : Option Nat := if cntE es h = 0 then none else some (cntE es h)
def seen (l : List Nd) (k m : Nat) : List En := (l.take k).flatMap (·.es) ++ ((l[k]?.getD nd0).es.take m)
def leadE (f : Hd → Option Nd) (n : Nd) (e : En) : Bool := match f e.h with | none => false | some a => !e.h.dir || decide (a.par = n.h)
def leadN (f : Hd → Option Nd) (l : List Nd) (i : Nat) : Bool := (l[i]?.getD nd0).es.all (leadE f (l[i]?.getD nd0))
def wantN (n : Nd) : Int := if n.h = rootH then 0 else n.links
def ledN (l : List Nd) (i : Nat) : Bool := decide ((cntE (l.flatMap (·.es)) (l[i]?.getD nd0).h : Int) = wantN (l[i]?.getD nd0))
def leadR (f : Hd → Option Nd) (l : List Nd) : Bool := (List.range l.length).all (leadN f l) && (List.range l.length).all (ledN l)

theorem cmap_next (es : List En) (e : En) : (fun g => if g = e.h then some (cntE es e.h + 1) else cmap es g) = cmap (es ++ [e]) := by
  funext g
  unfold cmap cntE
  by_cases h : g = e.h
  · subst h; simp [List.countP_append]
  · have h2 : ¬ e.h = g := fun x => h x.symm
    simp [List.countP_append, h, h2]
theorem cmap_some (es : List En) (h : Hd) : (cmap es h).isSome = true ↔ cntE es h ≠ 0 := by unfold cmap; split <;> simp_all
theorem zeroI (w : World) : (zeroValue 3).run Try.prog w = .ok (.int .i64 0) w := by kernel_rfl
theorem MapH.lookI {w : World} {b s : Nat} {es : List En} (m : MapH intP w b s (cmap es)) {t : TypeId} (ht : Try.prog.underlying t = some (.map 46 3)) {h : Hd} (hh : HIn h) : (Instr.lookup t (.map (some b)) h.v false).run Try.prog w = .ok (.int .i64 (cntE es h)) w := by
  obtain ⟨v, hrun, r1, r2⟩ := m.look ht (zeroI w) hh
  have hv : v = .int .i64 (cntE es h) := by
    by_cases hc : cntE es h = 0
    · rw [r1 (by unfold cmap; rw [if_pos hc]), hc]; rfl
    · exact r2 _ (by unfold cmap; rw [if_neg hc])
  rw [hrun, hv]
theorem seen_next (l : List Nd) (k m : Nat) (hm : m < (l[k]?.getD nd0).es.length) : seen l k (m + 1) = seen l k m ++ [(l[k]?.getD nd0).es[m]?.getD en0] := by
  unfold seen
  rw [List.append_assoc, ← List.take_append_getElem hm, List.getElem?_eq_getElem hm]; rfl
theorem seen_row (l : List Nd) (k : Nat) (hk : k < l.length) : seen l k (l[k]?.getD nd0).es.length = seen l (k + 1) 0 := by
  unfold seen
  rw [List.take_length, List.take_zero, List.append_nil, ← List.take_append_getElem hk, List.flatMap_append, List.getElem?_eq_getElem hk]; simp
theorem seen_all (l : List Nd) : seen l l.length 0 = l.flatMap (·.es) := by unfold seen; simp
theorem cmap_nil (l : List Nd) : cmap (seen l 0 0) = fun _ => none := by funext g; simp [seen, cmap, cntE]
theorem flat_len (l : List Nd) (h : ∀ i, i < l.length → (l[i]?.getD nd0).es.length ≤ 12) : ∀ k, k ≤ l.length → ((l.take k).flatMap (·.es)).length ≤ 12 * k
  | 0, _ => by simp
  | k + 1, hk => by
    have ih := flat_len l h k (by omega)
    have h1 := h k (by omega)
    rw [List.getElem?_eq_getElem (by omega)] at h1
    have h2 : l.take (k + 1) = l.take k ++ [l[k]] := (List.take_append_getElem (by omega)).symm
    rw [h2, List.flatMap_append, List.length_append]
    have h3 : ([l[k]].flatMap (·.es)).length ≤ 12 := by simpa using h1
    omega
theorem cnt_seen (l : List Nd) (h : ∀ i, i < l.length → (l[i]?.getD nd0).es.length ≤ 12) (k m : Nat) (hk : k < l.length) (g : Hd) : cntE (seen l k m) g ≤ 12 * k + 12 := by
  have h1 := flat_len l h k (by omega)
  have h2 : cntE (seen l k m) g ≤ (seen l k m).length := List.countP_le_length
  have h3 : (seen l k m).length ≤ 12 * k + 12 := by
    unfold seen
    rw [List.length_append, List.length_take]
    have := h k hk
    omega
  omega
end Go.Proofs.Ytaaongjnpnanmaa
