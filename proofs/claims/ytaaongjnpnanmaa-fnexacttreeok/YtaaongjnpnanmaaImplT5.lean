/- The program's map of the nodes. Condition: at most 2^21 nodes, no two of one handle, their handles' numbers numbers of their type. -/
import Derived.Test.YtaaongjnpnanmaaMapH
namespace Go.Proofs.Ytaaongjnpnanmaa
open Go.RowKit
open Go.Maps
set_option linter.unusedVariables false
set_option maxRecDepth 100000
set_option linter.unusedSimpArgs false

def ndP (n : Nd) (v : Value) : Prop := ∃ a m c, v = ndV n (.slice a m c)
def atH (l : List Nd) (k : Nat) (h : Hd) : Option Nd := (l.take k).find? (fun n => decide (n.h = h))
def OneH (l : List Nd) : Prop := ∀ i j, i < l.length → j < l.length → (l[i]?.getD nd0).h = (l[j]?.getD nd0).h → i = j
theorem atH_new {l : List Nd} (ho : OneH l) {k : Nat} (hk : k < l.length) : atH l k (l[k]?.getD nd0).h = none := by
  unfold atH
  rw [List.find?_eq_none]
  intro n hn
  obtain ⟨i, hi, rfl⟩ := List.getElem_of_mem hn
  have hi2 : i < k ∧ i < l.length := by have h9 : i < min k l.length := by simpa using hi
                                        omega
  simp only [List.getElem_take, decide_eq_true_eq]
  intro he
  have := ho i k hi2.2 hk (by rw [List.getElem?_eq_getElem hi2.2]; exact he)
  omega
theorem atH_next {l : List Nd} (ho : OneH l) {k : Nat} (hk : k < l.length) : (fun g => if g = (l[k]?.getD nd0).h then some (l[k]?.getD nd0) else atH l k g) = atH l (k + 1) := by
  funext g
  have hg : l[k]?.getD nd0 = l[k] := by rw [List.getElem?_eq_getElem hk]; rfl
  have ht : l.take (k + 1) = l.take k ++ [l[k]] := (List.take_append_getElem hk).symm
  have hstep : atH l (k + 1) g = (atH l k g).or ([l[k]].find? (fun n => decide (n.h = g))) := by
    unfold atH; rw [ht, List.find?_append]
  rw [hstep]
  by_cases hgh : g = (l[k]?.getD nd0).h
  · rw [if_pos hgh]
    have h1 := atH_new ho hk
    rw [← hgh] at h1
    rw [h1, hg] at *
    simp [hgh]
  · rw [if_neg hgh]
    rw [hg] at hgh
    have h2 : [l[k]].find? (fun n => decide (n.h = g)) = none := by
      simp only [List.find?_cons, List.find?_nil]
      rw [decide_eq_false (fun h => hgh h.symm)]
    rw [h2]; simp

section
variable {α : Type} {V : α → Value → Prop} {w : World} {b s : Nat} {f : Hd → Option α}
theorem MapH.alloc (m : MapH V w b s f) (o : Obj) : MapH V (w.alloc o) b s f := m.kept (World.grownBy_alloc w o none) (by simp)
theorem MapH.aside (m : MapH V w b s f) {p : Addr} (hp : b ≠ p.block) (u : Value) : MapH V (w.setCell p u) b s f := m.blk (heap_setCell_other w p b u hp)
theorem MapH.aside9 {c : Nat} {y0 y1 y2 y3 y4 y5 y6 y7 y8 : Value} (h : MapH V w b s f) (hc : b ≠ c) : MapH V (((((((((w.setCell ⟨c, 0, none⟩ y0).setCell ⟨c, 1, none⟩ y1).setCell ⟨c, 2, none⟩ y2).setCell ⟨c, 3, none⟩ y3).setCell ⟨c, 4, none⟩ y4).setCell ⟨c, 5, none⟩ y5).setCell ⟨c, 6, none⟩ y6).setCell ⟨c, 7, none⟩ y7).setCell ⟨c, 8, none⟩ y8) b s f := (((((((((h.aside (p := ⟨c, 0, none⟩) hc y0).aside (p := ⟨c, 1, none⟩) hc y1).aside (p := ⟨c, 2, none⟩) hc y2).aside (p := ⟨c, 3, none⟩) hc y3).aside (p := ⟨c, 4, none⟩) hc y4).aside (p := ⟨c, 5, none⟩) hc y5).aside (p := ⟨c, 6, none⟩) hc y6).aside (p := ⟨c, 7, none⟩) hc y7).aside (p := ⟨c, 8, none⟩) hc y8)
end

/-- A store into such a map, at the operation. -/
theorem wpList_putH {α : Type} {V : α → Value → Prop} (w : World) {ops : Array Oper} {rest : List Oper} {o : Oper} {a : Act} {Q : Exit → Act → World → Prop}
    (hg : o.guard = none) (m x v : Operand) (t : TypeId) (hop : o.op = Op.mapUpdate t m x v) (e : TypeId) (ht : Try.prog.underlying t = some (.map 46 e)) (b s : Nat) (f : Hd → Option α)
    (hm : a.eval m = .map (some b)) (M : MapH V w b s f) (hn : s < maxLen) (h : Hd) (hh : HIn h) (hx : a.eval x = h.v) (c : α) (hv : V c (a.eval v))
    (hK : ∀ w', MapH V w' b (if (f h).isSome then s else s + 1) (fun g => if g = h then some c else f g) → w.grownBy w' (some b) → wpList Try.prog ops Q rest (a.put o.dst undef) w') :
    wpList Try.prog ops Q (o :: rest) a w := by
  refine wpList_plain hg fun K' hK' => ?_
  obtain ⟨w', hrun, r1, r2⟩ := M.put ht hn hh hv
  unfold Oper.wp
  simp [execOp, hop, hm, hx, hrun, Result.andThen]
  exact hK' _ _ (hK w' r1 r2)

set_option maxRecDepth 100000 in
set_option maxHeartbeats 1000000 in
theorem nodesByHandle_any (x : Value) (l : List Nd) (S : Nat → Prop) (w : World) (r : RdV w S x (ndsDt l)) (hl : l.length ≤ 2097152) (ho : OneH l) (hin : ∀ i, i < l.length → HIn (l[i]?.getD nd0).h) :
    Calls Try.prog 49 #[x] w fun e w' => e = .returned (.map (some w.heap.size)) ∧ Below w.heap.size w w' ∧ MapH ndP w' w.heap.size l.length (atH l l.length) := by
  obtain ⟨a, cap, rfl, _⟩ := RdV.sliced r
  have HR : Hid (∀ W, Below w.heap.size w W → RdV W S (.slice a l.length cap) (.rows 83 9 l.length (fun i j => ndCell (l[i]?.getD nd0) j))) := RdV.old r
  obtain ⟨n, hn⟩ : ∃ n, l.length = n := ⟨_, rfl⟩
  have HN : Hid _ := hn
  have HST : Hid (∀ k, k < n → (fun g => if g = (l[k]?.getD nd0).h then some (l[k]?.getD nd0) else atH l k g) = atH l (k + 1) ∧ atH l k (l[k]?.getD nd0).h = none) := fun k hk => ⟨atH_next ho (by rw [hn]; exact hk), atH_new ho (by rw [hn]; exact hk)⟩
  have HIN : Hid (∀ i, i < l.length → HIn (l[i]?.getD nd0).h) := hin
  rw [hn] at hl HR HIN ⊢
  clear r hn ho hin
  have hmm := @run_makeMap Try.prog
  go_enter Try.func49, Try.ntmps49
  go_wp2
  go_loopw [9] (fun i wr => ∃ k : Nat, k ≤ n ∧ i = .int .i64 k ∧ Below w.heap.size w wr ∧ MapH ndP wr w.heap.size k (atH l k)) (fun i _ => n - (intOf i).toNat)
  case atStart => exact ⟨0, Nat.zero_le _, rfl, Below.newH _, MapH.made _ _⟩
  case round =>
    clear hmm
    obtain ⟨k, hk, rfl, hbel, M⟩ := hrel
    have HM : Hid (MapH ndP wr w.heap.size k (atH l k)) := M
    by_cases hlt : k < n
    case neg =>
      have he : k = n := by omega
      subst he
      go_wp2
      go_ret
      exact ⟨rfl, hbel, HM.out⟩
    obtain ⟨b, off, rfl, hbl, _, hx⟩ := RdV.at (HR.out wr hbel) hlt
    obtain ⟨x0, g0, s0⟩ := hx 0 (by omega)
    obtain ⟨x1, g1, s1⟩ := hx 1 (by omega)
    obtain ⟨x2, g2, s2⟩ := hx 2 (by omega)
    obtain ⟨x3, g3, s3⟩ := hx 3 (by omega)
    obtain ⟨x4, g4, s4⟩ := hx 4 (by omega)
    obtain ⟨x5, g5, s5⟩ := hx 5 (by omega)
    obtain ⟨x6, g6, s6⟩ := hx 6 (by omega)
    obtain ⟨x7, g7, s7⟩ := hx 7 (by omega)
    obtain ⟨x8, g8, s8⟩ := hx 8 (by omega)
    have HSK := HST.out k hlt
    have HIK := HIN.out k hlt
    generalize l[k]?.getD nd0 = e at *
    obtain ⟨⟨p, q, d⟩, ⟨p2, q2, d2⟩, lk, vl, es⟩ := e
    obtain rfl : x0 = .int .i64 p := s0
    obtain rfl : x1 = .int .i64 q := s1
    obtain rfl : x2 = .bool d := s2
    obtain rfl : x3 = .int .i64 p2 := s3
    obtain rfl : x4 = .int .i64 q2 := s4
    obtain rfl : x5 = .bool d2 := s5
    obtain rfl : x6 = .int .i64 lk := s6
    obtain rfl : x7 = .int .i64 vl := s7
    obtain ⟨xa, xc, rfl, _⟩ := RdV.sliced s8
    simp only [Nat.add_zero] at g0
    generalize es.length = xn at *
    have hws := M.lt
    have HS : Hid _ := HSK
    have HI : Hid (HIn (p, q, d)) := HIK
    clear HSK HIK hx M s8 HST HIN
    go_wp2_with (at_mapUpdate; refine wpList_putH (α := Nd) (V := ndP) _ rfl _ _ _ 95 rfl 83 Try.underlying95 w.heap.size k (atH l k) rfl (HM.out.alloc _) (by unfold maxLen; omega) (p, q, d) HI.out rfl (Nd.mk (p, q, d) (p2, q2, d2) lk vl es) (Exists.intro xa (Exists.intro xn (Exists.intro xc rfl))) ?_; intro w1 hm1 hgr1)
    have R0 := HS.out.2
    rw [R0] at hm1
    have R1 : MapH ndP w1 w.heap.size (k + 1) (atH l (k + 1)) := by rw [← HS.out.1]; simpa using hm1
    have R2 : Below w.heap.size w w1 := by
      refine Below.grown ?_ hgr1 ?_ (fun j hj => by cases hj; exact Nat.le_refl _)
      · exact hbel.alloc hbel.size _
      · exact Nat.le_trans hbel.size (by simp)
    clear hm1 hgr1 R0
    go_wp2
    first
    | exact ⟨⟨k + 1, by omega, by go_num, R2, R1⟩, by simp [intOf]; omega⟩
    | (go_roundw
       case rel => exact ⟨k + 1, by omega, by go_num, R2, R1⟩
       case measure => simp [intOf]; omega)
end Go.Proofs.Ytaaongjnpnanmaa
