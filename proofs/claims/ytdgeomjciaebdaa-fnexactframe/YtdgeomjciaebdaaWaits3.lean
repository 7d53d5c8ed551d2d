/- Lists of writes that wait, marked and found again. Conditions: at most 2^21 of them and of their bytes in all. -/
import Derived.Test.YtdgeomjciaebdaaWaits2
namespace Go.Proofs.Ytdgeomjciaebdaa
open Go.RowKit
set_option linter.unusedVariables false

def lenWs : List Wt → Nat
  | [] => 0
  | z :: r => 1 + z.2.length + lenWs r
def markWs : List Wt → Nat → List Wt
  | [], _ => []
  | z :: r, k => ((k : Int), marks z.2.length (k + 1)) :: markWs r (k + (1 + z.2.length))
theorem lenWs_append (a b : List Wt) : lenWs (a ++ b) = lenWs a + lenWs b := by
  induction a with
  | nil => simp [lenWs]
  | cons z r ih => simp only [List.cons_append, lenWs, ih]; omega
theorem markWs_append (a b : List Wt) (k : Nat) : markWs (a ++ b) k = markWs a k ++ markWs b (k + lenWs a) := by
  induction a generalizing k with
  | nil => simp [lenWs, markWs]
  | cons z r ih => simp only [List.cons_append, lenWs, markWs, ih]; rw [Nat.add_assoc]
@[simp] theorem markWs_length (a : List Wt) (k : Nat) : (markWs a k).length = a.length := by
  induction a generalizing k with
  | nil => rfl
  | cons z r ih => simp [markWs, ih]
theorem takeW_next (ws : List Wt) (j : Nat) (h : j < ws.length) : ws.take (j + 1) = ws.take j ++ [ws[j]?.getD (0, [])] := by
  rw [List.take_succ_eq_append_getElem h]; simp [h]
theorem lenWs_next (ws : List Wt) (j : Nat) (h : j < ws.length) : lenWs (ws.take (j + 1)) = lenWs (ws.take j) + (1 + (ws[j]?.getD (0, [])).2.length) := by
  rw [takeW_next _ _ h, lenWs_append]; simp [lenWs]
theorem lenWs_take (ws : List Wt) (j : Nat) : lenWs (ws.take j) ≤ lenWs ws := by
  have := lenWs_append (ws.take j) (ws.drop j)
  rw [List.take_append_drop] at this; omega
theorem lenWs_at (ws : List Wt) (j : Nat) : (ws[j]?.getD (0, [])).2.length ≤ lenWs ws := by
  by_cases h : j < ws.length
  · have := lenWs_next ws j h
    have := lenWs_take ws (j + 1)
    omega
  · simp [h]
theorem lenWs_len (ws : List Wt) : ws.length ≤ lenWs ws := by
  induction ws with
  | nil => simp
  | cons z r ih => simp only [List.length_cons, lenWs]; omega
def markedWs (ws : List Wt) (k j : Nat) : List Wt := markWs (ws.take j) k ++ ws.drop j
theorem markedWs_none (ws : List Wt) (k : Nat) : markedWs ws k 0 = ws := by simp [markedWs, markWs]
theorem markedWs_all (ws : List Wt) (k : Nat) : markedWs ws k ws.length = markWs ws k := by simp [markedWs]
theorem markedWs_length (ws : List Wt) (k j : Nat) (h : j ≤ ws.length) : (markedWs ws k j).length = ws.length := by simp [markedWs]; omega
theorem markedWs_at (ws : List Wt) (k j : Nat) (h : j < ws.length) : (markedWs ws k j)[j]?.getD (0, []) = ws[j]?.getD (0, []) := by
  unfold markedWs
  rw [List.getElem?_append, if_neg (by simp; omega)]
  simp only [markWs_length, List.length_take, Nat.min_eq_left (Nat.le_of_lt h), Nat.sub_self, List.getElem?_drop, Nat.add_zero]
theorem markedWs_set (ws : List Wt) (k j : Nat) (h : j < ws.length) : (markedWs ws k j).set j (((k + lenWs (ws.take j) : Nat) : Int), marks (ws[j]?.getD (0, [])).2.length (k + lenWs (ws.take j) + 1)) = markedWs ws k (j + 1) := by
  unfold markedWs
  rw [takeW_next _ _ h, markWs_append, List.set_append, if_neg (by simp; omega), List.drop_eq_getElem_cons h]
  simp only [markWs_length, List.length_take, Nat.min_eq_left (Nat.le_of_lt h), Nat.sub_self, List.set_cons_zero, markWs, List.append_assoc]
  rfl
theorem markWs_at (ws : List Wt) (k j : Nat) (h : j < ws.length) : (markWs ws k)[j]?.getD (0, []) = (((k + lenWs (ws.take j) : Nat) : Int), marks (ws[j]?.getD (0, [])).2.length (k + lenWs (ws.take j) + 1)) := by
  have e : ws = ws.take j ++ (ws[j]?.getD (0, []) :: ws.drop (j + 1)) := by
    have h1 : ws.drop j = ws[j]?.getD (0, []) :: ws.drop (j + 1) := by rw [List.drop_eq_getElem_cons h]; simp [h]
    rw [← h1, List.take_append_drop]
  have e2 : markWs ws k = markWs (ws.take j) k ++ ((((k + lenWs (ws.take j) : Nat) : Int), marks (ws[j]?.getD (0, [])).2.length (k + lenWs (ws.take j) + 1)) :: markWs (ws.drop (j + 1)) (k + lenWs (ws.take j) + (1 + (ws[j]?.getD (0, [])).2.length))) := by
    conv => lhs; rw [e]
    rw [markWs_append]; rfl
  rw [e2, List.getElem?_append, if_neg (by simp; omega)]
  simp [Nat.min_eq_left (Nat.le_of_lt h)]

theorem held_i (v : Value) (n : Nat) (k : Int) (l h : Nat) (w : World) (r : RdB w l h v (marks n k.toNat)) (hl : n ≤ 2097152) (h0 : 0 ≤ k) (hk : k ≤ 8388608) :
    Calls Try.prog 17 #[v, .int .i64 k] w fun e w' => e = .returned (.int .i64 (k + (n : Int))) ∧ w' = w := by
  obtain ⟨q, rfl⟩ : ∃ q : Nat, k = (q : Int) := ⟨k.toNat, by omega⟩
  exact (held_r v n q l h w r hl (by omega)).mono fun e w' ⟨he, hw⟩ => ⟨by rw [he]; simp, hw⟩

end Go.Proofs.Ytdgeomjciaebdaa
