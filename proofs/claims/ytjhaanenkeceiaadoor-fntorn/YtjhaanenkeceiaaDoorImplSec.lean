/- What the program's newSector does: a sector of its own, with the bytes that it is handed, noughts behind them. No condition. -/
import Derived.Test.YtjhaanenkeceiaaDoorLists
namespace Go.Proofs.YtjhaanenkeceiaaDoor
open Go.RowKit
set_option linter.unusedVariables false

/-- A sector with these bytes, noughts behind them. -/
def sec (zs : List Int) : List Int := zs.take 32 ++ List.replicate (32 - zs.length) 0
theorem sec_length (zs : List Int) : (sec zs).length = 32 := by simp [sec]; omega
theorem sec_nil : sec [] = List.replicate 32 0 := by simp [sec]
theorem sec_full {zs : List Int} (h : zs.length = 32) : sec zs = zs := by
  unfold sec
  rw [h, Nat.sub_self, List.replicate_zero, List.append_nil, List.take_of_length_le (by omega)]
theorem isBytes_zeros (n : Nat) : isBytes (List.replicate n 0) := by
  intro j
  rw [List.getElem?_replicate]
  split <;> simp
theorem isBytes_take {zs : List Int} (h : isBytes zs) (n : Nat) : isBytes (zs.take n) := by
  intro j
  rw [List.getElem?_take]
  split
  · exact h j
  · simp
theorem isBytes_drop {zs : List Int} (h : isBytes zs) (n : Nat) : isBytes (zs.drop n) := by
  intro j
  rw [List.getElem?_drop]
  exact h _
theorem sec_bytes {zs : List Int} (h : isBytes zs) : isBytes (sec zs) := isBytes_append (isBytes_take h _) (isBytes_zeros _)
theorem splice_sec (zs : List Int) : splice (bcells (List.replicate 32 0)) 0 (bcells (zs.take 32)) = bcells (sec zs) := by
  unfold splice sec bcells
  simp only [List.take_zero, List.nil_append, Nat.zero_add, List.length_map, List.map_append, List.length_take]
  congr 1
  rw [← List.map_drop, List.drop_replicate]
  congr 2
  omega
theorem RdB.cells {w : World} {l h : Nat} {v : Value} {zs : List Int} (r : RdB w l h v zs) (m : Nat) : ∃ a len cap, v = .slice a len cap ∧ len = zs.length ∧ (0 < (bcells (zs.take m)).length → ∃ ad, a = some ad ∧ ∀ j x, (bcells (zs.take m))[j]? = some x → w.cell? (ad.add j) = some x) := by
  obtain ⟨hb, a, len, cap, hv, hl, hh, hr⟩ := r.reads
  refine ⟨a, len, cap, hv, hl, fun h0 => ?_⟩
  have h0' : 0 < (bcells zs).length := by
    rw [bcells_length] at h0 ⊢
    have := List.length_take_le' m zs
    omega
  obtain ⟨ad, ha, hc⟩ := hr.src h0'
  refine ⟨ad, ha, fun j x hx => hc j x ?_⟩
  have e : bcells (zs.take m) = (bcells zs).take m := by simp [bcells]
  rw [e, List.getElem?_take] at hx
  split at hx
  · exact hx
  · cases hx

set_option maxHeartbeats 400000 in
theorem newSector_any (v : Value) (zs : List Int) (l h : Nat) (w : World) (r : RdB w l h v zs) (hh : h ≤ w.heap.size) :
    Calls Tryd.prog 35 #[v] w fun e w' => ∃ u, e = .returned u ∧ Owns w' w.heap.size u (sec zs) ∧ Below w.heap.size w w' := by
  obtain ⟨i0, hi, hz0, hz1, hz2⟩ := info_parts Tryd.infoB
  have hrd := fun (W : World) (hW : Below w.heap.size w W) => (r.same (SameIn.ofBelow hW hh)).cells 32
  obtain ⟨a, len, cap, rfl, hlen, _⟩ := r.cells 32
  have HR : Hid _ := hrd
  have HL : Hid _ := hlen
  have hcs : (bcells (zs.take 32)).length = Nat.min len 32 := by rw [bcells_length, List.length_take, hlen]; exact Nat.min_comm _ _
  have h32 : 0 + (bcells (zs.take 32)).length ≤ (bcells (List.replicate 32 0)).length := by simp; omega
  have HC : Hid _ := hcs
  clear hrd hlen r hcs
  go_enter Tryd.func35, Tryd.ntmps35
  go_wp2_with (first
    | (at_make; refine wpList_make_full _ rfl _ _ 22 rfl w.heap.size 5 i0 (.int .u8 0) 1 Tryd.underlying22 hi hz0 hz1 .i64 .i64 _ _ 32 rfl rfl rfl rfl (by rw [hz2]; omega) (by unfold maxLen; omega) (Nat.le_refl _) ?_; intro w1 hown hgrow; have hb1 : Below w.heap.size w w1 := (Below.refl _ _).grown hgrow (Nat.le_refl _) (fun k h => by cases h); rw [madeCells_bytes] at hown; have HG1 : Hid _ := full_heap hown; clear hown hgrow)
    | (refine wpList_copy_splice rfl (.tmp 5) (.tmp 6) 22 22 rfl 5 Tryd.underlying22 Tryd.sizeB _ _ _ _ _ _ rfl rfl w.heap.size 0 _ 5 HG1.out (bcells (zs.take 32)) HC.out (fun h0 => ⟨rfl, by obtain ⟨a', l', c', e, _, q⟩ := HR.out _ hb1; simp only [Value.slice.injEq] at e; obtain ⟨rfl, rfl, rfl⟩ := e; exact q h0⟩) h32 (bcells_one _) w.heap.size w hb1 (Nat.le_refl _) ?_; intro w2 HG2 hb2))
  all_goals
    go_ret
    have hg := HG2.out
    rw [splice_sec] at hg
    exact ⟨_, rfl, full_owns (by rw [sec_length]) (Nat.le_refl _) (by rw [sec_length]; omega) hg, hb2⟩
end Go.Proofs.YtjhaanenkeceiaaDoor
