/- What the verifier's counting of a disk's sizes answers; no condition on the disk. -/
import Derived.Test.YtjhaanenkeceiaaDoorDisk
namespace Go.Proofs.YtjhaanenkeceiaaDoor
open Go.RowKit
set_option linter.unusedVariables false

def left (n s : Nat) : Int := if n ≤ s then (s : Int) - n else -1

theorem szByteS_any (v : Value) (zs : List Int) (l h s : Nat) (w : World) (r : RdB w l h v zs) (hs : s ≤ 1048576) :
    Calls Tryd.prog 81 #[v, .int .i64 s] w fun e w' => e = .returned (.int .i64 (left zs.length s)) ∧ w' = w := by
  obtain ⟨_, a, n, c, rfl, hn, hh, _⟩ := r
  have hm : n ≤ 9223372036854775807 := by have := hh.1; have := hh.2.1; unfold maxLen at this; omega
  rw [← hn]
  unfold left
  clear hn hh
  by_cases hle : n ≤ s
  · rw [if_pos hle]
    go_enter Tryd.func81, Tryd.ntmps81
    go_wp2
    go_ret
    exact ⟨rfl, rfl⟩
  · rw [if_neg hle]
    go_enter Tryd.func81, Tryd.ntmps81
    go_wp2
    go_ret
    exact ⟨rfl, rfl⟩

def SRelB (zss : List (List Int)) (s n : Nat) (q i : Value) : Prop := ∃ j t : Nat, j ≤ n ∧ i = .int .i64 j ∧ q = .int .i64 t ∧ t ≤ s ∧ Hid (t + (n + lenBB (zss.take j)) = s)

set_option maxHeartbeats 1000000 in
theorem szByteSS_any (v : Value) (zss : List (List Int)) (l h s : Nat) (w : World) (r : RdBB w l h v zss) (hs : s ≤ 1048576) :
    Calls Tryd.prog 60 #[v, .int .i64 s] w fun e w' => e = .returned (.int .i64 (left (zss.length + lenBB zss) s)) ∧ w' = w := by
  obtain ⟨a, n, cap, vs, rfl, hn, hh, hc, he⟩ := r
  have hm : n ≤ 9223372036854775807 := by have := hh.1; have := hh.2.1; unfold maxLen at this; omega
  rw [← hn]
  by_cases hle : n ≤ s
  · have HN : Hid _ := hn
    have HC : Hid _ := hc
    have HE : Hid _ := he
    clear hn hc he hh
    go_enter Tryd.func60, Tryd.ntmps60
    go_wp2
    go_loop [1, 5] (fun q i => SRelB zss s n q i) (fun _ i => n - (intOf i).toNat)
    case atStart => exact ⟨0, s - n, Nat.zero_le _, rfl, by go_num, by omega, by show _ = _; simp [lenBB]; omega⟩
    case round =>
      obtain ⟨j, t, hj, rfl, rfl, ht, HS⟩ := hrel
      by_cases hlt : j < n
      · have hjz : j < zss.length := by rw [← HN.out]; exact hlt
        obtain ⟨b, off, rfl, _, _, hcc⟩ := HC.out.resolve_left (by omega)
        have h1 := hcc j hlt
        have r1 := HE.out j hlt
        have hln := lenBB_next zss j hjz
        have htk := lenBB_take zss (j + 1)
        have S := szByteS_any (vs j) _ l h t w r1 (by omega)
        generalize vs j = x at h1 S
        generalize (zss[j]?.getD []).length = m at hln S
        have HSZ : Hid _ := S
        clear S r1 hcc
        by_cases hmt : m ≤ t
        · have hl : left m t = (t : Int) - m := by unfold left; rw [if_pos hmt]
          rw [hl] at HSZ
          have HR : Hid (SRelB zss s n (.int .i64 ((t : Int) - m)) (.int .i64 ((j : Int) + 1))) := ⟨j + 1, t - m, by omega, by go_num, by go_num, by omega, by show _ = _; have := HS.out; omega⟩
          clear hl hln htk HS
          go_wp2_with fail
          refine Calls.mono HSZ.out ?_
          rintro e w2 ⟨rfl, hw2⟩
          subst hw2
          go_wp2
          refine ⟨?_, by simp [intOf]; omega⟩
          first | exact HR.out | exact ⟨_, _, HR.out, rfl, rfl⟩
        · have hl : left m t = -1 := by unfold left; rw [if_neg hmt]
          rw [hl] at HSZ
          have HF : Hid (left (n + lenBB zss) s = -1) := by show _ = _; unfold left; rw [if_neg (by have := HS.out; omega)]
          clear hl hln htk HS
          go_wp2_with fail
          refine Calls.mono HSZ.out ?_
          rintro e w2 ⟨rfl, hw2⟩
          subst hw2
          go_wp2
          go_ret
          exact ⟨by rw [HF.out]; rfl, rfl⟩
      · have hjn : j = n := by omega
        subst hjn
        have HF : Hid (left (j + lenBB zss) s = (t : Int)) := by
          have e1 : zss.take j = zss := List.take_of_length_le (by rw [← HN.out]; exact Nat.le_refl _)
          have := HS.out
          rw [e1] at this
          show _ = _
          unfold left; rw [if_pos (by omega)]; omega
        go_wp2
        go_ret
        exact ⟨by rw [HF.out]; rfl, rfl⟩
  · have HF : Hid (left (n + lenBB zss) s = -1) := by show _ = _; unfold left; rw [if_neg (by omega)]
    clear hn hc he hh
    go_enter Tryd.func60, Tryd.ntmps60
    go_wp2
    go_ret
    exact ⟨by rw [HF.out]; rfl, rfl⟩

set_option maxHeartbeats 1000000 in
theorem szWait_any (p : Int) (x : Value) (zs : List Int) (l h s : Nat) (w : World) (r : RdB w l h x zs) (hh : h ≤ w.heap.size) (hs : s ≤ 1048576) :
    Calls Tryd.prog 82 #[.agg #[.int .i64 p, x], .int .i64 s] w fun e w' => e = .returned (.int .i64 (left zs.length s)) ∧ Below w.heap.size w w' := by
  have hb0 : Below w.heap.size w (w.alloc (.cells #[.int .i64 p, x] 109)) := (Below.refl _ _).alloc (Nat.le_refl _) _
  have S := szByteS_any x zs l h s _ (r.same (SameIn.ofBelow hb0 hh)) hs
  obtain ⟨r0, a, n, c, rfl, r1, r2, r3⟩ := r
  have HS : Hid _ := S
  have HB : Hid _ := hb0
  clear S hb0 r0 r1 r2 r3
  by_cases hle : zs.length ≤ s
  · have hl : left zs.length s = (s : Int) - zs.length := by unfold left; rw [if_pos hle]
    rw [hl] at HS ⊢
    clear hl
    go_enter Tryd.func82, Tryd.ntmps82
    go_wp2_with fail
    refine Calls.mono HS.out ?_
    rintro e w2 ⟨rfl, hw2⟩
    subst hw2
    go_wp2
    go_ret
    exact ⟨rfl, HB.out⟩
  · have hl : left zs.length s = -1 := by unfold left; rw [if_neg hle]
    rw [hl] at HS ⊢
    clear hl
    go_enter Tryd.func82, Tryd.ntmps82
    go_wp2_with fail
    refine Calls.mono HS.out ?_
    rintro e w2 ⟨rfl, hw2⟩
    subst hw2
    go_wp2
    go_ret
    exact ⟨rfl, HB.out⟩

theorem lenWs_rest (ws : List Wt) (j : Nat) : lenWs (ws.take j) + (ws.length - j) ≤ lenWs ws := by
  have h1 := lenWs_append (ws.take j) (ws.drop j)
  rw [List.take_append_drop] at h1
  have h2 := lenWs_len (ws.drop j)
  rw [List.length_drop] at h2
  omega

set_option maxHeartbeats 1000000 in
theorem szWaitS_any (v : Value) (ws : List Wt) (l h s : Nat) (w : World) (r : RdWs w l h v ws) (hh : h ≤ w.heap.size) (hs : s ≤ 1048576) :
    Calls Tryd.prog 61 #[v, .int .i64 s] w fun e w' => e = .returned (.int .i64 (left (lenWs ws) s)) ∧ Below w.heap.size w w' := by
  obtain ⟨a, n, cap, vs, rfl, hn, hhd, hc, he⟩ := r
  have hm : n ≤ 9223372036854775807 := by have := hhd.1; have := hhd.2.1; unfold maxLen at this; omega
  have hlw := lenWs_len ws
  by_cases hle : n ≤ s
  · have HN : Hid _ := hn
    have HC : Hid _ := hc
    have HE : Hid _ := he
    clear hn hc he hhd hlw
    go_enter Tryd.func61, Tryd.ntmps61
    go_wp2
    go_loopw [1, 5] (fun q i wr => ∃ j t : Nat, j ≤ n ∧ i = .int .i64 j ∧ q = .int .i64 t ∧ t ≤ s ∧ Hid (t + (n - j) + lenWs (ws.take j) = s) ∧ Below w.heap.size w wr) (fun _ i _ => n - (intOf i).toNat)
    case atStart => exact ⟨0, s - n, Nat.zero_le _, rfl, by go_num, by omega, by show _ = _; simp [lenWs]; omega, Below.refl _ _⟩
    case round =>
      obtain ⟨j, t, hj, rfl, rfl, ht, HS, hbel⟩ := hrel
      by_cases hlt : j < n
      · have hjz : j < ws.length := by rw [← HN.out]; exact hlt
        obtain ⟨b, off, rfl, _, hbh, hcc⟩ := HC.out.resolve_left (by omega)
        have h1 := (hbel.cell (p := ⟨b, off + j * 2, none⟩) (by show b < w.heap.size; omega)).trans (hcc j hlt).1
        have h2 := (hbel.cell (p := ⟨b, off + j * 2 + 1, none⟩) (by show b < w.heap.size; omega)).trans (hcc j hlt).2
        have r1 := (HE.out j hlt).same (SameIn.mk (Below.size hbel) (fun q _ hq => hbel.block q (by omega)))
        have hln := lenWs_next ws j hjz
        have htk := lenWs_rest ws (j + 1)
        have hws := hbel.size
        generalize (ws[j]?.getD (0, [])).1 = p at h1
        have S := szWait_any p (vs j) _ l h t wr r1 (by omega) (by omega)
        generalize vs j = x at h2 S
        generalize (ws[j]?.getD (0, [])).2.length = m at hln S
        have HSZ : Hid _ := S
        clear S r1 hcc
        by_cases hmt : m ≤ t
        · have hl : left m t = (t : Int) - m := by unfold left; rw [if_pos hmt]
          rw [hl] at HSZ
          have HR : Hid (t - m + (n - (j + 1)) + lenWs (ws.take (j + 1)) = s) := by show _ = _; have := HS.out; omega
          clear hl hln htk HS
          go_wp2_with fail
          refine Calls.mono HSZ.out ?_
          rintro e w2 ⟨rfl, hb2⟩
          go_wp2
          go_roundw
          case rel => exact ⟨j + 1, t - m, by omega, by go_num, by go_num, by omega, HR, hbel.trans (hb2.mono hws)⟩
          case measure => simp [intOf]; omega
        · have hl : left m t = -1 := by unfold left; rw [if_neg hmt]
          rw [hl] at HSZ
          have HF : Hid (left (lenWs ws) s = -1) := by show _ = _; unfold left; rw [if_neg (by have := HS.out; have := HN.out; omega)]
          clear hl hln htk HS
          go_wp2_with fail
          refine Calls.mono HSZ.out ?_
          rintro e w2 ⟨rfl, hb2⟩
          go_wp2
          go_ret
          exact ⟨by rw [HF.out]; rfl, hbel.trans (hb2.mono hws)⟩
      · have hjn : j = n := by omega
        subst hjn
        have HF : Hid (left (lenWs ws) s = (t : Int)) := by
          have e1 : ws.take j = ws := List.take_of_length_le (by rw [← HN.out]; exact Nat.le_refl _)
          have := HS.out
          rw [e1] at this
          show _ = _
          unfold left; rw [if_pos (by omega)]; omega
        go_wp2
        go_ret
        exact ⟨by rw [HF.out]; rfl, hbel⟩
  · have HF : Hid (left (lenWs ws) s = -1) := by show _ = _; unfold left; rw [if_neg (by omega)]
    clear hn hc he hhd hlw
    go_enter Tryd.func61, Tryd.ntmps61
    go_wp2
    go_ret
    exact ⟨by rw [HF.out]; rfl, Below.refl _ _⟩

def sizeD (d : Dk) : Nat := d.1.length + lenBB d.1 + lenWs d.2
theorem small_of (d : Dk) (h : sizeD d ≤ 1048576) : Small d := by unfold sizeD at h; exact ⟨by omega, by omega, by omega⟩

set_option maxHeartbeats 1000000 in
theorem szDisk_any (v : Value) (d : Dk) (l h : Nat) (w : World) (r : RdD w l h v d) (hh : h ≤ w.heap.size) :
    Calls Tryd.prog 28 #[v, .int .i64 1048576] w fun e w' => e = .returned (.int .i64 (left (sizeD d) 1048576)) ∧ Below w.heap.size w w' := by
  obtain ⟨x, y, rfl, r1, r2⟩ := r
  obtain ⟨xa, xn, xc, rfl⟩ := r1.sliced
  obtain ⟨ya, yn, yc, rfl⟩ := r2.sliced
  have hb0 : Below w.heap.size w (w.alloc (.cells #[.slice xa xn xc, .slice ya yn yc] 48)) := (Below.refl _ _).alloc (Nat.le_refl _) _
  have S1 := szByteSS_any _ d.1 l h 1048576 _ (r1.same (SameIn.ofBelow hb0 hh)) (by omega)
  have r2' := r2.same (SameIn.ofBelow hb0 hh)
  have hh0 : h ≤ (w.alloc (.cells #[.slice xa xn xc, .slice ya yn yc] 48)).heap.size := by simp; omega
  have HB : Hid _ := hb0
  clear hb0 r1 r2
  by_cases h1 : d.1.length + lenBB d.1 ≤ 1048576
  · obtain ⟨t, ht⟩ : ∃ t, t + (d.1.length + lenBB d.1) = 1048576 := ⟨1048576 - (d.1.length + lenBB d.1), by omega⟩
    have hl1 : left (d.1.length + lenBB d.1) 1048576 = (t : Int) := by unfold left; rw [if_pos h1]; omega
    have hl2 : left (sizeD d) 1048576 = left (lenWs d.2) t := by unfold left sizeD; split <;> split <;> omega
    have S2 := szWaitS_any _ d.2 l h t _ r2' hh0 (by omega)
    rw [hl1] at S1
    rw [hl2]
    have HS1 : Hid _ := S1
    have hl3 : -1 ≤ left (lenWs d.2) t := by unfold left; split <;> omega
    have ht1 : t ≤ 1048576 := by omega
    have hl4 : left (lenWs d.2) t ≤ 1048576 := by unfold left; split <;> omega
    generalize left (lenWs d.2) t = q at S2 hl3 hl4 ⊢
    have HS2 : Hid _ := S2
    clear S1 S2 hl1 hl2 r2' hh0 ht h1
    by_cases hq : q < 0
    · have hq1 : q = -1 := by omega
      subst hq1
      go_enter Tryd.func28, Tryd.ntmps28
      go_wp2_with fail
      refine Calls.mono HS1.out ?_
      rintro e w2 ⟨rfl, hw2⟩
      subst hw2
      go_wp2_with fail
      refine Calls.mono HS2.out ?_
      rintro e w3 ⟨rfl, hb3⟩
      go_wp2
      go_ret
      exact ⟨rfl, HB.out.trans (hb3.mono (by simp))⟩
    · go_enter Tryd.func28, Tryd.ntmps28
      go_wp2_with fail
      refine Calls.mono HS1.out ?_
      rintro e w2 ⟨rfl, hw2⟩
      subst hw2
      go_wp2_with fail
      refine Calls.mono HS2.out ?_
      rintro e w3 ⟨rfl, hb3⟩
      go_wp2
      go_ret
      exact ⟨rfl, HB.out.trans (hb3.mono (by simp))⟩
  · have hl1 : left (d.1.length + lenBB d.1) 1048576 = -1 := by unfold left; rw [if_neg h1]
    have hl2 : left (sizeD d) 1048576 = -1 := by unfold left sizeD; rw [if_neg (by omega)]
    rw [hl1] at S1
    rw [hl2]
    have HS1 : Hid _ := S1
    clear S1 hl1 hl2 r2' hh0 h1
    go_enter Tryd.func28, Tryd.ntmps28
    go_wp2_with fail
    refine Calls.mono HS1.out ?_
    rintro e w2 ⟨rfl, hw2⟩
    subst hw2
    go_wp2
    go_ret
    exact ⟨rfl, HB.out⟩
end Go.Proofs.YtjhaanenkeceiaaDoor
