/- Joined: ImplClaim ImplSpoil0 ImplSpoil. -/
import Derived.Test.YtjhaanenkeceiaaDoorJ10
import Derived.Test.YtjhaanenkeceiaaDoorJ12
import Derived.Test.YtjhaanenkeceiaaDoorJ02
import Derived.ScopeJumps
import Derived.Walk3

section
/- The record that a journal's sectors speak of, the program's way; it leans on the package's error errNoSector. Conditions: the sectors are whole, at most 2000. -/
namespace Go.Proofs.YtjhaanenkeceiaaDoor
open Go.RowKit
set_option linter.unusedVariables false
set_option linter.unusedSimpArgs false
attribute [local go_sem ↓] Go.wp_at_zero Go.wp_at_succ

theorem own_nilB (W : World) (l : Nat) (hl : l ≤ W.heap.size) : OwB W l W.heap.size (.slice none 0 0) [] := ⟨isBytes_nil, World.ownsRow_nil _ _ _ _, fun k h => by simp [Value.ownBlock] at h⟩
def CLRel (w : World) (S : List (List Int)) (P N m : Nat) (g : Nat) (i : Value) (wr : World) : Prop :=
  ∃ k : Nat, k ≤ m ∧ P + k ≤ S.length ∧ i = .int .i64 k ∧ Hid (wr.heap[g]? = some (.cells (bcells ((catN S P k).take N ++ List.replicate (N - 24 * k) 0)).toArray 5 (0, 0))) ∧ Below w.heap.size w wr

set_option maxRecDepth 100000 in
set_option maxHeartbeats 4000000 in
theorem claimed_any (b : Nat) (x y : Value) (S : List (List Int)) (P : Nat) (q : Int) (l h : Nat) (a : Addr) (w : World) (v0 : VarJ 30 w b x y (P : Int) q) (r : RdBB w l h x S) (hh : h ≤ w.heap.size) (hg : Glob w a) (hS : S.length ≤ 2000) (hP : P ≤ S.length)
    (hw32 : ∀ i, i < S.length → (S[i]?.getD []).length = 32) :
    Calls Tryd.prog 87 #[.pointer (some ⟨b, 0, none⟩)] w fun e w' => ∃ u, e = .returned u ∧ OwB w' w.heap.size w'.heap.size u (claimD S P) ∧ Below w.heap.size w w' := by
  obtain ⟨xa, n, xc, us, rfl, hn, hhd, hcx, hee⟩ := r
  have c0 := v0.c0
  have c2 := v0.c2
  have hP9 : P ≤ 2000 := by omega
  have hn9 : n ≤ 9223372036854775807 := by omega
  have HBX : Hid (Below w.heap.size w w) := Below.refl _ _
  by_cases hPn : P < n
  case neg =>
    have HSA : Hid _ := safeAt_out b n xc xa (P : Int) a w.drew c0 hg (.inr (by omega)) hn9
    have hc : claimD S P = [] := by unfold claimD; rw [if_neg (by omega)]
    rw [hc]
    have HNIL : Hid (∀ W, Below w.heap.size w W → OwB W w.heap.size W.heap.size (.slice none 0 0) []) := fun W hW => own_nilB W _ hW.size
    clear hcx hee hg hc hhd
    go_enter Tryd.func87, Tryd.ntmps87
    go_wp2
    refine wp_region_noPanic ?_
    refine wp_region_held_drew (S := fun w' => w'.cell? ⟨b, 2, none⟩ = some (.int .i64 (P : Int))) (by kernel_rfl) c2 (fun hHeld => ?_)
    refine wpAnyH_take (i := 0) (v := ?_) rfl (by kernel_rfl) (by kernel_rfl) (by kernel_rfl) (fun _ _ _ h => h) (Or.inl ⟨by rfl, ?_⟩) (by assumption) ?_
    rotate_left
    · (intro w_ hSw_; (try dsimp only at hSw_); go_simp; try with_reducible rfl)
    try simp only [Act.put, List.setIfInBounds_toArray, List.set_cons_zero, List.set_cons_succ, List.getElem_toArray, List.getElem_cons_zero, List.getElem_cons_succ]
    refine wpAnyH_take (i := 1) (v := ?_) rfl (by kernel_rfl) (by kernel_rfl) (by kernel_rfl) (fun _ _ _ h => h) (Or.inl ⟨by rfl, ?_⟩) (by assumption) ?_
    rotate_left
    · (intro w_ hSw_; (try dsimp only at hSw_); go_simp; try with_reducible rfl)
    try simp only [Act.put, List.setIfInBounds_toArray, List.set_cons_zero, List.set_cons_succ, List.getElem_toArray, List.getElem_cons_zero, List.getElem_cons_succ]
    refine wpAnyH_take (i := 2) (v := ?_) rfl (by kernel_rfl) (by kernel_rfl) (by kernel_rfl) (fun _ _ _ h => h) (Or.inl ⟨by rfl, ?_⟩) (by assumption) ?_
    rotate_left
    · (intro w_ hSw_; (try dsimp only at hSw_); go_simp; try with_reducible rfl)
    try simp only [Act.put, List.setIfInBounds_toArray, List.set_cons_zero, List.set_cons_succ, List.getElem_toArray, List.getElem_cons_zero, List.getElem_cons_succ]
    refine wpAnyH_take (i := 3) (v := ?_) rfl (by kernel_rfl) (by kernel_rfl) (by kernel_rfl) (fun _ _ _ h => h) (Or.inl ⟨by rfl, ?_⟩) (by assumption) ?_
    rotate_left
    · (intro w_ hSw_; (try dsimp only at hSw_); go_simp; try with_reducible rfl)
    try simp only [Act.put, List.setIfInBounds_toArray, List.set_cons_zero, List.set_cons_succ, List.getElem_toArray, List.getElem_cons_zero, List.getElem_cons_succ]
    refine wpAnyH_take (i := 4) (v := ?_) rfl (by kernel_rfl) (by kernel_rfl) (by kernel_rfl) (fun _ _ _ h => h) (Or.inl ⟨by rfl, ?_⟩) (by assumption) ?_
    rotate_left
    · (intro w_ hSw_; (try dsimp only at hSw_); go_simp; try with_reducible rfl)
    try simp only [Act.put, List.setIfInBounds_toArray, List.set_cons_zero, List.set_cons_succ, List.getElem_toArray, List.getElem_cons_zero, List.getElem_cons_succ]
    refine wpAnyH_take (i := 5) (v := ?_) rfl (by kernel_rfl) (by kernel_rfl) (by kernel_rfl) (fun _ _ _ h => h) (Or.inl ⟨by rfl, ?_⟩) (by assumption) ?_
    rotate_left
    · (intro w_ hSw_; (try dsimp only at hSw_); go_simp; try with_reducible rfl)
    try simp only [Act.put, List.setIfInBounds_toArray, List.set_cons_zero, List.set_cons_succ, List.getElem_toArray, List.getElem_cons_zero, List.getElem_cons_succ]
    refine wpAnyH_take (i := 6) (v := ?_) rfl (by kernel_rfl) (by kernel_rfl) (by kernel_rfl) (fun _ _ _ h => h) (Or.inl ⟨by rfl, ?_⟩) (by assumption) ?_
    rotate_left
    · (intro w_ hSw_; (try dsimp only at hSw_); go_simp; try with_reducible rfl)
    try simp only [Act.put, List.setIfInBounds_toArray, List.set_cons_zero, List.set_cons_succ, List.getElem_toArray, List.getElem_cons_zero, List.getElem_cons_succ]
    refine wpAnyH_ready (rs := [7]) (by kernel_rfl) (by simp) ?_
    refine AllReadyH.cons rfl (fun K hK => ?_) AllReadyH.nil
    go_simp
    refine Calls.mono HSA.out ?_
    rintro e w2 ⟨rfl, m2, hw2⟩
    subst hw2
    go_wp2_with fail
    refine hK.out _ _ (by assumption) (fun hHeld => ?_)
    clear hK K
    try simp only [Act.put, List.setIfInBounds_toArray, List.set_cons_zero, List.set_cons_succ, List.getElem_toArray, List.getElem_cons_zero, List.getElem_cons_succ]
    refine wpAnyH_take (i := 8) (v := ?_) rfl (by kernel_rfl) (by kernel_rfl) (by kernel_rfl) (fun _ _ _ h => h) (Or.inl ⟨by rfl, ?_⟩) (by assumption) ?_
    rotate_left
    · (intro w_ hSw_; (try dsimp only at hSw_); go_simp; try with_reducible rfl)
    try simp only [Act.put, List.setIfInBounds_toArray, List.set_cons_zero, List.set_cons_succ, List.getElem_toArray, List.getElem_cons_zero, List.getElem_cons_succ]
    refine wpAnyH_take (i := 9) (v := ?_) rfl (by kernel_rfl) (by kernel_rfl) (by kernel_rfl) (fun _ _ _ h => h) (Or.inl ⟨by rfl, ?_⟩) (by assumption) ?_
    rotate_left
    · (intro w_ hSw_; (try dsimp only at hSw_); go_simp; try with_reducible rfl)
    try simp only [Act.put, List.setIfInBounds_toArray, List.set_cons_zero, List.set_cons_succ, List.getElem_toArray, List.getElem_cons_zero, List.getElem_cons_succ]
    refine wpAnyH_take (i := 10) (v := ?_) rfl (by kernel_rfl) (by kernel_rfl) (by kernel_rfl) (fun _ _ _ h => h) (Or.inl ⟨by rfl, ?_⟩) (by assumption) ?_
    rotate_left
    · (intro w_ hSw_; (try dsimp only at hSw_); go_simp; try with_reducible rfl)
    try simp only [Act.put, List.setIfInBounds_toArray, List.set_cons_zero, List.set_cons_succ, List.getElem_toArray, List.getElem_cons_zero, List.getElem_cons_succ]
    refine wpAnyH_take (i := 11) (v := ?_) rfl (by kernel_rfl) (by kernel_rfl) (by kernel_rfl) (fun _ _ _ h => h) (Or.inl ⟨by rfl, ?_⟩) (by assumption) ?_
    rotate_left
    · (intro w_ hSw_; (try dsimp only at hSw_); go_simp; try with_reducible rfl)
    try simp only [Act.put, List.setIfInBounds_toArray, List.set_cons_zero, List.set_cons_succ, List.getElem_toArray, List.getElem_cons_zero, List.getElem_cons_succ]
    refine wpAnyH_take (i := 12) (v := ?_) rfl (by kernel_rfl) (by kernel_rfl) (by kernel_rfl) (fun _ _ _ h => h) (Or.inl ⟨by rfl, ?_⟩) (by assumption) ?_
    rotate_left
    · (intro w_ hSw_; (try dsimp only at hSw_); go_simp; try with_reducible rfl)
    try simp only [Act.put, List.setIfInBounds_toArray, List.set_cons_zero, List.set_cons_succ, List.getElem_toArray, List.getElem_cons_zero, List.getElem_cons_succ]
    refine wpAnyH_done (by kernel_rfl) (NoPanic.normal ?_) _
    go_wp2
    go_ret
    first | exact ⟨_, rfl, HNIL.out _ HBX.out, HBX.out⟩ | exact ⟨_, rfl, HNIL.out _ (below_drewN2 HBX.out _), below_drewN2 HBX.out _⟩
  obtain ⟨gx, ox, rfl, hgx0, hgx1, hcc⟩ := hcx.resolve_left (by omega)
  have hre := hee P (by omega)
  obtain ⟨hbz, sa, sn, sc, hse, hsl, hsh, hsr⟩ := hre.reads
  have h9 := safeAt_in b gx ox P n xc (us P) w.drew c0 (hcc P hPn) hPn hn9
  rw [hse] at h9
  have HSA : Hid _ := h9
  have hs32 : sn = 32 := by rw [hsl]; exact hw32 P (by omega)
  subst hs32
  obtain ⟨sb, so, rfl, hsb, hsc⟩ := hsr.2.resolve_left (fun h0 => by rw [h0] at hsl; simp at hsl)
  obtain ⟨N, hN⟩ : ∃ N : Nat, (S[P]?.getD [])[4]?.getD 0 = (N : Int) := ⟨((S[P]?.getD [])[4]?.getD 0).toNat, by have := (hbz 4).1; omega⟩
  have hN255 : N ≤ 255 := by have := (hbz 4).2; omega
  have k4 := hsc 4 (by omega)
  rw [hN] at k4
  have hsz : sizeAt S P = N := by unfold sizeAt; rw [hN]; rfl
  have hsc9 : sc ≤ 9223372036854775807 := by have := hsh.2.1; unfold maxLen at this; omega
  have hsc8 : 32 ≤ sc := hsh.1
  have HSF : Hid (∀ W, Calls Tryd.prog 51 #[.int .i64 (N : Int)] W fun e w' => e = .returned (.int .i64 (manyN N)) ∧ w' = W) := fun W => sectorsFor_any N (by omega) W
  have hm9 : manyN N ≤ 11 := by unfold manyN; split <;> omega
  have HMA : Hid (∀ k, k < manyN N → 24 * k ≤ N ∧ (0 < N → 24 * k < N) ∧ (N = 0 → k = 0)) := manyN_at N
  have HMM : Hid (N ≤ 24 * manyN N) := manyN_most N
  obtain ⟨m, hm⟩ : ∃ m, manyN N = m := ⟨_, rfl⟩
  rw [hm] at HSF HMA hm9 HMM
  have HM : Hid (manyN N = m) := hm
  have HSZ : Hid _ := hsz
  have HCC : Hid _ := hcc
  have HEE : Hid _ := hee
  have HW : Hid _ := hw32
  have HGL : Hid _ := hg
  have HN : Hid (n = S.length) := hn
  have HV : Hid (VarJ _ w b _ _ _ _) := v0
  obtain ⟨i0, hi, hz0, hz1, hz2⟩ := info_parts Tryd.infoB
  clear h9 hre hbz hse hsl hsh hsr hsb hsc hN hsz hm hcc hee hw32 hg hhd hcx v0 hn
  go_enter Tryd.func87, Tryd.ntmps87
  go_wp2
  refine wp_region_noPanic ?_
  refine wp_region_held_drew (S := fun w' => w'.cell? ⟨b, 2, none⟩ = some (.int .i64 (P : Int))) (by kernel_rfl) c2 (fun hHeld => ?_)
  refine wpAnyH_take (i := 0) (v := ?_) rfl (by kernel_rfl) (by kernel_rfl) (by kernel_rfl) (fun _ _ _ h => h) (Or.inl ⟨by rfl, ?_⟩) (by assumption) ?_
  rotate_left
  · (intro w_ hSw_; (try dsimp only at hSw_); go_simp; try with_reducible rfl)
  try simp only [Act.put, List.setIfInBounds_toArray, List.set_cons_zero, List.set_cons_succ, List.getElem_toArray, List.getElem_cons_zero, List.getElem_cons_succ]
  refine wpAnyH_take (i := 1) (v := ?_) rfl (by kernel_rfl) (by kernel_rfl) (by kernel_rfl) (fun _ _ _ h => h) (Or.inl ⟨by rfl, ?_⟩) (by assumption) ?_
  rotate_left
  · (intro w_ hSw_; (try dsimp only at hSw_); go_simp; try with_reducible rfl)
  try simp only [Act.put, List.setIfInBounds_toArray, List.set_cons_zero, List.set_cons_succ, List.getElem_toArray, List.getElem_cons_zero, List.getElem_cons_succ]
  refine wpAnyH_take (i := 2) (v := ?_) rfl (by kernel_rfl) (by kernel_rfl) (by kernel_rfl) (fun _ _ _ h => h) (Or.inl ⟨by rfl, ?_⟩) (by assumption) ?_
  rotate_left
  · (intro w_ hSw_; (try dsimp only at hSw_); go_simp; try with_reducible rfl)
  try simp only [Act.put, List.setIfInBounds_toArray, List.set_cons_zero, List.set_cons_succ, List.getElem_toArray, List.getElem_cons_zero, List.getElem_cons_succ]
  refine wpAnyH_take (i := 3) (v := ?_) rfl (by kernel_rfl) (by kernel_rfl) (by kernel_rfl) (fun _ _ _ h => h) (Or.inl ⟨by rfl, ?_⟩) (by assumption) ?_
  rotate_left
  · (intro w_ hSw_; (try dsimp only at hSw_); go_simp; try with_reducible rfl)
  try simp only [Act.put, List.setIfInBounds_toArray, List.set_cons_zero, List.set_cons_succ, List.getElem_toArray, List.getElem_cons_zero, List.getElem_cons_succ]
  refine wpAnyH_take (i := 4) (v := ?_) rfl (by kernel_rfl) (by kernel_rfl) (by kernel_rfl) (fun _ _ _ h => h) (Or.inl ⟨by rfl, ?_⟩) (by assumption) ?_
  rotate_left
  · (intro w_ hSw_; (try dsimp only at hSw_); go_simp; try with_reducible rfl)
  try simp only [Act.put, List.setIfInBounds_toArray, List.set_cons_zero, List.set_cons_succ, List.getElem_toArray, List.getElem_cons_zero, List.getElem_cons_succ]
  refine wpAnyH_take (i := 5) (v := ?_) rfl (by kernel_rfl) (by kernel_rfl) (by kernel_rfl) (fun _ _ _ h => h) (Or.inl ⟨by rfl, ?_⟩) (by assumption) ?_
  rotate_left
  · (intro w_ hSw_; (try dsimp only at hSw_); go_simp; try with_reducible rfl)
  try simp only [Act.put, List.setIfInBounds_toArray, List.set_cons_zero, List.set_cons_succ, List.getElem_toArray, List.getElem_cons_zero, List.getElem_cons_succ]
  refine wpAnyH_take (i := 6) (v := ?_) rfl (by kernel_rfl) (by kernel_rfl) (by kernel_rfl) (fun _ _ _ h => h) (Or.inl ⟨by rfl, ?_⟩) (by assumption) ?_
  rotate_left
  · (intro w_ hSw_; (try dsimp only at hSw_); go_simp; try with_reducible rfl)
  try simp only [Act.put, List.setIfInBounds_toArray, List.set_cons_zero, List.set_cons_succ, List.getElem_toArray, List.getElem_cons_zero, List.getElem_cons_succ]
  refine wpAnyH_ready (rs := [7]) (by kernel_rfl) (by simp) ?_
  refine AllReadyH.cons rfl (fun K hK => ?_) AllReadyH.nil
  go_simp
  refine Calls.mono HSA.out ?_
  rintro e w2 ⟨rfl, hw2⟩
  subst hw2
  go_wp2_with fail
  refine hK.out _ _ (by assumption) (fun hHeld => ?_)
  clear hK K
  try simp only [Act.put, List.setIfInBounds_toArray, List.set_cons_zero, List.set_cons_succ, List.getElem_toArray, List.getElem_cons_zero, List.getElem_cons_succ]
  refine wpAnyH_take (i := 8) (v := ?_) rfl (by kernel_rfl) (by kernel_rfl) (by kernel_rfl) (fun _ _ _ h => h) (Or.inl ⟨by rfl, ?_⟩) (by assumption) ?_
  rotate_left
  · (intro w_ hSw_; (try dsimp only at hSw_); go_simp; try with_reducible rfl)
  try simp only [Act.put, List.setIfInBounds_toArray, List.set_cons_zero, List.set_cons_succ, List.getElem_toArray, List.getElem_cons_zero, List.getElem_cons_succ]
  refine wpAnyH_take (i := 9) (v := ?_) rfl (by kernel_rfl) (by kernel_rfl) (by kernel_rfl) (fun _ _ _ h => h) (Or.inl ⟨by rfl, ?_⟩) (by assumption) ?_
  rotate_left
  · (intro w_ hSw_; (try dsimp only at hSw_); go_simp; try with_reducible rfl)
  try simp only [Act.put, List.setIfInBounds_toArray, List.set_cons_zero, List.set_cons_succ, List.getElem_toArray, List.getElem_cons_zero, List.getElem_cons_succ]
  refine wpAnyH_take (i := 10) (v := ?_) rfl (by kernel_rfl) (by kernel_rfl) (by kernel_rfl) (fun _ _ _ h => h) (Or.inl ⟨by rfl, ?_⟩) (by assumption) ?_
  rotate_left
  · (intro w_ hSw_; (try dsimp only at hSw_); go_simp; try with_reducible rfl)
  try simp only [Act.put, List.setIfInBounds_toArray, List.set_cons_zero, List.set_cons_succ, List.getElem_toArray, List.getElem_cons_zero, List.getElem_cons_succ]
  refine wpAnyH_take (i := 11) (v := ?_) rfl (by kernel_rfl) (by kernel_rfl) (by kernel_rfl) (fun _ _ _ h => h) (Or.inl ⟨by rfl, ?_⟩) (by assumption) ?_
  rotate_left
  · (intro w_ hSw_; (try dsimp only at hSw_); go_simp; try with_reducible rfl)
  try simp only [Act.put, List.setIfInBounds_toArray, List.set_cons_zero, List.set_cons_succ, List.getElem_toArray, List.getElem_cons_zero, List.getElem_cons_succ]
  refine wpAnyH_take (i := 12) (v := ?_) rfl (by kernel_rfl) (by kernel_rfl) (by kernel_rfl) (fun _ _ _ h => h) (Or.inl ⟨by rfl, ?_⟩) (by assumption) ?_
  rotate_left
  · (intro w_ hSw_; (try dsimp only at hSw_); go_simp; try with_reducible rfl)
  try simp only [Act.put, List.setIfInBounds_toArray, List.set_cons_zero, List.set_cons_succ, List.getElem_toArray, List.getElem_cons_zero, List.getElem_cons_succ]
  refine wpAnyH_done (by kernel_rfl) (NoPanic.normal ?_) _
  go_wp2_with (at_make; refine wpList_make_full _ rfl _ _ 22 rfl w.heap.size 5 i0 (.int .u8 0) 1 Tryd.underlying22 hi hz0 hz1 .u8 .u8 _ _ N rfl rfl rfl rfl (by rw [hz2]; omega) (by unfold maxLen; omega) (Nat.le_refl _) ?_; intro w1 hown hgrow)
  have hb1 : Below w.heap.size w w1 := (Below.drew (Below.refl _ _)).grown hgrow (Nat.le_refl _) (fun k h => by cases h)
  rw [madeCells_bytes] at hown
  have HG1 : Hid (w1.heap[w.heap.size]? = some (.cells (bcells (List.replicate N 0)).toArray 5 (0, 0))) := full_heap hown
  refine Calls.mono (HSF.out w1) ?_
  rintro e w2 ⟨rfl, hw2⟩
  subst hw2
  have HST : Hid (CLRel w S P N m w.heap.size (.int .i64 0) w2) := ⟨0, Nat.zero_le _, by have := HN.out; omega, rfl, by show _ = _; rw [HG1.out]; simp [catN], hb1⟩
  clear hown hgrow hb1 HG1 HSF
  go_wp2
  clear hHeld c0 c2
  go_loopw [29] (fun i wr => CLRel w S P N m w.heap.size i wr) (fun i _ => m - (intOf i).toNat)
  case atStart => exact HST.out
  case round =>
    clear HST HSA k4
    obtain ⟨k, hk, hPk, rfl, HG, hbel⟩ := hrel
    have hs0 := hbel.size
    have V1 := VarJ.step HV.out hbel
    have c00 := V1.c0
    have c02 := V1.c2
    have hnS := HN.out
    have hcl := catN_len HW.out P k hPk
    by_cases hlt : k < m
    · obtain ⟨hk1, hk2, hk3⟩ := HMA.out k hlt
      have hlt9 : (k : Int) < (m : Int) := by omega
      have hk0 : (0 : Int) ≤ (k : Int) := by omega
      have hPk9 : (P : Int) + (k : Int) ≤ 3000 := by omega
      have hwk := wrap_id ((P : Int) + (k : Int)) (by omega) (by omega)
      by_cases hin : P + k < n
      · have hcell : wr.cell? ⟨gx, ox + (P + k), none⟩ = some (us (P + k)) := (hbel.cell (p := ⟨gx, ox + (P + k), none⟩) (by show gx < w.heap.size; omega)).trans (HCC.out (P + k) hin)
        have hre := (HEE.out (P + k) hin).same (SameIn.ofBelow hbel hh)
        obtain ⟨hbz, ta, tn, tc, hte, htl, hth, htr⟩ := hre.reads
        have h9 := safeAt_in b gx ox (P + k) n xc (us (P + k)) wr.drew c00 hcell hin hn9
        rw [hte, Int.natCast_add P k] at h9
        have HSB : Hid _ := h9
        have ht32 : tn = 32 := by rw [htl]; exact HW.out (P + k) (by omega)
        subst ht32
        obtain ⟨tb, tf, rfl, htb, htc⟩ := htr.2.resolve_left (fun h0 => by rw [h0] at htl; simp at htl)
        have htc9 : tc ≤ 9223372036854775807 := by have := hth.2.1; unfold maxLen at this; omega
        have htc8 : 32 ≤ tc := hth.1
        have htc7 : ¬ tc = 6 := by omega
        have HPO : Hid (∀ W, Calls Tryd.prog 53 #[.slice (some ⟨w.heap.size, 0, none⟩) N N, .int .i64 (k : Int)] W (PieceOut (some ⟨w.heap.size, 0, none⟩) N k W)) := fun W => pieceOf_any _ N N k W ⟨Nat.le_refl _, by unfold maxLen; omega, fun h => by cases h⟩ hN255 hk1 (fun h0 => ⟨hk2 h0, _, _, rfl⟩) hk3
        obtain ⟨Y, hY⟩ : ∃ Y, Y = (pieceS S (P + k)).take (N - 24 * k) := ⟨_, rfl⟩
        obtain ⟨X, hX⟩ : ∃ X, X = bcells Y := ⟨_, rfl⟩
        obtain ⟨Ck, hCk⟩ : ∃ Ck, Ck = bcells ((catN S P k).take N ++ List.replicate (N - 24 * k) 0) := ⟨_, rfl⟩
        rw [← hCk] at HG
        have hpl := whole_len HW.out (P + k) (by omega)
        have hYl : Y.length = min (N - 24 * k) 24 := by rw [hY, List.length_take, hpl]
        have hXl : X.length = min (N - 24 * k) 24 := by rw [hX, bcells_length, hYl]
        have HXM : Hid (X.length = Nat.min 26 (Nat.min (N - 24 * k) 24)) := by
          show _ = min 26 (min (N - 24 * k) 24)
          omega
        have HX0 : Hid (0 < X.length → 0 < N) := fun h0 => by omega
        have HX1 : Hid (∀ v ∈ X, v.oneCell' = true) := by show ∀ v ∈ X, v.oneCell' = true; rw [hX]; exact bcells_one _
        have hCl : Ck.length = N := by rw [hCk, bcells_length, List.length_append, List.length_take, hcl, List.length_replicate]; omega
        have HFIT : Hid (24 * k + X.length ≤ Ck.length) := by show _ ≤ _; omega
        have HXS : Hid (∀ j v, X[j]? = some v → wr.drew.drew.cell? ((⟨tb, tf + 6, none⟩ : Addr).add j) = some v) := fun j v hv => by
          rw [add_at]
          have hj : j < X.length := by rcases Nat.lt_or_ge j X.length with h8 | h8
                                       · exact h8
                                       · rw [List.getElem?_eq_none h8] at hv; cases hv
          have h8 := htc (6 + j) (by omega)
          show wr.cell? _ = _
          rw [Nat.add_assoc, h8]
          rw [hX, hY] at hv
          unfold bcells pieceS at hv
          rw [List.getElem?_map, List.getElem?_take, if_pos (by omega), List.getElem?_take, if_pos (by omega), List.getElem?_drop] at hv
          rw [List.getElem?_eq_getElem (by omega)] at hv ⊢
          simpa using hv
        have HSPL : Hid (splice Ck (24 * k) X = bcells ((catN S P (k + 1)).take N ++ List.replicate (N - 24 * (k + 1)) 0)) := by
          show _ = _
          rw [hCk, hX, catN_succ, List.take_append, hcl, List.take_of_length_le (by omega), ← hY]
          unfold splice
          have e1 : (bcells (catN S P k ++ List.replicate (N - 24 * k) 0)).take (24 * k) = bcells (catN S P k) := by
            unfold bcells
            rw [← List.map_take, List.take_append, hcl, Nat.sub_self, List.take_zero, List.append_nil, List.take_of_length_le (by omega)]
          have e2 : (bcells (catN S P k ++ List.replicate (N - 24 * k) 0)).drop (24 * k + (bcells Y).length) = bcells (List.replicate (N - 24 * (k + 1)) 0) := by
            rw [bcells_length]
            unfold bcells
            rw [← List.map_drop, List.drop_append, hcl, List.drop_eq_nil_of_le (by omega), List.nil_append, List.drop_replicate]
            congr 2
            omega
          rw [e1, e2]
          simp [bcells]
        clear h9 hre hbz hte htl hth htr htb htc hY hX hCk hpl hYl hXl hCl hcell hcl hnS V1
        go_wp2
        refine wp_region_noPanic ?_
        refine wp_region_held_drew (S := fun w' => w'.cell? ⟨b, 2, none⟩ = some (.int .i64 (P : Int))) (by kernel_rfl) c02 (fun hHeld => ?_)
        refine wpAnyH_take (i := 0) (v := ?_) rfl (by kernel_rfl) (by kernel_rfl) (by kernel_rfl) (fun _ _ _ h => h) (Or.inl ⟨by rfl, ?_⟩) (by assumption) ?_
        rotate_left
        · (intro w_ hSw_; (try dsimp only at hSw_); go_simp; try with_reducible rfl)
        try simp only [Act.put, List.setIfInBounds_toArray, List.set_cons_zero, List.set_cons_succ, List.getElem_toArray, List.getElem_cons_zero, List.getElem_cons_succ]
        refine wpAnyH_take (i := 1) (v := ?_) rfl (by kernel_rfl) (by kernel_rfl) (by kernel_rfl) (fun _ _ _ h => h) (Or.inl ⟨by rfl, ?_⟩) (by assumption) ?_
        rotate_left
        · (intro w_ hSw_; (try dsimp only at hSw_); go_simp; try with_reducible rfl)
        try simp only [Act.put, List.setIfInBounds_toArray, List.set_cons_zero, List.set_cons_succ, List.getElem_toArray, List.getElem_cons_zero, List.getElem_cons_succ]
        refine wpAnyH_take (i := 2) (v := ?_) rfl (by kernel_rfl) (by kernel_rfl) (by kernel_rfl) (fun _ _ _ h => h) (Or.inl ⟨by rfl, ?_⟩) (by assumption) ?_
        rotate_left
        · (intro w_ hSw_; (try dsimp only at hSw_); go_simp; try with_reducible rfl)
        try simp only [Act.put, List.setIfInBounds_toArray, List.set_cons_zero, List.set_cons_succ, List.getElem_toArray, List.getElem_cons_zero, List.getElem_cons_succ]
        refine wpAnyH_take (i := 3) (v := ?_) rfl (by kernel_rfl) (by kernel_rfl) (by kernel_rfl) (fun _ _ _ h => h) (Or.inl ⟨by rfl, ?_⟩) (by assumption) ?_
        rotate_left
        · (intro w_ hSw_; (try dsimp only at hSw_); go_simp; try with_reducible rfl)
        try simp only [Act.put, List.setIfInBounds_toArray, List.set_cons_zero, List.set_cons_succ, List.getElem_toArray, List.getElem_cons_zero, List.getElem_cons_succ]
        refine wpAnyH_take (i := 4) (v := ?_) rfl (by kernel_rfl) (by kernel_rfl) (by kernel_rfl) (fun _ _ _ h => h) (Or.inl ⟨by rfl, ?_⟩) (by assumption) ?_
        rotate_left
        · (intro w_ hSw_; (try dsimp only at hSw_); go_simp; try with_reducible rfl)
        try simp only [Act.put, List.setIfInBounds_toArray, List.set_cons_zero, List.set_cons_succ, List.getElem_toArray, List.getElem_cons_zero, List.getElem_cons_succ]
        refine wpAnyH_take (i := 5) (v := ?_) rfl (by kernel_rfl) (by kernel_rfl) (by kernel_rfl) (fun _ _ _ h => h) (Or.inl ⟨by rfl, ?_⟩) (by assumption) ?_
        rotate_left
        · (intro w_ hSw_; (try dsimp only at hSw_); go_simp; try with_reducible rfl)
        try simp only [Act.put, List.setIfInBounds_toArray, List.set_cons_zero, List.set_cons_succ, List.getElem_toArray, List.getElem_cons_zero, List.getElem_cons_succ]
        refine wpAnyH_take (i := 6) (v := ?_) rfl (by kernel_rfl) (by kernel_rfl) (by kernel_rfl) (fun _ _ _ h => h) (Or.inl ⟨by rfl, ?_⟩) (by assumption) ?_
        rotate_left
        · (intro w_ hSw_; (try dsimp only at hSw_); go_simp; try with_reducible rfl)
        try simp only [Act.put, List.setIfInBounds_toArray, List.set_cons_zero, List.set_cons_succ, List.getElem_toArray, List.getElem_cons_zero, List.getElem_cons_succ]
        refine wpAnyH_take (i := 7) (v := ?_) rfl (by kernel_rfl) (by kernel_rfl) (by kernel_rfl) (fun _ _ _ h => h) (Or.inl ⟨by rfl, ?_⟩) (by assumption) ?_
        rotate_left
        · (intro w_ hSw_; (try dsimp only at hSw_); go_simp; try with_reducible rfl)
        try simp only [Act.put, List.setIfInBounds_toArray, List.set_cons_zero, List.set_cons_succ, List.getElem_toArray, List.getElem_cons_zero, List.getElem_cons_succ]
        refine wpAnyH_take (i := 8) (v := ?_) rfl (by kernel_rfl) (by kernel_rfl) (by kernel_rfl) (fun _ _ _ h => h) (Or.inl ⟨by rfl, ?_⟩) (by assumption) ?_
        rotate_left
        · (intro w_ hSw_; (try dsimp only at hSw_); go_simp; try with_reducible rfl)
        try simp only [Act.put, List.setIfInBounds_toArray, List.set_cons_zero, List.set_cons_succ, List.getElem_toArray, List.getElem_cons_zero, List.getElem_cons_succ]
        refine wpAnyH_ready (rs := [9]) (by kernel_rfl) (by simp) ?_
        refine AllReadyH.cons rfl (fun K hK => ?_) AllReadyH.nil
        go_simp
        refine Calls.mono HSB.out ?_
        rintro e w3 ⟨rfl, hw3⟩
        subst hw3
        go_wp2_with fail
        refine hK.out _ _ (by assumption) (fun hHeld => ?_)
        clear hK K
        try simp only [Act.put, List.setIfInBounds_toArray, List.set_cons_zero, List.set_cons_succ, List.getElem_toArray, List.getElem_cons_zero, List.getElem_cons_succ]
        refine wpAnyH_take (i := 10) (v := ?_) rfl (by kernel_rfl) (by kernel_rfl) (by kernel_rfl) (fun _ _ _ h => h) (Or.inl ⟨by rfl, ?_⟩) (by assumption) ?_
        rotate_left
        · (intro w_ hSw_; (try dsimp only at hSw_); go_simp; try with_reducible rfl)
        try simp only [Act.put, List.setIfInBounds_toArray, List.set_cons_zero, List.set_cons_succ, List.getElem_toArray, List.getElem_cons_zero, List.getElem_cons_succ]
        refine wpAnyH_take (i := 11) (v := ?_) rfl (by kernel_rfl) (by kernel_rfl) (by kernel_rfl) (fun _ _ _ h => h) (Or.inl ⟨by rfl, ?_⟩) (by assumption) ?_
        rotate_left
        · (intro w_ hSw_; (try dsimp only at hSw_); go_simp; try with_reducible rfl)
        try simp only [Act.put, List.setIfInBounds_toArray, List.set_cons_zero, List.set_cons_succ, List.getElem_toArray, List.getElem_cons_zero, List.getElem_cons_succ]
        refine wpAnyH_take (i := 12) (v := ?_) rfl (by kernel_rfl) (by kernel_rfl) (by kernel_rfl) (fun _ _ _ h => h) (Or.inl ⟨by rfl, ?_⟩) (by assumption) ?_
        rotate_left
        · (intro w_ hSw_; (try dsimp only at hSw_); go_simp; try with_reducible rfl)
        try simp only [Act.put, List.setIfInBounds_toArray, List.set_cons_zero, List.set_cons_succ, List.getElem_toArray, List.getElem_cons_zero, List.getElem_cons_succ]
        refine wpAnyH_take (i := 13) (v := ?_) rfl (by kernel_rfl) (by kernel_rfl) (by kernel_rfl) (fun _ _ _ h => h) (Or.inl ⟨by rfl, ?_⟩) (by assumption) ?_
        rotate_left
        · (intro w_ hSw_; (try dsimp only at hSw_); go_simp; try with_reducible rfl)
        try simp only [Act.put, List.setIfInBounds_toArray, List.set_cons_zero, List.set_cons_succ, List.getElem_toArray, List.getElem_cons_zero, List.getElem_cons_succ]
        refine wpAnyH_take (i := 14) (v := ?_) rfl (by kernel_rfl) (by kernel_rfl) (by kernel_rfl) (fun _ _ _ h => h) (Or.inl ⟨by rfl, ?_⟩) (by assumption) ?_
        rotate_left
        · (intro w_ hSw_; (try dsimp only at hSw_); go_simp; try with_reducible rfl)
        try simp only [Act.put, List.setIfInBounds_toArray, List.set_cons_zero, List.set_cons_succ, List.getElem_toArray, List.getElem_cons_zero, List.getElem_cons_succ]
        refine wpAnyH_done (by kernel_rfl) (NoPanic.normal ?_) _
        go_wp2
        refine wp_region_noPanic ?_
        refine wp_region_held_drew (S := fun _ => True) (by kernel_rfl) trivial (fun hHeld => ?_)
        clear hHeld
        refine wpAnyH_take (i := 0) (v := ?_) rfl (by kernel_rfl) (by kernel_rfl) (by kernel_rfl) (fun _ _ _ h => h) (Or.inl ⟨by rfl, ?_⟩) trivial ?_
        rotate_left
        · (intro w_ hSw_; (try dsimp only at hSw_); go_simp; try with_reducible rfl)
        try simp only [Act.put, List.setIfInBounds_toArray, List.set_cons_zero, List.set_cons_succ, List.getElem_toArray, List.getElem_cons_zero, List.getElem_cons_succ]
        refine wpAnyH_take (i := 1) (v := ?_) rfl (by kernel_rfl) (by kernel_rfl) (by kernel_rfl) (fun _ _ _ h => h) (Or.inl ⟨by rfl, ?_⟩) trivial ?_
        rotate_left
        · (intro w_ hSw_; (try dsimp only at hSw_); go_simp; try with_reducible rfl)
        try simp only [Act.put, List.setIfInBounds_toArray, List.set_cons_zero, List.set_cons_succ, List.getElem_toArray, List.getElem_cons_zero, List.getElem_cons_succ]
        refine wpAnyH_take (i := 3) (v := ?_) rfl (by kernel_rfl) (by kernel_rfl) (by kernel_rfl) (fun _ _ _ h => h) (Or.inl ⟨by rfl, ?_⟩) trivial ?_
        rotate_left
        · (intro w_ hSw_; (try dsimp only at hSw_); go_simp; try with_reducible rfl)
        try simp only [Act.put, List.setIfInBounds_toArray, List.set_cons_zero, List.set_cons_succ, List.getElem_toArray, List.getElem_cons_zero, List.getElem_cons_succ]
        refine wpAnyH_take (i := 4) (v := ?_) rfl (by kernel_rfl) (by kernel_rfl) (by kernel_rfl) (fun _ _ _ h => h) (Or.inl ⟨by rfl, ?_⟩) trivial ?_
        rotate_left
        · (intro w_ hSw_; (try dsimp only at hSw_); go_simp; try with_reducible rfl)
        try simp only [Act.put, List.setIfInBounds_toArray, List.set_cons_zero, List.set_cons_succ, List.getElem_toArray, List.getElem_cons_zero, List.getElem_cons_succ]
        refine wpAnyH_ready (rs := [2]) (by kernel_rfl) (by simp) ?_
        refine AllReadyH.cons rfl (fun K hK => ?_) AllReadyH.nil
        go_simp
        refine Calls.mono (HPO.out _) ?_
        rintro e w7 ⟨a9, c9, rfl, hw7, hc91, hc92, hA9⟩
        subst hw7
        have HA9 : Hid _ := hA9
        clear hA9
        go_wp2_with fail
        refine hK.out _ _ trivial (fun hHeld => ?_)
        clear hK K hHeld
        try simp only [Act.put, List.setIfInBounds_toArray, List.set_cons_zero, List.set_cons_succ, List.getElem_toArray, List.getElem_cons_zero, List.getElem_cons_succ]
        refine wpAnyH_ready (rs := [5]) (by kernel_rfl) (by simp) ?_
        refine AllReadyH.cons rfl (fun K hK => ?_) AllReadyH.nil
        refine step_copy_splice rfl (.tmp 49) (.tmp 51) 22 22 rfl 5 Tryd.underlying22 Tryd.sizeB _ _ _ _ _ _ (by rfl) (by rfl) w.heap.size (24 * k) Ck 5 HG.out X HXM.out (fun h0 => ⟨by have h8 := HA9.out w.heap.size 0 (HX0.out h0) rfl; rw [Nat.zero_add] at h8; exact h8, _, rfl, fun j v hv => HXS.out j v hv⟩) HFIT.out HX1.out w.heap.size w (Below.drew (Below.drew hbel)) (Nat.le_refl _) ?_
        intro w6 HG6 hb6
        refine hK.out _ _ trivial (fun hHeld => ?_)
        clear hK K hHeld
        try simp only [Act.put, List.setIfInBounds_toArray, List.set_cons_zero, List.set_cons_succ, List.getElem_toArray, List.getElem_cons_zero, List.getElem_cons_succ]
        refine wpAnyH_done (by kernel_rfl) (NoPanic.normal ?_) _
        have HR : Hid (CLRel w S P N m w.heap.size (.int .i64 ((k : Int) + 1)) w6) := ⟨k + 1, by omega, by have := HN.out; omega, by go_num, by show _ = _; rw [HG6.out, HSPL.out], hb6⟩
        clear HG HG6 hb6 hbel HXM HX0 HXS HX1 HFIT HSPL HPO HA9 c00 c02
        go_wp2
        refine ⟨?_, by simp [intOf]; omega⟩
        first | exact HR.out | exact ⟨_, HR.out, rfl⟩ | exact ⟨_, _, HR.out, rfl⟩ | exact ⟨_, _, _, HR.out, rfl⟩ | exact ⟨_, _, _, _, HR.out, rfl⟩ | exact ⟨_, _, _, _, _, HR.out, rfl⟩ | exact ⟨_, _, _, _, _, _, HR.out, rfl⟩ | exact ⟨_, _, _, _, _, _, _, HR.out, rfl⟩ | exact ⟨_, _, _, _, _, _, _, _, HR.out, rfl⟩ | exact ⟨_, _, _, _, _, _, _, _, _, HR.out, rfl⟩ | exact ⟨_, _, _, _, _, _, _, _, _, _, HR.out, rfl⟩ | exact ⟨_, _, _, _, _, _, _, _, _, _, _, HR.out, rfl⟩ | exact ⟨_, _, _, _, _, _, _, _, _, _, _, _, HR.out, rfl⟩ | exact ⟨_, _, _, _, _, _, _, _, _, _, _, _, _, HR.out, rfl⟩ | exact ⟨_, _, _, _, _, _, _, _, _, _, _, _, _, _, HR.out, rfl⟩ | exact ⟨_, _, _, _, _, _, _, _, _, _, _, _, _, _, _, HR.out, rfl⟩ | exact ⟨_, _, _, _, _, _, _, _, _, _, _, _, _, _, _, _, HR.out, rfl⟩ | exact ⟨_, _, _, _, _, _, _, _, _, _, _, _, _, _, _, _, _, HR.out, rfl⟩ | exact ⟨_, _, _, _, _, _, _, _, _, _, _, _, _, _, _, _, _, _, HR.out, rfl⟩ | exact ⟨_, _, _, _, _, _, _, _, _, _, _, _, _, _, _, _, _, _, _, HR.out, rfl⟩ | exact ⟨_, _, _, _, _, _, _, _, _, _, _, _, _, _, _, _, _, _, _, _, HR.out, rfl⟩ | exact ⟨_, _, _, _, _, _, _, _, _, _, _, _, _, _, _, _, _, _, _, _, _, HR.out, rfl⟩ | exact ⟨_, _, _, _, _, _, _, _, _, _, _, _, _, _, _, _, _, _, _, _, _, _, HR.out, rfl⟩ | exact ⟨_, _, _, _, _, _, _, _, _, _, _, _, _, _, _, _, _, _, _, _, _, _, _, HR.out, rfl⟩ | exact ⟨_, _, _, _, _, _, _, _, _, _, _, _, _, _, _, _, _, _, _, _, _, _, _, _, HR.out, rfl⟩ | exact ⟨_, _, _, _, _, _, _, _, _, _, _, _, _, _, _, _, _, _, _, _, _, _, _, _, _, HR.out, rfl⟩ | exact ⟨_, _, _, _, _, _, _, _, _, _, _, _, _, _, _, _, _, _, _, _, _, _, _, _, _, _, HR.out, rfl⟩ | exact ⟨_, _, _, _, _, _, _, _, _, _, _, _, _, _, _, _, _, _, _, _, _, _, _, _, _, _, _, HR.out, rfl⟩ | exact ⟨_, _, _, _, _, _, _, _, _, _, _, _, _, _, _, _, _, _, _, _, _, _, _, _, _, _, _, _, HR.out, rfl⟩ | exact ⟨_, _, _, _, _, _, _, _, _, _, _, _, _, _, _, _, _, _, _, _, _, _, _, _, _, _, _, _, _, HR.out, rfl⟩ | exact ⟨_, _, _, _, _, _, _, _, _, _, _, _, _, _, _, _, _, _, _, _, _, _, _, _, _, _, _, _, _, _, HR.out, rfl⟩ | exact ⟨_, _, _, _, _, _, _, _, _, _, _, _, _, _, _, _, _, _, _, _, _, _, _, _, _, _, _, _, _, _, _, HR.out, rfl⟩ | exact ⟨_, _, _, _, _, _, _, _, _, _, _, _, _, _, _, _, _, _, _, _, _, _, _, _, _, _, _, _, _, _, _, _, HR.out, rfl⟩ | exact ⟨_, _, _, _, _, _, _, _, _, _, _, _, _, _, _, _, _, _, _, _, _, _, _, _, _, _, _, _, _, _, _, _, _, HR.out, rfl⟩ | exact ⟨_, _, _, _, _, _, _, _, _, _, _, _, _, _, _, _, _, _, _, _, _, _, _, _, _, _, _, _, _, _, _, _, _, _, HR.out, rfl⟩ | exact ⟨_, _, _, _, _, _, _, _, _, _, _, _, _, _, _, _, _, _, _, _, _, _, _, _, _, _, _, _, _, _, _, _, _, _, _, HR.out, rfl⟩ | exact ⟨_, _, _, _, _, _, _, _, _, _, _, _, _, _, _, _, _, _, _, _, _, _, _, _, _, _, _, _, _, _, _, _, _, _, _, _, HR.out, rfl⟩ | exact ⟨_, _, _, _, _, _, _, _, _, _, _, _, _, _, _, _, _, _, _, _, _, _, _, _, _, _, _, _, _, _, _, _, _, _, _, _, _, HR.out, rfl⟩ | exact ⟨_, _, _, _, _, _, _, _, _, _, _, _, _, _, _, _, _, _, _, _, _, _, _, _, _, _, _, _, _, _, _, _, _, _, _, _, _, _, HR.out, rfl⟩ | exact ⟨_, _, _, _, _, _, _, _, _, _, _, _, _, _, _, _, _, _, _, _, _, _, _, _, _, _, _, _, _, _, _, _, _, _, _, _, _, _, _, HR.out, rfl⟩ | exact ⟨_, _, _, _, _, _, _, _, _, _, _, _, _, _, _, _, _, _, _, _, _, _, _, _, _, _, _, _, _, _, _, _, _, _, _, _, _, _, _, _, HR.out, rfl⟩ | exact ⟨_, _, _, _, _, _, _, _, _, _, _, _, _, _, _, _, _, _, _, _, _, _, _, _, _, _, _, _, _, _, _, _, _, _, _, _, _, _, _, _, _, HR.out, rfl⟩ | exact ⟨_, _, _, _, _, _, _, _, _, _, _, _, _, _, _, _, _, _, _, _, _, _, _, _, _, _, _, _, _, _, _, _, _, _, _, _, _, _, _, _, _, _, HR.out, rfl⟩ | exact ⟨_, _, _, _, _, _, _, _, _, _, _, _, _, _, _, _, _, _, _, _, _, _, _, _, _, _, _, _, _, _, _, _, _, _, _, _, _, _, _, _, _, _, _, HR.out, rfl⟩ | exact ⟨_, _, _, _, _, _, _, _, _, _, _, _, _, _, _, _, _, _, _, _, _, _, _, _, _, _, _, _, _, _, _, _, _, _, _, _, _, _, _, _, _, _, _, _, HR.out, rfl⟩ | exact ⟨_, _, _, _, _, _, _, _, _, _, _, _, _, _, _, _, _, _, _, _, _, _, _, _, _, _, _, _, _, _, _, _, _, _, _, _, _, _, _, _, _, _, _, _, _, HR.out, rfl⟩ | exact ⟨_, _, _, _, _, _, _, _, _, _, _, _, _, _, _, _, _, _, _, _, _, _, _, _, _, _, _, _, _, _, _, _, _, _, _, _, _, _, _, _, _, _, _, _, _, _, HR.out, rfl⟩ | exact ⟨_, _, _, _, _, _, _, _, _, _, _, _, _, _, _, _, _, _, _, _, _, _, _, _, _, _, _, _, _, _, _, _, _, _, _, _, _, _, _, _, _, _, _, _, _, _, _, HR.out, rfl⟩ | exact ⟨_, _, _, _, _, _, _, _, _, _, _, _, _, _, _, _, _, _, _, _, _, _, _, _, _, _, _, _, _, _, _, _, _, _, _, _, _, _, _, _, _, _, _, _, _, _, _, _, HR.out, rfl⟩ | exact ⟨_, _, _, _, _, _, _, _, _, _, _, _, _, _, _, _, _, _, _, _, _, _, _, _, _, _, _, _, _, _, _, _, _, _, _, _, _, _, _, _, _, _, _, _, _, _, _, _, _, HR.out, rfl⟩ | exact ⟨_, _, _, _, _, _, _, _, _, _, _, _, _, _, _, _, _, _, _, _, _, _, _, _, _, _, _, _, _, _, _, _, _, _, _, _, _, _, _, _, _, _, _, _, _, _, _, _, _, _, HR.out, rfl⟩ | exact ⟨_, _, _, _, _, _, _, _, _, _, _, _, _, _, _, _, _, _, _, _, _, _, _, _, _, _, _, _, _, _, _, _, _, _, _, _, _, _, _, _, _, _, _, _, _, _, _, _, _, _, _, HR.out, rfl⟩ | exact ⟨_, _, _, _, _, _, _, _, _, _, _, _, _, _, _, _, _, _, _, _, _, _, _, _, _, _, _, _, _, _, _, _, _, _, _, _, _, _, _, _, _, _, _, _, _, _, _, _, _, _, _, _, HR.out, rfl⟩ | exact ⟨_, _, _, _, _, _, _, _, _, _, _, _, _, _, _, _, _, _, _, _, _, _, _, _, _, _, _, _, _, _, _, _, _, _, _, _, _, _, _, _, _, _, _, _, _, _, _, _, _, _, _, _, _, HR.out, rfl⟩ | exact ⟨_, _, _, _, _, _, _, _, _, _, _, _, _, _, _, _, _, _, _, _, _, _, _, _, _, _, _, _, _, _, _, _, _, _, _, _, _, _, _, _, _, _, _, _, _, _, _, _, _, _, _, _, _, _, HR.out, rfl⟩ | exact ⟨_, _, _, _, _, _, _, _, _, _, _, _, _, _, _, _, _, _, _, _, _, _, _, _, _, _, _, _, _, _, _, _, _, _, _, _, _, _, _, _, _, _, _, _, _, _, _, _, _, _, _, _, _, _, _, HR.out, rfl⟩ | exact ⟨_, _, _, _, _, _, _, _, _, _, _, _, _, _, _, _, _, _, _, _, _, _, _, _, _, _, _, _, _, _, _, _, _, _, _, _, _, _, _, _, _, _, _, _, _, _, _, _, _, _, _, _, _, _, _, _, HR.out, rfl⟩ | exact ⟨_, _, _, _, _, _, _, _, _, _, _, _, _, _, _, _, _, _, _, _, _, _, _, _, _, _, _, _, _, _, _, _, _, _, _, _, _, _, _, _, _, _, _, _, _, _, _, _, _, _, _, _, _, _, _, _, _, HR.out, rfl⟩ | exact ⟨_, _, _, _, _, _, _, _, _, _, _, _, _, _, _, _, _, _, _, _, _, _, _, _, _, _, _, _, _, _, _, _, _, _, _, _, _, _, _, _, _, _, _, _, _, _, _, _, _, _, _, _, _, _, _, _, _, _, HR.out, rfl⟩ | exact ⟨_, _, _, _, _, _, _, _, _, _, _, _, _, _, _, _, _, _, _, _, _, _, _, _, _, _, _, _, _, _, _, _, _, _, _, _, _, _, _, _, _, _, _, _, _, _, _, _, _, _, _, _, _, _, _, _, _, _, _, HR.out, rfl⟩ | exact ⟨_, _, _, _, _, _, _, _, _, _, _, _, _, _, _, _, _, _, _, _, _, _, _, _, _, _, _, _, _, _, _, _, _, _, _, _, _, _, _, _, _, _, _, _, _, _, _, _, _, _, _, _, _, _, _, _, _, _, _, _, HR.out, rfl⟩ | exact ⟨_, _, _, _, _, _, _, _, _, _, _, _, _, _, _, _, _, _, _, _, _, _, _, _, _, _, _, _, _, _, _, _, _, _, _, _, _, _, _, _, _, _, _, _, _, _, _, _, _, _, _, _, _, _, _, _, _, _, _, _, _, HR.out, rfl⟩ | exact ⟨_, _, _, _, _, _, _, _, _, _, _, _, _, _, _, _, _, _, _, _, _, _, _, _, _, _, _, _, _, _, _, _, _, _, _, _, _, _, _, _, _, _, _, _, _, _, _, _, _, _, _, _, _, _, _, _, _, _, _, _, _, _, HR.out, rfl⟩ | exact ⟨_, _, _, _, _, _, _, _, _, _, _, _, _, _, _, _, _, _, _, _, _, _, _, _, _, _, _, _, _, _, _, _, _, _, _, _, _, _, _, _, _, _, _, _, _, _, _, _, _, _, _, _, _, _, _, _, _, _, _, _, _, _, _, HR.out, rfl⟩ | exact ⟨_, _, _, _, _, _, _, _, _, _, _, _, _, _, _, _, _, _, _, _, _, _, _, _, _, _, _, _, _, _, _, _, _, _, _, _, _, _, _, _, _, _, _, _, _, _, _, _, _, _, _, _, _, _, _, _, _, _, _, _, _, _, _, _, HR.out, rfl⟩ | exact ⟨_, _, _, _, _, _, _, _, _, _, _, _, _, _, _, _, _, _, _, _, _, _, _, _, _, _, _, _, _, _, _, _, _, _, _, _, _, _, _, _, _, _, _, _, _, _, _, _, _, _, _, _, _, _, _, _, _, _, _, _, _, _, _, _, _, HR.out, rfl⟩
      · have h9 := safeAt_out b n xc (some ⟨gx, ox, none⟩) ((P : Int) + (k : Int)) a wr.drew c00 (Glob.step (w := w) HGL.out (Below.drew hbel) (Glob.lt (w := w) HGL.out)) (.inr (by omega)) hn9
        have HSB : Hid _ := h9
        have HC : Hid (claimD S P = []) := by
          show _ = _
          unfold claimD
          rw [HSZ.out, HM.out, if_neg (by omega)]
        clear h9 hcl hnS V1
        go_wp2
        refine wp_region_noPanic ?_
        refine wp_region_held_drew (S := fun w' => w'.cell? ⟨b, 2, none⟩ = some (.int .i64 (P : Int))) (by kernel_rfl) c02 (fun hHeld => ?_)
        refine wpAnyH_take (i := 0) (v := ?_) rfl (by kernel_rfl) (by kernel_rfl) (by kernel_rfl) (fun _ _ _ h => h) (Or.inl ⟨by rfl, ?_⟩) (by assumption) ?_
        rotate_left
        · (intro w_ hSw_; (try dsimp only at hSw_); go_simp; try with_reducible rfl)
        try simp only [Act.put, List.setIfInBounds_toArray, List.set_cons_zero, List.set_cons_succ, List.getElem_toArray, List.getElem_cons_zero, List.getElem_cons_succ]
        refine wpAnyH_take (i := 1) (v := ?_) rfl (by kernel_rfl) (by kernel_rfl) (by kernel_rfl) (fun _ _ _ h => h) (Or.inl ⟨by rfl, ?_⟩) (by assumption) ?_
        rotate_left
        · (intro w_ hSw_; (try dsimp only at hSw_); go_simp; try with_reducible rfl)
        try simp only [Act.put, List.setIfInBounds_toArray, List.set_cons_zero, List.set_cons_succ, List.getElem_toArray, List.getElem_cons_zero, List.getElem_cons_succ]
        refine wpAnyH_take (i := 2) (v := ?_) rfl (by kernel_rfl) (by kernel_rfl) (by kernel_rfl) (fun _ _ _ h => h) (Or.inl ⟨by rfl, ?_⟩) (by assumption) ?_
        rotate_left
        · (intro w_ hSw_; (try dsimp only at hSw_); go_simp; try with_reducible rfl)
        try simp only [Act.put, List.setIfInBounds_toArray, List.set_cons_zero, List.set_cons_succ, List.getElem_toArray, List.getElem_cons_zero, List.getElem_cons_succ]
        refine wpAnyH_take (i := 3) (v := ?_) rfl (by kernel_rfl) (by kernel_rfl) (by kernel_rfl) (fun _ _ _ h => h) (Or.inl ⟨by rfl, ?_⟩) (by assumption) ?_
        rotate_left
        · (intro w_ hSw_; (try dsimp only at hSw_); go_simp; try with_reducible rfl)
        try simp only [Act.put, List.setIfInBounds_toArray, List.set_cons_zero, List.set_cons_succ, List.getElem_toArray, List.getElem_cons_zero, List.getElem_cons_succ]
        refine wpAnyH_take (i := 4) (v := ?_) rfl (by kernel_rfl) (by kernel_rfl) (by kernel_rfl) (fun _ _ _ h => h) (Or.inl ⟨by rfl, ?_⟩) (by assumption) ?_
        rotate_left
        · (intro w_ hSw_; (try dsimp only at hSw_); go_simp; try with_reducible rfl)
        try simp only [Act.put, List.setIfInBounds_toArray, List.set_cons_zero, List.set_cons_succ, List.getElem_toArray, List.getElem_cons_zero, List.getElem_cons_succ]
        refine wpAnyH_take (i := 5) (v := ?_) rfl (by kernel_rfl) (by kernel_rfl) (by kernel_rfl) (fun _ _ _ h => h) (Or.inl ⟨by rfl, ?_⟩) (by assumption) ?_
        rotate_left
        · (intro w_ hSw_; (try dsimp only at hSw_); go_simp; try with_reducible rfl)
        try simp only [Act.put, List.setIfInBounds_toArray, List.set_cons_zero, List.set_cons_succ, List.getElem_toArray, List.getElem_cons_zero, List.getElem_cons_succ]
        refine wpAnyH_take (i := 6) (v := ?_) rfl (by kernel_rfl) (by kernel_rfl) (by kernel_rfl) (fun _ _ _ h => h) (Or.inl ⟨by rfl, ?_⟩) (by assumption) ?_
        rotate_left
        · (intro w_ hSw_; (try dsimp only at hSw_); go_simp; try with_reducible rfl)
        try simp only [Act.put, List.setIfInBounds_toArray, List.set_cons_zero, List.set_cons_succ, List.getElem_toArray, List.getElem_cons_zero, List.getElem_cons_succ]
        refine wpAnyH_take (i := 7) (v := ?_) rfl (by kernel_rfl) (by kernel_rfl) (by kernel_rfl) (fun _ _ _ h => h) (Or.inl ⟨by rfl, ?_⟩) (by assumption) ?_
        rotate_left
        · (intro w_ hSw_; (try dsimp only at hSw_); go_simp; try with_reducible rfl)
        try simp only [Act.put, List.setIfInBounds_toArray, List.set_cons_zero, List.set_cons_succ, List.getElem_toArray, List.getElem_cons_zero, List.getElem_cons_succ]
        refine wpAnyH_take (i := 8) (v := ?_) rfl (by kernel_rfl) (by kernel_rfl) (by kernel_rfl) (fun _ _ _ h => h) (Or.inl ⟨by rfl, ?_⟩) (by assumption) ?_
        rotate_left
        · (intro w_ hSw_; (try dsimp only at hSw_); go_simp; try with_reducible rfl)
        try simp only [Act.put, List.setIfInBounds_toArray, List.set_cons_zero, List.set_cons_succ, List.getElem_toArray, List.getElem_cons_zero, List.getElem_cons_succ]
        refine wpAnyH_ready (rs := [9]) (by kernel_rfl) (by simp) ?_
        refine AllReadyH.cons rfl (fun K hK => ?_) AllReadyH.nil
        go_simp
        refine Calls.mono HSB.out ?_
        rintro e w3 ⟨rfl, m3, hw3⟩
        subst hw3
        go_wp2_with fail
        refine hK.out _ _ (by assumption) (fun hHeld => ?_)
        clear hK K
        try simp only [Act.put, List.setIfInBounds_toArray, List.set_cons_zero, List.set_cons_succ, List.getElem_toArray, List.getElem_cons_zero, List.getElem_cons_succ]
        refine wpAnyH_take (i := 10) (v := ?_) rfl (by kernel_rfl) (by kernel_rfl) (by kernel_rfl) (fun _ _ _ h => h) (Or.inl ⟨by rfl, ?_⟩) (by assumption) ?_
        rotate_left
        · (intro w_ hSw_; (try dsimp only at hSw_); go_simp; try with_reducible rfl)
        try simp only [Act.put, List.setIfInBounds_toArray, List.set_cons_zero, List.set_cons_succ, List.getElem_toArray, List.getElem_cons_zero, List.getElem_cons_succ]
        refine wpAnyH_take (i := 11) (v := ?_) rfl (by kernel_rfl) (by kernel_rfl) (by kernel_rfl) (fun _ _ _ h => h) (Or.inl ⟨by rfl, ?_⟩) (by assumption) ?_
        rotate_left
        · (intro w_ hSw_; (try dsimp only at hSw_); go_simp; try with_reducible rfl)
        try simp only [Act.put, List.setIfInBounds_toArray, List.set_cons_zero, List.set_cons_succ, List.getElem_toArray, List.getElem_cons_zero, List.getElem_cons_succ]
        refine wpAnyH_take (i := 12) (v := ?_) rfl (by kernel_rfl) (by kernel_rfl) (by kernel_rfl) (fun _ _ _ h => h) (Or.inl ⟨by rfl, ?_⟩) (by assumption) ?_
        rotate_left
        · (intro w_ hSw_; (try dsimp only at hSw_); go_simp; try with_reducible rfl)
        try simp only [Act.put, List.setIfInBounds_toArray, List.set_cons_zero, List.set_cons_succ, List.getElem_toArray, List.getElem_cons_zero, List.getElem_cons_succ]
        refine wpAnyH_take (i := 13) (v := ?_) rfl (by kernel_rfl) (by kernel_rfl) (by kernel_rfl) (fun _ _ _ h => h) (Or.inl ⟨by rfl, ?_⟩) (by assumption) ?_
        rotate_left
        · (intro w_ hSw_; (try dsimp only at hSw_); go_simp; try with_reducible rfl)
        try simp only [Act.put, List.setIfInBounds_toArray, List.set_cons_zero, List.set_cons_succ, List.getElem_toArray, List.getElem_cons_zero, List.getElem_cons_succ]
        refine wpAnyH_take (i := 14) (v := ?_) rfl (by kernel_rfl) (by kernel_rfl) (by kernel_rfl) (fun _ _ _ h => h) (Or.inl ⟨by rfl, ?_⟩) (by assumption) ?_
        rotate_left
        · (intro w_ hSw_; (try dsimp only at hSw_); go_simp; try with_reducible rfl)
        try simp only [Act.put, List.setIfInBounds_toArray, List.set_cons_zero, List.set_cons_succ, List.getElem_toArray, List.getElem_cons_zero, List.getElem_cons_succ]
        refine wpAnyH_done (by kernel_rfl) (NoPanic.normal ?_) _
        go_wp2
        go_ret
        exact ⟨_, rfl, by rw [HC.out]; exact own_nilB _ _ (below_drewN2 hbel _).size, below_drewN2 hbel _⟩
    · have hkm : k = m := by omega
      subst hkm
      have HC : Hid (claimD S P = (catN S P k).take N) := by
        show _ = _
        unfold claimD
        rw [HSZ.out, HM.out, if_pos (by omega)]
      have HO : Hid (OwB wr w.heap.size wr.heap.size (.slice (some ⟨w.heap.size, 0, none⟩) N N) (claimD S P)) := by
        have hg := HG.out
        have hz9 : N - 24 * k = 0 := by have := HMM.out; omega
        rw [hz9, List.replicate_zero, List.append_nil] at hg
        have hl9 : ((catN S P k).take N).length = N := by rw [List.length_take, hcl]; have := HMM.out; omega
        rw [HC.out]
        refine OwB.of ?_ (full_owns hl9.symm (Nat.le_refl _) (by omega) hg)
        have hcb : ∀ k', isBytes (catN S P k') := fun k' => by
          induction k' with
          | zero => exact isBytes_nil
          | succ k' ih =>
            rw [catN_succ]
            refine isBytes_append ih (isBytes_take (isBytes_drop ?_ _) _)
            by_cases h8 : P + k' < n
            · exact (HEE.out _ h8).1
            · rw [List.getElem?_eq_none (by omega)]; exact isBytes_nil
        exact isBytes_take (hcb k) _
      have hk9 : ¬ (k : Int) < (k : Int) := by omega
      clear HG HC hcl hnS V1
      go_wp2
      go_ret
      exact ⟨_, rfl, HO.out, hbel⟩
end Go.Proofs.YtjhaanenkeceiaaDoor
end

section
/- bytes.Equal, and how the loops over sectors are told. -/
namespace Go.Proofs.YtjhaanenkeceiaaDoor
open Go.RowKit Go.Lib
set_option linter.unusedVariables false
set_option linter.unusedSimpArgs false
attribute [local go_sem ↓] Go.wp_at_zero Go.wp_at_succ

theorem equal_any (u v : Value) (xs ys : List Int) (l h l' h' : Nat) (w : World) (r : RdB w l h u xs) (s : RdB w l' h' v ys) :
    Calls Tryd.prog 91 #[u, v] w fun e w' => e = .returned (.bool (decide (xs = ys))) ∧ w' = w := by
  obtain ⟨bx, a, la, ca, rfl, hla, _, hx⟩ := r.reads
  obtain ⟨by_, b, lb, cb, rfl, hlb, _, hy⟩ := s.reads
  have h1 := conv_any a xs la ca w hx hla
  have h2 := conv_any b ys lb cb w hy hlb
  have hst := str_eq xs ys bx by_
  generalize strOfNums xs = s1 at h1 hst
  generalize strOfNums ys = s2 at h2 hst
  have HST : Hid _ := hst
  clear hx hy hla hlb r s bx by_ hst
  go_enter Tryd.func91, Tryd.ntmps91
  go_wp2
  go_ret
  refine ⟨?_, rfl⟩
  rw [← HST.out]
  rfl
end Go.Proofs.YtjhaanenkeceiaaDoor
end

section
/- Which sector keeps a frame from lying there, the program's way; it leans on the package's error errNoSector. Conditions: the sectors are at most 2000, the frame of at most 20. -/
namespace Go.Proofs.YtjhaanenkeceiaaDoor
open Go.RowKit
set_option linter.unusedVariables false
set_option linter.unusedSimpArgs false
attribute [local go_sem ↓] Go.wp_at_zero Go.wp_at_succ

/-- At the label: so it did not match. -/
def SPJ (w : World) (S : List (List Int)) (P : Nat) (fr : List (List Int)) (a' : Act) (w' : World) : Prop :=
  matchB S P fr = false ∧ Below w.heap.size w w' ∧ ∃ (z : Int) (u0 u1 u2 u3 u4 u6 u7 u8 u9 u10 u11 u12 u13 u14 u15 u16 u17 u18 u19 u20 u21 u22 u23 u24 u25 u26 u27 u28 u29 u30 u31 u32 u33 u34 u35 u36 u37 u38 u39 : Value), 0 ≤ z ∧ a' = { tmps := #[u0, u1, u2, u3, u4, .int .i64 z, u6, u7, u8, u9, u10, u11, u12, u13, u14, u15, u16, u17, u18, u19, u20, u21, u22, u23, u24, u25, u26, u27, u28, u29, u30, u31, u32, u33, u34, u35, u36, u37, u38, u39], defers := [] }
def SPRel (w : World) (S : List (List Int)) (P : Nat) (fr : List (List Int)) (m : Nat) (t i : Value) (wr : World) : Prop :=
  ∃ k : Nat, k ≤ m ∧ P + k ≤ S.length ∧ t = .int .i64 ((P : Int) + (k : Int)) ∧ i = .int .i64 k ∧ Hid (∀ j, j < k → S[P + j]?.getD [] = fr[j]?.getD []) ∧ Below w.heap.size w wr
theorem match_no {S : List (List Int)} {P k : Nat} {fr : List (List Int)} (hk : k < fr.length) (h : S.length ≤ P + k ∨ S[P + k]?.getD [] ≠ fr[k]?.getD []) : matchB S P fr = false := by
  unfold matchB
  rcases h with h | h
  · rw [decide_eq_false (by omega)]; rfl
  · have : (List.range fr.length).all (fun i => S[P + i]?.getD [] == fr[i]?.getD []) = false := by
      rw [List.all_eq_false]
      exact ⟨k, List.mem_range.2 hk, by simpa using h⟩
    rw [this, Bool.and_false]
theorem match_yes {S : List (List Int)} {P : Nat} {fr : List (List Int)} (hk : P + fr.length ≤ S.length) (h : ∀ j, j < fr.length → S[P + j]?.getD [] = fr[j]?.getD []) : matchB S P fr = true := by
  unfold matchB
  rw [decide_eq_true (by omega), Bool.true_and, List.all_eq_true]
  intro j hj
  rw [h j (List.mem_range.1 hj)]
  exact beq_self_eq_true _

set_option maxRecDepth 100000 in
set_option maxHeartbeats 1000000 in
theorem spoiler_any (b : Nat) (x y : Value) (S : List (List Int)) (P : Nat) (q : Int) (l h : Nat) (a : Addr) (w : World) (v0 : VarJ 30 w b x y (P : Int) q) (r : RdBB w l h x S) (hh : h ≤ w.heap.size) (hg : Glob w a) (hS : S.length ≤ 2000) (hP : P ≤ S.length)
    (fx : Value) (fr : List (List Int)) (lf hf : Nat) (rf : RdBB w lf hf fx fr) (hhf : hf ≤ w.heap.size) (hfl : fr.length ≤ 20) :
    Calls Tryd.prog 88 #[.pointer (some ⟨b, 0, none⟩), fx] w fun e w' => ∃ z : Int, e = .returned (.int .i64 z) ∧ (z = -1 ↔ matchB S P fr = true) ∧ Below w.heap.size w w' := by
  obtain ⟨xa, n, xc, us, rfl, hn, hhd, hcx, hee⟩ := r
  obtain ⟨fa, m, fc, vs, rfl, hm, fhd, hcf, hef⟩ := rf
  have c2 := v0.c2
  have hP9 : P ≤ 2000 := by omega
  have hn9 : n ≤ 9223372036854775807 := by omega
  have hm9 : m ≤ 20 := by omega
  have HM : Hid (m = fr.length) := hm
  have HN : Hid (n = S.length) := hn
  have HEE : Hid _ := hee
  have HEF : Hid _ := hef
  have HCX : Hid _ := hcx
  have HCF : Hid _ := hcf
  have HGL : Hid _ := hg
  have HV : Hid (VarJ _ w b _ _ _ _) := v0
  have HST : Hid (SPRel w S P fr m (.int .i64 (P : Int)) (.int .i64 0) w) := ⟨0, Nat.zero_le _, by omega, by simp, rfl, fun j hj => absurd hj (Nat.not_lt_zero _), Below.refl _ _⟩
  clear hn hm hee hef hcx hcf hg v0 hhd fhd
  go_enter Tryd.func88, Tryd.ntmps88
  go_wp2
  refine wp_scope_jumps 0 (SPJ w S P fr) (fun _ _ => 0) (by rfl) ?_ ?_
  · go_wp2
    go_loopw [5, 16] (fun t i wr => SPRel w S P fr m t i wr) (fun _ i _ => m - (intOf i).toNat)
    case atStart => exact HST.out
    case round =>
      clear HST
      obtain ⟨k, hk, hPk, rfl, rfl, HMT, hbel⟩ := hrel
      have V1 := VarJ.step HV.out hbel
      have c00 := V1.c0
      have hwk := wrap_id ((P : Int) + (k : Int)) (by omega) (by omega)
      have hwk1 := wrap_id ((P : Int) + (k : Int) + 1) (by omega) (by omega)
      by_cases hlt : k < m
      · have hlt9 : (k : Int) < (m : Int) := by omega
        have hk0 : (0 : Int) ≤ (k : Int) := by omega
        obtain ⟨fg, fo, hfe, hfg0, hfg1, hcc⟩ := HCF.out.resolve_left (by omega)
        subst hfe
        have kf : wr.cell? ⟨fg, fo + k, none⟩ = some (vs k) := (hbel.cell (p := ⟨fg, fo + k, none⟩) (by show fg < w.heap.size; omega)).trans (hcc k hlt)
        have rfk := (HEF.out k hlt).same (SameIn.ofBelow hbel hhf)
        obtain ⟨va, vn, vc, hve⟩ := rfk.sliced
        rw [hve] at kf rfk
        clear hve hcc
        by_cases hin : P + k < n
        · obtain ⟨gx, ox, hxe, hgx0, hgx1, hcc⟩ := HCX.out.resolve_left (by omega)
          subst hxe
          have hcell : wr.cell? ⟨gx, ox + (P + k), none⟩ = some (us (P + k)) := (hbel.cell (p := ⟨gx, ox + (P + k), none⟩) (by show gx < w.heap.size; omega)).trans (hcc (P + k) hin)
          have rsk := (HEE.out (P + k) hin).same (SameIn.ofBelow hbel hh)
          have h9 := safeAt_in b gx ox (P + k) n xc (us (P + k)) wr c00 hcell hin hn9
          obtain ⟨sa, sn, sc, hse⟩ := rsk.sliced
          rw [hse] at rsk h9
          rw [Int.natCast_add P k] at h9
          have HSB : Hid _ := h9
          have HEQ : Hid _ := equal_any _ _ _ _ _ _ _ _ wr rsk rfk
          clear h9 hse hcell hcc c00 rsk rfk V1
          by_cases heq : S[P + k]?.getD [] = fr[k]?.getD []
          · rw [decide_eq_true heq] at HEQ
            have HR : Hid (SPRel w S P fr m (.int .i64 ((P : Int) + (k : Int) + 1)) (.int .i64 ((k : Int) + 1)) wr) := by
              refine ⟨k + 1, by omega, by have := HN.out; omega, by rw [show ((k + 1 : Nat) : Int) = (k : Int) + 1 by omega, Int.add_assoc], by go_num, fun j hj => ?_, hbel⟩
              by_cases e : j = k
              · rw [e]; exact heq
              · exact HMT.out j (by omega)
            clear HMT hbel heq
            go_wp2_with fail
            refine Calls.mono HSB.out ?_
            rintro e w3 ⟨rfl, hw3⟩
            subst hw3
            go_wp2_with fail
            refine Calls.mono HEQ.out ?_
            rintro e w4 ⟨rfl, hw4⟩
            subst hw4
            clear HSB HEQ
            go_wp2
            exact ⟨HR.out, by simp [intOf]; omega⟩
          · rw [decide_eq_false heq] at HEQ
            have HJ : Hid (matchB S P fr = false ∧ Below w.heap.size w wr) := ⟨match_no (k := k) (by have := HM.out; omega) (.inr heq), hbel⟩
            clear HMT hbel heq
            go_wp2_with fail
            refine Calls.mono HSB.out ?_
            rintro e w3 ⟨rfl, hw3⟩
            subst hw3
            go_wp2_with fail
            refine Calls.mono HEQ.out ?_
            rintro e w4 ⟨rfl, hw4⟩
            subst hw4
            clear HSB HEQ
            go_wp2
            go_step3
            exact ⟨rfl, HJ.out.1, HJ.out.2, _, _, _, _, _, _, _, _, _, _, _, _, _, _, _, _, _, _, _, _, _, _, _, _, _, _, _, _, _, _, _, _, _, _, _, _, _, _, _, _, by omega, rfl⟩
        · have HSB : Hid _ := safeAt_out b n xc xa ((P : Int) + (k : Int)) a wr c00 (Glob.step (w := w) HGL.out hbel (Glob.lt (w := w) HGL.out)) (.inr (by omega)) hn9
          have HJ : Hid (matchB S P fr = false ∧ Below w.heap.size w wr) := ⟨match_no (k := k) (by have := HM.out; omega) (.inl (by have := HN.out; omega)), hbel⟩
          clear HMT hbel c00 rfk V1
          go_wp2_with fail
          refine Calls.mono HSB.out ?_
          rintro e w3 ⟨rfl, m3, hw3⟩
          subst hw3
          clear HSB
          go_wp2
          go_step3
          exact ⟨rfl, HJ.out.1, below_drewN2 HJ.out.2 _, _, _, _, _, _, _, _, _, _, _, _, _, _, _, _, _, _, _, _, _, _, _, _, _, _, _, _, _, _, _, _, _, _, _, _, _, _, _, _, _, by omega, rfl⟩
      · have hkm : k = m := by omega
        subst hkm
        have HY : Hid (matchB S P fr = true) := match_yes (by have := HM.out; omega) (fun j hj => HMT.out j (by have := HM.out; omega))
        have hk9 : ¬ (k : Int) < (k : Int) := by omega
        clear HMT c00 V1
        go_wp2
        simp only [Exit.jump]
        go_ret
        exact ⟨_, rfl, ⟨fun _ => HY.out, fun _ => rfl⟩, hbel⟩
  · rintro a9 w9 ⟨hf, hb, z, u0, u1, u2, u3, u4, u6, u7, u8, u9, u10, u11, u12, u13, u14, u15, u16, u17, u18, u19, u20, u21, u22, u23, u24, u25, u26, u27, u28, u29, u30, u31, u32, u33, u34, u35, u36, u37, u38, u39, hz, rfl⟩
    clear HST HGL HV HCX HCF HEE HEF c2
    go_wp2
    simp only [Exit.jump]
    go_ret
    exact ⟨_, rfl, ⟨fun h => by omega, fun h => by rw [hf] at h; cases h⟩, hb⟩
end Go.Proofs.YtjhaanenkeceiaaDoor
end
