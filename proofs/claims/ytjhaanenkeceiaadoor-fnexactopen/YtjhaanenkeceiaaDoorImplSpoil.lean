/- Which sector keeps a frame from lying there, the program's way; it leans on the package's error errNoSector. Conditions: the sectors are at most 2000, the frame of at most 20. -/
import Derived.Test.YtjhaanenkeceiaaDoorImplSpoil0
namespace Go.Proofs.YtjhaanenkeceiaaDoor
open Go.RowKit
set_option linter.unusedVariables false
set_option linter.unusedSimpArgs false
attribute [local go_sem ↓] Go.wp_at_zero Go.wp_at_succ

/-- At the label: so it did not match. -/
def SPJ (w : World) (S : List (List Int)) (P : Nat) (fr : List (List Int)) (a' : Act) (w' : World) : Prop :=
  matchB S P fr = false ∧ Below w.heap.size w w' ∧ ∃ (z : Int) (u0 u1 u2 u3 u4 u6 u7 u8 u9 u10 u11 u12 u13 u14 u15 u16 u17 u18 u19 u20 u21 u22 u23 u24 u25 u26 u27 u28 u29 u30 u31 u32 u33 u34 u35 u36 u37 u38 u39 : Value), 0 ≤ z ∧ a' = { tmps := #[u0, u1, u2, u3, u4, .int .i64 z, u6, u7, u8, u9, u10, u11, u12, u13, u14, u15, u16, u17, u18, u19, u20, u21, u22, u23, u24, u25, u26, u27, u28, u29, u30, u31, u32, u33, u34, u35, u36, u37, u38, u39], defers := [] }
def SPRel (w : World) (S : List (List Int)) (P : Nat) (fr : List (List Int)) (m : Nat) (t i : Value) (wr : World) : Prop :=
  ∃ k : Nat, k ≤ m ∧ P + k ≤ S.length ∧ t = .int .i64 ((P : Int) + (k : Int)) ∧ i = .int .i64 k ∧ Hid (∀ j, j < k → S[P + j]?.getD [] = fr[j]?.getD []) ∧ Below w.heap.size w wr
theorem match_no {S : List (List Int)} {P k : Nat} {fr : List (List Int)} (hk : k < fr.length) (h : S.length ≤ P + k ∨ S[P + k]?.getD [] ≠ fr[k]?.getD []) : matchB S P fr = false := by
  unfold matchB
  rcases h with h | h
  · rw [decide_eq_false (by omega)]; rfl
  · have : (List.range fr.length).all (fun i => S[P + i]?.getD [] == fr[i]?.getD []) = false := by
      rw [List.all_eq_false]
      exact ⟨k, List.mem_range.2 hk, by simpa using h⟩
    rw [this, Bool.and_false]
theorem match_yes {S : List (List Int)} {P : Nat} {fr : List (List Int)} (hk : P + fr.length ≤ S.length) (h : ∀ j, j < fr.length → S[P + j]?.getD [] = fr[j]?.getD []) : matchB S P fr = true := by
  unfold matchB
  rw [decide_eq_true (by omega), Bool.true_and, List.all_eq_true]
  intro j hj
  rw [h j (List.mem_range.1 hj)]
  exact beq_self_eq_true _

set_option maxRecDepth 100000 in
set_option maxHeartbeats 1000000 in
theorem spoiler_any (b : Nat) (x y : Value) (S : List (List Int)) (P : Nat) (q : Int) (l h : Nat) (a : Addr) (w : World) (v0 : VarJ 30 w b x y (P : Int) q) (r : RdBB w l h x S) (hh : h ≤ w.heap.size) (hg : Glob w a) (hS : S.length ≤ 2000) (hP : P ≤ S.length)
    (fx : Value) (fr : List (List Int)) (lf hf : Nat) (rf : RdBB w lf hf fx fr) (hhf : hf ≤ w.heap.size) (hfl : fr.length ≤ 20) :
    Calls Tryd.prog 88 #[.pointer (some ⟨b, 0, none⟩), fx] w fun e w' => ∃ z : Int, e = .returned (.int .i64 z) ∧ (z = -1 ↔ matchB S P fr = true) ∧ Below w.heap.size w w' := by
  obtain ⟨xa, n, xc, us, rfl, hn, hhd, hcx, hee⟩ := r
  obtain ⟨fa, m, fc, vs, rfl, hm, fhd, hcf, hef⟩ := rf
  have c2 := v0.c2
  have hP9 : P ≤ 2000 := by omega
  have hn9 : n ≤ 9223372036854775807 := by omega
  have hm9 : m ≤ 20 := by omega
  have HM : Hid (m = fr.length) := hm
  have HN : Hid (n = S.length) := hn
  have HEE : Hid _ := hee
  have HEF : Hid _ := hef
  have HCX : Hid _ := hcx
  have HCF : Hid _ := hcf
  have HGL : Hid _ := hg
  have HV : Hid (VarJ _ w b _ _ _ _) := v0
  have HST : Hid (SPRel w S P fr m (.int .i64 (P : Int)) (.int .i64 0) w) := ⟨0, Nat.zero_le _, by omega, by simp, rfl, fun j hj => absurd hj (Nat.not_lt_zero _), Below.refl _ _⟩
  clear hn hm hee hef hcx hcf hg v0 hhd fhd
  go_enter Tryd.func88, Tryd.ntmps88
  go_wp2
  refine wp_scope_jumps 0 (SPJ w S P fr) (fun _ _ => 0) (by rfl) ?_ ?_
  · go_wp2
    go_loopw [5, 16] (fun t i wr => SPRel w S P fr m t i wr) (fun _ i _ => m - (intOf i).toNat)
    case atStart => exact HST.out
    case round =>
      clear HST
      obtain ⟨k, hk, hPk, rfl, rfl, HMT, hbel⟩ := hrel
      have V1 := VarJ.step HV.out hbel
      have c00 := V1.c0
      have hwk := wrap_id ((P : Int) + (k : Int)) (by omega) (by omega)
      have hwk1 := wrap_id ((P : Int) + (k : Int) + 1) (by omega) (by omega)
      by_cases hlt : k < m
      · have hlt9 : (k : Int) < (m : Int) := by omega
        have hk0 : (0 : Int) ≤ (k : Int) := by omega
        obtain ⟨fg, fo, hfe, hfg0, hfg1, hcc⟩ := HCF.out.resolve_left (by omega)
        subst hfe
        have kf : wr.cell? ⟨fg, fo + k, none⟩ = some (vs k) := (hbel.cell (p := ⟨fg, fo + k, none⟩) (by show fg < w.heap.size; omega)).trans (hcc k hlt)
        have rfk := (HEF.out k hlt).same (SameIn.ofBelow hbel hhf)
        obtain ⟨va, vn, vc, hve⟩ := rfk.sliced
        rw [hve] at kf rfk
        clear hve hcc
        by_cases hin : P + k < n
        · obtain ⟨gx, ox, hxe, hgx0, hgx1, hcc⟩ := HCX.out.resolve_left (by omega)
          subst hxe
          have hcell : wr.cell? ⟨gx, ox + (P + k), none⟩ = some (us (P + k)) := (hbel.cell (p := ⟨gx, ox + (P + k), none⟩) (by show gx < w.heap.size; omega)).trans (hcc (P + k) hin)
          have rsk := (HEE.out (P + k) hin).same (SameIn.ofBelow hbel hh)
          have h9 := safeAt_in b gx ox (P + k) n xc (us (P + k)) wr c00 hcell hin hn9
          obtain ⟨sa, sn, sc, hse⟩ := rsk.sliced
          rw [hse] at rsk h9
          rw [Int.natCast_add P k] at h9
          have HSB : Hid _ := h9
          have HEQ : Hid _ := equal_any _ _ _ _ _ _ _ _ wr rsk rfk
          clear h9 hse hcell hcc c00 rsk rfk V1
          by_cases heq : S[P + k]?.getD [] = fr[k]?.getD []
          · rw [decide_eq_true heq] at HEQ
            have HR : Hid (SPRel w S P fr m (.int .i64 ((P : Int) + (k : Int) + 1)) (.int .i64 ((k : Int) + 1)) wr) := by
              refine ⟨k + 1, by omega, by have := HN.out; omega, by rw [show ((k + 1 : Nat) : Int) = (k : Int) + 1 by omega, Int.add_assoc], by go_num, fun j hj => ?_, hbel⟩
              by_cases e : j = k
              · rw [e]; exact heq
              · exact HMT.out j (by omega)
            clear HMT hbel heq
            go_wp2_with fail
            refine Calls.mono HSB.out ?_
            rintro e w3 ⟨rfl, hw3⟩
            subst hw3
            go_wp2_with fail
            refine Calls.mono HEQ.out ?_
            rintro e w4 ⟨rfl, hw4⟩
            subst hw4
            clear HSB HEQ
            go_wp2
            exact ⟨HR.out, by simp [intOf]; omega⟩
          · rw [decide_eq_false heq] at HEQ
            have HJ : Hid (matchB S P fr = false ∧ Below w.heap.size w wr) := ⟨match_no (k := k) (by have := HM.out; omega) (.inr heq), hbel⟩
            clear HMT hbel heq
            go_wp2_with fail
            refine Calls.mono HSB.out ?_
            rintro e w3 ⟨rfl, hw3⟩
            subst hw3
            go_wp2_with fail
            refine Calls.mono HEQ.out ?_
            rintro e w4 ⟨rfl, hw4⟩
            subst hw4
            clear HSB HEQ
            go_wp2
            go_step3
            exact ⟨rfl, HJ.out.1, HJ.out.2, _, _, _, _, _, _, _, _, _, _, _, _, _, _, _, _, _, _, _, _, _, _, _, _, _, _, _, _, _, _, _, _, _, _, _, _, _, _, _, _, by omega, rfl⟩
        · have HSB : Hid _ := safeAt_out b n xc xa ((P : Int) + (k : Int)) a wr c00 (Glob.step (w := w) HGL.out hbel (Glob.lt (w := w) HGL.out)) (.inr (by omega)) hn9
          have HJ : Hid (matchB S P fr = false ∧ Below w.heap.size w wr) := ⟨match_no (k := k) (by have := HM.out; omega) (.inl (by have := HN.out; omega)), hbel⟩
          clear HMT hbel c00 rfk V1
          go_wp2_with fail
          refine Calls.mono HSB.out ?_
          rintro e w3 ⟨rfl, m3, hw3⟩
          subst hw3
          clear HSB
          go_wp2
          go_step3
          exact ⟨rfl, HJ.out.1, below_drewN2 HJ.out.2 _, _, _, _, _, _, _, _, _, _, _, _, _, _, _, _, _, _, _, _, _, _, _, _, _, _, _, _, _, _, _, _, _, _, _, _, _, _, _, _, _, by omega, rfl⟩
      · have hkm : k = m := by omega
        subst hkm
        have HY : Hid (matchB S P fr = true) := match_yes (by have := HM.out; omega) (fun j hj => HMT.out j (by have := HM.out; omega))
        have hk9 : ¬ (k : Int) < (k : Int) := by omega
        clear HMT c00 V1
        go_wp2
        simp only [Exit.jump]
        go_ret
        exact ⟨_, rfl, ⟨fun _ => HY.out, fun _ => rfl⟩, hbel⟩
  · rintro a9 w9 ⟨hf, hb, z, u0, u1, u2, u3, u4, u6, u7, u8, u9, u10, u11, u12, u13, u14, u15, u16, u17, u18, u19, u20, u21, u22, u23, u24, u25, u26, u27, u28, u29, u30, u31, u32, u33, u34, u35, u36, u37, u38, u39, hz, rfl⟩
    clear HST HGL HV HCX HCF HEE HEF c2
    go_wp2
    simp only [Exit.jump]
    go_ret
    exact ⟨_, rfl, ⟨fun h => by omega, fun h => by rw [hf] at h; cases h⟩, hb⟩
end Go.Proofs.YtjhaanenkeceiaaDoor
