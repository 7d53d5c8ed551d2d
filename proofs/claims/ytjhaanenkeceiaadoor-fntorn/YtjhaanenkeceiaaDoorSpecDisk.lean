/- The specification's DiskOk as a plain function; no condition on the disk. -/
import Derived.Test.YtjhaanenkeceiaaDoorSizes
namespace Go.Proofs.YtjhaanenkeceiaaDoor
open Go.RowKit
set_option linter.unusedVariables false

def secOk (z : List Int) : Bool := z.length == 32
def waitOk (n : Nat) (p : Wt) : Bool := decide (0 ≤ p.1) && decide (p.1 < (n : Int)) && secOk p.2
def okD (d : Dk) : Bool := decide (d.1.length ≤ 2000) && decide (d.2.length ≤ 2000) && d.1.all secOk && d.2.all (waitOk d.1.length)

theorem all_step {α : Type} (f : α → Bool) (l : List α) (dflt : α) (k : Nat) (h : k < l.length) (ht : (l.take k).all f = true) : (f (l[k]?.getD dflt) = true → (l.take (k + 1)).all f = true) ∧ (f (l[k]?.getD dflt) = false → l.all f = false) := by
  constructor
  · intro e
    rw [List.take_succ_eq_append_getElem h, List.all_append, ht]
    simp [h] at e
    simp [e]
  · intro e
    simp [h] at e
    apply Bool.eq_false_iff.2
    intro ha
    rw [List.all_eq_true] at ha
    have := ha _ (List.getElem_mem h)
    rw [e] at this; cases this
theorem Below.alloc1 {w : World} (o : Obj) : Below w.heap.size w (w.alloc o) := (Below.refl _ _).alloc (Nat.le_refl _) _

set_option maxHeartbeats 2000000 in
theorem specOk_any (v : Value) (d : Dk) (l h : Nat) (w : World) (r : RdD w l h v d) (hh : h ≤ w.heap.size) :
    Calls Tryd.prog 11 #[v] w fun e w' => e = .returned (.bool (okD d)) ∧ Below w.heap.size w w' := by
  obtain ⟨x, y, rfl, r1, r2⟩ := r
  obtain ⟨d1, d2⟩ := d
  obtain ⟨xa, n, xc, vs, rfl, hn, hhd, hc, he⟩ := r1
  obtain ⟨ya, m, yc, us, rfl, hm, hhd', hc', he'⟩ := r2
  have hb0 : Below w.heap.size w (w.alloc (.cells #[.slice xa n xc, .slice ya m yc] 26)) := Below.alloc1 _
  have hnm : n ≤ 9223372036854775807 := by have := hhd.1; have := hhd.2.1; unfold maxLen at this; omega
  have hmm : m ≤ 9223372036854775807 := by have := hhd'.1; have := hhd'.2.1; unfold maxLen at this; omega
  by_cases hbig : n ≤ 2000 ∧ m ≤ 2000
  · obtain ⟨hn2, hm2⟩ := hbig
    have hok : okD (d1, d2) = (d1.all secOk && d2.all (waitOk n)) := by
      unfold okD
      simp only [← hn, ← hm]
      simp [hn2, hm2]
    rw [hok]
    have HN : Hid _ := hn
    have HM : Hid _ := hm
    have HC : Hid (n = 0 ∨ ∃ b off, xa = some ⟨b, off, none⟩ ∧ ∀ i, i < n → (w.alloc (.cells #[.slice xa n xc, .slice ya m yc] 26)).cell? ⟨b, off + i, none⟩ = some (vs i)) := by
      rcases hc with h0 | ⟨b, off, ha, _, hb, hcc⟩
      · exact .inl h0
      · exact .inr ⟨b, off, ha, fun i hi => (hb0.cell (p := ⟨b, off + i, none⟩) (by show b < w.heap.size; omega)).trans (hcc i hi)⟩
    have HC' : Hid (m = 0 ∨ ∃ b off, ya = some ⟨b, off, none⟩ ∧ ∀ i, i < m → (w.alloc (.cells #[.slice xa n xc, .slice ya m yc] 26)).cell? ⟨b, off + i * 2, none⟩ = some (.int .i64 (d2[i]?.getD (0, [])).1) ∧ (w.alloc (.cells #[.slice xa n xc, .slice ya m yc] 26)).cell? ⟨b, off + i * 2 + 1, none⟩ = some (us i)) := by
      rcases hc' with h0 | ⟨b, off, ha, _, hb, hcc⟩
      · exact .inl h0
      · exact .inr ⟨b, off, ha, fun i hi => ⟨(hb0.cell (p := ⟨b, off + i * 2, none⟩) (by show b < w.heap.size; omega)).trans (hcc i hi).1, (hb0.cell (p := ⟨b, off + i * 2 + 1, none⟩) (by show b < w.heap.size; omega)).trans (hcc i hi).2⟩⟩
    have HE : Hid _ := he
    have HE' : Hid _ := he'
    have HB : Hid _ := hb0
    clear hn hm hc hc' he he' hb0 hok hhd hhd'
    go_enter Tryd.func11, Tryd.ntmps11
    go_wp2
    have c00 : (w.alloc (.cells #[.slice xa n xc, .slice ya m yc] 26)).cell? ⟨w.heap.size, 0, none⟩ = some (.slice xa n xc) := by rw [World.cell?_alloc_at _ _ _ _ rfl]; rfl
    have c01 : (w.alloc (.cells #[.slice xa n xc, .slice ya m yc] 26)).cell? ⟨w.heap.size, 1, none⟩ = some (.slice ya m yc) := by rw [World.cell?_alloc_at _ _ _ _ rfl]; rfl
    generalize hw0 : w.alloc (.cells #[.slice xa n xc, .slice ya m yc] 26) = w0 at HC HC' HB c00 c01 ⊢
    clear hw0
    go_loop [3] (fun i => ∃ k : Nat, k ≤ n ∧ i = .int .i64 k ∧ Hid ((d1.take k).all secOk = true)) (fun i => n - (intOf i).toNat)
    case atStart => exact ⟨0, Nat.zero_le _, rfl, by show _ = _; simp⟩
    case round =>
      obtain ⟨k, hk, rfl, HA⟩ := hrel
      by_cases hlt : k < n
      · obtain ⟨b, off, rfl, hcc⟩ := HC.out.resolve_left (by omega)
        have h1 := hcc k hlt
        obtain ⟨_, va, vn, vc, hv, hvn, hvh, _⟩ := HE.out k hlt
        have hvm : vn ≤ 9223372036854775807 := by have := hvh.1; have := hvh.2.1; unfold maxLen at this; omega
        rw [hv] at h1
        have hst := all_step secOk d1 [] k (by rw [← HN.out]; exact hlt) HA.out
        have hso : secOk (d1[k]?.getD []) = (vn == 32) := by unfold secOk; rw [← hvn]
        rw [hso] at hst
        have HST : Hid _ := hst
        clear hst hso hcc hv hvn hvh HA
        by_cases h32 : vn = 32
        · have HF : Hid ((d1.take (k + 1)).all secOk = true) := HST.out.1 (by simp [h32])
          subst h32
          clear HST
          go_wp2
          go_round
          case rel => exact ⟨k + 1, by omega, by go_num, HF⟩
          case measure => simp [intOf]; omega
        · have HF : Hid (d1.all secOk = false) := HST.out.2 (by simp [h32])
          have hd : ((vn : Int) == 32) = false := by simp; omega
          clear HST
          go_wp2
          go_ret
          exact ⟨by rw [HF.out]; rfl, HB.out⟩
      · have hkn : k = n := by omega
        subst hkn
        have HA1 : Hid (d1.all secOk = true) := by
          have := HA.out
          rwa [List.take_of_length_le (by rw [← HN.out]; exact Nat.le_refl _)] at this
        clear HA
        go_wp2
        go_loopw [4] (fun i wr => ∃ j q : Nat, j ≤ m ∧ i = .int .i64 j ∧ wr = w0.drewN q ∧ Hid ((d2.take j).all (waitOk k) = true)) (fun i _ => m - (intOf i).toNat)
        case atStart => exact ⟨0, 0, Nat.zero_le _, rfl, rfl, by show _ = _; simp⟩
        case round =>
          obtain ⟨j, q, hj, rfl, rfl, HA⟩ := hrel
          by_cases hlt2 : j < m
          · obtain ⟨b, off, rfl, hcc⟩ := HC'.out.resolve_left (by omega)
            have h1 := (hcc j hlt2).1
            have h2 := (hcc j hlt2).2
            obtain ⟨_, va, vn, vc, hv, hvn, hvh, _⟩ := HE'.out j hlt2
            have hvm : vn ≤ 9223372036854775807 := by have := hvh.1; have := hvh.2.1; unfold maxLen at this; omega
            rw [hv] at h2
            have hst := all_step (waitOk k) d2 (0, []) j (by rw [← HM.out]; exact hlt2) HA.out
            have hso : waitOk k (d2[j]?.getD (0, [])) = (decide (0 ≤ (d2[j]?.getD (0, [])).1) && decide ((d2[j]?.getD (0, [])).1 < (k : Int)) && vn == 32) := by unfold waitOk secOk; rw [← hvn]
            rw [hso] at hst
            generalize (d2[j]?.getD (0, [])).1 = p at h1 hst
            have HST : Hid _ := hst
            clear hst hso hcc hv hvn hvh HA
            have hi0 : (0 : Int) ≤ (j : Int) := by omega
            have hi1 : (j : Int) < (m : Int) := by omega
            by_cases hp0 : p < 0
            · have HF : Hid (d2.all (waitOk k) = false) := HST.out.2 (by simp; omega)
              clear HST
              have hd1 : decide (p < 0) = true := by simpa using hp0
              go_wp2
              go_quiet (fail)
              go_wp2
              go_ret
              exact ⟨by rw [HF.out]; simp, by first | exact below_drewN2 HB.out _ | exact below_drewN2 (below_drewN2 HB.out _) _⟩
            · have hd1 : decide (p < 0) = false := by simpa using hp0
              by_cases hpk : p < (k : Int)
              · have hd2 : decide ((k : Int) ≤ p) = false := by simpa using hpk
                by_cases h32 : vn = 32
                · have HF : Hid ((d2.take (j + 1)).all (waitOk k) = true) := HST.out.1 (by simp [h32, hpk]; omega)
                  subst h32
                  clear HST
                  go_wp2
                  go_quiet (fail)
                  go_wp2
                  go_roundw
                  case rel => exact ⟨j + 1, _, by omega, by go_num, rfl, HF⟩
                  case measure => simp [intOf]; omega
                · have HF : Hid (d2.all (waitOk k) = false) := HST.out.2 (by simp [h32])
                  have hd3 : ((vn : Int) == 32) = false := by simp; omega
                  clear HST
                  go_wp2
                  go_quiet (fail)
                  go_wp2
                  go_ret
                  exact ⟨by rw [HF.out]; simp, by first | exact below_drewN2 HB.out _ | exact below_drewN2 (below_drewN2 HB.out _) _⟩
              · have HF : Hid (d2.all (waitOk k) = false) := HST.out.2 (by simp; omega)
                have hd2 : decide ((k : Int) ≤ p) = true := by simpa using hpk
                clear HST
                go_wp2
                go_quiet (fail)
                go_wp2
                go_ret
                exact ⟨by rw [HF.out]; simp, by first | exact below_drewN2 HB.out _ | exact below_drewN2 (below_drewN2 HB.out _) _⟩
          · have hjm : j = m := by omega
            subst hjm
            have HA2 : Hid (d2.all (waitOk k) = true) := by
              have := HA.out
              rwa [List.take_of_length_le (by rw [← HM.out]; exact Nat.le_refl _)] at this
            go_wp2
            go_ret
            exact ⟨by rw [HA1.out, HA2.out]; rfl, below_drewN2 HB.out q⟩
  · have hok : okD (d1, d2) = false := by
      unfold okD
      simp only [← hn, ← hm]
      by_cases h1 : n ≤ 2000
      · have h2 : ¬ m ≤ 2000 := fun h => hbig ⟨h1, h⟩
        simp [h2]
      · simp [h1]
    rw [hok]
    have HB : Hid _ := hb0
    clear hok hn hm hc hc' he he' hb0 hhd hhd'
    by_cases h1 : n ≤ 2000
    · have h2 : 2000 < m := by omega
      clear hbig
      go_enter Tryd.func11, Tryd.ntmps11
      go_wp2
      go_ret
      exact ⟨rfl, HB.out⟩
    · have h2 : 2000 < n := by omega
      clear hbig
      go_enter Tryd.func11, Tryd.ntmps11
      go_wp2
      go_ret
      exact ⟨rfl, HB.out⟩
end Go.Proofs.YtjhaanenkeceiaaDoor
