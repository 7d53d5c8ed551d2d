/- Joined: SpecDisk ImplOk Laid OpenDisk Bools OpenLists Cursor ImplSec. -/
import Derived.Test.YtjhaanenkeceiaaDoorJ01
import Derived.Test.YtjhaanenkeceiaaDoorRows
import Derived.ProofKit
import Derived.ChangeSame
import Derived.ChangeVars
import Derived.JoinedOf
import Derived.LaidLaws
import Derived.Lay
import Derived.Stop.LaidErr
import Derived.OpenShut
import Derived.ShutString
import Derived.ChangeOld
import Derived.Below
import Derived.Lib.SmallJoins
import Derived.Deep.Slices
import Derived.Deep.Grids

section
/- The specification's DiskOk as a plain function; no condition on the disk. -/
namespace Go.Proofs.YtjhaanenkeceiaaDoor
open Go.RowKit
set_option linter.unusedVariables false

def secOk (z : List Int) : Bool := z.length == 32
def waitOk (n : Nat) (p : Wt) : Bool := decide (0 ≤ p.1) && decide (p.1 < (n : Int)) && secOk p.2
def okD (d : Dk) : Bool := decide (d.1.length ≤ 2000) && decide (d.2.length ≤ 2000) && d.1.all secOk && d.2.all (waitOk d.1.length)

theorem all_step {α : Type} (f : α → Bool) (l : List α) (dflt : α) (k : Nat) (h : k < l.length) (ht : (l.take k).all f = true) : (f (l[k]?.getD dflt) = true → (l.take (k + 1)).all f = true) ∧ (f (l[k]?.getD dflt) = false → l.all f = false) := by
  constructor
  · intro e
    rw [List.take_succ_eq_append_getElem h, List.all_append, ht]
    simp [h] at e
    simp [e]
  · intro e
    simp [h] at e
    apply Bool.eq_false_iff.2
    intro ha
    rw [List.all_eq_true] at ha
    have := ha _ (List.getElem_mem h)
    rw [e] at this; cases this
theorem Below.alloc1 {w : World} (o : Obj) : Below w.heap.size w (w.alloc o) := (Below.refl _ _).alloc (Nat.le_refl _) _

set_option maxHeartbeats 2000000 in
theorem specOk_any (v : Value) (d : Dk) (l h : Nat) (w : World) (r : RdD w l h v d) (hh : h ≤ w.heap.size) :
    Calls Tryd.prog 11 #[v] w fun e w' => e = .returned (.bool (okD d)) ∧ Below w.heap.size w w' := by
  obtain ⟨x, y, rfl, r1, r2⟩ := r
  obtain ⟨d1, d2⟩ := d
  obtain ⟨xa, n, xc, vs, rfl, hn, hhd, hc, he⟩ := r1
  obtain ⟨ya, m, yc, us, rfl, hm, hhd', hc', he'⟩ := r2
  have hb0 : Below w.heap.size w (w.alloc (.cells #[.slice xa n xc, .slice ya m yc] 26)) := Below.alloc1 _
  have hnm : n ≤ 9223372036854775807 := by have := hhd.1; have := hhd.2.1; unfold maxLen at this; omega
  have hmm : m ≤ 9223372036854775807 := by have := hhd'.1; have := hhd'.2.1; unfold maxLen at this; omega
  by_cases hbig : n ≤ 2000 ∧ m ≤ 2000
  · obtain ⟨hn2, hm2⟩ := hbig
    have hok : okD (d1, d2) = (d1.all secOk && d2.all (waitOk n)) := by
      unfold okD
      simp only [← hn, ← hm]
      simp [hn2, hm2]
    rw [hok]
    have HN : Hid _ := hn
    have HM : Hid _ := hm
    have HC : Hid (n = 0 ∨ ∃ b off, xa = some ⟨b, off, none⟩ ∧ ∀ i, i < n → (w.alloc (.cells #[.slice xa n xc, .slice ya m yc] 26)).cell? ⟨b, off + i, none⟩ = some (vs i)) := by
      rcases hc with h0 | ⟨b, off, ha, _, hb, hcc⟩
      · exact .inl h0
      · exact .inr ⟨b, off, ha, fun i hi => (hb0.cell (p := ⟨b, off + i, none⟩) (by show b < w.heap.size; omega)).trans (hcc i hi)⟩
    have HC' : Hid (m = 0 ∨ ∃ b off, ya = some ⟨b, off, none⟩ ∧ ∀ i, i < m → (w.alloc (.cells #[.slice xa n xc, .slice ya m yc] 26)).cell? ⟨b, off + i * 2, none⟩ = some (.int .i64 (d2[i]?.getD (0, [])).1) ∧ (w.alloc (.cells #[.slice xa n xc, .slice ya m yc] 26)).cell? ⟨b, off + i * 2 + 1, none⟩ = some (us i)) := by
      rcases hc' with h0 | ⟨b, off, ha, _, hb, hcc⟩
      · exact .inl h0
      · exact .inr ⟨b, off, ha, fun i hi => ⟨(hb0.cell (p := ⟨b, off + i * 2, none⟩) (by show b < w.heap.size; omega)).trans (hcc i hi).1, (hb0.cell (p := ⟨b, off + i * 2 + 1, none⟩) (by show b < w.heap.size; omega)).trans (hcc i hi).2⟩⟩
    have HE : Hid _ := he
    have HE' : Hid _ := he'
    have HB : Hid _ := hb0
    clear hn hm hc hc' he he' hb0 hok hhd hhd'
    go_enter Tryd.func11, Tryd.ntmps11
    go_wp2
    have c00 : (w.alloc (.cells #[.slice xa n xc, .slice ya m yc] 26)).cell? ⟨w.heap.size, 0, none⟩ = some (.slice xa n xc) := by rw [World.cell?_alloc_at _ _ _ _ rfl]; rfl
    have c01 : (w.alloc (.cells #[.slice xa n xc, .slice ya m yc] 26)).cell? ⟨w.heap.size, 1, none⟩ = some (.slice ya m yc) := by rw [World.cell?_alloc_at _ _ _ _ rfl]; rfl
    generalize hw0 : w.alloc (.cells #[.slice xa n xc, .slice ya m yc] 26) = w0 at HC HC' HB c00 c01 ⊢
    clear hw0
    go_loop [3] (fun i => ∃ k : Nat, k ≤ n ∧ i = .int .i64 k ∧ Hid ((d1.take k).all secOk = true)) (fun i => n - (intOf i).toNat)
    case atStart => exact ⟨0, Nat.zero_le _, rfl, by show _ = _; simp⟩
    case round =>
      obtain ⟨k, hk, rfl, HA⟩ := hrel
      by_cases hlt : k < n
      · obtain ⟨b, off, rfl, hcc⟩ := HC.out.resolve_left (by omega)
        have h1 := hcc k hlt
        obtain ⟨_, va, vn, vc, hv, hvn, hvh, _⟩ := HE.out k hlt
        have hvm : vn ≤ 9223372036854775807 := by have := hvh.1; have := hvh.2.1; unfold maxLen at this; omega
        rw [hv] at h1
        have hst := all_step secOk d1 [] k (by rw [← HN.out]; exact hlt) HA.out
        have hso : secOk (d1[k]?.getD []) = (vn == 32) := by unfold secOk; rw [← hvn]
        rw [hso] at hst
        have HST : Hid _ := hst
        clear hst hso hcc hv hvn hvh HA
        by_cases h32 : vn = 32
        · have HF : Hid ((d1.take (k + 1)).all secOk = true) := HST.out.1 (by simp [h32])
          subst h32
          clear HST
          go_wp2
          go_round
          case rel => exact ⟨k + 1, by omega, by go_num, HF⟩
          case measure => simp [intOf]; omega
        · have HF : Hid (d1.all secOk = false) := HST.out.2 (by simp [h32])
          have hd : ((vn : Int) == 32) = false := by simp; omega
          clear HST
          go_wp2
          go_ret
          exact ⟨by rw [HF.out]; rfl, HB.out⟩
      · have hkn : k = n := by omega
        subst hkn
        have HA1 : Hid (d1.all secOk = true) := by
          have := HA.out
          rwa [List.take_of_length_le (by rw [← HN.out]; exact Nat.le_refl _)] at this
        clear HA
        go_wp2
        go_loopw [4] (fun i wr => ∃ j q : Nat, j ≤ m ∧ i = .int .i64 j ∧ wr = w0.drewN q ∧ Hid ((d2.take j).all (waitOk k) = true)) (fun i _ => m - (intOf i).toNat)
        case atStart => exact ⟨0, 0, Nat.zero_le _, rfl, rfl, by show _ = _; simp⟩
        case round =>
          obtain ⟨j, q, hj, rfl, rfl, HA⟩ := hrel
          by_cases hlt2 : j < m
          · obtain ⟨b, off, rfl, hcc⟩ := HC'.out.resolve_left (by omega)
            have h1 := (hcc j hlt2).1
            have h2 := (hcc j hlt2).2
            obtain ⟨_, va, vn, vc, hv, hvn, hvh, _⟩ := HE'.out j hlt2
            have hvm : vn ≤ 9223372036854775807 := by have := hvh.1; have := hvh.2.1; unfold maxLen at this; omega
            rw [hv] at h2
            have hst := all_step (waitOk k) d2 (0, []) j (by rw [← HM.out]; exact hlt2) HA.out
            have hso : waitOk k (d2[j]?.getD (0, [])) = (decide (0 ≤ (d2[j]?.getD (0, [])).1) && decide ((d2[j]?.getD (0, [])).1 < (k : Int)) && vn == 32) := by unfold waitOk secOk; rw [← hvn]
            rw [hso] at hst
            generalize (d2[j]?.getD (0, [])).1 = p at h1 hst
            have HST : Hid _ := hst
            clear hst hso hcc hv hvn hvh HA
            have hi0 : (0 : Int) ≤ (j : Int) := by omega
            have hi1 : (j : Int) < (m : Int) := by omega
            by_cases hp0 : p < 0
            · have HF : Hid (d2.all (waitOk k) = false) := HST.out.2 (by simp; omega)
              clear HST
              have hd1 : decide (p < 0) = true := by simpa using hp0
              go_wp2
              go_quiet (fail)
              go_wp2
              go_ret
              exact ⟨by rw [HF.out]; simp, by first | exact below_drewN2 HB.out _ | exact below_drewN2 (below_drewN2 HB.out _) _⟩
            · have hd1 : decide (p < 0) = false := by simpa using hp0
              by_cases hpk : p < (k : Int)
              · have hd2 : decide ((k : Int) ≤ p) = false := by simpa using hpk
                by_cases h32 : vn = 32
                · have HF : Hid ((d2.take (j + 1)).all (waitOk k) = true) := HST.out.1 (by simp [h32, hpk]; omega)
                  subst h32
                  clear HST
                  go_wp2
                  go_quiet (fail)
                  go_wp2
                  go_roundw
                  case rel => exact ⟨j + 1, _, by omega, by go_num, rfl, HF⟩
                  case measure => simp [intOf]; omega
                · have HF : Hid (d2.all (waitOk k) = false) := HST.out.2 (by simp [h32])
                  have hd3 : ((vn : Int) == 32) = false := by simp; omega
                  clear HST
                  go_wp2
                  go_quiet (fail)
                  go_wp2
                  go_ret
                  exact ⟨by rw [HF.out]; simp, by first | exact below_drewN2 HB.out _ | exact below_drewN2 (below_drewN2 HB.out _) _⟩
              · have HF : Hid (d2.all (waitOk k) = false) := HST.out.2 (by simp; omega)
                have hd2 : decide ((k : Int) ≤ p) = true := by simpa using hpk
                clear HST
                go_wp2
                go_quiet (fail)
                go_wp2
                go_ret
                exact ⟨by rw [HF.out]; simp, by first | exact below_drewN2 HB.out _ | exact below_drewN2 (below_drewN2 HB.out _) _⟩
          · have hjm : j = m := by omega
            subst hjm
            have HA2 : Hid (d2.all (waitOk k) = true) := by
              have := HA.out
              rwa [List.take_of_length_le (by rw [← HM.out]; exact Nat.le_refl _)] at this
            go_wp2
            go_ret
            exact ⟨by rw [HA1.out, HA2.out]; rfl, below_drewN2 HB.out q⟩
  · have hok : okD (d1, d2) = false := by
      unfold okD
      simp only [← hn, ← hm]
      by_cases h1 : n ≤ 2000
      · have h2 : ¬ m ≤ 2000 := fun h => hbig ⟨h1, h⟩
        simp [h2]
      · simp [h1]
    rw [hok]
    have HB : Hid _ := hb0
    clear hok hn hm hc hc' he he' hb0 hhd hhd'
    by_cases h1 : n ≤ 2000
    · have h2 : 2000 < m := by omega
      clear hbig
      go_enter Tryd.func11, Tryd.ntmps11
      go_wp2
      go_ret
      exact ⟨rfl, HB.out⟩
    · have h2 : 2000 < n := by omega
      clear hbig
      go_enter Tryd.func11, Tryd.ntmps11
      go_wp2
      go_ret
      exact ⟨rfl, HB.out⟩
end Go.Proofs.YtjhaanenkeceiaaDoor
end

section
/- The program's DiskOk as a plain function; no condition on the disk. It leans on the package's variable errNoSector holding an error of errors.New's make. -/
namespace Go.Proofs.YtjhaanenkeceiaaDoor
open Go.RowKit
set_option linter.unusedVariables false

abbrev errV (a : Addr) : Value := .iface 131 (.pointer (some a))
/-- The package's variable errNoSector holds a pointer to a. -/
def Glob (w : World) (a : Addr) : Prop := w.cell? ⟨2, 0, none⟩ = some (errV a)
theorem Glob.lt {w : World} {a : Addr} (h : Glob w a) : 2 < w.heap.size := block_lt_of_cell (a := ⟨2, 0, none⟩) h
theorem Glob.step {w w' : World} {a : Addr} {B : Nat} (h : Glob w a) (hb : Below B w w') (hB : 2 < B) : Glob w' a := (hb.cell (p := ⟨2, 0, none⟩) hB).trans h
set_option maxHeartbeats 400000 in
theorem safeAt_in (b g off k n c : Nat) (x : Value) (w : World) (c0 : w.cell? ⟨b, 0, none⟩ = some (.slice (some ⟨g, off, none⟩) n c)) (c1 : w.cell? ⟨g, off + k, none⟩ = some x) (hk : k < n) (hn : n ≤ 9223372036854775807) :
    Calls Tryd.prog 77 #[.pointer (some ⟨b, 0, none⟩), .int .i64 k] w fun e w' => e = .returned (.tuple #[x, .nilIface]) ∧ w' = w := by
  have hi0 : (0 : Int) ≤ (k : Int) := by omega
  have hi1 : (k : Int) < (n : Int) := by omega
  have hd1 : decide ((k : Int) < 0) = false := by simp
  have hd2 : decide ((n : Int) ≤ (k : Int)) = false := by simp; omega
  go_enter Tryd.func77, Tryd.ntmps77
  go_wp2
  go_ret2
  exact ⟨rfl, rfl⟩
set_option maxHeartbeats 400000 in
theorem safeAt_out (b n c : Nat) (xa : Option Addr) (p : Int) (a : Addr) (w : World) (c0 : w.cell? ⟨b, 0, none⟩ = some (.slice xa n c)) (hg : Glob w a) (hp : p < 0 ∨ (n : Int) ≤ p) (hn : n ≤ 9223372036854775807) :
    Calls Tryd.prog 77 #[.pointer (some ⟨b, 0, none⟩), .int .i64 p] w fun e w' => e = .returned (.tuple #[.slice none 0 0, errV a]) ∧ ∃ m, w' = w.drewN m := by
  have hg' : w.cell? ⟨2, 0, none⟩ = some (.iface 131 (.pointer (some a))) := hg
  clear hg
  by_cases h0 : p < 0
  · have hd1 : decide (p < 0) = true := by simpa using h0
    go_enter Tryd.func77, Tryd.ntmps77
    go_wp2
    go_quiet (fail)
    go_wp2
    go_ret2
    exact ⟨rfl, _, rfl⟩
  · have hd1 : decide (p < 0) = false := by simpa using h0
    have hd2 : decide ((n : Int) ≤ p) = true := by simp; omega
    go_enter Tryd.func77, Tryd.ntmps77
    go_wp2
    go_quiet (fail)
    go_wp2
    go_ret2
    exact ⟨rfl, _, rfl⟩

set_option maxHeartbeats 1000000 in
theorem sectorsOk_any (b : Nat) (x y : Value) (d1 : List (List Int)) (l h : Nat) (w : World) (hv : VarD w b x y) (r : RdBB w l h x d1) :
    Calls Tryd.prog 74 #[.pointer (some ⟨b, 0, none⟩)] w fun e w' => e = .returned (.bool (decide (d1.length ≤ 2000) && d1.all secOk)) ∧ w' = w := by
  obtain ⟨xa, n, xc, vs, rfl, hn, hhd, hc, he⟩ := r
  have hnm : n ≤ 9223372036854775807 := by have := hhd.1; have := hhd.2.1; unfold maxLen at this; omega
  have c00 := hv.c0
  have HN : Hid _ := hn
  have HC : Hid _ := hc
  have HE : Hid _ := he
  by_cases hbig : n ≤ 2000
  · rw [show decide (d1.length ≤ 2000) = true by simp; omega, Bool.true_and]
    clear hn hc he hhd hv
    go_enter Tryd.func74, Tryd.ntmps74
    go_wp2
    go_loop [16] (fun i => ∃ k : Nat, k ≤ n ∧ i = .int .i64 k ∧ Hid ((d1.take k).all secOk = true)) (fun i => n - (intOf i).toNat)
    case atStart => exact ⟨0, Nat.zero_le _, rfl, by show _ = _; simp⟩
    case round =>
      obtain ⟨k, hk, rfl, HA⟩ := hrel
      by_cases hlt : k < n
      · obtain ⟨g, off, rfl, _, _, hcc⟩ := HC.out.resolve_left (by omega)
        have h1 := hcc k hlt
        obtain ⟨_, va, vn, vc, hv, hvn, hvh, _⟩ := HE.out k hlt
        have hvm : vn ≤ 9223372036854775807 := by have := hvh.1; have := hvh.2.1; unfold maxLen at this; omega
        rw [hv] at h1
        have hst := all_step secOk d1 [] k (by rw [← HN.out]; exact hlt) HA.out
        have hso : secOk (d1[k]?.getD []) = (vn == 32) := by unfold secOk; rw [← hvn]
        rw [hso] at hst
        have HST : Hid _ := hst
        clear hst hso hcc hv hvn hvh HA
        by_cases h32 : vn = 32
        · have HF : Hid ((d1.take (k + 1)).all secOk = true) := HST.out.1 (by simp [h32])
          subst h32
          clear HST
          go_wp2
          go_round
          case rel => exact ⟨k + 1, by omega, by go_num, HF⟩
          case measure => simp [intOf]; omega
        · have HF : Hid (d1.all secOk = false) := HST.out.2 (by simp [h32])
          have hd : ((vn : Int) == 32) = false := by simp; omega
          clear HST
          go_wp2
          go_ret
          exact ⟨by rw [HF.out]; rfl, rfl⟩
      · have hkn : k = n := by omega
        subst hkn
        have HA1 : Hid (d1.all secOk = true) := by
          have := HA.out
          rwa [List.take_of_length_le (by rw [← HN.out]; exact Nat.le_refl _)] at this
        clear HA
        go_wp2
        go_ret
        exact ⟨by rw [HA1.out]; rfl, rfl⟩
  · rw [show decide (d1.length ≤ 2000) = false by simp; omega, Bool.false_and]
    have h2 : 2000 < n := by omega
    clear hn hc he hhd hv hbig
    go_enter Tryd.func74, Tryd.ntmps74
    go_wp2
    go_ret
    exact ⟨rfl, rfl⟩

set_option maxHeartbeats 2000000 in
theorem waitsOk_any (b : Nat) (x y : Value) (d : Dk) (l h : Nat) (a : Addr) (w : World) (hv : VarD w b x y) (r : RdBB w l h x d.1) (s : RdWs w l h y d.2) (hh : h ≤ w.heap.size) (hg : Glob w a) :
    Calls Tryd.prog 75 #[.pointer (some ⟨b, 0, none⟩)] w fun e w' => e = .returned (.bool (decide (d.2.length ≤ 2000) && d.2.all (waitOk d.1.length))) ∧ Below w.heap.size w w' := by
  obtain ⟨d1, d2⟩ := d
  have R1 := fun W hW => r.same (SameIn.ofBelow (w' := W) hW hh)
  obtain ⟨xa, n, xc, vs, rfl, hn, hhd, hc, he⟩ := r
  obtain ⟨ya, m, yc, us, rfl, hm, hhd', hc', he'⟩ := s
  have hnm : n ≤ 9223372036854775807 := by have := hhd.1; have := hhd.2.1; unfold maxLen at this; omega
  have hmm : m ≤ 9223372036854775807 := by have := hhd'.1; have := hhd'.2.1; unfold maxLen at this; omega
  have c00 := hv.c0
  have c01 := hv.c1
  have hbw := hv.lt
  have hgl := hg.lt
  replace hn : n = d1.length := hn
  replace hm : m = d2.length := hm
  have HN : Hid _ := hn
  have HM : Hid _ := hm
  have HC : Hid _ := hc
  have HC' : Hid _ := hc'
  have HE' : Hid _ := he'
  have HV : Hid _ := hv
  have HGL : Hid _ := hg
  simp only
  by_cases hbig : m ≤ 2000
  · rw [show decide (d2.length ≤ 2000) = true by simp; omega, Bool.true_and, ← hn]
    clear hn hm hc hc' he he' hhd hhd' R1 hv hg
    go_enter Tryd.func75, Tryd.ntmps75
    go_wp2
    go_loopw [18] (fun i wr => ∃ j : Nat, j ≤ m ∧ i = .int .i64 j ∧ Below w.heap.size w wr ∧ Hid ((d2.take j).all (waitOk n) = true)) (fun i _ => m - (intOf i).toNat)
    case atStart => exact ⟨0, Nat.zero_le _, rfl, Below.refl _ _, by show _ = _; simp⟩
    case round =>
      clear c01 c00
      obtain ⟨j, hj, rfl, hbel, HA⟩ := hrel
      by_cases hlt : j < m
      · obtain ⟨g, off, rfl, _, hgh, hcc⟩ := HC'.out.resolve_left (by omega)
        have h1 := (hbel.cell (p := ⟨g, off + j * 2, none⟩) (by show g < w.heap.size; omega)).trans (hcc j hlt).1
        have h2 := (hbel.cell (p := ⟨g, off + j * 2 + 1, none⟩) (by show g < w.heap.size; omega)).trans (hcc j hlt).2
        obtain ⟨_, va, vn, vc, hv, hvn, hvh, _⟩ := HE'.out j hlt
        have hvm : vn ≤ 9223372036854775807 := by have := hvh.1; have := hvh.2.1; unfold maxLen at this; omega
        rw [hv] at h2
        have hst := all_step (waitOk n) d2 (0, []) j (by rw [← HM.out]; exact hlt) HA.out
        have hso : waitOk n (d2[j]?.getD (0, [])) = (decide (0 ≤ (d2[j]?.getD (0, [])).1) && decide ((d2[j]?.getD (0, [])).1 < (n : Int)) && vn == 32) := by unfold waitOk secOk; rw [← hvn]
        rw [hso] at hst
        generalize (d2[j]?.getD (0, [])).1 = p at h1 hst
        have HST : Hid _ := hst
        have hi0 : (0 : Int) ≤ (j : Int) := by omega
        have hi1 : (j : Int) < (m : Int) := by omega
        have hbe1 : Below w.heap.size w (wr.alloc (.cells #[.int .i64 p, .slice va vn vc] 75)) := hbel.alloc hbel.size _
        have k00 := (VarD.step HV.out hbe1).c0
        have hgl2 := Glob.step HGL.out hbe1 hgl
        have HB1 : Hid _ := hbe1
        have hgl3 : (wr.alloc (.cells #[.int .i64 p, .slice va vn vc] 75)).cell? ⟨2, 0, none⟩ = some (.iface 131 (.pointer (some a))) := hgl2
        clear hst hso hcc hv hvn hvh HA
        by_cases hin : 0 ≤ p ∧ p < (n : Int)
        · obtain ⟨q, rfl⟩ : ∃ q : Nat, p = (q : Int) := ⟨p.toNat, by omega⟩
          have hqn : q < n := by omega
          obtain ⟨gx, ox, rfl, _, hgx, hcx⟩ := HC.out.resolve_left (by omega)
          have hc1 := (hbe1.cell (p := ⟨gx, ox + q, none⟩) (by show gx < w.heap.size; omega)).trans (hcx q hqn)
          clear hgl2 hbe1 hcx
          have c40 : (wr.alloc (.cells #[.int .i64 (q : Int), .slice va vn vc] 75)).cell? ⟨wr.heap.size, 1, none⟩ = some (.slice va vn vc) := by rw [World.cell?_alloc_at _ _ _ _ rfl]; rfl
          generalize hw4 : wr.alloc (.cells #[.int .i64 (q : Int), .slice va vn vc] 75) = w4 at hgl3 k00 hc1 c40 HB1
          have HW4 : Hid _ := hw4
          clear hw4
          by_cases h32 : vn = 32
          · have HF : Hid ((d2.take (j + 1)).all (waitOk n) = true) := HST.out.1 (by simp [h32]; omega)
            subst h32
            clear HST
            go_wp2_with fail
            rw [HW4.out]
            refine (safeAt_in b gx ox q n xc _ w4 k00 hc1 hqn hnm).mono ?_
            rintro e w5 ⟨rfl, hw5⟩
            subst hw5
            go_wp2_with fail
            refine (is_nil a w5).mono ?_
            rintro e w6 ⟨rfl, hw6⟩
            subst hw6
            go_wp2
            go_roundw
            case rel => exact ⟨j + 1, by omega, by go_num, HB1.out, HF⟩
            case measure => simp [intOf]; omega
          · have HF : Hid (d2.all (waitOk n) = false) := HST.out.2 (by simp [h32])
            have hd3 : ((vn : Int) == 32) = false := by simp; omega
            clear HST
            go_wp2_with fail
            rw [HW4.out]
            refine (safeAt_in b gx ox q n xc _ w4 k00 hc1 hqn hnm).mono ?_
            rintro e w5 ⟨rfl, hw5⟩
            subst hw5
            go_wp2_with fail
            refine (is_nil a w5).mono ?_
            rintro e w6 ⟨rfl, hw6⟩
            subst hw6
            go_wp2
            go_ret
            exact ⟨by rw [HF.out]; rfl, HB1.out⟩
        · have HF : Hid (d2.all (waitOk n) = false) := HST.out.2 (by
            by_cases hp : 0 ≤ p
            · have : ¬ p < (n : Int) := fun h => hin ⟨hp, h⟩
              simp [this]
            · simp [hp])
          have hpo : p < 0 ∨ (n : Int) ≤ p := by omega
          have c40 : (wr.alloc (.cells #[.int .i64 p, .slice va vn vc] 75)).cell? ⟨wr.heap.size, 1, none⟩ = some (.slice va vn vc) := by rw [World.cell?_alloc_at _ _ _ _ rfl]; rfl
          generalize hw4 : wr.alloc (.cells #[.int .i64 p, .slice va vn vc] 75) = w4 at hgl3 hgl2 k00 c40 HB1
          have HW4 : Hid _ := hw4
          clear hw4
          clear HST hin hbe1
          go_wp2_with fail
          rw [HW4.out]
          refine (safeAt_out b n xc xa p a w4 k00 hgl2 hpo hnm).mono ?_
          rintro e w5 ⟨rfl, nq, hw5⟩
          subst hw5
          go_wp2_with fail
          refine (is_same a _).mono ?_
          rintro e w6 ⟨rfl, hw6⟩
          subst hw6
          go_wp2
          go_ret
          exact ⟨by rw [HF.out]; rfl, below_drewN2 HB1.out _⟩
      · have hjm : j = m := by omega
        subst hjm
        have HA2 : Hid (d2.all (waitOk n) = true) := by
          have := HA.out
          rwa [List.take_of_length_le (by rw [← HM.out]; exact Nat.le_refl _)] at this
        clear HA
        go_wp2
        go_ret
        exact ⟨by rw [HA2.out]; rfl, hbel⟩
  · rw [show decide (d2.length ≤ 2000) = false by simp; omega, Bool.false_and]
    have h2 : 2000 < m := by omega
    clear hn hm hc hc' he he' hhd hhd' R1 hv hg hbig
    go_enter Tryd.func75, Tryd.ntmps75
    go_wp2
    go_ret
    exact ⟨rfl, Below.refl _ _⟩

set_option maxHeartbeats 1000000 in
theorem implOk_any (v : Value) (d : Dk) (l h : Nat) (a : Addr) (w : World) (r : RdD w l h v d) (hh : h ≤ w.heap.size) (hg : Glob w a) :
    Calls Tryd.prog 48 #[v] w fun e w' => e = .returned (.bool (okD d)) ∧ Below w.heap.size w w' := by
  obtain ⟨xa, xn, xc, ya, yn, yc, rfl⟩ := r.open
  have b1 := Below.new (w := w) (.cells #[.slice xa xn xc, .slice ya yn yc] 26)
  have v1 := VarD.new w (.slice xa xn xc) (.slice ya yn yc)
  obtain ⟨x, y, he, r1, r2⟩ := r.step hh b1
  simp only [Value.agg.injEq, Array.mk.injEq, List.cons.injEq, and_true] at he
  obtain ⟨rfl, rfl⟩ := he
  have g1 := hg.step b1 hg.lt
  have s1 := b1.size
  have R1 := sectorsOk_any w.heap.size _ _ d.1 l h _ v1 r1
  have R2 := waitsOk_any w.heap.size _ _ d l h a _ v1 r1 r2 (by omega) g1
  have hok : okD d = ((decide (d.1.length ≤ 2000) && d.1.all secOk) && (decide (d.2.length ≤ 2000) && d.2.all (waitOk d.1.length))) := by
    unfold okD
    cases decide (d.1.length ≤ 2000) <;> cases decide (d.2.length ≤ 2000) <;> cases d.1.all secOk <;> simp
  rw [hok]
  generalize (decide (d.1.length ≤ 2000) && d.1.all secOk) = t1 at R1 ⊢
  generalize (decide (d.2.length ≤ 2000) && d.2.all (waitOk d.1.length)) = t2 at R2 ⊢
  have RC1 : Hid _ := R1
  have RC2 : Hid _ := R2
  have HB : Hid _ := b1
  clear R1 R2 b1 r1 r2 r v1 g1 hok
  cases t1 with
  | false =>
    go_enter Tryd.func48, Tryd.ntmps48
    go_wp2_with fail
    refine Calls.mono RC1.out ?_
    rintro e w2 ⟨rfl, rfl⟩
    go_wp2
    go_ret
    exact ⟨rfl, HB.out⟩
  | true =>
    go_enter Tryd.func48, Tryd.ntmps48
    go_wp2_with fail
    refine Calls.mono RC1.out ?_
    rintro e w2 ⟨rfl, rfl⟩
    go_wp2_with fail
    refine Calls.mono RC2.out ?_
    rintro e w3 ⟨rfl, b3⟩
    have B3 := HB.out.trans (b3.mono s1)
    clear b3
    go_wp2
    go_ret
    exact ⟨by simp, B3⟩
end Go.Proofs.YtjhaanenkeceiaaDoor
end

section
/- What the package's variables hold when a call begins, and a start that is so; no condition. -/
namespace Go.Proofs.YtjhaanenkeceiaaDoor
open Go.ChangeShapes Go.WideShapes Go.ChangeAt Go.RowKit
set_option linter.unusedVariables false

theorem Tryd.own : ownKnob Tryd.prog.godebug = none := by kernel_rfl
theorem Tryd.laidOut : laidOutB Tryd.prog = true := by kernel_rfl
theorem Tryd.g0 : Tryd.prog.globalNamed "loop.example/g00341/impl.errNoSector" = some 2 := by kernel_rfl
theorem Tryd.g1 : Tryd.prog.globalNamed "loop.example/g00341/impl.errNotASector" = some 0 := by kernel_rfl
theorem Tryd.g2 : Tryd.prog.globalNamed "loop.example/g00341/impl.errTooManyWait" = some 1 := by kernel_rfl
theorem Tryd.g0Type : (Tryd.prog.globals[2]?).map (·.type) = some 85 := by kernel_rfl
theorem Tryd.g1Type : (Tryd.prog.globals[0]?).map (·.type) = some 85 := by kernel_rfl
theorem Tryd.g2Type : (Tryd.prog.globals[1]?).map (·.type) = some 85 := by kernel_rfl
theorem Tryd.cellsErr : Tryd.prog.cellsOf 157 = 1 := by kernel_rfl
theorem Tryd.cellsStr : Tryd.prog.cellsOf 9 = 1 := by kernel_rfl
theorem Tryd.star : "*" ++ "errors.errorString" = "*errors.errorString" := by decide
theorem Tryd.rowErr (u : TypeId) (h : Tryd.prog.typeName? 3 u = some "*errors.errorString") : u = 131 :=
  typeName_ptr_named (nm := "errors.errorString") (by rw [Tryd.star]; kernel_rfl) (by kernel_rfl) (by decide) u (by rw [Tryd.star]; exact h)

abbrev laid1 : List (String × DataW Unit) := [("loop.example/g00341/impl.errNoSector", Rows.laid_loop_example_g00341_impl_errNoSector)]
abbrev laid3 : List (String × DataW Unit) := [("loop.example/g00341/impl.errNoSector", Rows.laid_loop_example_g00341_impl_errNoSector), ("loop.example/g00341/impl.errNotASector", Rows.laid_loop_example_g00341_impl_errNotASector), ("loop.example/g00341/impl.errTooManyWait", Rows.laid_loop_example_g00341_impl_errTooManyWait)]
theorem laidWorld3_met (os : Os) (args : Array Value) : laidMetH Tryd.prog laid3 ((World.laidAll Tryd.prog os laid3).forCall (fun _ _ => 0) ⟨#[], args, []⟩).memory := laidMet_laidAll _ (by kernel_rfl) (by kernel_rfl)

theorem var?_below {P : Program} {W W' : World} {n : String} {g : Nat} {cs : Array Value} (hg : P.globalNamed n = some g) (h : W.var? P n = some cs) (hb : Below W.heap.size W W') : W'.var? P n = some cs := by
  unfold World.var? at h ⊢
  simp only [hg, Option.bind_some] at h ⊢
  have hlt : g < W.heap.size := by
    rcases Nat.lt_or_ge g W.heap.size with h' | h'
    · exact h'
    · simp [Array.getElem?_eq_none h'] at h
  rw [hb.block g hlt]
  exact h

theorem sentinel3 {W : World} (h : laidMetH Tryd.prog laid3 W) : ∃ a b c, W.var? Tryd.prog "loop.example/g00341/impl.errNoSector" = some #[errV a] ∧ W.var? Tryd.prog "loop.example/g00341/impl.errNotASector" = some #[errV b] ∧ W.var? Tryd.prog "loop.example/g00341/impl.errTooManyWait" = some #[errV c] := by
  have h' : laidMet Tryd.prog laid3 W := h
  obtain ⟨a, s, hv, _⟩ := laid_sentinel h' Tryd.g0 Tryd.g0Type Tryd.underlying85 Tryd.rowErr Tryd.underlying131 Tryd.underlying157 rfl rfl Tryd.underlying9 Tryd.cellsErr Tryd.cellsStr
  obtain ⟨b, s, hv1, _⟩ := laid_sentinel h'.tail Tryd.g1 Tryd.g1Type Tryd.underlying85 Tryd.rowErr Tryd.underlying131 Tryd.underlying157 rfl rfl Tryd.underlying9 Tryd.cellsErr Tryd.cellsStr
  obtain ⟨c, s, hv2, _⟩ := laid_sentinel h'.tail.tail Tryd.g2 Tryd.g2Type Tryd.underlying85 Tryd.rowErr Tryd.underlying131 Tryd.underlying157 rfl rfl Tryd.underlying9 Tryd.cellsErr Tryd.cellsStr
  exact ⟨a, b, c, hv, hv1, hv2⟩
theorem glob_of {W : World} {a : Addr} (h : W.var? Tryd.prog "loop.example/g00341/impl.errNoSector" = some #[errV a])   : Glob W a := by
  show W.cell? ⟨2, 0, none⟩ = some (errV a)
  simpa using World.var?_cell Tryd.g0 h 0
theorem glob1_of {W : World} {a : Addr} (h : W.var? Tryd.prog "loop.example/g00341/impl.errNotASector" = some #[errV a]) : W.cell? ⟨0, 0, none⟩ = some (errV a) := by simpa using World.var?_cell Tryd.g1 h 0
theorem glob2_of {W : World} {a : Addr} (h : W.var? Tryd.prog "loop.example/g00341/impl.errTooManyWait" = some #[errV a]) : W.cell? ⟨1, 0, none⟩ = some (errV a) := by simpa using World.var?_cell Tryd.g2 h 0
theorem vars3 {H : Type} (enc : TypeId × Value → H) {X : World} {a b c : Addr} (x0 : X.var? Tryd.prog "loop.example/g00341/impl.errNoSector" = some #[errV a]) (x1 : X.var? Tryd.prog "loop.example/g00341/impl.errNotASector" = some #[errV b]) (x2 : X.var? Tryd.prog "loop.example/g00341/impl.errTooManyWait" = some #[errV c]) (sp : Nat → Bool) :
    DataW.TrodVars enc Tryd.prog X sp ["loop.example/g00341/impl.errNoSector", "loop.example/g00341/impl.errNotASector", "loop.example/g00341/impl.errTooManyWait"] [tok enc (errV a), tok enc (errV b), tok enc (errV c)] [.cell 2 0, .cell 0 0, .cell 1 0] :=
  ⟨2, 85, #[errV a], 1, [], [.cell 0 0, .cell 1 0], Tryd.g0, Tryd.g0Type, x0, trod_held (v := errV a) Tryd.underlying85 trivial 0, ⟨0, 85, #[errV b], 1, [], [.cell 1 0], Tryd.g1, Tryd.g1Type, x1, trod_held (v := errV b) Tryd.underlying85 trivial 0, vars_read1 enc Tryd.g2 Tryd.g2Type Tryd.underlying85 x2 trivial sp, rfl⟩, rfl⟩
end Go.Proofs.YtjhaanenkeceiaaDoor
end

section
/- A disk that came in as an argument, read as data, is a disk that the walks can read; no condition. -/
namespace Go.Proofs.YtjhaanenkeceiaaDoor
open Go.RowKit Go.Deep Go.ChangeShapes
set_option linter.unusedVariables false

section
variable {H : Type} {enc : TypeId × Value → H} {w : World} {held : Bool}

theorem spot_none {a : Addr} {v : Value} (h : w.cell? a = some v) : ∃ b off, a = ⟨b, off, none⟩ := by
  obtain ⟨b, off, spot⟩ := a
  have : spot = none := by simpa using World.cell?_spot h
  exact ⟨b, off, by rw [this]⟩
theorem add_plain (b off i : Nat) : (⟨b, off, none⟩ : Addr).add i = ⟨b, off + i, none⟩ := by
  unfold Addr.add
  by_cases hi : i = 0
  · subst hi; simp
  · simp [hi]

theorem open_bytes {fuel : Nat} {v : Value} {x : DataW H × List MemPlace} (h : DataW.trod enc Tryd.prog w 0 (fun _ => true) held fuel 22 [v] = some x) : ∃ zs, RdB w 0 w.heap.size v zs := by
  rcases open_ints Tryd.underlying22 Tryd.underlying5 (by kernel_rfl) h with ⟨hcs, _⟩ | ⟨a, len, cap, zs, hcs, _, hl, hm, hz, _, hcell, hwz⟩
  · simp only [List.cons.injEq, and_true] at hcs
    exact ⟨[], isBytes_nil, none, 0, 0, hcs, rfl, ⟨Nat.le_refl _, Nat.zero_le _, fun _ => ⟨rfl, rfl⟩⟩, .inl rfl⟩
  · simp only [List.cons.injEq, and_true] at hcs
    simp only [if_true] at hz
    refine ⟨zs.take len, ?_, some a, len, cap, hcs, by simp; omega, ⟨hl, hm, fun e => by cases e⟩, ?_⟩
    · intro j
      by_cases hj : j < len
      · rw [List.getElem?_take, if_pos hj]; exact range_u8 hwz j
      · rw [List.getElem?_take, if_neg hj]; simp
    · by_cases h0 : len = 0
      · exact .inl (by simp [h0])
      · obtain ⟨b, off, rfl⟩ := spot_none (w := w) (a := a) (v := .int .u8 (zs.getD 0 0)) (by have := hcell 0 (by omega); simpa [Addr.add] using this)
        refine .inr ⟨b, off, rfl, Nat.zero_le _, ?_, fun i hi => ?_⟩
        · have := hcell 0 (by omega); rw [add_plain] at this; exact block_lt_of_cell this
        · have hi' : i < len := by simp at hi; omega
          have := hcell i (by omega)
          rw [add_plain] at this
          rw [this, List.getElem?_take, if_pos hi']
          simp

end
end Go.Proofs.YtjhaanenkeceiaaDoor
end

section
/- Lists of flags: what is read and owned of them, and what the verifier's helpers do with them. Conditions: at most 2^21 of them. -/
namespace Go.Proofs.YtjhaanenkeceiaaDoor
open Go.RowKit
set_option linter.unusedVariables false

def fcells (bs : List Bool) : List Value := bs.map Value.bool
@[simp] theorem fcells_length (bs : List Bool) : (fcells bs).length = bs.length := by simp [fcells]

/-- v reads as the flags bs, which lie in blocks l .. h-1. -/
def RdF (w : World) (l h : Nat) (v : Value) (bs : List Bool) : Prop :=
  ∃ a len cap, v = .slice a len cap ∧ len = bs.length ∧ Headed a len cap ∧
    (bs = [] ∨ ∃ b off, a = some ⟨b, off, none⟩ ∧ l ≤ b ∧ b < h ∧ ∀ i, i < bs.length → w.cell? ⟨b, off + i, none⟩ = some (.bool (bs[i]?.getD false)))
/-- v is the call's own, with the flags bs, in a block of l .. h-1. -/
def OwF (w : World) (l h : Nat) (v : Value) (bs : List Bool) : Prop := w.ownsRow l 4 1 v bs.length (fcells bs) ∧ Before v h
def laidF (bs : List Bool) (k : Nat) : List Bool := bs.take k ++ List.replicate (bs.length - k) false
end Go.Proofs.YtjhaanenkeceiaaDoor
end

section
/- A list of bytes or of flags that came in as an argument, read as data; no condition. -/
namespace Go.Proofs.YtjhaanenkeceiaaDoor
open Go.RowKit Go.Deep Go.ChangeShapes Go.WideShapes
set_option linter.unusedVariables false

section
variable {H : Type} {enc : TypeId × Value → H} {w : World} {held : Bool}

set_option maxRecDepth 100000 in
theorem open_bytesArg {b0 : Nat} {r : Reach} {v : Value} {x : DataW H} {p : List MemPlace} (hv : Value.okWide Tryd.prog w r b0 22 v) (h : DataW.Trod enc Tryd.prog w 0 (fun _ => true) held 22 v x p) : ∃ zs, RdB w 0 w.heap.size v zs := by
  obtain ⟨a, n, c, rfl⟩ := okWide_slice Tryd.underlying22 hv
  obtain ⟨fuel, hf⟩ := h
  exact open_bytes hf
end
end Go.Proofs.YtjhaanenkeceiaaDoor
end

section
/- The cursor over the bytes of a draw: what it answers lies in its bounds, and nothing but the cursor's own block turns. No condition. -/
namespace Go.Proofs.YtjhaanenkeceiaaDoor
open Go.RowKit
set_option linter.unusedVariables false

theorem and255 (y : Int) : 0 ≤ bits .and .i64 y 255 ∧ bits .and .i64 y 255 ≤ 255 := by
  have h : (BitVec.ofInt 64 y &&& BitVec.ofInt 64 255).toNat ≤ 255 := by
    rw [BitVec.toNat_and]; exact Nat.le_trans Nat.and_le_right (by decide)
  have e : bits .and .i64 y 255 = IntKind.i64.wrap ((BitVec.ofInt 64 y &&& BitVec.ofInt 64 255).toNat : Int) := rfl
  rw [e]
  simp only [IntKind.wrap, IntKind.bits, IntKind.signed]
  generalize (BitVec.ofInt 64 y &&& BitVec.ofInt 64 255).toNat = n at h
  simp
  omega

/-- A cursor lies in block pb: over a code that lies before it. -/
def CurAt (w : World) (pb : Nat) : Prop :=
  ∃ (a : Option Addr) (zs : List Int) (cap i : Nat) (h : Int), isBytes zs ∧ zs.length ≤ maxLen ∧ i ≤ zs.length ∧
    (zs = [] ∨ ∃ b off, a = some ⟨b, off, none⟩ ∧ b < pb ∧ ∀ j, j < zs.length → w.cell? ⟨b, off + j, none⟩ = some (.int .u8 (zs[j]?.getD 0))) ∧
    w.heap[pb]? = some (.cells #[.slice a zs.length cap, .int .i64 i, .int .i64 h] 99 (0, 0))

theorem grown_refl (w : World) (r : Option Nat) : w.grownBy w r := ⟨rfl, rfl, rfl, Nat.le_refl _, fun _ _ _ => rfl⟩

theorem grown_drewN {a w : World} {r : Option Nat} (h : a.grownBy w r) (n : Nat) : a.grownBy (w.drewN n) r := ⟨h.os, h.tape, h.output, h.size, h.block⟩

theorem grown_set {a w : World} {p j : Nat} (h : a.grownBy w (some p)) (u : Value) : a.grownBy (w.setCell ⟨p, j, none⟩ u) (some p) :=
  grown_trans h ⟨rfl, rfl, rfl, by simp, fun k _ hk => heap_setCell_other w ⟨p, j, none⟩ k u (fun e => hk (by simp [e]))⟩

theorem grown_below {w w' : World} {r : Option Nat} (h : Below w.heap.size w w') : w.grownBy w' r := ⟨h.os, h.tape, h.output, h.size, fun k hk _ => h.block k hk⟩

theorem below_grown {w0 w w' : World} {B p : Nat} (h : Below B w0 w) (hg : w.grownBy w' (some p)) (hB : B ≤ w.heap.size) (hp : B ≤ p) : Below B w0 w' := h.grown hg hB (fun k hk => by cases hk; exact hp)

theorem CurAt.lt {w : World} {pb : Nat} (h : CurAt w pb) : pb < w.heap.size := by
  obtain ⟨_, _, _, _, _, _, _, _, _, hh⟩ := h
  exact lt_of_block hh

/-- What grows, writing at most to a block behind it, leaves the cursor. -/
theorem CurAt.grown {w w' : World} {pb : Nat} {r : Option Nat} (h : CurAt w pb) (hg : w.grownBy w' r) (hr : ∀ k, r = some k → pb < k) : CurAt w' pb := by
  have hlt := h.lt
  obtain ⟨a, zs, cap, i, hh, h1, h2, h3, h4, h5⟩ := h
  refine ⟨a, zs, cap, i, hh, h1, h2, h3, ?_, ?_⟩
  · rcases h4 with h4 | ⟨b, off, ha, hb, hc⟩
    · exact .inl h4
    · exact .inr ⟨b, off, ha, hb, fun j hj => hg.cell (hc j hj) (fun e => by have := hr _ e.symm; simp at this; omega)⟩
  · rw [hg.block pb hlt (fun e => by have := hr _ e.symm; omega)]; exact h5

theorem CurAt.below {w w' : World} {pb : Nat} (h : CurAt w pb) (hb : Below w.heap.size w w') : CurAt w' pb := h.grown (r := none) (grown_below hb) (fun k hk => by cases hk)

/-- The cursor's own block turned, nothing else. -/
theorem cur_turned {w w' : World} {pb : Nat} {a : Option Addr} {zs : List Int} {cap i : Nat} {h : Int} (hzb : isBytes zs) (hzl : zs.length ≤ maxLen) (hi : i ≤ zs.length)
    (hc : zs = [] ∨ ∃ b off, a = some ⟨b, off, none⟩ ∧ b < pb ∧ ∀ j, j < zs.length → w.cell? ⟨b, off + j, none⟩ = some (.int .u8 (zs[j]?.getD 0)))
    (hg : w.grownBy w' (some pb)) (hh : w'.heap[pb]? = some (.cells #[.slice a zs.length cap, .int .i64 i, .int .i64 h] 99 (0, 0))) : CurAt w' pb := by
  refine ⟨a, zs, cap, i, h, hzb, hzl, hi, ?_, hh⟩
  rcases hc with h0 | ⟨b, off, ha, hb, hc⟩
  · exact .inl h0
  · exact .inr ⟨b, off, ha, hb, fun j hj => hg.cell (hc j hj) (fun e => by simp at e; omega)⟩

set_option maxHeartbeats 1000000 in
theorem byte_any (pb : Nat) (w : World) (h : CurAt w pb) :
    Calls Tryd.prog 71 #[.pointer (some ⟨pb, 0, none⟩)] w fun e w' => ∃ x : Int, e = .returned (.int .i64 x) ∧ 0 ≤ x ∧ x ≤ 255 ∧ CurAt w' pb ∧ w.grownBy w' (some pb) := by
  obtain ⟨a, zs, cap, i, hh, hzb, hzl, hi, hcode, hheap⟩ := h
  obtain ⟨L, hL⟩ : ∃ L, zs.length = L := ⟨_, rfl⟩
  have c0 : w.cell? ⟨pb, 0, none⟩ = some (.slice a L cap) := by rw [cell_of_row w pb 0 _ _ _ hheap, ← hL]; rfl
  have c1 : w.cell? ⟨pb, 1, none⟩ = some (.int .i64 i) := by rw [cell_of_row w pb 1 _ _ _ hheap]; rfl
  have c2 : w.cell? ⟨pb, 2, none⟩ = some (.int .i64 hh) := by rw [cell_of_row w pb 2 _ _ _ hheap]; rfl
  have f1 : w.frozen? ⟨pb, 1, none⟩ = false := frozen_of_row w pb 1 _ _ hheap
  have f2 : w.frozen? ⟨pb, 2, none⟩ = false := frozen_of_row w pb 2 _ _ hheap
  have HH : Hid _ := hheap
  have HC : Hid _ := hcode
  have HL : Hid _ := hL
  have hLi : i ≤ L := by omega
  have hLm : L ≤ 9223372036854775807 := by unfold maxLen at hzl; omega
  clear hheap hcode hi hzl hL
  go_enter Tryd.func71, Tryd.ntmps71
  go_wp2
  generalize wrap64 (wrap64 (hh * 6364136223846793005) + 1442695040888963407) = H
  go_quiet (fail)
  go_wp2
  have hx := and255 (bits BinOp.xor IntKind.i64 (H / 8589934592) (H / 35184372088832))
  generalize bits BinOp.and IntKind.i64 (bits BinOp.xor IntKind.i64 (H / 8589934592) (H / 35184372088832)) 255 = x at hx
  by_cases hlt : i < L
  · rcases HC.out with h0 | ⟨b, off, rfl, hb, hc⟩
    · have := HL.out; rw [h0] at this; simp at this; omega
    have hc1 := hc i (by rw [HL.out]; exact hlt)
    have hcb := hzb i
    generalize zs[i]?.getD 0 = c at hc1 hcb
    clear hc
    go_quiet (fail)
    go_wp2
    go_quiet (fail)
    go_wp2
    go_ret
    have hy := and255 (x + c)
    have e1 := heap_setCell_same w pb 2 _ _ (.int .i64 H) HH.out
    have e2 := fun n => heap_setCell_same ((w.setCell ⟨pb, 2, none⟩ (.int .i64 H)).drewN n) pb 1 _ _ (.int .i64 ((i : Int) + 1)) e1
    have hgr := fun n => grown_set (j := 1) (grown_drewN (grown_set (j := 2) (grown_refl w (some pb)) (.int .i64 H)) n) (.int .i64 ((i : Int) + 1))
    exact ⟨_, rfl, hy.1, hy.2, cur_turned (i := i + 1) (h := H) hzb (by rw [HL.out]; unfold maxLen; omega) (by rw [HL.out]; omega) HC.out (hgr _) (e2 _), hgr _⟩
  · go_quiet (fail)
    go_wp2
    go_ret
    have e1 := heap_setCell_same w pb 2 _ _ (.int .i64 H) HH.out
    have hgr := fun n m => grown_drewN (grown_drewN (grown_set (j := 2) (grown_refl w (some pb)) (.int .i64 H)) n) m
    exact ⟨_, rfl, hx.1, hx.2, cur_turned (i := i) (h := H) hzb (by rw [HL.out]; unfold maxLen; omega) (by rw [HL.out]; omega) HC.out (hgr _ _) e1, hgr _ _⟩

set_option maxHeartbeats 1000000 in
theorem below_any (pb : Nat) (n : Int) (w : World) (h : CurAt w pb) (h0 : 0 < n) (hn : n ≤ 9223372036854775807) :
    Calls Tryd.prog 42 #[.pointer (some ⟨pb, 0, none⟩), .int .i64 n] w fun e w' => ∃ x : Int, e = .returned (.int .i64 x) ∧ 0 ≤ x ∧ x < n ∧ CurAt w' pb ∧ w.grownBy w' (some pb) := by
  by_cases h256 : n ≤ 256
  · go_enter Tryd.func42, Tryd.ntmps42
    go_wp2_with fail
    refine (byte_any pb w h).mono ?_
    rintro e w1 ⟨x, rfl, hx0, hx1, hc1, hg1⟩
    go_wp2
    go_ret
    exact ⟨_, rfl, Int.emod_nonneg _ (by omega), Int.emod_lt_of_pos _ h0, hc1, hg1⟩
  · go_enter Tryd.func42, Tryd.ntmps42
    go_wp2_with fail
    refine (byte_any pb w h).mono ?_
    rintro e w1 ⟨x, rfl, hx0, hx1, hc1, hg1⟩
    go_wp2_with fail
    refine (byte_any pb w1 hc1).mono ?_
    rintro e w2 ⟨y, rfl, hy0, hy1, hc2, hg2⟩
    go_wp2_with fail
    refine (byte_any pb w2 hc2).mono ?_
    rintro e w3 ⟨z, rfl, hz0, hz1, hc3, hg3⟩
    go_wp2_with fail
    refine (byte_any pb w3 hc3).mono ?_
    rintro e w4 ⟨u, rfl, hu0, hu1, hc4, hg4⟩
    go_wp2
    go_ret
    exact ⟨_, rfl, Int.emod_nonneg _ (by omega), Int.emod_lt_of_pos _ h0, hc4, grown_trans (grown_trans (grown_trans hg1 hg2) hg3) hg4⟩

theorem once_any (pb : Nat) (n : Int) (w : World) (h : CurAt w pb) (h0 : 0 < n) (hn : n ≤ 9223372036854775807) :
    Calls Tryd.prog 41 #[.pointer (some ⟨pb, 0, none⟩), .int .i64 n] w fun e w' => ∃ x : Bool, e = .returned (.bool x) ∧ CurAt w' pb ∧ w.grownBy w' (some pb) := by
  go_enter Tryd.func41, Tryd.ntmps41
  go_wp2_with fail
  refine (below_any pb n w h h0 hn).mono ?_
  rintro e w1 ⟨x, rfl, hx0, hx1, hc1, hg1⟩
  go_wp2
  go_ret
  exact ⟨_, rfl, hc1, hg1⟩

/-- A row of whole numbers that the call made. -/
theorem pick_any (pb g : Nat) (xs : List Int) (w : World) (h : CurAt w pb) (h0 : 0 < xs.length) (hl : xs.length ≤ 100) (hne : g ≠ pb) (hg : w.heap[g]? = some (.cells (xs.map (Value.int .i64)).toArray 3 (0, 0))) :
    Calls Tryd.prog 43 #[.pointer (some ⟨pb, 0, none⟩), .slice (some ⟨g, 0, none⟩) xs.length xs.length] w fun e w' => ∃ x : Int, e = .returned (.int .i64 x) ∧ x ∈ xs ∧ CurAt w' pb ∧ w.grownBy w' (some pb) := by
  obtain ⟨L, hL⟩ : ∃ L, xs.length = L := ⟨_, rfl⟩
  have HL : Hid _ := hL
  rw [hL] at h0 hl ⊢
  have HG : Hid _ := hg
  clear hL hg
  go_enter Tryd.func43, Tryd.ntmps43
  go_wp2_with fail
  refine (below_any pb (L : Int) w h (by omega) (by omega)).mono ?_
  rintro e w1 ⟨x, rfl, hx0, hx1, hc1, hg1⟩
  obtain ⟨k, rfl⟩ : ∃ k : Nat, x = (k : Int) := ⟨x.toNat, by omega⟩
  have hk : k < xs.length := by rw [HL.out]; omega
  have hcell : w1.cell? ⟨g, k, none⟩ = some (.int .i64 xs[k]) := by
    refine hg1.cell ?_ (by simpa using hne)
    rw [cell_of_row w g k _ _ _ HG.out]
    simp [hk]
  have hmem : xs[k] ∈ xs := List.getElem_mem hk
  generalize xs[k] = y at hcell hmem
  go_wp2
  go_ret
  exact ⟨_, rfl, hmem, hc1, hg1⟩

theorem grown_new {a b c : World} {r r' : Option Nat} (h : a.grownBy b r) (k : b.grownBy c r') (hr : ∀ k, r' = some k → a.heap.size ≤ k) : a.grownBy c r :=
  ⟨k.os.trans h.os, k.tape.trans h.tape, k.output.trans h.output, Nat.le_trans h.size k.size, fun i hi hne => (k.block i (Nat.lt_of_lt_of_le hi h.size) (fun e => by have := hr i e.symm; omega)).trans (h.block i hi hne)⟩

theorem grown_alloc {a b : World} {r : Option Nat} (h : a.grownBy b r) (o : Obj) : a.grownBy (b.alloc o) r := grown_trans h (World.grownBy_alloc b o r)

theorem CurAt.alloc {w : World} {pb : Nat} (h : CurAt w pb) (o : Obj) : CurAt (w.alloc o) pb := h.grown (r := none) (World.grownBy_alloc w o none) (fun k hk => by cases hk)

/-- A slice of the call's own, behind the cursor, is left by the cursor's steps. -/
theorem Owns.cur {w w' : World} {base pb : Nat} {v : Value} {zs : List Int} (h : Owns w base v zs) (hg : w.grownBy w' (some pb)) (hb : pb < base) : Owns w' base v zs := by
  refine World.ownsRow.kept h hg ?_
  cases hk : v.ownBlock with
  | none => exact .inl rfl
  | some k => exact .inr (fun e => by simp only [Option.some.injEq] at e; have := (h.lt k hk).1; omega)

theorem isBytes_snoc {ys : List Int} {x : Int} (h : isBytes ys) (h0 : 0 ≤ x) (h1 : x ≤ 255) : isBytes (ys ++ [x]) := isBytes_append h (isBytes_cons h0 h1 isBytes_nil)

theorem cur_new (w : World) (a : Option Addr) (zs : List Int) (len cap : Nat) (x : Int) (h : Reads w a zs) (hlen : len = zs.length) (hm : zs.length ≤ maxLen) : CurAt (w.alloc (.cells #[.slice a len cap, .int .i64 0, .int .i64 x] 99)) w.heap.size := by
  subst hlen
  refine ⟨a, zs, cap, 0, x, h.1, hm, Nat.zero_le _, ?_, heap_alloc_new w _⟩
  rcases h.2 with h0 | ⟨b, off, ha, hb, hc⟩
  · exact .inl h0
  · exact .inr ⟨b, off, ha, hb, fun j hj => (World.cell?_alloc_past _ b (off + j) hb).trans (hc j hj)⟩

set_option maxHeartbeats 1000000 in
set_option maxRecDepth 100000 in
theorem new_any (a : Option Addr) (zs : List Int) (len cap : Nat) (w : World) (h : Reads w a zs) (hlen : len = zs.length) (hm : zs.length ≤ maxLen) :
    Calls Tryd.prog 39 #[.slice a len cap] w fun e w' => e = .returned (.pointer (some ⟨w.heap.size, 0, none⟩)) ∧ CurAt w' w.heap.size ∧ Below w.heap.size w w' := by
  have HLEN : Hid _ := hlen
  have hmm : len ≤ 9223372036854775807 := by unfold maxLen at hm; omega
  have HM : Hid _ := hm
  have HR : Hid _ := h
  clear h hlen hm
  go_enter Tryd.func39, Tryd.ntmps39
  go_wp2
  go_loop [3, 4] (fun q i => ∃ (k : Nat) (x : Int), k ≤ len ∧ k ≤ 4000 ∧ i = .int .i64 k ∧ q = .int .i64 x) (fun _ i => 4000 - (intOf i).toNat)
  case atStart => exact ⟨0, _, Nat.zero_le _, Nat.zero_le _, rfl, rfl⟩
  case round =>
    obtain ⟨k, x, hk, hk4, rfl, rfl⟩ := hrel
    by_cases hlt : k < len ∧ k < 4000
    · obtain ⟨hlt, hlt4⟩ := hlt
      rcases HR.out.2 with h0 | ⟨b, off, rfl, hb, hc⟩
      · have := HLEN.out; rw [h0] at this; simp at this; omega
      have hc1 := hc k (by rw [← HLEN.out]; exact hlt)
      generalize zs[k]?.getD 0 = c at hc1
      clear hc
      go_wp2
      go_round
      case rel => exact ⟨k + 1, _, by omega, by omega, by go_num, rfl⟩
      case measure => simp [intOf]; omega
    · by_cases hlt1 : k < len
      · have hge : 4000 ≤ k := by omega
        go_wp2
        go_ret
        exact ⟨rfl, cur_new w a zs len cap x HR.out HLEN.out HM.out, (Below.refl _ _).alloc (Nat.le_refl _) _⟩
      · go_wp2
        go_ret
        exact ⟨rfl, cur_new w a zs len cap x HR.out HLEN.out HM.out, (Below.refl _ _).alloc (Nat.le_refl _) _⟩
end Go.Proofs.YtjhaanenkeceiaaDoor
end

section
/- What the program's newSector does: a sector of its own, with the bytes that it is handed, noughts behind them. No condition. -/
namespace Go.Proofs.YtjhaanenkeceiaaDoor
open Go.RowKit
set_option linter.unusedVariables false

/-- A sector with these bytes, noughts behind them. -/
def sec (zs : List Int) : List Int := zs.take 32 ++ List.replicate (32 - zs.length) 0
theorem sec_length (zs : List Int) : (sec zs).length = 32 := by simp [sec]; omega
theorem sec_nil : sec [] = List.replicate 32 0 := by simp [sec]
theorem sec_full {zs : List Int} (h : zs.length = 32) : sec zs = zs := by
  unfold sec
  rw [h, Nat.sub_self, List.replicate_zero, List.append_nil, List.take_of_length_le (by omega)]
theorem isBytes_zeros (n : Nat) : isBytes (List.replicate n 0) := by
  intro j
  rw [List.getElem?_replicate]
  split <;> simp
theorem isBytes_take {zs : List Int} (h : isBytes zs) (n : Nat) : isBytes (zs.take n) := by
  intro j
  rw [List.getElem?_take]
  split
  · exact h j
  · simp
theorem isBytes_drop {zs : List Int} (h : isBytes zs) (n : Nat) : isBytes (zs.drop n) := by
  intro j
  rw [List.getElem?_drop]
  exact h _
theorem splice_sec (zs : List Int) : splice (bcells (List.replicate 32 0)) 0 (bcells (zs.take 32)) = bcells (sec zs) := by
  unfold splice sec bcells
  simp only [List.take_zero, List.nil_append, Nat.zero_add, List.length_map, List.map_append, List.length_take]
  congr 1
  rw [← List.map_drop, List.drop_replicate]
  congr 2
  omega
theorem RdB.cells {w : World} {l h : Nat} {v : Value} {zs : List Int} (r : RdB w l h v zs) (m : Nat) : ∃ a len cap, v = .slice a len cap ∧ len = zs.length ∧ (0 < (bcells (zs.take m)).length → ∃ ad, a = some ad ∧ ∀ j x, (bcells (zs.take m))[j]? = some x → w.cell? (ad.add j) = some x) := by
  obtain ⟨hb, a, len, cap, hv, hl, hh, hr⟩ := r.reads
  refine ⟨a, len, cap, hv, hl, fun h0 => ?_⟩
  have h0' : 0 < (bcells zs).length := by
    rw [bcells_length] at h0 ⊢
    have := List.length_take_le' m zs
    omega
  obtain ⟨ad, ha, hc⟩ := hr.src h0'
  refine ⟨ad, ha, fun j x hx => hc j x ?_⟩
  have e : bcells (zs.take m) = (bcells zs).take m := by simp [bcells]
  rw [e, List.getElem?_take] at hx
  split at hx
  · exact hx
  · cases hx

set_option maxHeartbeats 400000 in
theorem newSector_any (v : Value) (zs : List Int) (l h : Nat) (w : World) (r : RdB w l h v zs) (hh : h ≤ w.heap.size) :
    Calls Tryd.prog 35 #[v] w fun e w' => ∃ u, e = .returned u ∧ Owns w' w.heap.size u (sec zs) ∧ Below w.heap.size w w' := by
  obtain ⟨i0, hi, hz0, hz1, hz2⟩ := info_parts Tryd.infoB
  have hrd := fun (W : World) (hW : Below w.heap.size w W) => (r.same (SameIn.ofBelow hW hh)).cells 32
  obtain ⟨a, len, cap, rfl, hlen, _⟩ := r.cells 32
  have HR : Hid _ := hrd
  have HL : Hid _ := hlen
  have hcs : (bcells (zs.take 32)).length = Nat.min len 32 := by rw [bcells_length, List.length_take, hlen]; exact Nat.min_comm _ _
  have h32 : 0 + (bcells (zs.take 32)).length ≤ (bcells (List.replicate 32 0)).length := by simp; omega
  have HC : Hid _ := hcs
  clear hrd hlen r hcs
  go_enter Tryd.func35, Tryd.ntmps35
  go_wp2_with (first
    | (at_make; refine wpList_make_full _ rfl _ _ 22 rfl w.heap.size 5 i0 (.int .u8 0) 1 Tryd.underlying22 hi hz0 hz1 .i64 .i64 _ _ 32 rfl rfl rfl rfl (by rw [hz2]; omega) (by unfold maxLen; omega) (Nat.le_refl _) ?_; intro w1 hown hgrow; have hb1 : Below w.heap.size w w1 := (Below.refl _ _).grown hgrow (Nat.le_refl _) (fun k h => by cases h); rw [madeCells_bytes] at hown; have HG1 : Hid _ := full_heap hown; clear hown hgrow)
    | (refine wpList_copy_splice rfl (.tmp 5) (.tmp 6) 22 22 rfl 5 Tryd.underlying22 Tryd.sizeB _ _ _ _ _ _ rfl rfl w.heap.size 0 _ 5 HG1.out (bcells (zs.take 32)) HC.out (fun h0 => ⟨rfl, by obtain ⟨a', l', c', e, _, q⟩ := HR.out _ hb1; simp only [Value.slice.injEq] at e; obtain ⟨rfl, rfl, rfl⟩ := e; exact q h0⟩) h32 (bcells_one _) w.heap.size w hb1 (Nat.le_refl _) ?_; intro w2 HG2 hb2))
  all_goals
    go_ret
    have hg := HG2.out
    rw [splice_sec] at hg
    exact ⟨_, rfl, full_owns (by rw [sec_length]) (Nat.le_refl _) (by rw [sec_length]; omega) hg, hb2⟩
end Go.Proofs.YtjhaanenkeceiaaDoor
end
