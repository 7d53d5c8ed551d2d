/- The program's DiskOk as a plain function; no condition on the disk. It leans on the package's variable errNoSector holding an error of errors.New's make. -/
import Derived.Test.YtjhaanenkeceiaaDoorIs
import Derived.Test.YtjhaanenkeceiaaDoorSpecDisk
namespace Go.Proofs.YtjhaanenkeceiaaDoor
open Go.RowKit
set_option linter.unusedVariables false

abbrev errV (a : Addr) : Value := .iface 131 (.pointer (some a))
/-- The package's variable errNoSector holds a pointer to a. -/
def Glob (w : World) (a : Addr) : Prop := w.cell? ⟨2, 0, none⟩ = some (errV a)
theorem Glob.lt {w : World} {a : Addr} (h : Glob w a) : 2 < w.heap.size := block_lt_of_cell (a := ⟨2, 0, none⟩) h
theorem Glob.step {w w' : World} {a : Addr} {B : Nat} (h : Glob w a) (hb : Below B w w') (hB : 2 < B) : Glob w' a := (hb.cell (p := ⟨2, 0, none⟩) hB).trans h
theorem Glob.turn {w w' : World} {a : Addr} {l k : Nat} (h : Glob w a) (t : Turns l k w w') (hl : 2 < l) : Glob w' a := (World.cell?_of_block (w := w) (a := ⟨2, 0, none⟩) (t.block 2 h.lt (.inl hl))).trans h

set_option maxHeartbeats 400000 in
theorem safeAt_in (b g off k n c : Nat) (x : Value) (w : World) (c0 : w.cell? ⟨b, 0, none⟩ = some (.slice (some ⟨g, off, none⟩) n c)) (c1 : w.cell? ⟨g, off + k, none⟩ = some x) (hk : k < n) (hn : n ≤ 9223372036854775807) :
    Calls Tryd.prog 77 #[.pointer (some ⟨b, 0, none⟩), .int .i64 k] w fun e w' => e = .returned (.tuple #[x, .nilIface]) ∧ w' = w := by
  have hi0 : (0 : Int) ≤ (k : Int) := by omega
  have hi1 : (k : Int) < (n : Int) := by omega
  have hd1 : decide ((k : Int) < 0) = false := by simp
  have hd2 : decide ((n : Int) ≤ (k : Int)) = false := by simp; omega
  go_enter Tryd.func77, Tryd.ntmps77
  go_wp2
  go_ret2
  exact ⟨rfl, rfl⟩
set_option maxHeartbeats 400000 in
theorem safeAt_out (b n c : Nat) (xa : Option Addr) (p : Int) (a : Addr) (w : World) (c0 : w.cell? ⟨b, 0, none⟩ = some (.slice xa n c)) (hg : Glob w a) (hp : p < 0 ∨ (n : Int) ≤ p) (hn : n ≤ 9223372036854775807) :
    Calls Tryd.prog 77 #[.pointer (some ⟨b, 0, none⟩), .int .i64 p] w fun e w' => e = .returned (.tuple #[.slice none 0 0, errV a]) ∧ ∃ m, w' = w.drewN m := by
  have hg' : w.cell? ⟨2, 0, none⟩ = some (.iface 131 (.pointer (some a))) := hg
  clear hg
  by_cases h0 : p < 0
  · have hd1 : decide (p < 0) = true := by simpa using h0
    go_enter Tryd.func77, Tryd.ntmps77
    go_wp2
    go_quiet (fail)
    go_wp2
    go_ret2
    exact ⟨rfl, _, rfl⟩
  · have hd1 : decide (p < 0) = false := by simpa using h0
    have hd2 : decide ((n : Int) ≤ p) = true := by simp; omega
    go_enter Tryd.func77, Tryd.ntmps77
    go_wp2
    go_quiet (fail)
    go_wp2
    go_ret2
    exact ⟨rfl, _, rfl⟩

set_option maxHeartbeats 1000000 in
theorem sectorsOk_any (b : Nat) (x y : Value) (d1 : List (List Int)) (l h : Nat) (w : World) (hv : VarD w b x y) (r : RdBB w l h x d1) :
    Calls Tryd.prog 74 #[.pointer (some ⟨b, 0, none⟩)] w fun e w' => e = .returned (.bool (decide (d1.length ≤ 2000) && d1.all secOk)) ∧ w' = w := by
  obtain ⟨xa, n, xc, vs, rfl, hn, hhd, hc, he⟩ := r
  have hnm : n ≤ 9223372036854775807 := by have := hhd.1; have := hhd.2.1; unfold maxLen at this; omega
  have c00 := hv.c0
  have HN : Hid _ := hn
  have HC : Hid _ := hc
  have HE : Hid _ := he
  by_cases hbig : n ≤ 2000
  · rw [show decide (d1.length ≤ 2000) = true by simp; omega, Bool.true_and]
    clear hn hc he hhd hv
    go_enter Tryd.func74, Tryd.ntmps74
    go_wp2
    go_loop [16] (fun i => ∃ k : Nat, k ≤ n ∧ i = .int .i64 k ∧ Hid ((d1.take k).all secOk = true)) (fun i => n - (intOf i).toNat)
    case atStart => exact ⟨0, Nat.zero_le _, rfl, by show _ = _; simp⟩
    case round =>
      obtain ⟨k, hk, rfl, HA⟩ := hrel
      by_cases hlt : k < n
      · obtain ⟨g, off, rfl, _, _, hcc⟩ := HC.out.resolve_left (by omega)
        have h1 := hcc k hlt
        obtain ⟨_, va, vn, vc, hv, hvn, hvh, _⟩ := HE.out k hlt
        have hvm : vn ≤ 9223372036854775807 := by have := hvh.1; have := hvh.2.1; unfold maxLen at this; omega
        rw [hv] at h1
        have hst := all_step secOk d1 [] k (by rw [← HN.out]; exact hlt) HA.out
        have hso : secOk (d1[k]?.getD []) = (vn == 32) := by unfold secOk; rw [← hvn]
        rw [hso] at hst
        have HST : Hid _ := hst
        clear hst hso hcc hv hvn hvh HA
        by_cases h32 : vn = 32
        · have HF : Hid ((d1.take (k + 1)).all secOk = true) := HST.out.1 (by simp [h32])
          subst h32
          clear HST
          go_wp2
          go_round
          case rel => exact ⟨k + 1, by omega, by go_num, HF⟩
          case measure => simp [intOf]; omega
        · have HF : Hid (d1.all secOk = false) := HST.out.2 (by simp [h32])
          have hd : ((vn : Int) == 32) = false := by simp; omega
          clear HST
          go_wp2
          go_ret
          exact ⟨by rw [HF.out]; rfl, rfl⟩
      · have hkn : k = n := by omega
        subst hkn
        have HA1 : Hid (d1.all secOk = true) := by
          have := HA.out
          rwa [List.take_of_length_le (by rw [← HN.out]; exact Nat.le_refl _)] at this
        clear HA
        go_wp2
        go_ret
        exact ⟨by rw [HA1.out]; rfl, rfl⟩
  · rw [show decide (d1.length ≤ 2000) = false by simp; omega, Bool.false_and]
    have h2 : 2000 < n := by omega
    clear hn hc he hhd hv hbig
    go_enter Tryd.func74, Tryd.ntmps74
    go_wp2
    go_ret
    exact ⟨rfl, rfl⟩

set_option maxHeartbeats 2000000 in
theorem waitsOk_any (b : Nat) (x y : Value) (d : Dk) (l h : Nat) (a : Addr) (w : World) (hv : VarD w b x y) (r : RdBB w l h x d.1) (s : RdWs w l h y d.2) (hh : h ≤ w.heap.size) (hg : Glob w a) :
    Calls Tryd.prog 75 #[.pointer (some ⟨b, 0, none⟩)] w fun e w' => e = .returned (.bool (decide (d.2.length ≤ 2000) && d.2.all (waitOk d.1.length))) ∧ Below w.heap.size w w' := by
  obtain ⟨d1, d2⟩ := d
  have R1 := fun W hW => r.same (SameIn.ofBelow (w' := W) hW hh)
  obtain ⟨xa, n, xc, vs, rfl, hn, hhd, hc, he⟩ := r
  obtain ⟨ya, m, yc, us, rfl, hm, hhd', hc', he'⟩ := s
  have hnm : n ≤ 9223372036854775807 := by have := hhd.1; have := hhd.2.1; unfold maxLen at this; omega
  have hmm : m ≤ 9223372036854775807 := by have := hhd'.1; have := hhd'.2.1; unfold maxLen at this; omega
  have c00 := hv.c0
  have c01 := hv.c1
  have hbw := hv.lt
  have hgl := hg.lt
  replace hn : n = d1.length := hn
  replace hm : m = d2.length := hm
  have HN : Hid _ := hn
  have HM : Hid _ := hm
  have HC : Hid _ := hc
  have HC' : Hid _ := hc'
  have HE' : Hid _ := he'
  have HV : Hid _ := hv
  have HGL : Hid _ := hg
  simp only
  by_cases hbig : m ≤ 2000
  · rw [show decide (d2.length ≤ 2000) = true by simp; omega, Bool.true_and, ← hn]
    clear hn hm hc hc' he he' hhd hhd' R1 hv hg
    go_enter Tryd.func75, Tryd.ntmps75
    go_wp2
    go_loopw [18] (fun i wr => ∃ j : Nat, j ≤ m ∧ i = .int .i64 j ∧ Below w.heap.size w wr ∧ Hid ((d2.take j).all (waitOk n) = true)) (fun i _ => m - (intOf i).toNat)
    case atStart => exact ⟨0, Nat.zero_le _, rfl, Below.refl _ _, by show _ = _; simp⟩
    case round =>
      clear c01 c00
      obtain ⟨j, hj, rfl, hbel, HA⟩ := hrel
      by_cases hlt : j < m
      · obtain ⟨g, off, rfl, _, hgh, hcc⟩ := HC'.out.resolve_left (by omega)
        have h1 := (hbel.cell (p := ⟨g, off + j * 2, none⟩) (by show g < w.heap.size; omega)).trans (hcc j hlt).1
        have h2 := (hbel.cell (p := ⟨g, off + j * 2 + 1, none⟩) (by show g < w.heap.size; omega)).trans (hcc j hlt).2
        obtain ⟨_, va, vn, vc, hv, hvn, hvh, _⟩ := HE'.out j hlt
        have hvm : vn ≤ 9223372036854775807 := by have := hvh.1; have := hvh.2.1; unfold maxLen at this; omega
        rw [hv] at h2
        have hst := all_step (waitOk n) d2 (0, []) j (by rw [← HM.out]; exact hlt) HA.out
        have hso : waitOk n (d2[j]?.getD (0, [])) = (decide (0 ≤ (d2[j]?.getD (0, [])).1) && decide ((d2[j]?.getD (0, [])).1 < (n : Int)) && vn == 32) := by unfold waitOk secOk; rw [← hvn]
        rw [hso] at hst
        generalize (d2[j]?.getD (0, [])).1 = p at h1 hst
        have HST : Hid _ := hst
        have hi0 : (0 : Int) ≤ (j : Int) := by omega
        have hi1 : (j : Int) < (m : Int) := by omega
        have hbe1 : Below w.heap.size w (wr.alloc (.cells #[.int .i64 p, .slice va vn vc] 75)) := hbel.alloc hbel.size _
        have k00 := (VarD.step HV.out hbe1).c0
        have hgl2 := Glob.step HGL.out hbe1 hgl
        have HB1 : Hid _ := hbe1
        have hgl3 : (wr.alloc (.cells #[.int .i64 p, .slice va vn vc] 75)).cell? ⟨2, 0, none⟩ = some (.iface 131 (.pointer (some a))) := hgl2
        clear hst hso hcc hv hvn hvh HA
        by_cases hin : 0 ≤ p ∧ p < (n : Int)
        · obtain ⟨q, rfl⟩ : ∃ q : Nat, p = (q : Int) := ⟨p.toNat, by omega⟩
          have hqn : q < n := by omega
          obtain ⟨gx, ox, rfl, _, hgx, hcx⟩ := HC.out.resolve_left (by omega)
          have hc1 := (hbe1.cell (p := ⟨gx, ox + q, none⟩) (by show gx < w.heap.size; omega)).trans (hcx q hqn)
          clear hgl2 hbe1 hcx
          have c40 : (wr.alloc (.cells #[.int .i64 (q : Int), .slice va vn vc] 75)).cell? ⟨wr.heap.size, 1, none⟩ = some (.slice va vn vc) := by rw [World.cell?_alloc_at _ _ _ _ rfl]; rfl
          generalize hw4 : wr.alloc (.cells #[.int .i64 (q : Int), .slice va vn vc] 75) = w4 at hgl3 k00 hc1 c40 HB1
          have HW4 : Hid _ := hw4
          clear hw4
          by_cases h32 : vn = 32
          · have HF : Hid ((d2.take (j + 1)).all (waitOk n) = true) := HST.out.1 (by simp [h32]; omega)
            subst h32
            clear HST
            go_wp2_with fail
            rw [HW4.out]
            refine (safeAt_in b gx ox q n xc _ w4 k00 hc1 hqn hnm).mono ?_
            rintro e w5 ⟨rfl, hw5⟩
            subst hw5
            go_wp2_with fail
            refine (is_nil a w5).mono ?_
            rintro e w6 ⟨rfl, hw6⟩
            subst hw6
            go_wp2
            go_roundw
            case rel => exact ⟨j + 1, by omega, by go_num, HB1.out, HF⟩
            case measure => simp [intOf]; omega
          · have HF : Hid (d2.all (waitOk n) = false) := HST.out.2 (by simp [h32])
            have hd3 : ((vn : Int) == 32) = false := by simp; omega
            clear HST
            go_wp2_with fail
            rw [HW4.out]
            refine (safeAt_in b gx ox q n xc _ w4 k00 hc1 hqn hnm).mono ?_
            rintro e w5 ⟨rfl, hw5⟩
            subst hw5
            go_wp2_with fail
            refine (is_nil a w5).mono ?_
            rintro e w6 ⟨rfl, hw6⟩
            subst hw6
            go_wp2
            go_ret
            exact ⟨by rw [HF.out]; rfl, HB1.out⟩
        · have HF : Hid (d2.all (waitOk n) = false) := HST.out.2 (by
            by_cases hp : 0 ≤ p
            · have : ¬ p < (n : Int) := fun h => hin ⟨hp, h⟩
              simp [this]
            · simp [hp])
          have hpo : p < 0 ∨ (n : Int) ≤ p := by omega
          have c40 : (wr.alloc (.cells #[.int .i64 p, .slice va vn vc] 75)).cell? ⟨wr.heap.size, 1, none⟩ = some (.slice va vn vc) := by rw [World.cell?_alloc_at _ _ _ _ rfl]; rfl
          generalize hw4 : wr.alloc (.cells #[.int .i64 p, .slice va vn vc] 75) = w4 at hgl3 hgl2 k00 c40 HB1
          have HW4 : Hid _ := hw4
          clear hw4
          clear HST hin hbe1
          go_wp2_with fail
          rw [HW4.out]
          refine (safeAt_out b n xc xa p a w4 k00 hgl2 hpo hnm).mono ?_
          rintro e w5 ⟨rfl, nq, hw5⟩
          subst hw5
          go_wp2_with fail
          refine (is_same a _).mono ?_
          rintro e w6 ⟨rfl, hw6⟩
          subst hw6
          go_wp2
          go_ret
          exact ⟨by rw [HF.out]; rfl, below_drewN2 HB1.out _⟩
      · have hjm : j = m := by omega
        subst hjm
        have HA2 : Hid (d2.all (waitOk n) = true) := by
          have := HA.out
          rwa [List.take_of_length_le (by rw [← HM.out]; exact Nat.le_refl _)] at this
        clear HA
        go_wp2
        go_ret
        exact ⟨by rw [HA2.out]; rfl, hbel⟩
  · rw [show decide (d2.length ≤ 2000) = false by simp; omega, Bool.false_and]
    have h2 : 2000 < m := by omega
    clear hn hm hc hc' he he' hhd hhd' R1 hv hg hbig
    go_enter Tryd.func75, Tryd.ntmps75
    go_wp2
    go_ret
    exact ⟨rfl, Below.refl _ _⟩

set_option maxHeartbeats 1000000 in
theorem implOk_any (v : Value) (d : Dk) (l h : Nat) (a : Addr) (w : World) (r : RdD w l h v d) (hh : h ≤ w.heap.size) (hg : Glob w a) :
    Calls Tryd.prog 48 #[v] w fun e w' => e = .returned (.bool (okD d)) ∧ Below w.heap.size w w' := by
  obtain ⟨xa, xn, xc, ya, yn, yc, rfl⟩ := r.open
  have b1 := Below.new (w := w) (.cells #[.slice xa xn xc, .slice ya yn yc] 26)
  have v1 := VarD.new w (.slice xa xn xc) (.slice ya yn yc)
  obtain ⟨x, y, he, r1, r2⟩ := r.step hh b1
  simp only [Value.agg.injEq, Array.mk.injEq, List.cons.injEq, and_true] at he
  obtain ⟨rfl, rfl⟩ := he
  have g1 := hg.step b1 hg.lt
  have s1 := b1.size
  have R1 := sectorsOk_any w.heap.size _ _ d.1 l h _ v1 r1
  have R2 := waitsOk_any w.heap.size _ _ d l h a _ v1 r1 r2 (by omega) g1
  have hok : okD d = ((decide (d.1.length ≤ 2000) && d.1.all secOk) && (decide (d.2.length ≤ 2000) && d.2.all (waitOk d.1.length))) := by
    unfold okD
    cases decide (d.1.length ≤ 2000) <;> cases decide (d.2.length ≤ 2000) <;> cases d.1.all secOk <;> simp
  rw [hok]
  generalize (decide (d.1.length ≤ 2000) && d.1.all secOk) = t1 at R1 ⊢
  generalize (decide (d.2.length ≤ 2000) && d.2.all (waitOk d.1.length)) = t2 at R2 ⊢
  have RC1 : Hid _ := R1
  have RC2 : Hid _ := R2
  have HB : Hid _ := b1
  clear R1 R2 b1 r1 r2 r v1 g1 hok
  cases t1 with
  | false =>
    go_enter Tryd.func48, Tryd.ntmps48
    go_wp2_with fail
    refine Calls.mono RC1.out ?_
    rintro e w2 ⟨rfl, rfl⟩
    go_wp2
    go_ret
    exact ⟨rfl, HB.out⟩
  | true =>
    go_enter Tryd.func48, Tryd.ntmps48
    go_wp2_with fail
    refine Calls.mono RC1.out ?_
    rintro e w2 ⟨rfl, rfl⟩
    go_wp2_with fail
    refine Calls.mono RC2.out ?_
    rintro e w3 ⟨rfl, b3⟩
    have B3 := HB.out.trans (b3.mono s1)
    clear b3
    go_wp2
    go_ret
    exact ⟨by simp, B3⟩
end Go.Proofs.YtjhaanenkeceiaaDoor
