/- The walk of the law FnExactDiskOk; no condition on the disk. -/
import Derived.Test.YtdpigkcdfjnpdaaDoorWalkBase
namespace Go.Proofs.YtdpigkcdfjnpdaaDoor.fnExactDiskOk
open Go.RowKit
set_option linter.unusedVariables false

set_option maxHeartbeats 2000000 in
theorem walk (v0 : Value) (d0 : Dk) (w : World) (e0 : RdD w 0 w.heap.size v0 d0) (a : Addr) (hg : Glob w a) :
    Calls Tryd.prog 5 #[v0] w fun e w' => e = .returned (.bool true) ∧ Below w.heap.size w w' := by
  obtain ⟨xa, xn, xc, ya, yn, yc, rfl⟩ := e0.open
  have HR : Hid (∀ W, Below w.heap.size w W → RdD W 0 w.heap.size (.agg #[.slice xa xn xc, .slice ya yn yc]) d0) := fun W hW => e0.step (Nat.le_refl _) hW
  have hlt := hg.lt
  have HG : Hid (∀ W, Below w.heap.size w W → Glob W a) := fun W hW => hg.step hW hlt
  clear hg e0
  go_enter Tryd.func5, Tryd.ntmps5
  have vL := VarL.new w (.slice xa xn xc) (.slice ya yn yc)
  have B0 := Below.new (w := w) (.cells #[.slice xa xn xc, .slice ya yn yc] 46)
  generalize hw0 : w.alloc (.cells #[.slice xa xn xc, .slice ya yn yc] 46) = w0 at vL B0
  have HW0 : Hid _ := hw0
  have s0 := vL.lt
  clear hw0
  go_wp2_with fail
  rw [HW0.out]
  refine Calls.mono (szDisk_any _ d0 0 w.heap.size w0 (HR.out _ B0) (Nat.le_of_lt s0)) ?_
  rintro e w1 ⟨rfl, b1⟩
  have vL1 := vL.step b1
  have B1 := B0.trans (b1.mono (Nat.le_of_lt s0))
  have s1 := b1.size
  clear vL B0 b1 HW0
  by_cases hneg : left (sizeD d0) 1048576 < 0
  · have hd : decide (left (sizeD d0) 1048576 < 0) = true := by simpa using hneg
    generalize left (sizeD d0) 1048576 = q at hd
    go_wp2
    go_ret
    exact ⟨rfl, B1⟩
  · have hd : decide (left (sizeD d0) 1048576 < 0) = false := by simpa using hneg
    have HSM : Hid _ := sizeD_small hneg
    generalize left (sizeD d0) 1048576 = q at hd
    clear hneg
    have c1 := vL1.c0
    have c2 := vL1.c1
    go_wp2_with fail
    refine Calls.mono (toDisk_any _ d0 0 w.heap.size w1 (HR.out _ B1) (by omega) HSM.out) ?_
    rintro e w2 ⟨t, rfl, oT, b2⟩
    have vL2 := vL1.step b2
    have B2 := B1.trans (b2.mono B1.size)
    have s2 := b2.size
    clear c1 c2 vL1 B1 b2
    go_wp2_with fail
    refine Calls.mono (specOk_any t d0 w1.heap.size w2.heap.size w2 oT.rd (Nat.le_refl _)) ?_
    rintro e w3 ⟨rfl, b3⟩
    have vL3 := vL2.step b3
    have B3 := B2.trans (b3.mono B2.size)
    have s3 := b3.size
    clear vL2 B2 b3 oT
    have c1 := vL3.c0
    have c2 := vL3.c1
    go_wp2_with fail
    refine Calls.mono (toDisk_any _ d0 0 w.heap.size w3 (HR.out _ B3) (by omega) HSM.out) ?_
    rintro e w4 ⟨x, rfl, oX, b4⟩
    obtain ⟨pa, pn, pc, qa, qn, qc, rfl⟩ := oX.rd.open
    have vL4 := vL3.step b4
    have B4 := B3.trans (b4.mono B3.size)
    have s4 := b4.size
    have b5 := Below.new (w := w4) (.cells #[.slice pa pn pc, .slice qa qn qc] 26)
    have vX := VarD.new w4 (.slice pa pn pc) (.slice qa qn qc)
    have vL5 := vL4.step b5
    have B5 := B4.trans (b5.mono B4.size)
    have oX5 := oX.step (Nat.le_refl _) b5
    generalize hw5 : w4.alloc (.cells #[.slice pa pn pc, .slice qa qn qc] 26) = w5 at vX vL5 B5 oX5
    have HW5 : Hid _ := hw5
    have s5 := vX.lt
    clear hw5 vL3 vL4 B3 B4 b4 oX b5 c1 c2
    have c1 := vX.c0
    have c2 := vX.c1
    go_wp2_with (rw [HW5.out])
    refine Calls.mono (implOk_any _ d0 w3.heap.size w4.heap.size a w5 oX5.rd (by omega) (HG.out _ B5)) ?_
    rintro e w6 ⟨rfl, b6⟩
    have vX6 := vX.step b6
    have vL6 := vL5.step b6
    have B6 := B5.trans (b6.mono B5.size)
    have oX6 := oX5.step (by omega) b6
    have s6 := b6.size
    clear c1 c2 vX vL5 B5 oX5 b6 HW5
    generalize okD d0 = k
    have hkk : (k != k) = false := by simp
    have c1 := vX6.c0
    have c2 := vX6.c1
    have c3 := vL6.c0
    have c4 := vL6.c1
    have hx := vX6.lt
    have hl := vL6.lt
    go_wp2
    go_region_held3 (fun w' => w'.cell? ⟨w4.heap.size, 0, none⟩ = some (.slice pa pn pc) ∧ w'.cell? ⟨w4.heap.size, 1, none⟩ = some (.slice qa qn qc) ∧ w'.cell? ⟨w.heap.size, 0, none⟩ = some (.slice xa xn xc) ∧ w'.cell? ⟨w.heap.size, 1, none⟩ = some (.slice ya yn yc)) (first | go_keep | (refine ⟨?_, ?_, ?_, ?_⟩ <;> assumption)) (first
      | (go_at_call 22; refine Calls.mono (toDisk_any _ d0 0 w.heap.size w6.drew (HR.out _ B6.drew) (by simp; omega) HSM.out) ?_; rintro e w7 ⟨y, rfl, oY, b7⟩; have b7' : Below w6.heap.size w6 w7 := (Below.drew (Below.refl _ _)).trans b7; have k1 := (vX6.step b7').c0; have k2 := (vX6.step b7').c1; have k3 := (vL6.step b7').c0; have k4 := (vL6.step b7').c1)
      | (go_at_call 23; refine Calls.mono (eqDisk_any _ _ d0 d0 w3.heap.size w4.heap.size w6.heap.size w7.heap.size w7 (oX6.step (by omega) b7').rd oY.rd (by have := b7'.size; omega) (Nat.le_refl _) HSM.out HSM.out) ?_; rintro e w8 ⟨rfl, b8⟩; rw [beq_self_eq_true]; have b8' : Below w6.heap.size w6 w8 := b7'.trans (b8.mono b7'.size); have j1 := (vX6.step b8').c0; have j2 := (vX6.step b8').c1; have j3 := (vL6.step b8').c0; have j4 := (vL6.step b8').c1))
    all_goals
      have B8 := B6.trans (b8'.mono B6.size)
      clear k1 k2 k3 k4 j1 j2 j3 j4 c1 c2 c3 c4
      go_wp2
      go_ret
      exact ⟨rfl, B8⟩
end Go.Proofs.YtdpigkcdfjnpdaaDoor.fnExactDiskOk
