/- Journals: what is read and owned of them, the variables they lie in, and what the verifier's helpers do with them. Condition: the disk is of at most 2^21 bytes and writes. -/
import Derived.Test.YtjhaanenkeceiaaDoorSizes
import Derived.Test.YtjhaanenkeceiaaDoorWalkBase
import Derived.Test.YtjhaanenkeceiaaDoorApart
namespace Go.Proofs.YtjhaanenkeceiaaDoor
open Go.RowKit
set_option linter.unusedVariables false
set_option linter.unusedSimpArgs false

abbrev Jn := Dk × Int × Int
/-- v is the journal j, its disk's memory in blocks l .. h-1. -/
def RdJ (w : World) (l h : Nat) (v : Value) (j : Jn) : Prop := ∃ x y, v = .agg #[x, y, .int .i64 j.2.1, .int .i64 j.2.2] ∧ RdD w l h (.agg #[x, y]) j.1
def OwJ (w : World) (l h : Nat) (v : Value) (j : Jn) : Prop := ∃ x y, v = .agg #[x, y, .int .i64 j.2.1, .int .i64 j.2.2] ∧ OwD w l h (.agg #[x, y]) j.1
def OwJ2 (w : World) (l h : Nat) (v : Value) (j : Jn) : Prop := ∃ x y, v = .agg #[x, y, .int .i64 j.2.1, .int .i64 j.2.2] ∧ OwD2 w l h (.agg #[x, y]) j.1
theorem OwJ.rd {w : World} {l h : Nat} {v : Value} {j : Jn} (o : OwJ w l h v j) : RdJ w l h v j := by obtain ⟨x, y, hv, o⟩ := o; exact ⟨x, y, hv, o.rd⟩
theorem OwJ2.rd {w : World} {l h : Nat} {v : Value} {j : Jn} (o : OwJ2 w l h v j) : RdJ w l h v j := by obtain ⟨x, y, hv, o⟩ := o; exact ⟨x, y, hv, o.rd⟩
theorem RdJ.same {w w' : World} {l h : Nat} {v : Value} {j : Jn} (r : RdJ w l h v j) (t : SameIn l h w w') : RdJ w' l h v j := by obtain ⟨x, y, hv, o⟩ := r; exact ⟨x, y, hv, o.same t⟩
theorem OwJ.same {w w' : World} {l h : Nat} {v : Value} {j : Jn} (r : OwJ w l h v j) (t : SameIn l h w w') : OwJ w' l h v j := by obtain ⟨x, y, hv, o⟩ := r; exact ⟨x, y, hv, o.same t⟩
theorem OwJ2.same {w w' : World} {l h : Nat} {v : Value} {j : Jn} (r : OwJ2 w l h v j) (t : SameIn l h w w') : OwJ2 w' l h v j := by obtain ⟨x, y, hv, o⟩ := r; exact ⟨x, y, hv, o.same t⟩
theorem RdJ.step {w w' : World} {l h : Nat} {v : Value} {j : Jn} (r : RdJ w l h v j) (hh : h ≤ w.heap.size) (hb : Below w.heap.size w w') : RdJ w' l h v j := r.same (SameIn.ofBelow hb hh)
theorem OwJ.step {w w' : World} {l h : Nat} {v : Value} {j : Jn} (r : OwJ w l h v j) (hh : h ≤ w.heap.size) (hb : Below w.heap.size w w') : OwJ w' l h v j := r.same (SameIn.ofBelow hb hh)
theorem OwJ2.step {w w' : World} {l h : Nat} {v : Value} {j : Jn} (r : OwJ2 w l h v j) (hh : h ≤ w.heap.size) (hb : Below w.heap.size w w') : OwJ2 w' l h v j := r.same (SameIn.ofBelow hb hh)
theorem RdJ.wide {w : World} {l h l' h' : Nat} {v : Value} {j : Jn} (r : RdJ w l h v j) (h1 : l' ≤ l) (h2 : h ≤ h') : RdJ w l' h' v j := by obtain ⟨x, y, hv, o⟩ := r; exact ⟨x, y, hv, o.wide h1 h2⟩
theorem RdJ.open {w : World} {l h : Nat} {v : Value} {j : Jn} (r : RdJ w l h v j) : ∃ xa xn xc ya yn yc, v = .agg #[.slice xa xn xc, .slice ya yn yc, .int .i64 j.2.1, .int .i64 j.2.2] ∧ RdD w l h (.agg #[.slice xa xn xc, .slice ya yn yc]) j.1 := by
  obtain ⟨x, y, hv, o⟩ := r
  obtain ⟨xa, xn, xc, ya, yn, yc, he⟩ := o.open
  simp only [Value.agg.injEq, Array.mk.injEq, List.cons.injEq, and_true] at he
  obtain ⟨rfl, rfl⟩ := he
  exact ⟨xa, xn, xc, ya, yn, yc, hv, o⟩

/-- A variable of type T that holds a journal. -/
def VarJ (T : TypeId) (w : World) (b : Nat) (x y : Value) (p q : Int) : Prop := w.heap[b]? = some (.cells #[x, y, .int .i64 p, .int .i64 q] T (0, 0))
section
variable {T : TypeId} {w w' : World} {b : Nat} {x y : Value} {p q : Int}
theorem VarJ.c0 (h : VarJ T w b x y p q) : w.cell? ⟨b, 0, none⟩ = some x := by rw [cell_of_row _ _ _ _ _ _ h]; rfl
theorem VarJ.c1 (h : VarJ T w b x y p q) : w.cell? ⟨b, 1, none⟩ = some y := by rw [cell_of_row _ _ _ _ _ _ h]; rfl
theorem VarJ.c2 (h : VarJ T w b x y p q) : w.cell? ⟨b, 2, none⟩ = some (.int .i64 p) := by rw [cell_of_row _ _ _ _ _ _ h]; rfl
theorem VarJ.c3 (h : VarJ T w b x y p q) : w.cell? ⟨b, 3, none⟩ = some (.int .i64 q) := by rw [cell_of_row _ _ _ _ _ _ h]; rfl
theorem VarJ.f (h : VarJ T w b x y p q) (i : Nat) : w.frozen? ⟨b, i, none⟩ = false := frozen_of_row _ _ _ _ _ h
theorem VarJ.lt (h : VarJ T w b x y p q) : b < w.heap.size := lt_of_block h
theorem VarJ.step (h : VarJ T w b x y p q) (hb : Below w.heap.size w w') : VarJ T w' b x y p q := (hb.block b h.lt).trans h
theorem VarJ.turn {l k : Nat} (h : VarJ T w b x y p q) (t : Turns l k w w') (ho : b < l ∨ k ≤ b) : VarJ T w' b x y p q := (t.block b h.lt ho).trans h
theorem VarJ.new (w : World) (x y : Value) (p q : Int) : VarJ T (w.alloc (.cells #[x, y, .int .i64 p, .int .i64 q] T)) w.heap.size x y p q := heap_alloc_new w _
end

set_option maxHeartbeats 2000000 in
theorem toJournal_any (v : Value) (j : Jn) (l h : Nat) (w : World) (r : RdJ w l h v j) (hh : h ≤ w.heap.size) (hs : Small j.1) :
    Calls Tryd.prog 21 #[v] w fun e w' => ∃ u, e = .returned u ∧ OwJ w' w.heap.size w'.heap.size u j ∧ Below w.heap.size w w' := by
  obtain ⟨xa, xn, xc, ya, yn, yc, rfl, r1⟩ := r.open
  clear r
  obtain ⟨d, p, q⟩ := j
  have b0 := Below.new (w := w) (.cells #[.slice xa xn xc, .slice ya yn yc, .int .i64 p, .int .i64 q] 50)
  have v0 := VarJ.new (T := 50) w (.slice xa xn xc) (.slice ya yn yc) p q
  generalize hw0 : w.alloc (.cells #[.slice xa xn xc, .slice ya yn yc, .int .i64 p, .int .i64 q] 50) = w0 at b0 v0
  have s0 : w0.heap.size = w.heap.size + 1 := by rw [← hw0]; simp
  have b1 := Below.new (w := w0) (.cells #[.slice none 0 0, .slice none 0 0, .int .i64 0, .int .i64 0] 30)
  have v1 := VarJ.new (T := 30) w0 (.slice none 0 0) (.slice none 0 0) 0 0
  rw [s0] at v1
  generalize hw1 : w0.alloc (.cells #[.slice none 0 0, .slice none 0 0, .int .i64 0, .int .i64 0] 30) = w1 at b1 v1
  have s1 : w1.heap.size = w.heap.size + 1 + 1 := by rw [← hw1]; simp [s0]
  have b2 := Below.new (w := w1) (.cells #[.slice none 0 0, .slice none 0 0, .int .i64 0, .int .i64 0] 30)
  have v2 := VarJ.new (T := 30) w1 (.slice none 0 0) (.slice none 0 0) 0 0
  rw [s1] at v2
  have vA := (v0.step b1).step b2
  have vR := v1.step b2
  generalize hw2 : w1.alloc (.cells #[.slice none 0 0, .slice none 0 0, .int .i64 0, .int .i64 0] 30) = w2 at b2 v2 vA vR
  have s2 : w2.heap.size = w.heap.size + 3 := by rw [← hw2]; simp [s1]
  have HW : Hid (((w.alloc (.cells #[.slice xa xn xc, .slice ya yn yc, .int .i64 p, .int .i64 q] 50)).alloc (.cells #[.slice none 0 0, .slice none 0 0, .int .i64 0, .int .i64 0] 30)).alloc (.cells #[.slice none 0 0, .slice none 0 0, .int .i64 0, .int .i64 0] 30) = w2) := by show _ = _; rw [hw0, hw1, hw2]
  have B2 : Below w.heap.size w w2 := (b0.trans (b1.mono (by omega))).trans (b2.mono (by omega))
  have HTD : Hid _ := toDisk_any _ d l h w2 (r1.step hh B2) (by omega) hs
  have k0 := vA.c0
  have k1 := vA.c1
  have hs2 : w.heap.size + 3 ≤ w2.heap.size := by omega
  have HVA : Hid (VarJ _ w2 w.heap.size _ _ _ _) := vA
  have HVR : Hid (VarJ _ w2 (w.heap.size + 1) _ _ _ _) := vR
  have HVO : Hid (VarJ _ w2 (w.heap.size + 1 + 1) _ _ _ _) := v2
  have HB2 : Hid _ := B2
  clear hw0 hw1 hw2 b0 b1 b2 v0 v1 v2 vA vR s0 s1 s2 r1 hs B2
  go_enter Tryd.func21, Tryd.ntmps21
  go_wp2_with (rw [HW.out])
  refine Calls.mono HTD.out ?_
  rintro e w3 ⟨u, rfl, oU, b3⟩
  obtain ⟨ua, un, uc, va, vn, vc, rfl⟩ := oU.rd.open
  have s3 := b3.size
  have A3 := VarJ.step HVA.out b3
  have R3 := VarJ.step HVR.out b3
  have O3 := VarJ.step HVO.out b3
  have a2 := A3.c2
  have a3 := A3.c3
  have o0 := O3.c0
  have o1 := O3.c1
  have o2 := O3.c2
  have o3 := O3.c3
  have g0 := O3.f 0
  have g1 := O3.f 1
  have g2 := O3.f 2
  have g3 := O3.f 3
  have e0 := R3.c0
  have e1 := R3.c1
  have e2 := R3.c2
  have e3 := R3.c3
  have f0 := R3.f 0
  have f1 := R3.f 1
  have f2 := R3.f 2
  have f3 := R3.f 3
  have HOU : Hid (OwD w3 w2.heap.size w3.heap.size _ d) := oU
  have HB3 : Hid (Below w.heap.size w w3) := HB2.out.trans (b3.mono HB2.out.size)
  clear oU b3 A3 R3 O3 HVA HVR HVO HB2 HTD k0 k1
  go_wp2
  refine bodyPost_ret (v := .agg #[.slice ua un uc, .slice va vn vc, .int .i64 p, .int .i64 q]) (by simp [results, Tryd.results21, go_sem, e0, e1, e2, e3]) rfl ⟨_, rfl, ?_, ?_⟩
  · have s : ∀ (W : World) (b i : Nat) (z : Value), b < w2.heap.size → SameIn w2.heap.size w3.heap.size W (W.setCell ⟨b, i, none⟩ z) := fun W b i z hb => SameIn.set (p := ⟨b, i, none⟩) (.inl hb)
    refine ⟨_, _, rfl, OwD.wide (OwD.same HOU.out ?_) (by omega) (by simp)⟩
    repeat (refine SameIn.trans ?_ (s _ _ _ _ (by omega)))
    exact SameIn.refl _ _ _
  · have s : ∀ (W : World) (b i : Nat) (z : Value), w.heap.size ≤ b → Below w.heap.size w W → Below w.heap.size w (W.setCell ⟨b, i, none⟩ z) := fun W b i z hb hW => hW.setCell hb z
    repeat (refine s _ _ _ _ (by omega) ?_)
    exact HB3.out

set_option maxHeartbeats 2000000 in
theorem eqJournal_same (v u : Value) (j : Jn) (l h l' h' : Nat) (w : World) (r : RdJ w l h v j) (s : RdJ w l' h' u j) (hh : h ≤ w.heap.size) (hh' : h' ≤ w.heap.size) (hs : Small j.1) :
    Calls Tryd.prog 23 #[v, u] w fun e w' => e = .returned (.bool true) ∧ Below w.heap.size w w' := by
  obtain ⟨xa, xn, xc, ya, yn, yc, rfl, r1⟩ := r.open
  clear r
  obtain ⟨xa', xn', xc', ya', yn', yc', rfl, s1⟩ := s.open
  clear s
  obtain ⟨d, p, q⟩ := j
  have b0 := Below.new (w := w) (.cells #[.slice xa xn xc, .slice ya yn yc, .int .i64 p, .int .i64 q] 30)
  have v0 := VarJ.new (T := 30) w (.slice xa xn xc) (.slice ya yn yc) p q
  generalize hw0 : w.alloc (.cells #[.slice xa xn xc, .slice ya yn yc, .int .i64 p, .int .i64 q] 30) = w0 at b0 v0
  have s0 : w0.heap.size = w.heap.size + 1 := by rw [← hw0]; simp
  have b1 := Below.new (w := w0) (.cells #[.slice xa' xn' xc', .slice ya' yn' yc', .int .i64 p, .int .i64 q] 30)
  have v1 := VarJ.new (T := 30) w0 (.slice xa' xn' xc') (.slice ya' yn' yc') p q
  rw [s0] at v1
  have vA := v0.step b1
  generalize hw1 : w0.alloc (.cells #[.slice xa' xn' xc', .slice ya' yn' yc', .int .i64 p, .int .i64 q] 30) = w1 at b1 v1 vA
  have HW : Hid ((w.alloc (.cells #[.slice xa xn xc, .slice ya yn yc, .int .i64 p, .int .i64 q] 30)).alloc (.cells #[.slice xa' xn' xc', .slice ya' yn' yc', .int .i64 p, .int .i64 q] 30) = w1) := by show _ = _; rw [hw0, hw1]
  have B1 : Below w.heap.size w w1 := b0.trans (b1.mono (by omega))
  have hsz := B1.size
  have HEQ : Hid _ := eqDisk_any _ _ d d l h l' h' w1 (r1.step hh B1) (s1.step hh' B1) (by omega) (by omega) hs hs
  rw [beq_self_eq_true] at HEQ
  have k0 := vA.c0
  have k1 := vA.c1
  have j0 := v1.c0
  have j1 := v1.c1
  have HVA : Hid (VarJ _ w1 w.heap.size _ _ _ _) := vA
  have HVB : Hid (VarJ _ w1 (w.heap.size + 1) _ _ _ _) := v1
  have HB1 : Hid _ := B1
  have hp : (p != p) = false := by simp
  have hq : (q != q) = false := by simp
  clear hw0 hw1 b0 b1 v0 v1 vA s0 r1 s1 hs B1
  go_enter Tryd.func23, Tryd.ntmps23
  go_wp2_with (rw [HW.out])
  refine Calls.mono HEQ.out ?_
  rintro e w2 ⟨rfl, b2⟩
  have k2 := (VarJ.step HVA.out b2).c2
  have k3 := (VarJ.step HVA.out b2).c3
  have j2 := (VarJ.step HVB.out b2).c2
  have j3 := (VarJ.step HVB.out b2).c3
  have HB2 : Hid _ := HB1.out.trans (b2.mono HB1.out.size)
  clear b2 HVA HVB HB1 HEQ k0 k1 j0 j1
  go_wp2
  go_ret
  exact ⟨rfl, HB2.out⟩

set_option maxHeartbeats 1000000 in
theorem markJournal_any (v : Value) (j : Jn) (l h k : Nat) (w : World) (o : OwJ w l h v j) (hh : h ≤ w.heap.size) (hs : Small j.1) (hk : k ≤ 2097152) :
    Calls Tryd.prog 25 #[v, .int .i64 k] w fun e w' => e = .returned (.int .i64 ((k : Int) + (lenD j.1 : Int))) ∧ OwJ w' l h v (markD j.1 k, j.2) ∧ Turns l h w w' := by
  obtain ⟨x, y, rfl, o⟩ := o
  obtain ⟨xa, xn, xc, ya, yn, yc, he⟩ := o.rd.open
  simp only [Value.agg.injEq, Array.mk.injEq, List.cons.injEq, and_true] at he
  obtain ⟨rfl, rfl⟩ := he
  obtain ⟨d, p, q⟩ := j
  have b0 := Below.new (w := w) (.cells #[.slice xa xn xc, .slice ya yn yc, .int .i64 p, .int .i64 q] 30)
  have v0 := VarJ.new (T := 30) w (.slice xa xn xc) (.slice ya yn yc) p q
  generalize hw0 : w.alloc (.cells #[.slice xa xn xc, .slice ya yn yc, .int .i64 p, .int .i64 q] 30) = w0 at b0 v0
  have HW : Hid _ := hw0
  have hsz := b0.size
  have HMK : Hid _ := markDisk_any _ d l h k w0 (o.same (SameIn.ofBelow b0 hh)) (by omega) hs hk
  have k0 := v0.c0
  have k1 := v0.c1
  have HB0 : Hid _ := b0
  clear hw0 b0 v0 o hs
  go_enter Tryd.func25, Tryd.ntmps25
  go_wp2_with (rw [HW.out])
  refine Calls.mono HMK.out ?_
  rintro e w1 ⟨rfl, o1, t1⟩
  have HO : Hid _ := o1
  have HT : Hid (Turns l h w w1) := (Turns.ofBelow HB0.out).trans t1
  clear o1 t1 HMK
  go_wp2
  go_ret
  exact ⟨rfl, ⟨_, _, rfl, HO.out⟩, HT.out⟩
set_option maxHeartbeats 1000000 in
theorem markJournalP_any (v : Value) (j : Jn) (l h k : Nat) (w : World) (o : OwJ2 w l h v j) (hh : h ≤ w.heap.size) (hs : Small j.1) (hk : k ≤ 2097152) :
    Calls Tryd.prog 25 #[v, .int .i64 k] w fun e w' => e = .returned (.int .i64 ((k : Int) + (lenD j.1 : Int))) ∧ OwJ2 w' l h v (markD j.1 k, j.2) ∧ Turns l h w w' := by
  obtain ⟨x, y, rfl, o⟩ := o
  obtain ⟨xa, xn, xc, ya, yn, yc, he⟩ := o.rd.open
  simp only [Value.agg.injEq, Array.mk.injEq, List.cons.injEq, and_true] at he
  obtain ⟨rfl, rfl⟩ := he
  obtain ⟨d, p, q⟩ := j
  have b0 := Below.new (w := w) (.cells #[.slice xa xn xc, .slice ya yn yc, .int .i64 p, .int .i64 q] 30)
  have v0 := VarJ.new (T := 30) w (.slice xa xn xc) (.slice ya yn yc) p q
  generalize hw0 : w.alloc (.cells #[.slice xa xn xc, .slice ya yn yc, .int .i64 p, .int .i64 q] 30) = w0 at b0 v0
  have HW : Hid _ := hw0
  have hsz := b0.size
  have HMK : Hid _ := markDiskP_any _ d l h k w0 (o.same (SameIn.ofBelow b0 hh)) (by omega) hs hk
  have k0 := v0.c0
  have k1 := v0.c1
  have HB0 : Hid _ := b0
  clear hw0 b0 v0 o hs
  go_enter Tryd.func25, Tryd.ntmps25
  go_wp2_with (rw [HW.out])
  refine Calls.mono HMK.out ?_
  rintro e w1 ⟨rfl, o1, t1⟩
  have HO : Hid _ := o1
  have HT : Hid (Turns l h w w1) := (Turns.ofBelow HB0.out).trans t1
  clear o1 t1 HMK
  go_wp2
  go_ret
  exact ⟨rfl, ⟨_, _, rfl, HO.out⟩, HT.out⟩
set_option maxHeartbeats 1000000 in
theorem heldJournal_any (v : Value) (j : Jn) (l h k : Nat) (w : World) (r : RdJ w l h v (markD j.1 k, j.2)) (hh : h ≤ w.heap.size) (hs : Small j.1) (hk : k ≤ 2097152) :
    Calls Tryd.prog 27 #[v, .int .i64 k] w fun e w' => e = .returned (.int .i64 ((k : Int) + (lenD j.1 : Int))) ∧ Below w.heap.size w w' := by
  obtain ⟨xa, xn, xc, ya, yn, yc, rfl, r1⟩ := r.open
  clear r
  obtain ⟨d, p, q⟩ := j
  have b0 := Below.new (w := w) (.cells #[.slice xa xn xc, .slice ya yn yc, .int .i64 p, .int .i64 q] 30)
  have v0 := VarJ.new (T := 30) w (.slice xa xn xc) (.slice ya yn yc) p q
  generalize hw0 : w.alloc (.cells #[.slice xa xn xc, .slice ya yn yc, .int .i64 p, .int .i64 q] 30) = w0 at b0 v0
  have HW : Hid _ := hw0
  have hsz := b0.size
  have HMK : Hid _ := heldDisk_any _ d l h k w0 (r1.step hh b0) (by omega) hs hk
  have hl : (lenD d : Int) ≤ 4194304 := by have h1 : lenBB d.1 ≤ 2097152 := hs.2.1; have h2 : lenWs d.2 ≤ 2097152 := hs.2.2; unfold lenD; omega
  have hn : decide ((k : Int) + (lenD d : Int) < 0) = false := by simp; omega
  have k0 := v0.c0
  have k1 := v0.c1
  have HB0 : Hid _ := b0
  clear hw0 b0 v0 r1 hs
  go_enter Tryd.func27, Tryd.ntmps27
  go_wp2_with (rw [HW.out])
  refine Calls.mono HMK.out ?_
  rintro e w1 ⟨rfl, b1⟩
  have HB : Hid _ := HB0.out.trans (b1.mono HB0.out.size)
  clear b1 HMK
  go_wp2
  go_ret
  exact ⟨rfl, HB.out⟩
set_option maxHeartbeats 1000000 in
theorem szJournal_any (v : Value) (j : Jn) (l h : Nat) (w : World) (r : RdJ w l h v j) (hh : h ≤ w.heap.size) :
    Calls Tryd.prog 19 #[v, .int .i64 1048576] w fun e w' => e = .returned (.int .i64 (left (sizeD j.1) 1048576)) ∧ Below w.heap.size w w' := by
  obtain ⟨xa, xn, xc, ya, yn, yc, rfl, r1⟩ := r.open
  clear r
  obtain ⟨d, p, q⟩ := j
  have b0 := Below.new (w := w) (.cells #[.slice xa xn xc, .slice ya yn yc, .int .i64 p, .int .i64 q] 50)
  have v0 := VarJ.new (T := 50) w (.slice xa xn xc) (.slice ya yn yc) p q
  generalize hw0 : w.alloc (.cells #[.slice xa xn xc, .slice ya yn yc, .int .i64 p, .int .i64 q] 50) = w0 at b0 v0
  have HW : Hid _ := hw0
  have hsz := b0.size
  have HMK : Hid _ := szDisk_any _ d l h w0 (r1.step hh b0) (by omega)
  have hl : left (sizeD d) 1048576 < 0 → left (sizeD d) 1048576 = -1 := by unfold left; split <;> omega
  have k0 := v0.c0
  have k1 := v0.c1
  have HB0 : Hid _ := b0
  generalize left (sizeD d) 1048576 = g at HMK hl
  clear hw0 b0 v0 r1
  by_cases hg : g < 0
  · have hd : decide (g < 0) = true := by simpa using hg
    obtain rfl := hl hg
    go_enter Tryd.func19, Tryd.ntmps19
    go_wp2_with (rw [HW.out])
    refine Calls.mono HMK.out ?_
    rintro e w1 ⟨rfl, b1⟩
    have HB : Hid _ := HB0.out.trans (b1.mono HB0.out.size)
    clear b1 HMK
    go_wp2
    go_ret
    exact ⟨rfl, HB.out⟩
  · have hd : decide (g < 0) = false := by simpa using hg
    clear hl
    go_enter Tryd.func19, Tryd.ntmps19
    go_wp2_with (rw [HW.out])
    refine Calls.mono HMK.out ?_
    rintro e w1 ⟨rfl, b1⟩
    have HB : Hid _ := HB0.out.trans (b1.mono HB0.out.size)
    clear b1 HMK
    go_wp2
    go_ret
    exact ⟨rfl, HB.out⟩
end Go.Proofs.YtjhaanenkeceiaaDoor
