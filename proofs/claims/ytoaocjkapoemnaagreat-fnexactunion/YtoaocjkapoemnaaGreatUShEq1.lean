/- What shards have promised, held against one another by the verifier's helpers. Condition: no more than 2^21 of all. -/
import Derived.Test.YtoaocjkapoemnaaGreatUA00
import Derived.Test.YtoaocjkapoemnaaGreatUA00b
import Derived.Deep.QuietTactic
import Derived.Deep.RegionHeld3
import Derived.BigQuiet
namespace Go.Proofs.YtoaocjkapoemnaaGreat
open Go.RowKit
set_option linter.unusedVariables false
set_option linter.unusedSimpArgs false
set_option maxRecDepth 100000

set_option maxHeartbeats 4000000 in
theorem eqIntent_same (x y : Value) (e : ItD) (S S2 : Nat → Prop) (w : World) (r : RdV w S x (.bytes e.pt.asn)) (r2 : RdV w S2 y (.bytes e.pt.asn)) (hl : e.pt.asn.length ≤ 2097152) :
    Calls Tryz.prog 100 #[itV e x, itV e y] w fun q w' => q = .returned (.bool true) ∧ Below w.heap.size w w' := by
  obtain ⟨a, cap, rfl⟩ := r.sliceB
  obtain ⟨a2, cap2, rfl⟩ := r2.sliceB
  obtain ⟨⟨xs, xb, xn⟩, ⟨pk, ⟨pp, pq, pd⟩, pas, ⟨sp, sq, sd⟩⟩, cd, ⟨fp, fq, fd⟩⟩ := e
  have HT_ : Hid (∀ W, _) := fun W => eqTx_same (xs, xb, xn) W
  have HP_ : Hid (∀ W, Below w.heap.size w W → _) := fun W hW => eqPart_same _ _ ⟨pk, (pp, pq, pd), pas, (sp, sq, sd)⟩ S S2 W (r.step hW) (r2.step hW) hl
  have HF_ : Hid (∀ W, _) := fun W => eqHandle_same (fp, fq, fd) W
  clear r r2 hl
  dsimp only at HP_ ⊢
  generalize pas.length = n0 at HP_
  go_enter Tryz.func100, Tryz.ntmps100
  go_wp2_with fail
  refine Calls.mono (HT_.out _) ?_
  rintro e w2 ⟨rfl, b_⟩
  have vA : VarA w2 w.heap.size 111 #[.int .i64 xs, .int .i64 xb, .int .i64 xn, .int .i64 pk, .int .i64 pp, .int .i64 pq, .bool pd, .slice a n0 cap, .int .i64 sp, .int .i64 sq, .bool sd, .int .i64 cd, .int .i64 fp, .int .i64 fq, .bool fd] := VarA.step ((VarA.new w _ _).alloc _) b_
  have vB : VarA w2 (w.heap.size + 1) 111 #[.int .i64 xs, .int .i64 xb, .int .i64 xn, .int .i64 pk, .int .i64 pp, .int .i64 pq, .bool pd, .slice a2 n0 cap2, .int .i64 sp, .int .i64 sq, .bool sd, .int .i64 cd, .int .i64 fp, .int .i64 fq, .bool fd] := by
    have := VarA.step (VarA.new (w.alloc _) _ _) b_
    simpa using this
  have HB : Hid _ := (Below.newH2 (w := w) _ _).trans (b_.mono (by simp; omega))
  clear b_
  obtain ⟨a0_, a1_, a2_, a3_, a4_, a5_, a6_, a7_, a8_, a9_, a10_, a11_, a12_, a13_, a14_⟩ := vA.k15
  obtain ⟨b0_, b1_, b2_, b3_, b4_, b5_, b6_, b7_, b8_, b9_, b10_, b11_, b12_, b13_, b14_⟩ := vB.k15
  go_wp2_with fail
  refine Calls.mono (HP_.out _ HB.out) ?_
  rintro e w3 ⟨rfl, b_⟩
  have vA_ := vA.step b_
  have vB_ := vB.step b_
  have HB_ : Hid _ := HB.out.trans (b_.mono HB.out.size)
  clear vA vB HB b_ a0_ a1_ a2_ a3_ a4_ a5_ a6_ a7_ a8_ a9_ a10_ a11_ a12_ a13_ a14_ b0_ b1_ b2_ b3_ b4_ b5_ b6_ b7_ b8_ b9_ b10_ b11_ b12_ b13_ b14_
  have vA := vA_
  have vB := vB_
  have HB := HB_
  clear vA_ vB_ HB_
  obtain ⟨a0_, a1_, a2_, a3_, a4_, a5_, a6_, a7_, a8_, a9_, a10_, a11_, a12_, a13_, a14_⟩ := vA.k15
  obtain ⟨b0_, b1_, b2_, b3_, b4_, b5_, b6_, b7_, b8_, b9_, b10_, b11_, b12_, b13_, b14_⟩ := vB.k15
  go_wp2_with fail
  refine Calls.mono (HF_.out _) ?_
  rintro e w4 ⟨rfl, b_⟩
  have vA_ := vA.step b_
  have vB_ := vB.step b_
  have HB_ : Hid _ := HB.out.trans (b_.mono HB.out.size)
  clear vA vB HB b_ a0_ a1_ a2_ a3_ a4_ a5_ a6_ a7_ a8_ a9_ a10_ a11_ a12_ a13_ a14_ b0_ b1_ b2_ b3_ b4_ b5_ b6_ b7_ b8_ b9_ b10_ b11_ b12_ b13_ b14_
  have vA := vA_
  have vB := vB_
  have HB := HB_
  clear vA_ vB_ HB_
  obtain ⟨a0_, a1_, a2_, a3_, a4_, a5_, a6_, a7_, a8_, a9_, a10_, a11_, a12_, a13_, a14_⟩ := vA.k15
  obtain ⟨b0_, b1_, b2_, b3_, b4_, b5_, b6_, b7_, b8_, b9_, b10_, b11_, b12_, b13_, b14_⟩ := vB.k15
  go_wp2
  go_ret
  exact ⟨rfl, HB.out⟩

set_option maxHeartbeats 4000000 in
theorem eqIntentS_same (v u : Value) (l : List ItD) (S S2 : Nat → Prop) (w : World) (r : RdV w S v (itsDt l)) (r2 : RdV w S2 u (itsDt l)) (hl : szIts l ≤ 2097152) :
    Calls Tryz.prog 62 #[v, u] w fun e w' => e = .returned (.bool true) ∧ Below w.heap.size w w' := by
  obtain ⟨a, cap, rfl, _⟩ := RdV.sliced r
  obtain ⟨a2, cap2, rfl, _⟩ := RdV.sliced r2
  have HR : Hid (∀ W, Below w.heap.size w W → RdV W S (.slice a l.length cap) (itsDt l)) := r.old
  have HR2 : Hid (∀ W, Below w.heap.size w W → RdV W S2 (.slice a2 l.length cap2) (itsDt l)) := r2.old
  have HD : Hid (itsDt l = .rows 111 15 l.length (fun i j => itCell (l[i]?.getD it0) j)) := rfl
  have hnn : l.length ≤ 2097152 := by unfold szIts at hl; omega
  have HL : Hid _ := hl
  clear r r2 hl
  rw [HD.out] at HR HR2
  clear HD
  generalize l.length = n at hnn HR HR2 ⊢
  go_enter Tryz.func62, Tryz.ntmps62
  go_wp2
  go_loopw [5] (fun i wr => ∃ k : Nat, k ≤ n ∧ i = .int .i64 k ∧ Below w.heap.size w wr) (fun i _ => n - (intOf i).toNat)
  case atStart => exact ⟨0, Nat.zero_le _, rfl, Below.refl _ _⟩
  case round =>
    obtain ⟨k, hk, rfl, hbel⟩ := hrel
    by_cases hlt : k < n
    · obtain ⟨b, off, rfl, hbl, _, hx⟩ := RdV.at (HR.out wr hbel) hlt
      obtain ⟨b2, off2, rfl, hbl2, _, hy⟩ := RdV.at (HR2.out wr hbel) hlt
      obtain ⟨e, he⟩ : ∃ e, l[k]?.getD it0 = e := ⟨_, rfl⟩
      obtain ⟨x0, c0, r0⟩ := hx 0 (by omega)
      obtain ⟨y0, dd0, s0⟩ := hy 0 (by omega)
      obtain ⟨x1, c1, r1⟩ := hx 1 (by omega)
      obtain ⟨y1, dd1, s1⟩ := hy 1 (by omega)
      obtain ⟨x2, c2, r2⟩ := hx 2 (by omega)
      obtain ⟨y2, dd2, s2⟩ := hy 2 (by omega)
      obtain ⟨x3, c3, r3⟩ := hx 3 (by omega)
      obtain ⟨y3, dd3, s3⟩ := hy 3 (by omega)
      obtain ⟨x4, c4, r4⟩ := hx 4 (by omega)
      obtain ⟨y4, dd4, s4⟩ := hy 4 (by omega)
      obtain ⟨x5, c5, r5⟩ := hx 5 (by omega)
      obtain ⟨y5, dd5, s5⟩ := hy 5 (by omega)
      obtain ⟨x6, c6, r6⟩ := hx 6 (by omega)
      obtain ⟨y6, dd6, s6⟩ := hy 6 (by omega)
      obtain ⟨x7, c7, r7⟩ := hx 7 (by omega)
      obtain ⟨y7, dd7, s7⟩ := hy 7 (by omega)
      obtain ⟨x8, c8, r8⟩ := hx 8 (by omega)
      obtain ⟨y8, dd8, s8⟩ := hy 8 (by omega)
      obtain ⟨x9, c9, r9⟩ := hx 9 (by omega)
      obtain ⟨y9, dd9, s9⟩ := hy 9 (by omega)
      obtain ⟨x10, c10, r10⟩ := hx 10 (by omega)
      obtain ⟨y10, dd10, s10⟩ := hy 10 (by omega)
      obtain ⟨x11, c11, r11⟩ := hx 11 (by omega)
      obtain ⟨y11, dd11, s11⟩ := hy 11 (by omega)
      obtain ⟨x12, c12, r12⟩ := hx 12 (by omega)
      obtain ⟨y12, dd12, s12⟩ := hy 12 (by omega)
      obtain ⟨x13, c13, r13⟩ := hx 13 (by omega)
      obtain ⟨y13, dd13, s13⟩ := hy 13 (by omega)
      obtain ⟨x14, c14, r14⟩ := hx 14 (by omega)
      obtain ⟨y14, dd14, s14⟩ := hy 14 (by omega)
      rw [he] at r0 s0 r1 s1 r2 s2 r3 s3 r4 s4 r5 s5 r6 s6 r7 s7 r8 s8 r9 s9 r10 s10 r11 s11 r12 s12 r13 s13 r14 s14
      have HZ : Hid (e.pt.asn.length ≤ 2097152) := by have h1 := szIts_at l k; rw [he] at h1; have h2 := HL.out; show _ ≤ _; omega
      clear hx hy he
      obtain ⟨⟨xs, xb, xn⟩, ⟨pk, ⟨pp, pq, pd⟩, pas, ⟨sp, sq, sd⟩⟩, cd, ⟨fp, fq, fd⟩⟩ := e
      obtain rfl : x0 = .int .i64 xs := r0
      obtain rfl : y0 = .int .i64 xs := s0
      obtain rfl : x1 = .int .i64 xb := r1
      obtain rfl : y1 = .int .i64 xb := s1
      obtain rfl : x2 = .int .i64 xn := r2
      obtain rfl : y2 = .int .i64 xn := s2
      obtain rfl : x3 = .int .i64 pk := r3
      obtain rfl : y3 = .int .i64 pk := s3
      obtain rfl : x4 = .int .i64 pp := r4
      obtain rfl : y4 = .int .i64 pp := s4
      obtain rfl : x5 = .int .i64 pq := r5
      obtain rfl : y5 = .int .i64 pq := s5
      obtain rfl : x6 = .bool pd := r6
      obtain rfl : y6 = .bool pd := s6
      obtain rfl : x8 = .int .i64 sp := r8
      obtain rfl : y8 = .int .i64 sp := s8
      obtain rfl : x9 = .int .i64 sq := r9
      obtain rfl : y9 = .int .i64 sq := s9
      obtain rfl : x10 = .bool sd := r10
      obtain rfl : y10 = .bool sd := s10
      obtain rfl : x11 = .int .i64 cd := r11
      obtain rfl : y11 = .int .i64 cd := s11
      obtain rfl : x12 = .int .i64 fp := r12
      obtain rfl : y12 = .int .i64 fp := s12
      obtain rfl : x13 = .int .i64 fq := r13
      obtain rfl : y13 = .int .i64 fq := s13
      obtain rfl : x14 = .bool fd := r14
      obtain rfl : y14 = .bool fd := s14
      simp only [Nat.add_zero] at c0 dd0
      have RS7 : Hid (RdV wr S x7 (.bytes pas)) := r7
      have RT7 : Hid (RdV wr S2 y7 (.bytes pas)) := s7
      clear r7 s7
      obtain ⟨xa7, xc7, rfl⟩ := RdV.sliceB RS7.out
      obtain ⟨ya7, yc7, rfl⟩ := RdV.sliceB RT7.out
      have RC : Hid _ := eqIntent_same _ _ ⟨(xs, xb, xn), ⟨pk, (pp, pq, pd), pas, (sp, sq, sd)⟩, cd, (fp, fq, fd)⟩ S S2 wr.drew (RS7.out.step (Below.drew (Below.refl _ _))) (RT7.out.step (Below.drew (Below.refl _ _))) HZ.out
      generalize pas.length = xn7 at RC c7 dd7
      have hws := hbel.size
      clear HZ RS7 RT7
      go_wp2
      go_region_held3 (fun w' => w'.cell? ⟨b, off + k * 15, none⟩ = some (.int .i64 xs) ∧ w'.cell? ⟨b, off + k * 15 + 1, none⟩ = some (.int .i64 xb) ∧ w'.cell? ⟨b, off + k * 15 + 2, none⟩ = some (.int .i64 xn) ∧ w'.cell? ⟨b, off + k * 15 + 3, none⟩ = some (.int .i64 pk) ∧ w'.cell? ⟨b, off + k * 15 + 4, none⟩ = some (.int .i64 pp) ∧ w'.cell? ⟨b, off + k * 15 + 5, none⟩ = some (.int .i64 pq) ∧ w'.cell? ⟨b, off + k * 15 + 6, none⟩ = some (.bool pd) ∧ w'.cell? ⟨b, off + k * 15 + 7, none⟩ = some (.slice xa7 xn7 xc7) ∧ w'.cell? ⟨b, off + k * 15 + 8, none⟩ = some (.int .i64 sp) ∧ w'.cell? ⟨b, off + k * 15 + 9, none⟩ = some (.int .i64 sq) ∧ w'.cell? ⟨b, off + k * 15 + 10, none⟩ = some (.bool sd) ∧ w'.cell? ⟨b, off + k * 15 + 11, none⟩ = some (.int .i64 cd) ∧ w'.cell? ⟨b, off + k * 15 + 12, none⟩ = some (.int .i64 fp) ∧ w'.cell? ⟨b, off + k * 15 + 13, none⟩ = some (.int .i64 fq) ∧ w'.cell? ⟨b, off + k * 15 + 14, none⟩ = some (.bool fd) ∧ w'.cell? ⟨b2, off2 + k * 15, none⟩ = some (.int .i64 xs) ∧ w'.cell? ⟨b2, off2 + k * 15 + 1, none⟩ = some (.int .i64 xb) ∧ w'.cell? ⟨b2, off2 + k * 15 + 2, none⟩ = some (.int .i64 xn) ∧ w'.cell? ⟨b2, off2 + k * 15 + 3, none⟩ = some (.int .i64 pk) ∧ w'.cell? ⟨b2, off2 + k * 15 + 4, none⟩ = some (.int .i64 pp) ∧ w'.cell? ⟨b2, off2 + k * 15 + 5, none⟩ = some (.int .i64 pq) ∧ w'.cell? ⟨b2, off2 + k * 15 + 6, none⟩ = some (.bool pd) ∧ w'.cell? ⟨b2, off2 + k * 15 + 7, none⟩ = some (.slice ya7 xn7 yc7) ∧ w'.cell? ⟨b2, off2 + k * 15 + 8, none⟩ = some (.int .i64 sp) ∧ w'.cell? ⟨b2, off2 + k * 15 + 9, none⟩ = some (.int .i64 sq) ∧ w'.cell? ⟨b2, off2 + k * 15 + 10, none⟩ = some (.bool sd) ∧ w'.cell? ⟨b2, off2 + k * 15 + 11, none⟩ = some (.int .i64 cd) ∧ w'.cell? ⟨b2, off2 + k * 15 + 12, none⟩ = some (.int .i64 fp) ∧ w'.cell? ⟨b2, off2 + k * 15 + 13, none⟩ = some (.int .i64 fq) ∧ w'.cell? ⟨b2, off2 + k * 15 + 14, none⟩ = some (.bool fd)) (first | go_keep | (refine ⟨?_, ?_, ?_, ?_, ?_, ?_, ?_, ?_, ?_, ?_, ?_, ?_, ?_, ?_, ?_, ?_, ?_, ?_, ?_, ?_, ?_, ?_, ?_, ?_, ?_, ?_, ?_, ?_, ?_, ?_⟩ <;> assumption)) (first | (go_at_call 100; refine Calls.mono RC.out ?_; rintro e w' ⟨rfl, hbw⟩; have q0 := (hbw.cell (p := ⟨b, off + k * 15, none⟩) hbl).trans c0; have q1 := (hbw.cell (p := ⟨b, off + k * 15 + 1, none⟩) hbl).trans c1; have q2 := (hbw.cell (p := ⟨b, off + k * 15 + 2, none⟩) hbl).trans c2; have q3 := (hbw.cell (p := ⟨b, off + k * 15 + 3, none⟩) hbl).trans c3; have q4 := (hbw.cell (p := ⟨b, off + k * 15 + 4, none⟩) hbl).trans c4; have q5 := (hbw.cell (p := ⟨b, off + k * 15 + 5, none⟩) hbl).trans c5; have q6 := (hbw.cell (p := ⟨b, off + k * 15 + 6, none⟩) hbl).trans c6; have q7 := (hbw.cell (p := ⟨b, off + k * 15 + 7, none⟩) hbl).trans c7; have q8 := (hbw.cell (p := ⟨b, off + k * 15 + 8, none⟩) hbl).trans c8; have q9 := (hbw.cell (p := ⟨b, off + k * 15 + 9, none⟩) hbl).trans c9; have q10 := (hbw.cell (p := ⟨b, off + k * 15 + 10, none⟩) hbl).trans c10; have q11 := (hbw.cell (p := ⟨b, off + k * 15 + 11, none⟩) hbl).trans c11; have q12 := (hbw.cell (p := ⟨b, off + k * 15 + 12, none⟩) hbl).trans c12; have q13 := (hbw.cell (p := ⟨b, off + k * 15 + 13, none⟩) hbl).trans c13; have q14 := (hbw.cell (p := ⟨b, off + k * 15 + 14, none⟩) hbl).trans c14; have q15 := (hbw.cell (p := ⟨b2, off2 + k * 15, none⟩) hbl2).trans dd0; have q16 := (hbw.cell (p := ⟨b2, off2 + k * 15 + 1, none⟩) hbl2).trans dd1; have q17 := (hbw.cell (p := ⟨b2, off2 + k * 15 + 2, none⟩) hbl2).trans dd2; have q18 := (hbw.cell (p := ⟨b2, off2 + k * 15 + 3, none⟩) hbl2).trans dd3; have q19 := (hbw.cell (p := ⟨b2, off2 + k * 15 + 4, none⟩) hbl2).trans dd4; have q20 := (hbw.cell (p := ⟨b2, off2 + k * 15 + 5, none⟩) hbl2).trans dd5; have q21 := (hbw.cell (p := ⟨b2, off2 + k * 15 + 6, none⟩) hbl2).trans dd6; have q22 := (hbw.cell (p := ⟨b2, off2 + k * 15 + 7, none⟩) hbl2).trans dd7; have q23 := (hbw.cell (p := ⟨b2, off2 + k * 15 + 8, none⟩) hbl2).trans dd8; have q24 := (hbw.cell (p := ⟨b2, off2 + k * 15 + 9, none⟩) hbl2).trans dd9; have q25 := (hbw.cell (p := ⟨b2, off2 + k * 15 + 10, none⟩) hbl2).trans dd10; have q26 := (hbw.cell (p := ⟨b2, off2 + k * 15 + 11, none⟩) hbl2).trans dd11; have q27 := (hbw.cell (p := ⟨b2, off2 + k * 15 + 12, none⟩) hbl2).trans dd12; have q28 := (hbw.cell (p := ⟨b2, off2 + k * 15 + 13, none⟩) hbl2).trans dd13; have q29 := (hbw.cell (p := ⟨b2, off2 + k * 15 + 14, none⟩) hbl2).trans dd14))
      go_wp2
      go_roundw
      case rel => exact ⟨k + 1, by omega, by go_num, hbel.drew.trans (hbw.mono hws)⟩
      case measure => simp [intOf]; omega
    · have hkn : k = n := by omega
      subst hkn
      go_wp2
      go_ret
      exact ⟨rfl, hbel⟩

end Go.Proofs.YtoaocjkapoemnaaGreat
