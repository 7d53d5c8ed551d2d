/- Entries, nodes, trees and operations that read alike are found so by the verifier's helpers. Condition: no more than 2^21 of all. -/
import Derived.Test.YtmjfnmlfamikgaaEnts
import Derived.Deep.QuietTactic
import Derived.Deep.RegionHeld3
import Derived.BigQuiet
namespace Go.Proofs.Ytmjfnmlfamikgaa
open Go.RowKit
set_option linter.unusedVariables false

theorem eqByteS_same (v u : Value) (zs : List Int) (S S2 : Nat → Prop) (w : World) (r : RdV w S v (.bytes zs)) (r2 : RdV w S2 u (.bytes zs)) (hl : zs.length ≤ 2097152) :
    Calls Try.prog 13 #[v, u] w fun e w' => e = .returned (.bool true) ∧ Below w.heap.size w w' := by
  obtain ⟨a, cap, rfl, hh, hr⟩ := r.b.reads
  obtain ⟨a2, cap2, rfl, hh2, hr2⟩ := r2.b.reads
  refine (eqByteS_any a a2 zs zs cap cap2 w hr hr2 hl hl).mono ?_
  rintro e w' ⟨rfl, n, rfl⟩
  exact ⟨by rw [beq_self_eq_true], below_drewN2 (Below.refl _ _) n⟩

set_option maxHeartbeats 1000000 in
theorem eqEntry_same (x y : Value) (e : En) (S S2 : Nat → Prop) (w : World) (r : RdV w S x (.bytes e.nm)) (r2 : RdV w S2 y (.bytes e.nm)) (hl : e.nm.length ≤ 2097152) :
    Calls Try.prog 113 #[enV x e.h, enV y e.h] w fun q w' => q = .returned (.bool true) ∧ Below w.heap.size w w' := by
  obtain ⟨a, cap, rfl⟩ := r.sliceB
  obtain ⟨a2, cap2, rfl⟩ := r2.sliceB
  obtain ⟨nm, ⟨p, q, d⟩⟩ := e
  have HR : Hid (∀ W, Below w.heap.size w W → _) := r.old
  have HR2 : Hid (∀ W, Below w.heap.size w W → _) := r2.old
  have HH : Hid (∀ W, _) := fun W => eqHandle_same (p, q, d) W
  have HL : Hid (nm.length ≤ 2097152) := hl
  clear r r2 hl
  dsimp only at HR HR2 ⊢
  generalize nm.length = n0 at HR HR2
  go_enter Try.func113, Try.ntmps113
  go_wp2_with fail
  refine Calls.mono (eqByteS_same _ _ nm S S2 _ (HR.out _ (Below.newH2 _ _)) (HR2.out _ (Below.newH2 _ _)) HL.out) ?_
  rintro e w2 ⟨rfl, b_⟩
  have vA : VarA w2 w.heap.size 107 #[.slice a n0 cap, .int .i64 p, .int .i64 q, .bool d] := VarA.step ((VarA.new w _ _).alloc _) b_
  have vB : VarA w2 (w.heap.size + 1) 107 #[.slice a2 n0 cap2, .int .i64 p, .int .i64 q, .bool d] := by
    have := VarA.step (VarA.new (w.alloc _) _ _) b_
    simpa using this
  have HB : Hid _ := (Below.newH2 (w := w) _ _).trans (b_.mono (by simp; omega))
  clear b_
  obtain ⟨a0_, a1_, a2_, a3_⟩ := vA.l4
  obtain ⟨b0_, b1_, b2_, b3_⟩ := vB.l4
  go_wp2_with fail
  refine Calls.mono (HH.out _) ?_
  rintro e w3 ⟨rfl, b_⟩
  have vA_ := vA.step b_
  have vB_ := vB.step b_
  have HB_ : Hid _ := HB.out.trans (b_.mono HB.out.size)
  clear vA vB HB b_ a0_ a1_ a2_ a3_ b0_ b1_ b2_ b3_
  have vA := vA_
  have vB := vB_
  have HB := HB_
  clear vA_ vB_ HB_
  obtain ⟨a0_, a1_, a2_, a3_⟩ := vA.l4
  obtain ⟨b0_, b1_, b2_, b3_⟩ := vB.l4
  go_wp2
  go_ret
  exact ⟨rfl, HB.out⟩

set_option maxHeartbeats 2000000 in
theorem eqEntryS_same (v u : Value) (l : List En) (S S2 : Nat → Prop) (w : World) (r : RdV w S v (ensDt l)) (r2 : RdV w S2 u (ensDt l)) (hl : szEns l ≤ 2097152) :
    Calls Try.prog 78 #[v, u] w fun e w' => e = .returned (.bool true) ∧ Below w.heap.size w w' := by
  obtain ⟨a, cap, rfl, _⟩ := RdV.sliced r
  obtain ⟨a2, cap2, rfl, _⟩ := RdV.sliced r2
  have HR : Hid (∀ W, Below w.heap.size w W → RdV W S (.slice a l.length cap) (ensDt l)) := r.old
  have HR2 : Hid (∀ W, Below w.heap.size w W → RdV W S2 (.slice a2 l.length cap2) (ensDt l)) := r2.old
  have HD : Hid (ensDt l = .rows 107 4 l.length (fun i j => enCell (l[i]?.getD en0) j)) := rfl
  have hnn : l.length ≤ 2097152 := by unfold szEns at hl; omega
  have HL : Hid _ := hl
  clear r r2 hl
  rw [HD.out] at HR HR2
  clear HD
  generalize l.length = n at hnn HR HR2 ⊢
  go_enter Try.func78, Try.ntmps78
  go_wp2
  go_loopw [5] (fun i wr => ∃ k : Nat, k ≤ n ∧ i = .int .i64 k ∧ Below w.heap.size w wr) (fun i _ => n - (intOf i).toNat)
  case atStart => exact ⟨0, Nat.zero_le _, rfl, Below.refl _ _⟩
  case round =>
    obtain ⟨k, hk, rfl, hbel⟩ := hrel
    by_cases hlt : k < n
    · obtain ⟨b, off, rfl, hbl, _, hx⟩ := RdV.at (HR.out wr hbel) hlt
      obtain ⟨b2, off2, rfl, hbl2, _, hy⟩ := RdV.at (HR2.out wr hbel) hlt
      obtain ⟨e, he⟩ : ∃ e, l[k]?.getD en0 = e := ⟨_, rfl⟩
      obtain ⟨x0, c0, r0⟩ := hx 0 (by omega)
      obtain ⟨y0, dd0, s0⟩ := hy 0 (by omega)
      obtain ⟨x1, c1, r1⟩ := hx 1 (by omega)
      obtain ⟨y1, dd1, s1⟩ := hy 1 (by omega)
      obtain ⟨x2, c2, r2⟩ := hx 2 (by omega)
      obtain ⟨y2, dd2, s2⟩ := hy 2 (by omega)
      obtain ⟨x3, c3, r3⟩ := hx 3 (by omega)
      obtain ⟨y3, dd3, s3⟩ := hy 3 (by omega)
      rw [he] at r0 s0 r1 s1 r2 s2 r3 s3
      have HZ : Hid (e.nm.length ≤ 2097152) := by have h1 := szEns_at l k; rw [he] at h1; have h2 := HL.out; show _ ≤ _; omega
      clear hx hy he
      obtain ⟨nm, ⟨p, q, d⟩⟩ := e
      obtain rfl : x1 = .int .i64 p := r1
      obtain rfl : y1 = .int .i64 p := s1
      obtain rfl : x2 = .int .i64 q := r2
      obtain rfl : y2 = .int .i64 q := s2
      obtain rfl : x3 = .bool d := r3
      obtain rfl : y3 = .bool d := s3
      simp only [Nat.add_zero] at c0 dd0
      have RS : Hid (RdV wr S x0 (.bytes nm)) := r0
      have RS2 : Hid (RdV wr S2 y0 (.bytes nm)) := s0
      clear r0 s0
      obtain ⟨xa, xc, rfl⟩ := RdV.sliceB RS.out
      obtain ⟨ya, yc, rfl⟩ := RdV.sliceB RS2.out
      have RC : Hid _ := eqEntry_same _ _ ⟨nm, p, q, d⟩ S S2 wr.drew (RS.out.step (Below.drew (Below.refl _ _))) (RS2.out.step (Below.drew (Below.refl _ _))) HZ.out
      generalize nm.length = xn at RC c0 dd0
      have hws := hbel.size
      clear HZ RS RS2
      go_wp2
      go_region_held3 (fun w' => w'.cell? ⟨b, off + k * 4, none⟩ = some (.slice xa xn xc) ∧ w'.cell? ⟨b, off + k * 4 + 1, none⟩ = some (.int .i64 p) ∧ w'.cell? ⟨b, off + k * 4 + 2, none⟩ = some (.int .i64 q) ∧ w'.cell? ⟨b, off + k * 4 + 3, none⟩ = some (.bool d) ∧ w'.cell? ⟨b2, off2 + k * 4, none⟩ = some (.slice ya xn yc) ∧ w'.cell? ⟨b2, off2 + k * 4 + 1, none⟩ = some (.int .i64 p) ∧ w'.cell? ⟨b2, off2 + k * 4 + 2, none⟩ = some (.int .i64 q) ∧ w'.cell? ⟨b2, off2 + k * 4 + 3, none⟩ = some (.bool d)) (first | go_keep | (refine ⟨?_, ?_, ?_, ?_, ?_, ?_, ?_, ?_⟩ <;> assumption)) (first | (go_at_call 113; refine Calls.mono RC.out ?_; rintro e w' ⟨rfl, hbw⟩; have q0 := (hbw.cell (p := ⟨b, off + k * 4, none⟩) hbl).trans c0; have q1 := (hbw.cell (p := ⟨b, off + k * 4 + 1, none⟩) hbl).trans c1; have q2 := (hbw.cell (p := ⟨b, off + k * 4 + 2, none⟩) hbl).trans c2; have q3 := (hbw.cell (p := ⟨b, off + k * 4 + 3, none⟩) hbl).trans c3; have q4 := (hbw.cell (p := ⟨b2, off2 + k * 4, none⟩) hbl2).trans dd0; have q5 := (hbw.cell (p := ⟨b2, off2 + k * 4 + 1, none⟩) hbl2).trans dd1; have q6 := (hbw.cell (p := ⟨b2, off2 + k * 4 + 2, none⟩) hbl2).trans dd2; have q7 := (hbw.cell (p := ⟨b2, off2 + k * 4 + 3, none⟩) hbl2).trans dd3))
      go_wp2
      go_roundw
      case rel => exact ⟨k + 1, by omega, by go_num, hbel.drew.trans (hbw.mono hws)⟩
      case measure => simp [intOf]; omega
    · have hkn : k = n := by omega
      subst hkn
      go_wp2
      go_ret
      exact ⟨rfl, hbel⟩

set_option maxHeartbeats 2000000 in
theorem eqOp_same (x y x2 y2 : Value) (o : OpD) (S S2 : Nat → Prop) (w : World) (r : RdV w S x (.bytes o.nm)) (r2 : RdV w S2 x2 (.bytes o.nm)) (s : RdV w S y (.bytes o.asn)) (s2 : RdV w S2 y2 (.bytes o.asn)) (hl : o.nm.length ≤ 2097152) (hl2 : o.asn.length ≤ 2097152) :
    Calls Try.prog 41 #[opV o x y, opV o x2 y2] w fun q w' => q = .returned (.bool true) ∧ Below w.heap.size w w' := by
  obtain ⟨a, cap, rfl⟩ := r.sliceB
  obtain ⟨a2, cap2, rfl⟩ := r2.sliceB
  obtain ⟨b, cbp, rfl⟩ := s.sliceB
  obtain ⟨b2, cbp2, rfl⟩ := s2.sliceB
  obtain ⟨kd, ⟨p, q, d⟩, nm, ⟨p2, q2, d2⟩, asn, vl⟩ := o
  have HR : Hid (∀ W, Below w.heap.size w W → _) := r.old
  have HR2 : Hid (∀ W, Below w.heap.size w W → _) := r2.old
  have HS1 : Hid (∀ W, Below w.heap.size w W → _) := s.old
  have HS2_ : Hid (∀ W, Below w.heap.size w W → _) := s2.old
  have HH : Hid (∀ W, _) := fun W => eqHandle_same (p, q, d) W
  have HH2 : Hid (∀ W, _) := fun W => eqHandle_same (p2, q2, d2) W
  have HL : Hid (nm.length ≤ 2097152) := hl
  have HL2 : Hid (asn.length ≤ 2097152) := hl2
  clear r r2 s s2 hl hl2
  dsimp only at HR HR2 HS1 HS2_ ⊢
  generalize nm.length = n0 at HR HR2
  generalize asn.length = n1 at HS1 HS2_
  go_enter Try.func41, Try.ntmps41
  go_wp2_with fail
  refine Calls.mono (HH.out _) ?_
  rintro e w2 ⟨rfl, b_⟩
  have vA : VarA w2 w.heap.size 40 #[.int .i64 kd, .int .i64 p, .int .i64 q, .bool d, .slice a n0 cap, .int .i64 p2, .int .i64 q2, .bool d2, .slice b n1 cbp, .int .i64 vl] := VarA.step ((VarA.new w _ _).alloc _) b_
  have vB : VarA w2 (w.heap.size + 1) 40 #[.int .i64 kd, .int .i64 p, .int .i64 q, .bool d, .slice a2 n0 cap2, .int .i64 p2, .int .i64 q2, .bool d2, .slice b2 n1 cbp2, .int .i64 vl] := by
    have := VarA.step (VarA.new (w.alloc _) _ _) b_
    simpa using this
  have HB : Hid _ := (Below.newH2 (w := w) _ _).trans (b_.mono (by simp; omega))
  clear b_
  obtain ⟨a0_, a1_, a2_, a3_, a4_, a5_, a6_, a7_, a8_, a9_⟩ := vA.l10
  obtain ⟨b0_, b1_, b2_, b3_, b4_, b5_, b6_, b7_, b8_, b9_⟩ := vB.l10
  go_wp2_with fail
  refine Calls.mono (eqByteS_same _ _ nm S S2 _ (HR.out _ HB.out) (HR2.out _ HB.out) HL.out) ?_
  rintro e w3 ⟨rfl, b_⟩
  have vA_ := vA.step b_
  have vB_ := vB.step b_
  have HB_ : Hid _ := HB.out.trans (b_.mono HB.out.size)
  clear vA vB HB b_ a0_ a1_ a2_ a3_ a4_ a5_ a6_ a7_ a8_ a9_ b0_ b1_ b2_ b3_ b4_ b5_ b6_ b7_ b8_ b9_
  have vA := vA_
  have vB := vB_
  have HB := HB_
  clear vA_ vB_ HB_
  obtain ⟨a0_, a1_, a2_, a3_, a4_, a5_, a6_, a7_, a8_, a9_⟩ := vA.l10
  obtain ⟨b0_, b1_, b2_, b3_, b4_, b5_, b6_, b7_, b8_, b9_⟩ := vB.l10
  go_wp2_with fail
  refine Calls.mono (HH2.out _) ?_
  rintro e w4 ⟨rfl, b_⟩
  have vA_ := vA.step b_
  have vB_ := vB.step b_
  have HB_ : Hid _ := HB.out.trans (b_.mono HB.out.size)
  clear vA vB HB b_ a0_ a1_ a2_ a3_ a4_ a5_ a6_ a7_ a8_ a9_ b0_ b1_ b2_ b3_ b4_ b5_ b6_ b7_ b8_ b9_
  have vA := vA_
  have vB := vB_
  have HB := HB_
  clear vA_ vB_ HB_
  obtain ⟨a0_, a1_, a2_, a3_, a4_, a5_, a6_, a7_, a8_, a9_⟩ := vA.l10
  obtain ⟨b0_, b1_, b2_, b3_, b4_, b5_, b6_, b7_, b8_, b9_⟩ := vB.l10
  go_wp2_with fail
  refine Calls.mono (eqByteS_same _ _ asn S S2 _ (HS1.out _ HB.out) (HS2_.out _ HB.out) HL2.out) ?_
  rintro e w5 ⟨rfl, b_⟩
  have vA_ := vA.step b_
  have vB_ := vB.step b_
  have HB_ : Hid _ := HB.out.trans (b_.mono HB.out.size)
  clear vA vB HB b_ a0_ a1_ a2_ a3_ a4_ a5_ a6_ a7_ a8_ a9_ b0_ b1_ b2_ b3_ b4_ b5_ b6_ b7_ b8_ b9_
  have vA := vA_
  have vB := vB_
  have HB := HB_
  clear vA_ vB_ HB_
  obtain ⟨a0_, a1_, a2_, a3_, a4_, a5_, a6_, a7_, a8_, a9_⟩ := vA.l10
  obtain ⟨b0_, b1_, b2_, b3_, b4_, b5_, b6_, b7_, b8_, b9_⟩ := vB.l10
  go_wp2
  go_ret
  exact ⟨rfl, HB.out⟩

end Go.Proofs.Ytmjfnmlfamikgaa
