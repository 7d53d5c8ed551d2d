/- Joined: ShTo4 SpecD9 SpecD10 US2 ImplT2 ImplT3 ShEq4 ShMk1 ShMk3 OpenS. -/
import Derived.Test.YtoaocjkapoemnaaGreatUShTo1
import Derived.Test.YtoaocjkapoemnaaGreatUA00
import Derived.Test.YtoaocjkapoemnaaGreatUSpecT4a
import Derived.Lib.BytesEntry
import Derived.Test.YtoaocjkapoemnaaGreatUShEq1
import Derived.Test.YtoaocjkapoemnaaGreatUA00b
import Derived.Deep.QuietTactic
import Derived.Deep.RegionHeld3
import Derived.BigQuiet
import Derived.Test.YtoaocjkapoemnaaGreatUMks

namespace Go.Proofs.YtoaocjkapoemnaaGreat
open Go.RowKit
set_option linter.unusedVariables false
set_option linter.unusedSimpArgs false
set_option maxRecDepth 100000
section
/-- A shard's five lists, read. -/
def RdShd (w : World) (S : Nat → Prop) (e : ShD) (x y z u v : Value) : Prop := RdV w S x (ndsDt e.nds) ∧ RdV w S y (itsDt e.its) ∧ RdV w S z (vdsDt e.dec) ∧ RdV w S u (txsDt e.don) ∧ RdV w S v (lssDt e.las)
theorem Sh.close {w w2 w' : World} {e : ShD} {x y z u v : Value} {M1 M2 M3 M4 : Nat} (hB : Below w.heap.size w w2) (t : Turned (fun b => w.heap.size ≤ b ∧ b < w.heap.size + 3) w2 w')
    (o1 : OwV w2 (fun b => w.heap.size + 3 ≤ b ∧ b < M1) x (ndsDt e.nds)) (o2 : OwV w2 (fun b => M1 ≤ b ∧ b < M2) y (itsDt e.its)) (o3 : OwV w2 (fun b => M2 ≤ b ∧ b < M3) z (vdsDt e.dec)) (o4 : OwV w2 (fun b => M3 ≤ b ∧ b < M4) u (txsDt e.don)) (o5 : OwV w2 (fun b => M4 ≤ b ∧ b < w2.heap.size) v (lssDt e.las))
    (hM : w.heap.size + 3 ≤ M1 ∧ M1 ≤ M2 ∧ M2 ≤ M3 ∧ M3 ≤ M4 ∧ M4 ≤ w2.heap.size) :
    OwV w' (fun b => w.heap.size ≤ b ∧ b < M1) x (ndsDt e.nds) ∧ OwV w' (fun b => M1 ≤ b ∧ b < M2) y (itsDt e.its) ∧ OwV w' (fun b => M2 ≤ b ∧ b < M3) z (vdsDt e.dec) ∧ OwV w' (fun b => M3 ≤ b ∧ b < M4) u (txsDt e.don) ∧ OwV w' (fun b => M4 ≤ b ∧ b < w'.heap.size) v (lssDt e.las) ∧ (w.heap.size ≤ M1 ∧ M1 ≤ M2 ∧ M2 ≤ M3 ∧ M3 ≤ M4 ∧ M4 ≤ w'.heap.size) ∧ Below w.heap.size w w' := by
  have hs := t.size
  exact ⟨OwV.mono (fun b h => ⟨by omega, by omega⟩) (o1.keep (t.keeps (fun b hb hq => by omega))), o2.keep (t.keeps (fun b hb hq => by omega)), o3.keep (t.keeps (fun b hb hq => by omega)), o4.keep (t.keeps (fun b hb hq => by omega)), OwV.mono (fun b h => ⟨by omega, by omega⟩) (o5.keep (t.keeps (fun b hb hq => by omega))), ⟨by omega, by omega, by omega, by omega, by omega⟩, Turned.below hB t hB.size (fun i hi => hi.1)⟩
set_option maxHeartbeats 4000000 in
theorem toShard_any (x y z u v : Value) (e : ShD) (S : Nat → Prop) (w : World) (r : RdShd w S e x y z u v) (hl : szSh e ≤ 2097152) :
    Calls Tryz.prog 18 #[shV e x y z u v] w fun q w' => ∃ a0 n0 c0 a1 n1 c1 a2 n2 c2 a3 n3 c3 a4 n4 c4 M1 M2 M3 M4, q = .returned (shV e (.slice a0 n0 c0) (.slice a1 n1 c1) (.slice a2 n2 c2) (.slice a3 n3 c3) (.slice a4 n4 c4)) ∧ OwV w' (fun b => w.heap.size ≤ b ∧ b < M1) (.slice a0 n0 c0) (ndsDt e.nds) ∧ OwV w' (fun b => M1 ≤ b ∧ b < M2) (.slice a1 n1 c1) (itsDt e.its) ∧ OwV w' (fun b => M2 ≤ b ∧ b < M3) (.slice a2 n2 c2) (vdsDt e.dec) ∧ OwV w' (fun b => M3 ≤ b ∧ b < M4) (.slice a3 n3 c3) (txsDt e.don) ∧ OwV w' (fun b => M4 ≤ b ∧ b < w'.heap.size) (.slice a4 n4 c4) (lssDt e.las) ∧ (w.heap.size ≤ M1 ∧ M1 ≤ M2 ∧ M2 ≤ M3 ∧ M3 ≤ M4 ∧ M4 ≤ w'.heap.size) ∧ Below w.heap.size w w' := by
  obtain ⟨r0, r1, r2, r3, r4⟩ := r
  obtain ⟨s0, p0, rfl, _⟩ := RdV.sliced r0
  obtain ⟨s1, p1, rfl, _⟩ := RdV.sliced r1
  obtain ⟨s2, p2, rfl, _⟩ := RdV.sliced r2
  obtain ⟨s3, p3, rfl, _⟩ := RdV.sliced r3
  obtain ⟨s4, p4, rfl, _⟩ := RdV.sliced r4
  obtain ⟨id_, bo, nx, ns, its, ds, dn, ls⟩ := e
  unfold szSh at hl
  dsimp only at hl r0 r1 r2 r3 r4 ⊢
  have HC0 : Hid (∀ W, Below w.heap.size w W → _) := fun W hW => toNodeS_any _ ns S W (r0.step hW) (by omega)
  have HC1 : Hid (∀ W, Below w.heap.size w W → _) := fun W hW => toIntentS_any _ its S W (r1.step hW) (by omega)
  have HC2 : Hid (∀ W, Below w.heap.size w W → _) := fun W hW => toVerdictS_any _ ds S W (r2.step hW) (by omega)
  have HC3 : Hid (∀ W, Below w.heap.size w W → _) := fun W hW => toTxS_any _ dn S W (r3.step hW) (by omega)
  have HC4 : Hid (∀ W, Below w.heap.size w W → _) := fun W hW => toLastS_any _ ls S W (r4.step hW) (by omega)
  clear r0 r1 r2 r3 r4 hl
  generalize ns.length = t0 at HC0 ⊢
  generalize its.length = t1 at HC1 ⊢
  generalize ds.length = t2 at HC2 ⊢
  generalize dn.length = t3 at HC3 ⊢
  generalize ls.length = t4 at HC4 ⊢
  go_enter Tryz.func18, Tryz.ntmps18
  go_wp2_with fail
  refine Calls.mono (HC0.out _ ?_) ?_
  · exact ((((Below.refl _ _).alloc (Nat.le_refl _) _).alloc (by simp) _).alloc (by simp; omega) _)
  rintro e w2 ⟨q0a, q0n, q0c, rfl, o_, b_⟩
  have hs2 := b_.size
  simp at hs2
  have vA : VarA w2 w.heap.size 43 #[.int .i64 id_, .int .i64 bo, .int .i64 nx, .slice s0 t0 p0, .slice s1 t1 p1, .slice s2 t2 p2, .slice s3 t3 p3, .slice s4 t4 p4] := VarA.step (((VarA.new w _ _).alloc _).alloc _) b_
  have vR : VarA w2 (w.heap.size + 1) 49 #[.int .i64 0, .int .i64 0, .int .i64 0, .slice none 0 0, .slice none 0 0, .slice none 0 0, .slice none 0 0, .slice none 0 0] := by
    have := VarA.step ((VarA.new (w.alloc _) _ _).alloc _) b_
    simpa using this
  have vO : VarA w2 (w.heap.size + 1 + 1) 49 #[.int .i64 id_, .int .i64 bo, .int .i64 nx, .slice none 0 0, .slice none 0 0, .slice none 0 0, .slice none 0 0, .slice none 0 0] := by
    have := VarA.step (VarA.new ((w.alloc _).alloc _) _ _) b_
    simpa using this
  have HB : Hid (Below w.heap.size w w2) := ((((Below.refl _ _).alloc (Nat.le_refl _) _).alloc (by simp) _).alloc (by simp; omega) _).trans (b_.mono (by simp; omega))
  have HT : Hid (Turned (fun b => w.heap.size ≤ b ∧ b < w.heap.size + 3) w2 w2) := Turned.refl _ _
  have hz : w.heap.size + 3 ≤ w2.heap.size := by omega
  have HO0 : Hid (OwV w2 (fun b => w.heap.size + 3 ≤ b ∧ b < w2.heap.size) (.slice q0a q0n q0c) (ndsDt ns)) := o_.mono (fun b h => by simpa [Nat.add_assoc] using h)
  clear hs2 b_ o_
  obtain ⟨a0_, a1_, a2_, a3_, a4_, a5_, a6_, a7_⟩ := vA.k8
  obtain ⟨o0_, o1_, o2_, o3_, o4_, o5_, o6_, o7_⟩ := vO.k8
  have fo_ := vO.fz
  go_wp2_with fail
  refine Calls.mono (HC1.out _ (Turned.below HB.out (HT.out |>.set _ _ (by simp <;> omega)) HB.out.size (fun i hi => hi.1))) ?_
  rintro e w3 ⟨q1a, q1n, q1c, rfl, o_, b_⟩
  clear a0_ a1_ a2_ a3_ a4_ a5_ a6_ a7_ o0_ o1_ o2_ o3_ o4_ o5_ o6_ o7_ fo_
  have vA_ := (vA |>.aside (p := ⟨w.heap.size + 1 + 1, 3, none⟩) (by dsimp only; omega) _).step b_
  have vR_ := (vR |>.aside (p := ⟨w.heap.size + 1 + 1, 3, none⟩) (by dsimp only; omega) _).step b_
  have vO_ : VarA w3 (w.heap.size + 1 + 1) 49 #[.int .i64 id_, .int .i64 bo, .int .i64 nx, .slice q0a q0n q0c, .slice none 0 0, .slice none 0 0, .slice none 0 0, .slice none 0 0] := (vO |>.set 3 _).step b_
  have t_ : Turned (fun b => w.heap.size ≤ b ∧ b < w.heap.size + 3) w2 w3 := (HT.out |>.set _ _ (by simp <;> omega)).andThen b_
  have HB_ : Hid (Below w.heap.size w w3) := Turned.below HB.out t_ HB.out.size (fun i hi => hi.1)
  have zs_ := t_.size
  have HO0_ : Hid (OwV w3 (fun b => _ ∧ b < _) (.slice q0a q0n q0c) (ndsDt ns)) := HO0.out.keep (t_.keeps (fun b hb hs => by omega))
  have HO1 : Hid (OwV w3 (fun b => w2.heap.size ≤ b ∧ b < w3.heap.size) (.slice q1a q1n q1c) (itsDt its)) := o_.mono (fun b h => by simpa using h)
  clear vA vR vO HT HB b_ t_ o_ HO0
  have HT : Hid (Turned (fun b => w.heap.size ≤ b ∧ b < w.heap.size + 3) w3 w3) := Turned.refl _ _
  have vA := vA_
  have vR := vR_
  have vO := vO_
  have HB := HB_
  have HO0 := HO0_
  clear vA_ vR_ vO_ HB_ HO0_
  obtain ⟨a0_, a1_, a2_, a3_, a4_, a5_, a6_, a7_⟩ := vA.k8
  obtain ⟨o0_, o1_, o2_, o3_, o4_, o5_, o6_, o7_⟩ := vO.k8
  have fo_ := vO.fz
  go_wp2_with fail
  refine Calls.mono (HC2.out _ (Turned.below HB.out (HT.out |>.set _ _ (by simp <;> omega)) HB.out.size (fun i hi => hi.1))) ?_
  rintro e w4 ⟨q2a, q2n, q2c, rfl, o_, b_⟩
  clear a0_ a1_ a2_ a3_ a4_ a5_ a6_ a7_ o0_ o1_ o2_ o3_ o4_ o5_ o6_ o7_ fo_
  have vA_ := (vA |>.aside (p := ⟨w.heap.size + 1 + 1, 4, none⟩) (by dsimp only; omega) _).step b_
  have vR_ := (vR |>.aside (p := ⟨w.heap.size + 1 + 1, 4, none⟩) (by dsimp only; omega) _).step b_
  have vO_ : VarA w4 (w.heap.size + 1 + 1) 49 #[.int .i64 id_, .int .i64 bo, .int .i64 nx, .slice q0a q0n q0c, .slice q1a q1n q1c, .slice none 0 0, .slice none 0 0, .slice none 0 0] := (vO |>.set 4 _).step b_
  have t_ : Turned (fun b => w.heap.size ≤ b ∧ b < w.heap.size + 3) w3 w4 := (HT.out |>.set _ _ (by simp <;> omega)).andThen b_
  have HB_ : Hid (Below w.heap.size w w4) := Turned.below HB.out t_ HB.out.size (fun i hi => hi.1)
  have zs_ := t_.size
  have HO0_ : Hid (OwV w4 (fun b => _ ∧ b < _) (.slice q0a q0n q0c) (ndsDt ns)) := HO0.out.keep (t_.keeps (fun b hb hs => by omega))
  have HO1_ : Hid (OwV w4 (fun b => _ ∧ b < _) (.slice q1a q1n q1c) (itsDt its)) := HO1.out.keep (t_.keeps (fun b hb hs => by omega))
  have HO2 : Hid (OwV w4 (fun b => w3.heap.size ≤ b ∧ b < w4.heap.size) (.slice q2a q2n q2c) (vdsDt ds)) := o_.mono (fun b h => by simpa using h)
  clear vA vR vO HT HB b_ t_ o_ HO0 HO1
  have HT : Hid (Turned (fun b => w.heap.size ≤ b ∧ b < w.heap.size + 3) w4 w4) := Turned.refl _ _
  have vA := vA_
  have vR := vR_
  have vO := vO_
  have HB := HB_
  have HO0 := HO0_
  have HO1 := HO1_
  clear vA_ vR_ vO_ HB_ HO0_ HO1_
  obtain ⟨a0_, a1_, a2_, a3_, a4_, a5_, a6_, a7_⟩ := vA.k8
  obtain ⟨o0_, o1_, o2_, o3_, o4_, o5_, o6_, o7_⟩ := vO.k8
  have fo_ := vO.fz
  go_wp2_with fail
  refine Calls.mono (HC3.out _ (Turned.below HB.out (HT.out |>.set _ _ (by simp <;> omega)) HB.out.size (fun i hi => hi.1))) ?_
  rintro e w5 ⟨q3a, q3n, q3c, rfl, o_, b_⟩
  clear a0_ a1_ a2_ a3_ a4_ a5_ a6_ a7_ o0_ o1_ o2_ o3_ o4_ o5_ o6_ o7_ fo_
  have vA_ := (vA |>.aside (p := ⟨w.heap.size + 1 + 1, 5, none⟩) (by dsimp only; omega) _).step b_
  have vR_ := (vR |>.aside (p := ⟨w.heap.size + 1 + 1, 5, none⟩) (by dsimp only; omega) _).step b_
  have vO_ : VarA w5 (w.heap.size + 1 + 1) 49 #[.int .i64 id_, .int .i64 bo, .int .i64 nx, .slice q0a q0n q0c, .slice q1a q1n q1c, .slice q2a q2n q2c, .slice none 0 0, .slice none 0 0] := (vO |>.set 5 _).step b_
  have t_ : Turned (fun b => w.heap.size ≤ b ∧ b < w.heap.size + 3) w4 w5 := (HT.out |>.set _ _ (by simp <;> omega)).andThen b_
  have HB_ : Hid (Below w.heap.size w w5) := Turned.below HB.out t_ HB.out.size (fun i hi => hi.1)
  have zs_ := t_.size
  have HO0_ : Hid (OwV w5 (fun b => _ ∧ b < _) (.slice q0a q0n q0c) (ndsDt ns)) := HO0.out.keep (t_.keeps (fun b hb hs => by omega))
  have HO1_ : Hid (OwV w5 (fun b => _ ∧ b < _) (.slice q1a q1n q1c) (itsDt its)) := HO1.out.keep (t_.keeps (fun b hb hs => by omega))
  have HO2_ : Hid (OwV w5 (fun b => _ ∧ b < _) (.slice q2a q2n q2c) (vdsDt ds)) := HO2.out.keep (t_.keeps (fun b hb hs => by omega))
  have HO3 : Hid (OwV w5 (fun b => w4.heap.size ≤ b ∧ b < w5.heap.size) (.slice q3a q3n q3c) (txsDt dn)) := o_.mono (fun b h => by simpa using h)
  clear vA vR vO HT HB b_ t_ o_ HO0 HO1 HO2
  have HT : Hid (Turned (fun b => w.heap.size ≤ b ∧ b < w.heap.size + 3) w5 w5) := Turned.refl _ _
  have vA := vA_
  have vR := vR_
  have vO := vO_
  have HB := HB_
  have HO0 := HO0_
  have HO1 := HO1_
  have HO2 := HO2_
  clear vA_ vR_ vO_ HB_ HO0_ HO1_ HO2_
  obtain ⟨a0_, a1_, a2_, a3_, a4_, a5_, a6_, a7_⟩ := vA.k8
  obtain ⟨o0_, o1_, o2_, o3_, o4_, o5_, o6_, o7_⟩ := vO.k8
  have fo_ := vO.fz
  go_wp2_with fail
  refine Calls.mono (HC4.out _ (Turned.below HB.out (HT.out |>.set _ _ (by simp <;> omega)) HB.out.size (fun i hi => hi.1))) ?_
  rintro e w6 ⟨q4a, q4n, q4c, rfl, o_, b_⟩
  clear a0_ a1_ a2_ a3_ a4_ a5_ a6_ a7_ o0_ o1_ o2_ o3_ o4_ o5_ o6_ o7_ fo_
  have vA_ := (vA |>.aside (p := ⟨w.heap.size + 1 + 1, 6, none⟩) (by dsimp only; omega) _).step b_
  have vR_ := (vR |>.aside (p := ⟨w.heap.size + 1 + 1, 6, none⟩) (by dsimp only; omega) _).step b_
  have vO_ : VarA w6 (w.heap.size + 1 + 1) 49 #[.int .i64 id_, .int .i64 bo, .int .i64 nx, .slice q0a q0n q0c, .slice q1a q1n q1c, .slice q2a q2n q2c, .slice q3a q3n q3c, .slice none 0 0] := (vO |>.set 6 _).step b_
  have t_ : Turned (fun b => w.heap.size ≤ b ∧ b < w.heap.size + 3) w5 w6 := (HT.out |>.set _ _ (by simp <;> omega)).andThen b_
  have HB_ : Hid (Below w.heap.size w w6) := Turned.below HB.out t_ HB.out.size (fun i hi => hi.1)
  have zs_ := t_.size
  have HO0_ : Hid (OwV w6 (fun b => _ ∧ b < _) (.slice q0a q0n q0c) (ndsDt ns)) := HO0.out.keep (t_.keeps (fun b hb hs => by omega))
  have HO1_ : Hid (OwV w6 (fun b => _ ∧ b < _) (.slice q1a q1n q1c) (itsDt its)) := HO1.out.keep (t_.keeps (fun b hb hs => by omega))
  have HO2_ : Hid (OwV w6 (fun b => _ ∧ b < _) (.slice q2a q2n q2c) (vdsDt ds)) := HO2.out.keep (t_.keeps (fun b hb hs => by omega))
  have HO3_ : Hid (OwV w6 (fun b => _ ∧ b < _) (.slice q3a q3n q3c) (txsDt dn)) := HO3.out.keep (t_.keeps (fun b hb hs => by omega))
  have HO4 : Hid (OwV w6 (fun b => w5.heap.size ≤ b ∧ b < w6.heap.size) (.slice q4a q4n q4c) (lssDt ls)) := o_.mono (fun b h => by simpa using h)
  clear vA vR vO HT HB b_ t_ o_ HO0 HO1 HO2 HO3
  have HT : Hid (Turned (fun b => w.heap.size ≤ b ∧ b < w.heap.size + 3) w6 w6) := Turned.refl _ _
  have vA := vA_
  have vR := vR_
  have vO := vO_
  have HB := HB_
  have HO0 := HO0_
  have HO1 := HO1_
  have HO2 := HO2_
  have HO3 := HO3_
  clear vA_ vR_ vO_ HB_ HO0_ HO1_ HO2_ HO3_
  obtain ⟨a0_, a1_, a2_, a3_, a4_, a5_, a6_, a7_⟩ := vA.k8
  obtain ⟨o0_, o1_, o2_, o3_, o4_, o5_, o6_, o7_⟩ := vO.k8
  have fo_ := vO.fz
  obtain ⟨r0_, r1_, r2_, r3_, r4_, r5_, r6_, r7_⟩ := vR.k8
  have fr_ := vR.fz
  clear vA vR vO
  go_wp2
  refine bodyPost_ret (v := .agg #[.int .i64 id_, .int .i64 bo, .int .i64 nx, .slice q0a q0n q0c, .slice q1a q1n q1c, .slice q2a q2n q2c, .slice q3a q3n q3c, .slice q4a q4n q4c]) (by simp [results, Tryz.results18, go_sem, r0_, r1_, r2_, r3_, r4_, r5_, r6_, r7_]) rfl ?_
  exact ⟨_, _, _, _, _, _, _, _, _, _, _, _, _, _, _, _, _, _, _, rfl, Sh.close (e := ⟨id_, bo, nx, ns, its, ds, dn, ls⟩) HB.out (HT.out |>.set _ _ (by simp <;> omega) |>.set _ _ (by simp <;> omega) |>.set _ _ (by simp <;> omega) |>.set _ _ (by simp <;> omega) |>.set _ _ (by simp <;> omega) |>.set _ _ (by simp <;> omega) |>.set _ _ (by simp <;> omega) |>.set _ _ (by simp <;> omega) |>.set _ _ (by simp <;> omega)) (HO0.out.mono (fun b h => (⟨by omega, h.2⟩ : w.heap.size + 3 ≤ b ∧ _))) HO1.out HO2.out HO3.out (HO4.out.mono (fun b h => (⟨h.1, by omega⟩ : _ ≤ b ∧ _))) ⟨by omega, by omega, by omega, by omega, by omega⟩⟩
theorem Tryz.infoShS : (Tryz.prog.info? 49).map (fun i => (i.zero, i.size, i.bytes)) = some (some (.agg #[.int .i64 0, .int .i64 0, .int .i64 0, .slice none 0 0, .slice none 0 0, .slice none 0 0, .slice none 0 0, .slice none 0 0]), 8, 144) := by kernel_rfl
/-- The first k of n are copied. -/
def PrtSh (l : List ShD) (B n k : Nat) (w : World) : Prop := OwV w (fun b => B ≤ b ∧ b < w.heap.size) (.slice (some ⟨B, 0, none⟩) n n) (.rows 49 8 n (fun i j => if i < k then shCell (l[i]?.getD sh0) j else shCell sh0 j))
theorem PrtSh.next {l : List ShD} {B n k M1 M2 M3 M4 : Nat} {w w2 : World} {u3 u4 u5 u6 u7 : Value} {e : ShD} (h : PrtSh l B n k w) (hk : k < n) (hB : B ≤ w.heap.size) (hb : Below w.heap.size w w2) (he : l[k]?.getD sh0 = e)
    (o3 : OwV w2 (fun b => w.heap.size ≤ b ∧ b < M1) u3 (ndsDt e.nds))
    (o4 : OwV w2 (fun b => M1 ≤ b ∧ b < M2) u4 (itsDt e.its))
    (o5 : OwV w2 (fun b => M2 ≤ b ∧ b < M3) u5 (vdsDt e.dec))
    (o6 : OwV w2 (fun b => M3 ≤ b ∧ b < M4) u6 (txsDt e.don))
    (o7 : OwV w2 (fun b => M4 ≤ b ∧ b < w2.heap.size) u7 (lssDt e.las))
    (hM : w.heap.size ≤ M1 ∧ M1 ≤ M2 ∧ M2 ≤ M3 ∧ M3 ≤ M4 ∧ M4 ≤ w2.heap.size)
    : PrtSh l B n (k + 1) ((((((((w2.setCell ⟨B, k * 8, none⟩ (.int .i64 e.id)).setCell ⟨B, k * 8 + 1, none⟩ (.int .i64 e.boot)).setCell ⟨B, k * 8 + 2, none⟩ (.int .i64 e.next)).setCell ⟨B, k * 8 + 3, none⟩ (u3)).setCell ⟨B, k * 8 + 4, none⟩ (u4)).setCell ⟨B, k * 8 + 5, none⟩ (u5)).setCell ⟨B, k * 8 + 6, none⟩ (u6)).setCell ⟨B, k * 8 + 7, none⟩ (u7)) := by
  have hs := hb.size
  have h2 := OwV.step h hb
  have p0 := OwV.put0 h2 hk (j := 0) (by omega) (u := .int .i64 e.id) (d := .int e.id) rfl
  have p1 := OwV.put0 p0 hk (j := 1) (by omega) (u := .int .i64 e.boot) (d := .int e.boot) rfl
  have p2 := OwV.put0 p1 hk (j := 2) (by omega) (u := .int .i64 e.next) (d := .int e.next) rfl
  have K3 : Keeps (fun b => w.heap.size ≤ b ∧ b < M1) w2 _ := ((Turned.refl (fun b => b = B) w2) |>.set ⟨B, k * 8 + 0, none⟩ (.int .i64 e.id) rfl |>.set ⟨B, k * 8 + 1, none⟩ (.int .i64 e.boot) rfl |>.set ⟨B, k * 8 + 2, none⟩ (.int .i64 e.next) rfl).keeps (fun b hb e => by subst e; have := OwV.lt0 h hk; omega)
  have p3 := OwV.put p2 hk (j := 3) (by omega) (o3.keep K3) (fun b hb hs => by omega)
  have K4 : Keeps (fun b => M1 ≤ b ∧ b < M2) w2 _ := ((Turned.refl (fun b => b = B) w2) |>.set ⟨B, k * 8 + 0, none⟩ (.int .i64 e.id) rfl |>.set ⟨B, k * 8 + 1, none⟩ (.int .i64 e.boot) rfl |>.set ⟨B, k * 8 + 2, none⟩ (.int .i64 e.next) rfl |>.set ⟨B, k * 8 + 3, none⟩ u3 rfl).keeps (fun b hb e => by subst e; have := OwV.lt0 h hk; omega)
  have p4 := OwV.put p3 hk (j := 4) (by omega) (o4.keep K4) (fun b hb hs => by omega)
  have K5 : Keeps (fun b => M2 ≤ b ∧ b < M3) w2 _ := ((Turned.refl (fun b => b = B) w2) |>.set ⟨B, k * 8 + 0, none⟩ (.int .i64 e.id) rfl |>.set ⟨B, k * 8 + 1, none⟩ (.int .i64 e.boot) rfl |>.set ⟨B, k * 8 + 2, none⟩ (.int .i64 e.next) rfl |>.set ⟨B, k * 8 + 3, none⟩ u3 rfl |>.set ⟨B, k * 8 + 4, none⟩ u4 rfl).keeps (fun b hb e => by subst e; have := OwV.lt0 h hk; omega)
  have p5 := OwV.put p4 hk (j := 5) (by omega) (o5.keep K5) (fun b hb hs => by omega)
  have K6 : Keeps (fun b => M3 ≤ b ∧ b < M4) w2 _ := ((Turned.refl (fun b => b = B) w2) |>.set ⟨B, k * 8 + 0, none⟩ (.int .i64 e.id) rfl |>.set ⟨B, k * 8 + 1, none⟩ (.int .i64 e.boot) rfl |>.set ⟨B, k * 8 + 2, none⟩ (.int .i64 e.next) rfl |>.set ⟨B, k * 8 + 3, none⟩ u3 rfl |>.set ⟨B, k * 8 + 4, none⟩ u4 rfl |>.set ⟨B, k * 8 + 5, none⟩ u5 rfl).keeps (fun b hb e => by subst e; have := OwV.lt0 h hk; omega)
  have p6 := OwV.put p5 hk (j := 6) (by omega) (o6.keep K6) (fun b hb hs => by omega)
  have K7 : Keeps (fun b => M4 ≤ b ∧ b < w2.heap.size) w2 _ := ((Turned.refl (fun b => b = B) w2) |>.set ⟨B, k * 8 + 0, none⟩ (.int .i64 e.id) rfl |>.set ⟨B, k * 8 + 1, none⟩ (.int .i64 e.boot) rfl |>.set ⟨B, k * 8 + 2, none⟩ (.int .i64 e.next) rfl |>.set ⟨B, k * 8 + 3, none⟩ u3 rfl |>.set ⟨B, k * 8 + 4, none⟩ u4 rfl |>.set ⟨B, k * 8 + 5, none⟩ u5 rfl |>.set ⟨B, k * 8 + 6, none⟩ u6 rfl).keeps (fun b hb e => by subst e; have := OwV.lt0 h hk; omega)
  have p7 := OwV.put p6 hk (j := 7) (by omega) (o7.keep K7) (fun b hb hs => by omega)
  refine OwV.mono (fun b hb => ?_) (OwV.congr p7 (fun i j hi hj => ?_))
  · have hz : ((((((((w2.setCell ⟨B, k * 8, none⟩ (.int .i64 e.id)).setCell ⟨B, k * 8 + 1, none⟩ (.int .i64 e.boot)).setCell ⟨B, k * 8 + 2, none⟩ (.int .i64 e.next)).setCell ⟨B, k * 8 + 3, none⟩ (u3)).setCell ⟨B, k * 8 + 4, none⟩ (u4)).setCell ⟨B, k * 8 + 5, none⟩ (u5)).setCell ⟨B, k * 8 + 6, none⟩ (u6)).setCell ⟨B, k * 8 + 7, none⟩ (u7)).heap.size = w2.heap.size := by simp
    show B ≤ b ∧ b < ((((((((w2.setCell ⟨B, k * 8, none⟩ (.int .i64 e.id)).setCell ⟨B, k * 8 + 1, none⟩ (.int .i64 e.boot)).setCell ⟨B, k * 8 + 2, none⟩ (.int .i64 e.next)).setCell ⟨B, k * 8 + 3, none⟩ (u3)).setCell ⟨B, k * 8 + 4, none⟩ (u4)).setCell ⟨B, k * 8 + 5, none⟩ (u5)).setCell ⟨B, k * 8 + 6, none⟩ (u6)).setCell ⟨B, k * 8 + 7, none⟩ (u7)).heap.size
    rw [hz]
    rcases hb with ((((hb | hb) | hb) | hb) | hb) | hb <;> omega
  · by_cases hik : i = k
    · subst hik
      rw [if_pos (by omega), he]
      match j, hj with
      | 0, _ => simp [upd]; rfl
      | 1, _ => simp [upd]; rfl
      | 2, _ => simp [upd]; rfl
      | 3, _ => simp [upd]; rfl
      | 4, _ => simp [upd]; rfl
      | 5, _ => simp [upd]; rfl
      | 6, _ => simp [upd]; rfl
      | 7, _ => simp [upd]; rfl
    · have e1 : (i < k + 1) = (i < k) := by simp; omega
      simp only [upd, hik, false_and, if_false, e1]

set_option maxHeartbeats 4000000 in
theorem toShardS_any (v : Value) (l : List ShD) (S : Nat → Prop) (w : World) (r : RdV w S v (shsDt l)) (hl : szShs l ≤ 2097152) :
    Calls Tryz.prog 6 #[v] w fun e w' => ∃ a n c, e = .returned (.slice a n c) ∧ OwV w' (fun b => w.heap.size ≤ b ∧ b < w'.heap.size) (.slice a n c) (shsDt l) ∧ Below w.heap.size w w' := by
  obtain ⟨a, cap, rfl, _⟩ := RdV.sliced r
  have HR : Hid (∀ W, Below w.heap.size w W → RdV W S (.slice a l.length cap) (shsDt l)) := r.old
  have HD : Hid (shsDt l = .rows 49 8 l.length (fun i j => shCell (l[i]?.getD sh0) j)) := rfl
  have hnn : l.length ≤ 2097152 := by unfold szShs at hl; omega
  have HL : Hid _ := hl
  clear r hl
  rw [HD.out] at HR ⊢
  clear HD
  generalize l.length = n at hnn HR ⊢
  obtain ⟨i0, hi, hz0, hz1, hz2⟩ := info_parts Tryz.infoShS
  go_enter Tryz.func6, Tryz.ntmps6
  go_wp2_with (at_make; refine wpList_make_full _ rfl _ _ 29 rfl w.heap.size 49 i0 (.agg #[.int .i64 0, .int .i64 0, .int .i64 0, .slice none 0 0, .slice none 0 0, .slice none 0 0, .slice none 0 0, .slice none 0 0]) 8 Tryz.underlying29 hi hz0 hz1 .i64 .i64 _ _ n rfl rfl rfl rfl (by rw [hz2]; omega) (by unfold maxLen; omega) (Nat.le_refl _) ?_; intro w1 hown hgrow)
  have hb1 : Below w.heap.size w w1 := (Below.refl _ _).grown hgrow (Nat.le_refl _) (fun k h => by cases h)
  have HP : Hid (PrtSh l w.heap.size n 0 w1) := (OwV.made rfl hown (fun j => shCell sh0 j) (fun j hj => by
    match j, hj with
    | 0, _ => rfl
    | 1, _ => rfl
    | 2, _ => rfl
    | 3, _ => exact OwV.nilR _ _ _ _ _
    | 4, _ => exact OwV.nilR _ _ _ _ _
    | 5, _ => exact OwV.nilR _ _ _ _ _
    | 6, _ => exact OwV.nilR _ _ _ _ _
    | 7, _ => exact OwV.nilR _ _ _ _ _
    )).congr (fun i j _ _ => by simp)
  clear hgrow hown
  go_loopw [4] (fun i wr => ∃ k : Nat, k ≤ n ∧ i = .int .i64 k ∧ Hid (PrtSh l w.heap.size n k wr) ∧ Below w.heap.size w wr) (fun i _ => n - (intOf i).toNat)
  case atStart => exact ⟨0, Nat.zero_le _, rfl, HP, hb1⟩
  case round =>
    clear HP hb1
    obtain ⟨k, hk, rfl, HP, hbel⟩ := hrel
    by_cases hlt : k < n
    · obtain ⟨b, off, rfl, hbl, _, hx⟩ := RdV.at (HR.out wr hbel) hlt
      obtain ⟨e, he⟩ : ∃ e, l[k]?.getD sh0 = e := ⟨_, rfl⟩
      obtain ⟨x0, c0, r0⟩ := hx 0 (by omega)
      obtain ⟨x1, c1, r1⟩ := hx 1 (by omega)
      obtain ⟨x2, c2, r2⟩ := hx 2 (by omega)
      obtain ⟨x3, c3, r3⟩ := hx 3 (by omega)
      obtain ⟨x4, c4, r4⟩ := hx 4 (by omega)
      obtain ⟨x5, c5, r5⟩ := hx 5 (by omega)
      obtain ⟨x6, c6, r6⟩ := hx 6 (by omega)
      obtain ⟨x7, c7, r7⟩ := hx 7 (by omega)
      rw [he] at r0 r1 r2 r3 r4 r5 r6 r7
      have HE : Hid _ := he
      have HZ : Hid (szSh e ≤ 2097152) := by have h1 := szShs_at l k; rw [he] at h1; have h2 := HL.out; show _ ≤ _; omega
      clear hx he
      obtain ⟨id_, bo, nx, ns, its, ds, dn, ls⟩ := e
      obtain rfl : x0 = .int .i64 id_ := r0
      obtain rfl : x1 = .int .i64 bo := r1
      obtain rfl : x2 = .int .i64 nx := r2
      simp only [Nat.add_zero] at c0
      have RS3 : Hid (RdV wr S x3 (ndsDt ns)) := r3
      clear r3
      obtain ⟨xa3, xc3, rfl, _⟩ := RdV.sliced RS3.out
      have RS4 : Hid (RdV wr S x4 (itsDt its)) := r4
      clear r4
      obtain ⟨xa4, xc4, rfl, _⟩ := RdV.sliced RS4.out
      have RS5 : Hid (RdV wr S x5 (vdsDt ds)) := r5
      clear r5
      obtain ⟨xa5, xc5, rfl, _⟩ := RdV.sliced RS5.out
      have RS6 : Hid (RdV wr S x6 (txsDt dn)) := r6
      clear r6
      obtain ⟨xa6, xc6, rfl, _⟩ := RdV.sliced RS6.out
      have RS7 : Hid (RdV wr S x7 (lssDt ls)) := r7
      clear r7
      obtain ⟨xa7, xc7, rfl, _⟩ := RdV.sliced RS7.out
      have HCO : Hid _ := toShard_any _ _ _ _ _ ⟨id_, bo, nx, ns, its, ds, dn, ls⟩ S wr ⟨RS3.out, RS4.out, RS5.out, RS6.out, RS7.out⟩ HZ.out
      generalize ns.length = xn3 at RS3 HCO c3
      generalize its.length = xn4 at RS4 HCO c4
      generalize ds.length = xn5 at RS5 HCO c5
      generalize dn.length = xn6 at RS6 HCO c6
      generalize ls.length = xn7 at RS7 HCO c7
      go_wp2_with fail
      refine Calls.mono HCO.out ?_
      rintro e w2 ⟨u3a, u3n, u3c, u4a, u4n, u4c, u5a, u5n, u5c, u6a, u6n, u6c, u7a, u7n, u7c, M1, M2, M3, M4, rfl, o3, o4, o5, o6, o7, hM, b2⟩
      have hsz := hbel.size
      have HN : Hid _ := PrtSh.next HP.out hlt hbel.size b2 HE.out o3 o4 o5 o6 o7 hM
      obtain ⟨hbad, _⟩ | ⟨g, cp, hg, _, hgl, hfz, hcs⟩ := OwV.head (OwV.step HP.out b2)
      · cases hbad
      simp only [Value.slice.injEq, Option.some.injEq, Addr.mk.injEq, and_true, true_and] at hg
      obtain ⟨rfl, rfl⟩ := hg
      obtain ⟨y0, k0⟩ := hcs (k * 8) (by omega)
      obtain ⟨y1, k1⟩ := hcs (k * 8 + 1) (by omega)
      obtain ⟨y2, k2⟩ := hcs (k * 8 + 2) (by omega)
      obtain ⟨y3, k3⟩ := hcs (k * 8 + 3) (by omega)
      obtain ⟨y4, k4⟩ := hcs (k * 8 + 4) (by omega)
      obtain ⟨y5, k5⟩ := hcs (k * 8 + 5) (by omega)
      obtain ⟨y6, k6⟩ := hcs (k * 8 + 6) (by omega)
      obtain ⟨y7, k7⟩ := hcs (k * 8 + 7) (by omega)
      have hbe2 := hbel.trans (b2.mono hbel.size)
      clear HP hcs b2 HCO o3 RS3 o4 RS4 o5 RS5 o6 RS6 o7 RS7 hM
      go_wp2
      go_roundw
      case rel => exact ⟨k + 1, by omega, by go_num, HN.out, ((((((((hbe2.setCell (Nat.le_refl _) _).setCell (Nat.le_refl _) _).setCell (Nat.le_refl _) _).setCell (Nat.le_refl _) _).setCell (Nat.le_refl _) _).setCell (Nat.le_refl _) _).setCell (Nat.le_refl _) _).setCell (Nat.le_refl _) _)⟩
      case measure => simp [intOf]; omega
    · have hkn : k = n := by omega
      subst hkn
      go_wp2
      go_ret
      exact ⟨_, _, _, rfl, OwV.congr HP.out (fun i j hi hj => by rw [if_pos hi]), hbel⟩
end
section
theorem guardSlice {ops : Array Oper} {rest : List Oper} {t t' : TypeId} {dst : Option Tmp} {x : Operand} {lo hi : Option Operand} {pos : String} {af : Array Edge} {a : Act} {Q : Exit → Act → World → Prop} {w : World}
    (h : wpList Tryz.prog ops Q (⟨dst, .slice t x lo hi none, t', pos, af, none⟩ :: rest) a w) : wpList Tryz.prog ops Q (⟨dst, .slice t x lo hi none, t', pos, af, none⟩ :: rest) a w := h
/-- The place of a name among entries. -/
def pl (es : List En) (nm : List Int) : Nat := es.findIdx (fun e => geS e.nm nm)
def addE (es : List En) (nm : List Int) (h : Hd) : List En := es.take (pl es nm) ++ [⟨nm, h⟩] ++ es.drop (pl es nm)
end
section
/-- Entries without the one at i. -/
def cutE (es : List En) (i : Nat) : List En := es.take i ++ es.drop (i + 1)
end
section
/-- Do all nodes lie there? -/
def lieB (c : Int) (l : List Nd) : Bool := l.all (fun n => decide (n.h.sh = c))
/-- The closure: does it lie elsewhere? -/
theorem lieC_any (vb : Nat) (c : Int) (n : Nd) (x : Value) (w : World) (hx : ∃ a l c, x = .slice a l c) (v : VarA w vb 3 #[.int .i64 c]) :
    Calls Tryz.prog 50 #[ndV n x, .pointer (some ⟨vb, 0, none⟩)] w fun e w' => e = .returned (.bool (!decide (n.h.sh = c))) ∧ Below w.heap.size w w' := by
  obtain ⟨xa, xn, xc, rfl⟩ := hx
  obtain ⟨⟨p, q, d⟩, ⟨p2, q2, d2⟩, lk, vl, es⟩ := n
  have c0 := fun o => (v.alloc o).l1
  have hbb : (p != c) = !decide (p = c) := by rw [bne]; congr 1
  show Calls _ _ _ _ fun e w' => e = .returned (.bool (!decide (p = c))) ∧ Below w.heap.size w w'
  rw [← hbb]
  clear v hbb
  go_enter Tryz.func50, Tryz.ntmps50
  go_wp2
  go_ret
  exact ⟨rfl, Below.newH _⟩
set_option maxHeartbeats 2000000 in
theorem idxNd_any (vb : Nat) (x : Value) (l : List Nd) (c : Int) (S : Nat → Prop) (w : World) (r : RdV w S x (ndsDt l)) (v : VarA w vb 3 #[.int .i64 c]) (hl : l.length ≤ 2097152) :
    Calls Tryz.prog 80 #[x, .func (.func 50) #[] #[.pointer (some ⟨vb, 0, none⟩)]] w fun e w' => (∃ z : Int, e = .returned (.int .i64 z) ∧ decide (0 ≤ z) = !lieB c l) ∧ Below w.heap.size w w' := by
  obtain ⟨a, cap, rfl, _⟩ := RdV.sliced r
  have HR : Hid (∀ W, Below w.heap.size w W → RdV W S (.slice a l.length cap) (.rows 54 9 l.length (fun i j => ndCell (l[i]?.getD nd0) j))) := RdV.old r
  have HC : Hid (∀ n (x0 : Value) W, Below w.heap.size w W → (∃ a l c, x0 = .slice a l c) → Calls Tryz.prog 50 #[ndV n x0, .pointer (some ⟨vb, 0, none⟩)] W fun e w' => e = .returned (.bool (!decide (n.h.sh = c))) ∧ Below W.heap.size W w') := fun n x0 W hW hx => lieC_any vb c n x0 W hx (v.step hW)
  have HT : Hid (∀ k, k < l.length → (l[k]?.getD nd0).h.sh ≠ c → lieB c l = false) := fun k hk hne => by
    unfold lieB
    rw [List.all_eq_false]
    exact ⟨l[k], List.getElem_mem hk, by rw [List.getElem?_eq_getElem hk] at hne; simpa using hne⟩
  have HA : Hid ((∀ i, i < l.length → (l[i]?.getD nd0).h.sh = c) → lieB c l = true) := fun h => by
    unfold lieB
    rw [List.all_eq_true]
    intro n hn
    obtain ⟨i, hi, rfl⟩ := List.getElem_of_mem hn
    have := h i hi
    rw [List.getElem?_eq_getElem hi] at this
    exact decide_eq_true this
  obtain ⟨m, hm⟩ : ∃ m, l.length = m := ⟨_, rfl⟩
  rw [hm] at hl HR HT HA ⊢
  clear r hm v
  go_enter Tryz.func80, Tryz.ntmps80
  go_wp2
  go_loopw [8] (fun i wr => ∃ k : Nat, k ≤ m ∧ i = .int .i64 k ∧ Below w.heap.size w wr ∧ Hid (∀ i, i < k → (l[i]?.getD nd0).h.sh = c)) (fun i _ => m - (intOf i).toNat)
  case atStart => exact ⟨0, Nat.zero_le _, rfl, Below.refl _ _, fun i hi => absurd hi (Nat.not_lt_zero _)⟩
  case round =>
    obtain ⟨k, hk, rfl, hbel, HP⟩ := hrel
    by_cases hlt : k < m
    · obtain ⟨b, off, rfl, hbl, _, hx⟩ := RdV.at (HR.out wr hbel) hlt
      have hT := HT.out k hlt
      obtain ⟨e, he⟩ : ∃ e, l[k]?.getD nd0 = e := ⟨_, rfl⟩
      obtain ⟨x0, c0, r0⟩ := hx 0 (by omega)
      obtain ⟨x1, c1, r1⟩ := hx 1 (by omega)
      obtain ⟨x2, c2, r2⟩ := hx 2 (by omega)
      obtain ⟨x3, c3, r3⟩ := hx 3 (by omega)
      obtain ⟨x4, c4, r4⟩ := hx 4 (by omega)
      obtain ⟨x5, c5, r5⟩ := hx 5 (by omega)
      obtain ⟨x6, c6, r6⟩ := hx 6 (by omega)
      obtain ⟨x7, c7, r7⟩ := hx 7 (by omega)
      obtain ⟨x8, c8, r8⟩ := hx 8 (by omega)
      rw [he] at r0 r1 r2 r3 r4 r5 r6 r7 r8 hT
      have HE : Hid _ := he
      clear hx he
      obtain ⟨⟨p, q, d⟩, ⟨p2, q2, d2⟩, lk, vl, es⟩ := e
      simp only [Nat.add_zero] at c0
      obtain rfl : x0 = .int .i64 p := r0
      obtain rfl : x1 = .int .i64 q := r1
      obtain rfl : x2 = .bool d := r2
      obtain rfl : x3 = .int .i64 p2 := r3
      obtain rfl : x4 = .int .i64 q2 := r4
      obtain rfl : x5 = .bool d2 := r5
      obtain rfl : x6 = .int .i64 lk := r6
      obtain rfl : x7 = .int .i64 vl := r7
      have RB : RdV wr S x8 (ensDt es) := r8
      obtain ⟨xa, xc, rfl, _⟩ := RdV.sliced RB
      have HCC : Hid _ := HC.out ⟨(p, q, d), (p2, q2, d2), lk, vl, es⟩ (.slice xa es.length xc) wr hbel ⟨_, _, _, rfl⟩
      have hT2 : p ≠ c → lieB c l = false := hT
      clear r8 RB hT
      dsimp only at HCC
      generalize es.length = xn at *
      by_cases heq : p = c
      · have HF : Hid (∀ i, i < k + 1 → (l[i]?.getD nd0).h.sh = c) := fun i hi => by
          by_cases h1 : i < k
          · exact HP.out i h1
          · obtain rfl : i = k := by omega
            rw [HE.out]; exact heq
        have hd : (!decide (Hd.sh (p, q, d) = c)) = false := by rw [decide_eq_true heq]; rfl
        rw [hd] at HCC
        clear HP hT2 hd heq
        go_wp2_with (go_at_call 50; refine Calls.mono HCC.out ?_; rintro e w2 ⟨rfl, hb2⟩)
        go_roundw
        case rel => exact ⟨k + 1, by omega, by go_num, hbel.trans (hb2.mono hbel.size), HF.out⟩
        case measure => simp [intOf]; omega
      · have HF : Hid (lieB c l = false) := hT2 heq
        have hd : (!decide (Hd.sh (p, q, d) = c)) = true := by rw [decide_eq_false heq]; rfl
        rw [hd] at HCC
        clear HP hT2 hd
        go_wp2_with (go_at_call 50; refine Calls.mono HCC.out ?_; rintro e w2 ⟨rfl, hb2⟩)
        go_ret
        exact ⟨⟨k, rfl, by rw [HF.out]; simp⟩, hbel.trans (hb2.mono hbel.size)⟩
    · have he : k = m := by omega
      subst he
      have HF : Hid (lieB c l = true) := HA.out HP.out
      go_wp2
      go_ret
      exact ⟨⟨-1, rfl, by rw [HF.out]; rfl⟩, hbel⟩
set_option maxHeartbeats 2000000 in
theorem lieAll_any (x : Value) (l : List Nd) (c : Int) (S : Nat → Prop) (w : World) (r : RdV w S x (ndsDt l)) (hl : l.length ≤ 2097152) :
    Calls Tryz.prog 19 #[.int .i64 c, x] w fun e w' => e = .returned (.bool (lieB c l)) ∧ Below w.heap.size w w' := by
  obtain ⟨a, cap, rfl, _⟩ := RdV.sliced r
  have HI : Hid (∀ vb W, Below w.heap.size w W → VarA W vb 3 #[.int .i64 c] → _) := fun vb W hW hv => idxNd_any vb _ l c S W (r.step hW) hv hl
  have HN : Hid (∀ vb W, Below w.heap.size w W → VarA W vb 3 #[.int .i64 c] → Calls Tryz.prog 49 #[.slice a l.length cap, .func (.func 50) #[] #[.pointer (some ⟨vb, 0, none⟩)]] W fun e w' => e = .returned (.bool (!lieB c l)) ∧ Below W.heap.size W w') := fun vb W hW hv => by
    have HJ : Hid _ := HI.out vb W hW hv
    clear HI
    generalize l.length = n at *
    go_enter Tryz.func49, Tryz.ntmps49
    go_wp2_with fail
    refine Calls.mono HJ.out ?_
    rintro e w2 ⟨⟨z, rfl, hz⟩, b2⟩
    have HZ : Hid (decide (0 ≤ z) = !lieB c l) := hz
    clear hz
    go_wp2
    go_ret
    exact ⟨by rw [← HZ.out]; rfl, b2⟩
  clear HI r
  generalize l.length = n at *
  go_enter Tryz.func19, Tryz.ntmps19
  go_wp2_with fail
  refine Calls.mono (HN.out _ _ (Below.newH _) (VarA.new w _ _)) ?_
  rintro e w2 ⟨rfl, b2⟩
  go_wp2
  go_ret
  exact ⟨by simp, (Below.newH (w := w) _).trans (b2.mono (by simp))⟩
end
section
def cmpB (xs ys : List Int) : Int := Lib.compareBytes (Lib.bytesOf xs) (Lib.bytesOf ys)
theorem cmp_less : ∀ (a b : List UInt8), decide (0 ≤ Lib.compareBytes a b) = !Op.bytesLess a b
  | [], [] => by simp [Lib.compareBytes, Op.bytesLess]
  | [], _ :: _ => by simp [Lib.compareBytes, Op.bytesLess]
  | _ :: _, [] => by simp [Lib.compareBytes, Op.bytesLess]
  | x :: a, y :: b => by
    have ih := cmp_less a b
    simp only [Lib.compareBytes, Op.bytesLess]
    by_cases h1 : x < y
    · simp [h1]
    · by_cases h2 : y < x
      · have h3 : ¬ x = y := fun e => by subst e; exact UInt8.lt_irrefl x h2
        simp [h1, h2, h3]
      · have h3 : x = y := UInt8.le_antisymm (UInt8.not_lt.1 h2) (UInt8.not_lt.1 h1)
        subst h3
        simp [h1]
        simpa using ih
theorem cmpB_ge (xs ys : List Int) : decide (0 ≤ cmpB xs ys) = geS xs ys := by
  unfold cmpB geS
  rw [cmp_less, Lib.strOfNums_toList, Lib.strOfNums_toList]
theorem run_bytesOf (v : Value) (xs : List Int) (S : Nat → Prop) (w : World) (r : RdV w S v (.bytes xs)) : (Extern.Bytes.bytesOf v).run Tryz.prog w = .ok ⟨(Lib.bytesOf xs).toArray⟩ w := by
  obtain ⟨a, cap, rfl, hh, hr⟩ := r.b.reads
  cases a with
  | none =>
    have h0 := (hh.2.2 rfl).1
    have : xs = [] := List.eq_nil_of_length_eq_zero h0
    subst this
    simp [Extern.Bytes.bytesOf, Lib.bytesOf]
    rfl
  | some ad =>
    have hl := Lib.run_loadBytesX (P := Tryz.prog) w xs ad .empty (fun j x hj => by
      have hjl : j < xs.length := (List.getElem?_eq_some_iff.1 hj).1
      have := hr.srcAt j (.int .u8 x) (by simp [bcells, hj])
      exact this)
    have he : (⟨ByteArray.empty.data ++ (Lib.bytesOf xs).toArray⟩ : ByteArray) = ⟨(Lib.bytesOf xs).toArray⟩ := by
      apply ByteArray.ext
      show (#[] : Array UInt8) ++ (Lib.bytesOf xs).toArray = (Lib.bytesOf xs).toArray
      simp
    rw [he] at hl
    exact hl
theorem run_cmp (v u : Value) (xs ys : List Int) (S S2 : Nat → Prop) (w : World) (r : RdV w S v (.bytes xs)) (r2 : RdV w S2 u (.bytes ys)) :
    (Extern.BytealgCompare.compare #[v, u]).run Tryz.prog w = .ok (.int .i64 (cmpB xs ys)) w := by
  change Sem.run Tryz.prog (do pure (goInt (Extern.BytealgCompare.cmp (← Extern.Bytes.bytesOf v) (← Extern.Bytes.bytesOf u)))) w = _
  have h1 := run_bytesOf v xs S w r
  have h2 := run_bytesOf u ys S2 w r2
  simp only [Sem.run_bind, Sem.run_pure, h1, h2, Result.andThen]
  rw [Lib.cmp_eq]
  rfl
set_option maxRecDepth 100000 in
theorem bytesCompare_any (v u : Value) (xs ys : List Int) (S S2 : Nat → Prop) (w : World) (r : RdV w S v (.bytes xs)) (r2 : RdV w S2 u (.bytes ys)) :
    Calls Tryz.prog 120 #[v, u] w fun e w' => e = .returned (.int .i64 (cmpB xs ys)) ∧ w' = w := by
  have HC : Hid _ := run_cmp v u xs ys S S2 w r r2
  obtain ⟨a, cap, rfl⟩ := r.sliceB
  obtain ⟨a2, cap2, rfl⟩ := r2.sliceB
  generalize xs.length = n0 at *
  generalize ys.length = n1 at *
  generalize cmpB xs ys = c at *
  clear r r2
  go_enter Tryz.func120, Tryz.ntmps120
  go_wp2
  rw [run_callFunc_extern Tryz.func129 (by kernel_rfl) (by kernel_rfl) (by kernel_rfl) (e := Extern.BytealgCompare.compare) (by kernel_rfl), HC.out]
  simp only [Result.andThen]
  rw [Oper.upon_value]
  go_wp2
  go_ret
  exact ⟨rfl, rfl⟩
end
section
def enAt (es : List En) (i : Nat) : Bool := isNm (es[i]?.getD en0).nm && (HOk (es[i]?.getD en0).h && (decide (i = 0) || !geS (es[i - 1]?.getD en0).nm (es[i]?.getD en0).nm))
def entsI (es : List En) : Bool := decide (es.length ≤ 12) && (List.range es.length).all (enAt es)

set_option maxRecDepth 100000 in
set_option maxHeartbeats 2000000 in
theorem entriesOk_any (x : Value) (es : List En) (S : Nat → Prop) (w : World) (r : RdV w S x (ensDt es)) (hl : szEns es ≤ 2097152) :
    Calls Tryz.prog 96 #[x] w fun e w' => e = .returned (.bool (entsI es)) ∧ Below w.heap.size w w' := by
  obtain ⟨a, cap, rfl, _⟩ := RdV.sliced r
  have HR2 : Hid (∀ W, Below w.heap.size w W → RdV W S (.slice a es.length cap) (.rows 83 4 es.length (fun i j => enCell (es[i]?.getD en0) j))) := RdV.old r
  have hmm : es.length ≤ 2097152 := by unfold szEns at hl; omega
  have HL : Hid _ := hl
  obtain ⟨m, hm⟩ : ∃ m, es.length = m := ⟨_, rfl⟩
  have HN : Hid _ := hm
  have HRS : Hid (entsI es = (decide (m ≤ 12) && (List.range m).all (enAt es))) := by show _ = _; unfold entsI; rw [hm]
  rw [hm] at HR2 hmm ⊢
  clear r hl hm
  by_cases h12 : m ≤ 12
  case neg =>
    have HF : Hid (entsI es = false) := by rw [HRS.out]; show _ = _; simp [h12]
    rw [HF.out]
    clear HRS HF HR2 HL HN
    go_enter Tryz.func96, Tryz.ntmps96
    go_wp2
    go_ret
    exact ⟨rfl, Below.refl _ _⟩
  have HRS2 : Hid (entsI es = (List.range m).all (enAt es)) := by rw [HRS.out]; show _ = _; simp [h12]
  rw [HRS2.out]
  clear HRS HRS2
  go_enter Tryz.func96, Tryz.ntmps96
  go_wp2
  go_loopw [10] (fun i wr => ∃ k : Nat, k ≤ m ∧ i = .int .i64 k ∧ Below w.heap.size w wr ∧ Hid ((List.range k).all (enAt es) = true)) (fun i _ => m - (intOf i).toNat)
  case atStart => exact ⟨0, Nat.zero_le _, rfl, Below.refl _ _, by show _ = _; simp⟩
  case round =>
    obtain ⟨k, hk, rfl, hbel, HA⟩ := hrel
    by_cases hlt : k < m
    case neg =>
      have he : k = m := by omega
      subst he
      go_wp2
      go_ret
      exact ⟨by rw [HA.out]; rfl, hbel⟩
    obtain ⟨b, off, rfl, hbl, _, hx⟩ := RdV.at (HR2.out wr hbel) hlt
    obtain ⟨e, he⟩ : ∃ e, es[k]?.getD en0 = e := ⟨_, rfl⟩
    obtain ⟨x0, c0, r0⟩ := hx 0 (by omega)
    obtain ⟨x1, c1, r1⟩ := hx 1 (by omega)
    obtain ⟨x2, c2, r2⟩ := hx 2 (by omega)
    obtain ⟨x3, c3, r3⟩ := hx 3 (by omega)
    rw [he] at r0 r1 r2 r3
    have HZ : Hid (e.nm.length ≤ 2097152) := by have h1 := szEns_at es k; rw [he] at h1; have h2 := HL.out; show _ ≤ _; omega
    have HAT : Hid (enAt es k = (isNm e.nm && (HOk e.h && (decide (k = 0) || !geS (es[k - 1]?.getD en0).nm e.nm)))) := by show _ = _; unfold enAt; rw [he]
    clear hx he
    obtain ⟨nm, ⟨s, ino, d⟩⟩ := e
    obtain rfl : x1 = .int .i64 s := r1
    obtain rfl : x2 = .int .i64 ino := r2
    obtain rfl : x3 = .bool d := r3
    simp only [Nat.add_zero] at c0
    dsimp only at HAT
    have RB : Hid (RdV wr S x0 (.bytes nm)) := r0
    clear r0
    have HNM : Hid (∀ W, Below wr.heap.size wr W → _) := fun W hW => implName_any x0 nm S W (RdV.step RB.out hW) HZ.out
    have HHO : Hid (∀ W, _) := fun W => implHandleOk_w (s, ino, d) W
    have HRX : Hid (∀ W, Below wr.heap.size wr W → RdV W S x0 (.bytes nm)) := fun W hW => RdV.step RB.out hW
    obtain ⟨xa, xc, rfl⟩ := RdV.sliceB RB.out
    clear RB
    generalize nm.length = xn at *
    generalize isNm nm = bn at HNM HAT
    generalize HOk (s, ino, d) = bh at HHO HAT
    cases bn with
    | false =>
      have HF : Hid ((List.range m).all (enAt es) = false) := range_all_false _ _ k hlt (by rw [HAT.out]; rfl)
      go_wp2_with fail
      refine Calls.mono (HNM.out _ (Below.newH _)) ?_
      rintro e w2 ⟨rfl, rfl⟩
      go_wp2
      go_ret
      exact ⟨by rw [HF.out]; rfl, hbel.trans ((Below.newH (w := wr) _).mono hbel.size)⟩
    | true =>
    cases bh with
    | false =>
      have HF : Hid ((List.range m).all (enAt es) = false) := range_all_false _ _ k hlt (by rw [HAT.out]; rfl)
      go_wp2_with fail
      refine Calls.mono (HNM.out _ (Below.newH _)) ?_
      rintro e w2 ⟨rfl, rfl⟩
      go_wp2_with fail
      refine Calls.mono (HHO.out _) ?_
      rintro e w2 ⟨rfl, rfl⟩
      go_wp2
      go_ret
      exact ⟨by rw [HF.out]; rfl, hbel.trans ((Below.newH2 (w := wr) _ _).mono hbel.size)⟩
    | true =>
    by_cases hk0 : k = 0
    · subst hk0
      have HF : Hid ((List.range (0 + 1)).all (enAt es) = true) := range_all_next _ _ HA.out (by rw [HAT.out]; rfl)
      simp only [Nat.zero_mul, Nat.add_zero] at c0 c1 c2 c3
      go_wp2_with fail
      refine Calls.mono (HNM.out _ (Below.newH _)) ?_
      rintro e w2 ⟨rfl, rfl⟩
      go_wp2_with fail
      refine Calls.mono (HHO.out _) ?_
      rintro e w2 ⟨rfl, rfl⟩
      go_wp2
      haveI : Nonempty (Cls ((wr.alloc (.cells #[.slice xa xn xc, .int .i64 s, .int .i64 ino, .bool d] 83)).alloc (.cells #[.int .i64 s, .int .i64 ino, .bool d] 51))) := Cls.ne _
      refine wp_region_cls (by kernel_rfl) (by kernel_rfl) ?_
      repeat (go_big_quiet_step (fail))
      refine wpQuiet_nil ?_
      rintro w' ⟨⟨w', hb'⟩, rfl⟩
      have hb3 : Below w.heap.size w w' := hbel.trans (((Below.newH2 (w := wr) _ _).trans (hb'.mono (by simp; omega))).mono hbel.size)
      go_wp2
      go_roundw
      case rel => exact ⟨0 + 1, by omega, by go_num, hb3, HF.out⟩
      case measure => simp [intOf]; omega
    obtain ⟨j, rfl⟩ : ∃ j, k = j + 1 := ⟨k - 1, by omega⟩
    obtain ⟨b9, off9, hbb, hbl9, _, hz⟩ := RdV.at (HR2.out wr hbel) (show j < m by omega)
    simp only [Option.some.injEq, Addr.mk.injEq, and_true] at hbb
    obtain ⟨rfl, rfl⟩ := hbb
    obtain ⟨y0, d0, s0⟩ := hz 0 (by omega)
    simp only [Nat.add_zero] at d0
    have HAT2 : Hid (enAt es (j + 1) = !geS (es[j]?.getD en0).nm nm) := by rw [HAT.out]; show _ = _; simp
    generalize es[j]?.getD en0 = e1 at s0 HAT2
    obtain ⟨nm1, hd1⟩ := e1
    dsimp only at HAT2
    have RY : Hid (RdV wr S y0 (.bytes nm1)) := s0
    clear hz s0 HAT
    have HCP : Hid (∀ W, Below wr.heap.size wr W → _) := fun W hW => bytesCompare_any y0 (.slice xa xn xc) nm1 nm S S W (RdV.step RY.out hW) (HRX.out W hW)
    rw [← cmpB_ge] at HAT2
    obtain ⟨ya, yc, rfl⟩ := RdV.sliceB RY.out
    clear RY HRX
    generalize nm1.length = yn at *
    generalize cmpB nm1 nm = cb at *
    have i1 : (0 : Int) ≤ (j : Int) := by omega
    have i2 : (j : Int) < (m : Int) := by omega
    by_cases hge : 0 ≤ cb
    · have HF : Hid ((List.range m).all (enAt es) = false) := range_all_false _ _ (j + 1) hlt (by rw [HAT2.out]; simp [hge])
      have hge2 : decide ((0 : Int) ≤ cb) = true := by simpa using hge
      go_wp2_with fail
      refine Calls.mono (HNM.out _ (Below.newH _)) ?_
      rintro e w2 ⟨rfl, rfl⟩
      go_wp2_with fail
      refine Calls.mono (HHO.out _) ?_
      rintro e w2 ⟨rfl, rfl⟩
      go_wp2
      haveI : Nonempty (Cls ((wr.alloc (.cells #[.slice xa xn xc, .int .i64 s, .int .i64 ino, .bool d] 83)).alloc (.cells #[.int .i64 s, .int .i64 ino, .bool d] 51))) := Cls.ne _
      have hblw : b < ((wr.alloc (.cells #[.slice xa xn xc, .int .i64 s, .int .i64 ino, .bool d] 83)).alloc (.cells #[.int .i64 s, .int .i64 ino, .bool d] 51)).heap.size := by simp; omega
      have kd0 := Cls.cell hblw (((Below.newH2 (w := wr) (.cells #[.slice xa xn xc, .int .i64 s, .int .i64 ino, .bool d] 83) (.cells #[.int .i64 s, .int .i64 ino, .bool d] 51)).cell (p := ⟨b, off + j * 4, none⟩) hbl9).trans d0)
      have ke0 := Cls.cell ((VarA.new wr 83 #[.slice xa xn xc, .int .i64 s, .int .i64 ino, .bool d]).alloc (.cells #[.int .i64 s, .int .i64 ino, .bool d] 51)).lt ((VarA.new wr 83 #[.slice xa xn xc, .int .i64 s, .int .i64 ino, .bool d]).alloc (.cells #[.int .i64 s, .int .i64 ino, .bool d] 51)).l4.1
      refine wp_region_cls (by kernel_rfl) (by kernel_rfl) ?_
      repeat (go_big_quiet_step (first | (go_at_call 120; exact Calls.cls_same (HCP.out _ ((Below.newH2 (w := wr) _ _).trans ((Cls.h _).mono (by simp; omega)))))))
      refine wpQuiet_nil ?_
      rintro w' ⟨⟨w', hb'⟩, rfl⟩
      have hb3 : Below w.heap.size w w' := hbel.trans (((Below.newH2 (w := wr) _ _).trans (hb'.mono (by simp; omega))).mono hbel.size)
      go_wp2
      go_ret
      exact ⟨by rw [HF.out]; rfl, hb3⟩
    · have HF : Hid ((List.range (j + 1 + 1)).all (enAt es) = true) := range_all_next _ _ HA.out (by rw [HAT2.out]; simp [hge])
      have hge2 : decide ((0 : Int) ≤ cb) = false := by simpa using hge
      go_wp2_with fail
      refine Calls.mono (HNM.out _ (Below.newH _)) ?_
      rintro e w2 ⟨rfl, rfl⟩
      go_wp2_with fail
      refine Calls.mono (HHO.out _) ?_
      rintro e w2 ⟨rfl, rfl⟩
      go_wp2
      haveI : Nonempty (Cls ((wr.alloc (.cells #[.slice xa xn xc, .int .i64 s, .int .i64 ino, .bool d] 83)).alloc (.cells #[.int .i64 s, .int .i64 ino, .bool d] 51))) := Cls.ne _
      have hblw : b < ((wr.alloc (.cells #[.slice xa xn xc, .int .i64 s, .int .i64 ino, .bool d] 83)).alloc (.cells #[.int .i64 s, .int .i64 ino, .bool d] 51)).heap.size := by simp; omega
      have kd0 := Cls.cell hblw (((Below.newH2 (w := wr) (.cells #[.slice xa xn xc, .int .i64 s, .int .i64 ino, .bool d] 83) (.cells #[.int .i64 s, .int .i64 ino, .bool d] 51)).cell (p := ⟨b, off + j * 4, none⟩) hbl9).trans d0)
      have ke0 := Cls.cell ((VarA.new wr 83 #[.slice xa xn xc, .int .i64 s, .int .i64 ino, .bool d]).alloc (.cells #[.int .i64 s, .int .i64 ino, .bool d] 51)).lt ((VarA.new wr 83 #[.slice xa xn xc, .int .i64 s, .int .i64 ino, .bool d]).alloc (.cells #[.int .i64 s, .int .i64 ino, .bool d] 51)).l4.1
      refine wp_region_cls (by kernel_rfl) (by kernel_rfl) ?_
      repeat (go_big_quiet_step (first | (go_at_call 120; exact Calls.cls_same (HCP.out _ ((Below.newH2 (w := wr) _ _).trans ((Cls.h _).mono (by simp; omega)))))))
      refine wpQuiet_nil ?_
      rintro w' ⟨⟨w', hb'⟩, rfl⟩
      have hb3 : Below w.heap.size w w' := hbel.trans (((Below.newH2 (w := wr) _ _).trans (hb'.mono (by simp; omega))).mono hbel.size)
      go_wp2
      go_roundw
      case rel => exact ⟨j + 1 + 1, by omega, by go_num, hb3, HF.out⟩
      case measure => simp [intOf]; omega
end
section
set_option maxHeartbeats 4000000 in
theorem eqShard_same (x y z u v x2 y2 z2 u2 v2 : Value) (e : ShD) (S S2 : Nat → Prop) (w : World) (r : RdShd w S e x y z u v) (r2 : RdShd w S2 e x2 y2 z2 u2 v2) (hl : szSh e ≤ 2097152) :
    Calls Tryz.prog 26 #[shV e x y z u v, shV e x2 y2 z2 u2 v2] w fun q w' => q = .returned (.bool true) ∧ Below w.heap.size w w' := by
  obtain ⟨r0, r1, r2_, r3, r4⟩ := r
  obtain ⟨k0, k1, k2, k3, k4⟩ := r2
  obtain ⟨s0, p0, rfl, _⟩ := RdV.sliced r0
  obtain ⟨s1, p1, rfl, _⟩ := RdV.sliced r1
  obtain ⟨s2, p2, rfl, _⟩ := RdV.sliced r2_
  obtain ⟨s3, p3, rfl, _⟩ := RdV.sliced r3
  obtain ⟨s4, p4, rfl, _⟩ := RdV.sliced r4
  obtain ⟨g0, j0, rfl, _⟩ := RdV.sliced k0
  obtain ⟨g1, j1, rfl, _⟩ := RdV.sliced k1
  obtain ⟨g2, j2, rfl, _⟩ := RdV.sliced k2
  obtain ⟨g3, j3, rfl, _⟩ := RdV.sliced k3
  obtain ⟨g4, j4, rfl, _⟩ := RdV.sliced k4
  obtain ⟨id_, bo, nx, ns, its, ds, dn, ls⟩ := e
  unfold szSh at hl
  dsimp only at hl r0 r1 r2_ r3 r4 k0 k1 k2 k3 k4 ⊢
  have HC0 : Hid (∀ W, Below w.heap.size w W → _) := fun W hW => eqNodeS_same _ _ ns S S2 W (r0.step hW) (k0.step hW) (by omega)
  have HC1 : Hid (∀ W, Below w.heap.size w W → _) := fun W hW => eqIntentS_same _ _ its S S2 W (r1.step hW) (k1.step hW) (by omega)
  have HC2 : Hid (∀ W, Below w.heap.size w W → _) := fun W hW => eqVerdictS_same _ _ ds S S2 W (r2_.step hW) (k2.step hW) (by omega)
  have HC3 : Hid (∀ W, Below w.heap.size w W → _) := fun W hW => eqTxS_same _ _ dn S S2 W (r3.step hW) (k3.step hW) (by omega)
  have HC4 : Hid (∀ W, Below w.heap.size w W → _) := fun W hW => eqLastS_same _ _ ls S S2 W (r4.step hW) (k4.step hW) (by omega)
  clear r0 r1 r2_ r3 r4 k0 k1 k2 k3 k4 hl
  generalize ns.length = t0 at HC0 ⊢
  generalize its.length = t1 at HC1 ⊢
  generalize ds.length = t2 at HC2 ⊢
  generalize dn.length = t3 at HC3 ⊢
  generalize ls.length = t4 at HC4 ⊢
  go_enter Tryz.func26, Tryz.ntmps26
  go_wp2_with fail
  refine Calls.mono (HC0.out _ (Below.newH2 _ _)) ?_
  rintro e w2 ⟨rfl, b_⟩
  have vA : VarA w2 w.heap.size 49 #[.int .i64 id_, .int .i64 bo, .int .i64 nx, .slice s0 t0 p0, .slice s1 t1 p1, .slice s2 t2 p2, .slice s3 t3 p3, .slice s4 t4 p4] := VarA.step ((VarA.new w _ _).alloc _) b_
  have vB : VarA w2 (w.heap.size + 1) 49 #[.int .i64 id_, .int .i64 bo, .int .i64 nx, .slice g0 t0 j0, .slice g1 t1 j1, .slice g2 t2 j2, .slice g3 t3 j3, .slice g4 t4 j4] := by
    have := VarA.step (VarA.new (w.alloc _) _ _) b_
    simpa using this
  have HB : Hid _ := (Below.newH2 (w := w) _ _).trans (b_.mono (by simp; omega))
  clear b_
  obtain ⟨a0_, a1_, a2_, a3_, a4_, a5_, a6_, a7_⟩ := vA.k8
  obtain ⟨b0_, b1_, b2_, b3_, b4_, b5_, b6_, b7_⟩ := vB.k8
  go_wp2_with fail
  refine Calls.mono (HC1.out _ HB.out) ?_
  rintro e w3 ⟨rfl, b_⟩
  have vA_ := vA.step b_
  have vB_ := vB.step b_
  have HB_ : Hid _ := HB.out.trans (b_.mono HB.out.size)
  clear vA vB HB b_ a0_ a1_ a2_ a3_ a4_ a5_ a6_ a7_ b0_ b1_ b2_ b3_ b4_ b5_ b6_ b7_
  have vA := vA_
  have vB := vB_
  have HB := HB_
  clear vA_ vB_ HB_
  obtain ⟨a0_, a1_, a2_, a3_, a4_, a5_, a6_, a7_⟩ := vA.k8
  obtain ⟨b0_, b1_, b2_, b3_, b4_, b5_, b6_, b7_⟩ := vB.k8
  go_wp2_with fail
  refine Calls.mono (HC2.out _ HB.out) ?_
  rintro e w4 ⟨rfl, b_⟩
  have vA_ := vA.step b_
  have vB_ := vB.step b_
  have HB_ : Hid _ := HB.out.trans (b_.mono HB.out.size)
  clear vA vB HB b_ a0_ a1_ a2_ a3_ a4_ a5_ a6_ a7_ b0_ b1_ b2_ b3_ b4_ b5_ b6_ b7_
  have vA := vA_
  have vB := vB_
  have HB := HB_
  clear vA_ vB_ HB_
  obtain ⟨a0_, a1_, a2_, a3_, a4_, a5_, a6_, a7_⟩ := vA.k8
  obtain ⟨b0_, b1_, b2_, b3_, b4_, b5_, b6_, b7_⟩ := vB.k8
  go_wp2_with fail
  refine Calls.mono (HC3.out _ HB.out) ?_
  rintro e w5 ⟨rfl, b_⟩
  have vA_ := vA.step b_
  have vB_ := vB.step b_
  have HB_ : Hid _ := HB.out.trans (b_.mono HB.out.size)
  clear vA vB HB b_ a0_ a1_ a2_ a3_ a4_ a5_ a6_ a7_ b0_ b1_ b2_ b3_ b4_ b5_ b6_ b7_
  have vA := vA_
  have vB := vB_
  have HB := HB_
  clear vA_ vB_ HB_
  obtain ⟨a0_, a1_, a2_, a3_, a4_, a5_, a6_, a7_⟩ := vA.k8
  obtain ⟨b0_, b1_, b2_, b3_, b4_, b5_, b6_, b7_⟩ := vB.k8
  go_wp2_with fail
  refine Calls.mono (HC4.out _ HB.out) ?_
  rintro e w6 ⟨rfl, b_⟩
  have vA_ := vA.step b_
  have vB_ := vB.step b_
  have HB_ : Hid _ := HB.out.trans (b_.mono HB.out.size)
  clear vA vB HB b_ a0_ a1_ a2_ a3_ a4_ a5_ a6_ a7_ b0_ b1_ b2_ b3_ b4_ b5_ b6_ b7_
  have vA := vA_
  have vB := vB_
  have HB := HB_
  clear vA_ vB_ HB_
  obtain ⟨a0_, a1_, a2_, a3_, a4_, a5_, a6_, a7_⟩ := vA.k8
  obtain ⟨b0_, b1_, b2_, b3_, b4_, b5_, b6_, b7_⟩ := vB.k8
  go_wp2
  go_ret
  exact ⟨rfl, HB.out⟩

set_option maxHeartbeats 4000000 in
theorem eqShardS_same (v u : Value) (l : List ShD) (S S2 : Nat → Prop) (w : World) (r : RdV w S v (shsDt l)) (r2 : RdV w S2 u (shsDt l)) (hl : szShs l ≤ 2097152) :
    Calls Tryz.prog 9 #[v, u] w fun e w' => e = .returned (.bool true) ∧ Below w.heap.size w w' := by
  obtain ⟨a, cap, rfl, _⟩ := RdV.sliced r
  obtain ⟨a2, cap2, rfl, _⟩ := RdV.sliced r2
  have HR : Hid (∀ W, Below w.heap.size w W → RdV W S (.slice a l.length cap) (shsDt l)) := r.old
  have HR2 : Hid (∀ W, Below w.heap.size w W → RdV W S2 (.slice a2 l.length cap2) (shsDt l)) := r2.old
  have HD : Hid (shsDt l = .rows 49 8 l.length (fun i j => shCell (l[i]?.getD sh0) j)) := rfl
  have hnn : l.length ≤ 2097152 := by unfold szShs at hl; omega
  have HL : Hid _ := hl
  clear r r2 hl
  rw [HD.out] at HR HR2
  clear HD
  generalize l.length = n at hnn HR HR2 ⊢
  go_enter Tryz.func9, Tryz.ntmps9
  go_wp2
  go_loopw [5] (fun i wr => ∃ k : Nat, k ≤ n ∧ i = .int .i64 k ∧ Below w.heap.size w wr) (fun i _ => n - (intOf i).toNat)
  case atStart => exact ⟨0, Nat.zero_le _, rfl, Below.refl _ _⟩
  case round =>
    obtain ⟨k, hk, rfl, hbel⟩ := hrel
    by_cases hlt : k < n
    · obtain ⟨b, off, rfl, hbl, _, hx⟩ := RdV.at (HR.out wr hbel) hlt
      obtain ⟨b2, off2, rfl, hbl2, _, hy⟩ := RdV.at (HR2.out wr hbel) hlt
      obtain ⟨e, he⟩ : ∃ e, l[k]?.getD sh0 = e := ⟨_, rfl⟩
      obtain ⟨x0, c0, r0⟩ := hx 0 (by omega)
      obtain ⟨y0, dd0, s0⟩ := hy 0 (by omega)
      obtain ⟨x1, c1, r1⟩ := hx 1 (by omega)
      obtain ⟨y1, dd1, s1⟩ := hy 1 (by omega)
      obtain ⟨x2, c2, r2⟩ := hx 2 (by omega)
      obtain ⟨y2, dd2, s2⟩ := hy 2 (by omega)
      obtain ⟨x3, c3, r3⟩ := hx 3 (by omega)
      obtain ⟨y3, dd3, s3⟩ := hy 3 (by omega)
      obtain ⟨x4, c4, r4⟩ := hx 4 (by omega)
      obtain ⟨y4, dd4, s4⟩ := hy 4 (by omega)
      obtain ⟨x5, c5, r5⟩ := hx 5 (by omega)
      obtain ⟨y5, dd5, s5⟩ := hy 5 (by omega)
      obtain ⟨x6, c6, r6⟩ := hx 6 (by omega)
      obtain ⟨y6, dd6, s6⟩ := hy 6 (by omega)
      obtain ⟨x7, c7, r7⟩ := hx 7 (by omega)
      obtain ⟨y7, dd7, s7⟩ := hy 7 (by omega)
      rw [he] at r0 s0 r1 s1 r2 s2 r3 s3 r4 s4 r5 s5 r6 s6 r7 s7
      have HZ : Hid (szSh e ≤ 2097152) := by have h1 := szShs_at l k; rw [he] at h1; have h2 := HL.out; show _ ≤ _; omega
      clear hx hy he
      obtain ⟨id_, bo, nx, ns, its, ds, dn, ls⟩ := e
      obtain rfl : x0 = .int .i64 id_ := r0
      obtain rfl : y0 = .int .i64 id_ := s0
      obtain rfl : x1 = .int .i64 bo := r1
      obtain rfl : y1 = .int .i64 bo := s1
      obtain rfl : x2 = .int .i64 nx := r2
      obtain rfl : y2 = .int .i64 nx := s2
      simp only [Nat.add_zero] at c0 dd0
      have RS3 : Hid (RdV wr S x3 (ndsDt ns)) := r3
      have RT3 : Hid (RdV wr S2 y3 (ndsDt ns)) := s3
      clear r3 s3
      obtain ⟨xa3, xc3, rfl, _⟩ := RdV.sliced RS3.out
      obtain ⟨ya3, yc3, rfl, _⟩ := RdV.sliced RT3.out
      have RS4 : Hid (RdV wr S x4 (itsDt its)) := r4
      have RT4 : Hid (RdV wr S2 y4 (itsDt its)) := s4
      clear r4 s4
      obtain ⟨xa4, xc4, rfl, _⟩ := RdV.sliced RS4.out
      obtain ⟨ya4, yc4, rfl, _⟩ := RdV.sliced RT4.out
      have RS5 : Hid (RdV wr S x5 (vdsDt ds)) := r5
      have RT5 : Hid (RdV wr S2 y5 (vdsDt ds)) := s5
      clear r5 s5
      obtain ⟨xa5, xc5, rfl, _⟩ := RdV.sliced RS5.out
      obtain ⟨ya5, yc5, rfl, _⟩ := RdV.sliced RT5.out
      have RS6 : Hid (RdV wr S x6 (txsDt dn)) := r6
      have RT6 : Hid (RdV wr S2 y6 (txsDt dn)) := s6
      clear r6 s6
      obtain ⟨xa6, xc6, rfl, _⟩ := RdV.sliced RS6.out
      obtain ⟨ya6, yc6, rfl, _⟩ := RdV.sliced RT6.out
      have RS7 : Hid (RdV wr S x7 (lssDt ls)) := r7
      have RT7 : Hid (RdV wr S2 y7 (lssDt ls)) := s7
      clear r7 s7
      obtain ⟨xa7, xc7, rfl, _⟩ := RdV.sliced RS7.out
      obtain ⟨ya7, yc7, rfl, _⟩ := RdV.sliced RT7.out
      have RC : Hid _ := eqShard_same _ _ _ _ _ _ _ _ _ _ ⟨id_, bo, nx, ns, its, ds, dn, ls⟩ S S2 wr.drew ⟨(RS3.out.step (Below.drew (Below.refl _ _))), (RS4.out.step (Below.drew (Below.refl _ _))), (RS5.out.step (Below.drew (Below.refl _ _))), (RS6.out.step (Below.drew (Below.refl _ _))), (RS7.out.step (Below.drew (Below.refl _ _)))⟩ ⟨(RT3.out.step (Below.drew (Below.refl _ _))), (RT4.out.step (Below.drew (Below.refl _ _))), (RT5.out.step (Below.drew (Below.refl _ _))), (RT6.out.step (Below.drew (Below.refl _ _))), (RT7.out.step (Below.drew (Below.refl _ _)))⟩ HZ.out
      generalize ns.length = xn3 at RC c3 dd3
      generalize its.length = xn4 at RC c4 dd4
      generalize ds.length = xn5 at RC c5 dd5
      generalize dn.length = xn6 at RC c6 dd6
      generalize ls.length = xn7 at RC c7 dd7
      have hws := hbel.size
      clear HZ RS3 RT3 RS4 RT4 RS5 RT5 RS6 RT6 RS7 RT7
      go_wp2
      go_region_held3 (fun w' => w'.cell? ⟨b, off + k * 8, none⟩ = some (.int .i64 id_) ∧ w'.cell? ⟨b, off + k * 8 + 1, none⟩ = some (.int .i64 bo) ∧ w'.cell? ⟨b, off + k * 8 + 2, none⟩ = some (.int .i64 nx) ∧ w'.cell? ⟨b, off + k * 8 + 3, none⟩ = some (.slice xa3 xn3 xc3) ∧ w'.cell? ⟨b, off + k * 8 + 4, none⟩ = some (.slice xa4 xn4 xc4) ∧ w'.cell? ⟨b, off + k * 8 + 5, none⟩ = some (.slice xa5 xn5 xc5) ∧ w'.cell? ⟨b, off + k * 8 + 6, none⟩ = some (.slice xa6 xn6 xc6) ∧ w'.cell? ⟨b, off + k * 8 + 7, none⟩ = some (.slice xa7 xn7 xc7) ∧ w'.cell? ⟨b2, off2 + k * 8, none⟩ = some (.int .i64 id_) ∧ w'.cell? ⟨b2, off2 + k * 8 + 1, none⟩ = some (.int .i64 bo) ∧ w'.cell? ⟨b2, off2 + k * 8 + 2, none⟩ = some (.int .i64 nx) ∧ w'.cell? ⟨b2, off2 + k * 8 + 3, none⟩ = some (.slice ya3 xn3 yc3) ∧ w'.cell? ⟨b2, off2 + k * 8 + 4, none⟩ = some (.slice ya4 xn4 yc4) ∧ w'.cell? ⟨b2, off2 + k * 8 + 5, none⟩ = some (.slice ya5 xn5 yc5) ∧ w'.cell? ⟨b2, off2 + k * 8 + 6, none⟩ = some (.slice ya6 xn6 yc6) ∧ w'.cell? ⟨b2, off2 + k * 8 + 7, none⟩ = some (.slice ya7 xn7 yc7)) (first | go_keep | (refine ⟨?_, ?_, ?_, ?_, ?_, ?_, ?_, ?_, ?_, ?_, ?_, ?_, ?_, ?_, ?_, ?_⟩ <;> assumption)) (first | (go_at_call 26; refine Calls.mono RC.out ?_; rintro e w' ⟨rfl, hbw⟩; have q0 := (hbw.cell (p := ⟨b, off + k * 8, none⟩) hbl).trans c0; have q1 := (hbw.cell (p := ⟨b, off + k * 8 + 1, none⟩) hbl).trans c1; have q2 := (hbw.cell (p := ⟨b, off + k * 8 + 2, none⟩) hbl).trans c2; have q3 := (hbw.cell (p := ⟨b, off + k * 8 + 3, none⟩) hbl).trans c3; have q4 := (hbw.cell (p := ⟨b, off + k * 8 + 4, none⟩) hbl).trans c4; have q5 := (hbw.cell (p := ⟨b, off + k * 8 + 5, none⟩) hbl).trans c5; have q6 := (hbw.cell (p := ⟨b, off + k * 8 + 6, none⟩) hbl).trans c6; have q7 := (hbw.cell (p := ⟨b, off + k * 8 + 7, none⟩) hbl).trans c7; have q8 := (hbw.cell (p := ⟨b2, off2 + k * 8, none⟩) hbl2).trans dd0; have q9 := (hbw.cell (p := ⟨b2, off2 + k * 8 + 1, none⟩) hbl2).trans dd1; have q10 := (hbw.cell (p := ⟨b2, off2 + k * 8 + 2, none⟩) hbl2).trans dd2; have q11 := (hbw.cell (p := ⟨b2, off2 + k * 8 + 3, none⟩) hbl2).trans dd3; have q12 := (hbw.cell (p := ⟨b2, off2 + k * 8 + 4, none⟩) hbl2).trans dd4; have q13 := (hbw.cell (p := ⟨b2, off2 + k * 8 + 5, none⟩) hbl2).trans dd5; have q14 := (hbw.cell (p := ⟨b2, off2 + k * 8 + 6, none⟩) hbl2).trans dd6; have q15 := (hbw.cell (p := ⟨b2, off2 + k * 8 + 7, none⟩) hbl2).trans dd7))
      go_wp2
      go_roundw
      case rel => exact ⟨k + 1, by omega, by go_num, hbel.drew.trans (hbw.mono hws)⟩
      case measure => simp [intOf]; omega
    · have hkn : k = n := by omega
      subst hkn
      go_wp2
      go_ret
      exact ⟨rfl, hbel⟩
end
section
/-- What marking leaves: a number, memory of the value's own, all else as it was. -/
def MkP (W : World) (Q : Nat → Prop) (x : Value) (B : Nat) (e : Ending) (w' : World) : Prop := ∃ k' : Nat, e = .returned (.int .i64 k') ∧ k' ≤ B ∧ (∃ d, OwV w' Q x d) ∧ Turned Q W w'
theorem markB_m (v : Value) (zs : List Int) (k : Nat) (S : Nat → Prop) (w : World) (o : OwV w S v (.bytes zs)) (hl : zs.length ≤ 2097152) (hk : k ≤ 1099511627776) : Calls Tryz.prog 67 #[v, .int .i64 k] w (MkP w S v (k + zs.length)) :=
  (mark_d v zs k S w o hl hk).mono (fun e w' h => ⟨_, h.1, Nat.le_refl _, ⟨_, h.2.1⟩, h.2.2⟩)
theorem markE_m (v : Value) (l : List En) (k : Nat) (S : Nat → Prop) (w : World) (o : OwV w S v (ensDt l)) (hl : szEns l ≤ 2097152) (hk : k + 4 * szEns l ≤ 1099511627776) : Calls Tryz.prog 66 #[v, .int .i64 k] w (MkP w S v (k + 4 * szEns l)) :=
  (markEntryS_d v l k S w o hl (by have := lenEns_le l; omega)).mono (fun e w' h => ⟨_, h.1, by have := lenEns_le l; omega, ⟨_, h.2.1⟩, h.2.2⟩)
theorem markN_m (v : Value) (l : List Nd) (k : Nat) (S : Nat → Prop) (w : World) (o : OwV w S v (ndsDt l)) (hl : szNds l ≤ 2097152) (hk : k + 8 * szNds l ≤ 1099511627776) : Calls Tryz.prog 27 #[v, .int .i64 k] w (MkP w S v (k + 8 * szNds l)) :=
  (markNodeS_d v l k S w o hl (by have := lenNds_le l; omega)).mono (fun e w' h => ⟨_, h.1, by have := lenNds_le l; omega, ⟨_, h.2.1⟩, h.2.2⟩)
theorem OwV.putI {w : World} {S : Nat → Prop} {g cap : Nat} {t : TypeId} {k n : Nat} {f : Nat → Nat → Dt} (r : OwV w S (.slice (some ⟨g, 0, none⟩) n cap) (.rows t k n f)) {i : Nat} (j : Nat) (hi : i < n) (hj : j < k) (z : Int) : OwV (w.setCell ⟨g, i * k + j, none⟩ (.int .i64 z)) S (.slice (some ⟨g, 0, none⟩) n cap) (.rows t k n (upd f i j (.int z))) := OwV.put0 r hi hj rfl
theorem OwV.putB {w : World} {S : Nat → Prop} {g cap : Nat} {t : TypeId} {k n : Nat} {f : Nat → Nat → Dt} (r : OwV w S (.slice (some ⟨g, 0, none⟩) n cap) (.rows t k n f)) {i : Nat} (j : Nat) (hi : i < n) (hj : j < k) (z : Bool) : OwV (w.setCell ⟨g, i * k + j, none⟩ (.bool z)) S (.slice (some ⟨g, 0, none⟩) n cap) (.rows t k n (upd f i j (.bool z))) := OwV.put0 r hi hj rfl
set_option maxHeartbeats 8000000 in
theorem markTxS_m (v : Value) (l : List TxD) (k : Nat) (S : Nat → Prop) (w : World) (o : OwV w S v (txsDt l)) (hl : szTxs l ≤ 2097152) (hk : k + 3 * szTxs l ≤ 1099511627776) : Calls Tryz.prog 30 #[v, .int .i64 k] w (MkP w S v (k + 3 * szTxs l)) := by
  obtain ⟨a, cap, rfl, _⟩ := RdV.sliced o.rd
  have HO : Hid (OwV w S (.slice a l.length cap) (.rows 107 3 l.length (fun i j => txCell (l[i]?.getD tx0) j))) := o
  have HX : Hid (szTxs l = l.length) := rfl
  rw [HX.out] at hk ⊢
  have hnn : l.length ≤ 2097152 := by have := HX.out; omega
  clear o hl HX
  generalize l.length = n at *
  go_enter Tryz.func30, Tryz.ntmps30
  go_wp2
  go_loopw [1, 5] (fun q i wr => ∃ j s : Nat, j ≤ n ∧ i = .int .i64 j ∧ q = .int .i64 s ∧ Hid (s ≤ k + 3 * j) ∧ Hid (∃ F, (∀ i q, j ≤ i → F i q = txCell (l[i]?.getD tx0) q) ∧ OwV wr S (.slice a n cap) (.rows 107 3 n F)) ∧ Hid (Turned S w wr)) (fun _ i _ => n - (intOf i).toNat)
  case atStart => exact ⟨0, k, Nat.zero_le _, rfl, rfl, by show _ ≤ _; omega, ⟨_, fun _ _ _ => rfl, HO.out⟩, Turned.refl _ _⟩
  case round =>
    clear HO
    obtain ⟨j, s, hj, rfl, rfl, HS, HO, HT⟩ := hrel
    by_cases hlt : j < n
    · obtain ⟨F, hF, ho⟩ := HO.out
      have HFF : Hid (∀ i q, j ≤ i → F i q = txCell (l[i]?.getD tx0) q) := hF
      have hFj : ∀ q, F j q = txCell (l[j]?.getD tx0) q := fun q => hF j q (Nat.le_refl _)
      have hs1 := HS.out
      obtain ⟨hbad, _⟩ | ⟨g, cp, hg, hSg, hgl, hfz, hcs⟩ := OwV.head ho
      · simp only [Value.slice.injEq] at hbad; omega
      simp only [Value.slice.injEq, true_and] at hg
      obtain ⟨rfl, rfl⟩ := hg
      obtain ⟨y0, c0⟩ := hcs (j * 3) (by omega)
      obtain ⟨y1, c1⟩ := hcs (j * 3 + 1) (by omega)
      obtain ⟨y2, c2⟩ := hcs (j * 3 + 2) (by omega)
      have HO2 : Hid _ := ho
      have HSG : Hid (S g) := hSg
      clear ho HO hF hFj hSg hcs
      go_wp2
      go_roundw
      case rel => exact ⟨j + 1, s + 3, by omega, by go_num, by first | go_num | (congr 1; omega), by show _ ≤ _; omega, ⟨_, fun i q hi => by simp only [upd, show i ≠ j by omega, false_and, if_false]; exact HFF.out i q (by omega), (OwV.putI (OwV.putI (OwV.putI HO2.out 0 hlt (by omega) _) 1 hlt (by omega) _) 2 hlt (by omega) _)⟩, (HT.out |>.set _ _ HSG.out |>.set _ _ HSG.out |>.set _ _ HSG.out)⟩
      case measure => simp [intOf]; omega
    · have hjn : j = n := by omega
      subst hjn
      go_wp2
      go_ret
      obtain ⟨F, _, ho⟩ := HO.out
      exact ⟨s, rfl, HS.out, ⟨_, ho⟩, HT.out⟩

set_option maxHeartbeats 8000000 in
theorem markVerdictS_m (v : Value) (l : List VdD) (k : Nat) (S : Nat → Prop) (w : World) (o : OwV w S v (vdsDt l)) (hl : szVds l ≤ 2097152) (hk : k + 4 * szVds l ≤ 1099511627776) : Calls Tryz.prog 29 #[v, .int .i64 k] w (MkP w S v (k + 4 * szVds l)) := by
  obtain ⟨a, cap, rfl, _⟩ := RdV.sliced o.rd
  have HO : Hid (OwV w S (.slice a l.length cap) (.rows 114 4 l.length (fun i j => vdCell (l[i]?.getD vd0) j))) := o
  have HX : Hid (szVds l = l.length) := rfl
  rw [HX.out] at hk ⊢
  have hnn : l.length ≤ 2097152 := by have := HX.out; omega
  clear o hl HX
  generalize l.length = n at *
  go_enter Tryz.func29, Tryz.ntmps29
  go_wp2
  go_loopw [1, 5] (fun q i wr => ∃ j s : Nat, j ≤ n ∧ i = .int .i64 j ∧ q = .int .i64 s ∧ Hid (s ≤ k + 4 * j) ∧ Hid (∃ F, (∀ i q, j ≤ i → F i q = vdCell (l[i]?.getD vd0) q) ∧ OwV wr S (.slice a n cap) (.rows 114 4 n F)) ∧ Hid (Turned S w wr)) (fun _ i _ => n - (intOf i).toNat)
  case atStart => exact ⟨0, k, Nat.zero_le _, rfl, rfl, by show _ ≤ _; omega, ⟨_, fun _ _ _ => rfl, HO.out⟩, Turned.refl _ _⟩
  case round =>
    clear HO
    obtain ⟨j, s, hj, rfl, rfl, HS, HO, HT⟩ := hrel
    by_cases hlt : j < n
    · obtain ⟨F, hF, ho⟩ := HO.out
      have HFF : Hid (∀ i q, j ≤ i → F i q = vdCell (l[i]?.getD vd0) q) := hF
      have hFj : ∀ q, F j q = vdCell (l[j]?.getD vd0) q := fun q => hF j q (Nat.le_refl _)
      have hs1 := HS.out
      obtain ⟨hbad, _⟩ | ⟨g, cp, hg, hSg, hgl, hfz, hcs⟩ := OwV.head ho
      · simp only [Value.slice.injEq] at hbad; omega
      simp only [Value.slice.injEq, true_and] at hg
      obtain ⟨rfl, rfl⟩ := hg
      obtain ⟨y0, c0⟩ := hcs (j * 4) (by omega)
      obtain ⟨y1, c1⟩ := hcs (j * 4 + 1) (by omega)
      obtain ⟨y2, c2⟩ := hcs (j * 4 + 2) (by omega)
      obtain ⟨y3, c3⟩ := hcs (j * 4 + 3) (by omega)
      have HO2 : Hid _ := ho
      have HSG : Hid (S g) := hSg
      clear ho HO hF hFj hSg hcs
      go_wp2
      go_roundw
      case rel => exact ⟨j + 1, s + 4, by omega, by go_num, by first | go_num | (congr 1; omega), by show _ ≤ _; omega, ⟨_, fun i q hi => by simp only [upd, show i ≠ j by omega, false_and, if_false]; exact HFF.out i q (by omega), (OwV.putB (OwV.putI (OwV.putI (OwV.putI HO2.out 0 hlt (by omega) _) 1 hlt (by omega) _) 2 hlt (by omega) _) 3 hlt (by omega) _)⟩, (HT.out |>.set _ _ HSG.out |>.set _ _ HSG.out |>.set _ _ HSG.out |>.set _ _ HSG.out)⟩
      case measure => simp [intOf]; omega
    · have hjn : j = n := by omega
      subst hjn
      go_wp2
      go_ret
      obtain ⟨F, _, ho⟩ := HO.out
      exact ⟨s, rfl, HS.out, ⟨_, ho⟩, HT.out⟩
end
section
theorem mkLast_row {w : World} {S : Nat → Prop} {g n cap j s : Nat} {F : Nat → Nat → Dt} (o : OwV w S (.slice (some ⟨g, 0, none⟩) n cap) (.rows 118 8 n F)) (hj : j < n) (W : World) (hW : (((((((w.setCell ⟨g, j * 8, none⟩ (.int .i64 (((s : Nat)) : Int))).setCell ⟨g, j * 8 + 1, none⟩ (.int .i64 (((s + 1 : Nat)) : Int))).setCell ⟨g, j * 8 + 2, none⟩ (.int .i64 (((s + 2 : Nat)) : Int))).setCell ⟨g, j * 8 + 3, none⟩ (.int .i64 (((s + 3 : Nat)) : Int))).setCell ⟨g, j * 8 + 4, none⟩ (.int .i64 (((s + 4 : Nat)) : Int))).setCell ⟨g, j * 8 + 5, none⟩ (.bool (m3 (s + 5)))).setCell ⟨g, j * 8 + 6, none⟩ (.int .i64 (((s + 6 : Nat)) : Int))) = W) :
    ∃ (Q : Nat → Prop) (x : Value), w.cell? ⟨g, j * 8 + 7, none⟩ = some x ∧ OwV W Q x (F j 7) ∧ (∀ b, Q b → S b ∧ b ≠ g) ∧ Turned S w W ∧
      ∀ w2 d, Turned Q W w2 → OwV w2 Q x d → ∃ F', OwV w2 S (.slice (some ⟨g, 0, none⟩) n cap) (.rows 118 8 n F') ∧ (∀ i q, i ≠ j → F' i q = F i q) ∧ ∀ q, 7 < q → F' j q = F j q := by
  obtain ⟨hbad, _⟩ | ⟨g', cp, hg, hSg, hgl, hfz, hcs⟩ := OwV.head o
  · cases hbad
  simp only [Value.slice.injEq, Option.some.injEq, Addr.mk.injEq, and_true, true_and] at hg
  obtain ⟨rfl, rfl⟩ := hg
  have ht : Turned S w (((((((w.setCell ⟨g, j * 8, none⟩ (.int .i64 (((s : Nat)) : Int))).setCell ⟨g, j * 8 + 1, none⟩ (.int .i64 (((s + 1 : Nat)) : Int))).setCell ⟨g, j * 8 + 2, none⟩ (.int .i64 (((s + 2 : Nat)) : Int))).setCell ⟨g, j * 8 + 3, none⟩ (.int .i64 (((s + 3 : Nat)) : Int))).setCell ⟨g, j * 8 + 4, none⟩ (.int .i64 (((s + 4 : Nat)) : Int))).setCell ⟨g, j * 8 + 5, none⟩ (.bool (m3 (s + 5)))).setCell ⟨g, j * 8 + 6, none⟩ (.int .i64 (((s + 6 : Nat)) : Int))) := (Turned.refl S w) |>.set _ _ hSg |>.set _ _ hSg |>.set _ _ hSg |>.set _ _ hSg |>.set _ _ hSg |>.set _ _ hSg |>.set _ _ hSg
  have p8 : OwV (((((((w.setCell ⟨g, j * 8, none⟩ (.int .i64 (((s : Nat)) : Int))).setCell ⟨g, j * 8 + 1, none⟩ (.int .i64 (((s + 1 : Nat)) : Int))).setCell ⟨g, j * 8 + 2, none⟩ (.int .i64 (((s + 2 : Nat)) : Int))).setCell ⟨g, j * 8 + 3, none⟩ (.int .i64 (((s + 3 : Nat)) : Int))).setCell ⟨g, j * 8 + 4, none⟩ (.int .i64 (((s + 4 : Nat)) : Int))).setCell ⟨g, j * 8 + 5, none⟩ (.bool (m3 (s + 5)))).setCell ⟨g, j * 8 + 6, none⟩ (.int .i64 (((s + 6 : Nat)) : Int))) S (.slice (some ⟨g, 0, none⟩) n cap) _ := (OwV.putI (OwV.putB (OwV.putI (OwV.putI (OwV.putI (OwV.putI (OwV.putI o 0 hj (by omega) _) 1 hj (by omega) _) 2 hj (by omega) _) 3 hj (by omega) _) 4 hj (by omega) _) 5 hj (by omega) _) 6 hj (by omega) _)
  have hc0 : (((((((w.setCell ⟨g, j * 8, none⟩ (.int .i64 (((s : Nat)) : Int))).setCell ⟨g, j * 8 + 1, none⟩ (.int .i64 (((s + 1 : Nat)) : Int))).setCell ⟨g, j * 8 + 2, none⟩ (.int .i64 (((s + 2 : Nat)) : Int))).setCell ⟨g, j * 8 + 3, none⟩ (.int .i64 (((s + 3 : Nat)) : Int))).setCell ⟨g, j * 8 + 4, none⟩ (.int .i64 (((s + 4 : Nat)) : Int))).setCell ⟨g, j * 8 + 5, none⟩ (.bool (m3 (s + 5)))).setCell ⟨g, j * 8 + 6, none⟩ (.int .i64 (((s + 6 : Nat)) : Int))).cell? ⟨g, j * 8 + 7, none⟩ = w.cell? ⟨g, j * 8 + 7, none⟩ := by simp [go_sem]
  rw [hW] at hc0 ht p8
  obtain ⟨Q, x, g2, cp2, hv, hc, hox, hQ, hback⟩ := OwV.sub p8 hj (j := 7) (by omega)
  simp only [Value.slice.injEq, Option.some.injEq, Addr.mk.injEq, and_true, true_and] at hv
  obtain ⟨rfl, rfl⟩ := hv
  refine ⟨Q, x, hc0.symm.trans hc, ?_, hQ, ht, fun w2 d t2 o2 => ⟨_, hback w2 d t2 o2, fun i q hi => ?_, fun q hq => ?_⟩⟩
  · simpa [upd] using hox
  · simp [upd, hi]
  · simp [upd, (show q ≠ 0 by omega), (show q ≠ 1 by omega), (show q ≠ 2 by omega), (show q ≠ 3 by omega), (show q ≠ 4 by omega), (show q ≠ 5 by omega), (show q ≠ 6 by omega), (show q ≠ 7 by omega)]
set_option maxHeartbeats 8000000 in
theorem markLastS_m (v : Value) (l : List LsD) (k : Nat) (S : Nat → Prop) (w : World) (o : OwV w S v (lssDt l)) (hl : szLss l ≤ 2097152) (hk : k + 7 * szLss l ≤ 1099511627776) : Calls Tryz.prog 31 #[v, .int .i64 k] w (MkP w S v (k + 7 * szLss l)) := by
  obtain ⟨a, cap, rfl, _⟩ := RdV.sliced o.rd
  have HO : Hid (OwV w S (.slice a l.length cap) (.rows 118 8 l.length (fun i j => lsCell (l[i]?.getD ls0) j))) := o
  have HX : Hid (szLss l = l.length + psum (fun e : LsD => szEns e.rp.list) l l.length) := by show _ = _; rw [psum_all]; rfl
  have HU : Hid (∀ j, j < l.length → psum (fun e : LsD => szEns e.rp.list) l (j + 1) = psum (fun e : LsD => szEns e.rp.list) l j + (fun e : LsD => szEns e.rp.list) (l[j]?.getD ls0) ∧ psum (fun e : LsD => szEns e.rp.list) l (j + 1) ≤ psum (fun e : LsD => szEns e.rp.list) l l.length) := fun j hj => ⟨psum_next _ l _ j hj, by rw [psum_all]; exact psum_le _ l _⟩
  have HZ0 : Hid (psum (fun e : LsD => szEns e.rp.list) l 0 = 0) := psum_zero _ _
  have HSA : Hid (∀ j, (fun e : LsD => szEns e.rp.list) (l[j]?.getD ls0) ≤ 2097152) := fun j => by have h1 := szLss_at l j; dsimp only; omega
  rw [HX.out] at hk ⊢
  generalize psum (fun e : LsD => szEns e.rp.list) l = P at HU HZ0 HX hk ⊢
  have hnn : l.length ≤ 2097152 := by have := HX.out; omega
  clear o hl HX
  generalize l.length = n at *
  go_enter Tryz.func31, Tryz.ntmps31
  go_wp2
  go_loopw [1, 5] (fun q i wr => ∃ j s : Nat, j ≤ n ∧ i = .int .i64 j ∧ q = .int .i64 s ∧ Hid (s ≤ k + 7 * (j + P j)) ∧ Hid (∃ F, (∀ i q, j ≤ i → F i q = lsCell (l[i]?.getD ls0) q) ∧ OwV wr S (.slice a n cap) (.rows 118 8 n F)) ∧ Hid (Turned S w wr)) (fun _ i _ => n - (intOf i).toNat)
  case atStart => exact ⟨0, k, Nat.zero_le _, rfl, rfl, by show _ ≤ _; omega, ⟨_, fun _ _ _ => rfl, HO.out⟩, Turned.refl _ _⟩
  case round =>
    clear HO
    obtain ⟨j, s, hj, rfl, rfl, HS, HO, HT⟩ := hrel
    by_cases hlt : j < n
    · obtain ⟨F, hF, ho⟩ := HO.out
      have HFF : Hid (∀ i q, j ≤ i → F i q = lsCell (l[i]?.getD ls0) q) := hF
      have hFj : ∀ q, F j q = lsCell (l[j]?.getD ls0) q := fun q => hF j q (Nat.le_refl _)
      obtain ⟨hu1, hu2⟩ := HU.out j hlt
      have hsa := HSA.out j
      obtain ⟨e, he⟩ : ∃ e, l[j]?.getD ls0 = e := ⟨_, rfl⟩
      rw [he] at hu1 hFj hsa
      clear he
      obtain ⟨cl, rq, ⟨rc, ⟨rp_, rq_, rd⟩, rv, es⟩⟩ := e
      try dsimp only at hu1 hsa
      generalize hmm : szEns es = m at hu1 hsa
      have hs1 := HS.out
      obtain ⟨hbad, _⟩ | ⟨g, cp, hg, hSg, hgl, hfz, hcs⟩ := OwV.head ho
      · simp only [Value.slice.injEq] at hbad; omega
      simp only [Value.slice.injEq, true_and] at hg
      obtain ⟨rfl, rfl⟩ := hg
      obtain ⟨y0, c0⟩ := hcs (j * 8) (by omega)
      obtain ⟨y1, c1⟩ := hcs (j * 8 + 1) (by omega)
      obtain ⟨y2, c2⟩ := hcs (j * 8 + 2) (by omega)
      obtain ⟨y3, c3⟩ := hcs (j * 8 + 3) (by omega)
      obtain ⟨y4, c4⟩ := hcs (j * 8 + 4) (by omega)
      obtain ⟨y5, c5⟩ := hcs (j * 8 + 5) (by omega)
      obtain ⟨y6, c6⟩ := hcs (j * 8 + 6) (by omega)
      obtain ⟨W, hW⟩ : ∃ W, (((((((wr.setCell ⟨g, j * 8, none⟩ (.int .i64 (((s : Nat)) : Int))).setCell ⟨g, j * 8 + 1, none⟩ (.int .i64 (((s + 1 : Nat)) : Int))).setCell ⟨g, j * 8 + 2, none⟩ (.int .i64 (((s + 2 : Nat)) : Int))).setCell ⟨g, j * 8 + 3, none⟩ (.int .i64 (((s + 3 : Nat)) : Int))).setCell ⟨g, j * 8 + 4, none⟩ (.int .i64 (((s + 4 : Nat)) : Int))).setCell ⟨g, j * 8 + 5, none⟩ (.bool (m3 (s + 5)))).setCell ⟨g, j * 8 + 6, none⟩ (.int .i64 (((s + 6 : Nat)) : Int))) = W := ⟨_, rfl⟩
      obtain ⟨Q, x, hcx, hox, hQ, hts, hback⟩ := mkLast_row ho hlt W hW
      rw [hFj] at hox
      have hox2 : OwV W Q x (ensDt es) := hox
      have HXX : Hid _ := markE_m x es (s + 7) Q W hox2 (by omega) (by omega)
      obtain ⟨xa, xc, rfl, _⟩ := RdV.sliced (OwV.rd hox2)
      have HBK : Hid _ := hback
      have HQ : Hid _ := hQ
      have HWW : Hid _ := hW
      have HTS : Hid _ := HT.out.trans hts
      have HFJ : Hid _ := hFj
      have HSG : Hid (S g) := hSg
      clear hback hQ hox hox2 ho hW hts HO hF hFj HT hSg hcs
      rw [← HWW.out] at HXX
      have HMM : Hid _ := hmm
      clear hmm
      generalize es.length = xn at *
      go_wp2_with fail
      refine Calls.mono HXX.out ?_
      rintro e w2 ⟨k2, rfl, hk2, ⟨d2, o2⟩, t2⟩
      rw [HWW.out] at t2
      obtain ⟨F2, of2, hf2, hg2⟩ := HBK.out w2 d2 t2 o2
      have HT2 : Hid (Turned S w w2) := HTS.out.trans (t2.wide (fun b hb => (HQ.out b hb).1))
      have hmm := HMM.out
      clear HBK HQ HTS t2 o2 HXX HWW hcx c0 c1 c2 c3 c4 c5 c6
      have HOF : Hid _ := of2
      have HLF : Hid _ := hf2
      clear of2 hf2
      go_wp2
      go_roundw
      case rel => exact ⟨j + 1, k2, by omega, by go_num, by first | rfl | go_num | (congr 1; omega), by show _ ≤ _; rw [hu1]; omega, ⟨_, fun i q hi => by rw [HLF.out i q (by omega)]; exact HFF.out i q (by omega), HOF.out⟩, HT2.out⟩
      case measure => simp [intOf]; omega
    · have hjn : j = n := by omega
      subst hjn
      go_wp2
      go_ret
      obtain ⟨F, _, ho⟩ := HO.out
      exact ⟨s, rfl, HS.out, ⟨_, ho⟩, HT.out⟩
end
section
open Go.RowKit Go.Deep Go.ChangeShapes Go.WideShapes
section
variable {H : Type} {enc : TypeId × Value → H} {w : World} {held : Bool}

theorem trod_fieldsW8 {t : TypeId} {f0 f1 f2 f3 f4 f5 f6 f7 : Field} {fuel : Nat} {cs : List Value} {x : DataW H × List MemPlace} (ht : Tryz.prog.underlying t = some (.struct #[f0, f1, f2, f3, f4, f5, f6, f7])) (h : DataW.trod enc Tryz.prog w 0 (fun _ => true) held fuel t cs = some x) :
    cs.length = Tryz.prog.cellsOf t ∧ ∃ n, (∃ y, DataW.trod enc Tryz.prog w 0 (fun _ => true) held n f0.type ((cs.drop f0.offset).take (Tryz.prog.cellsOf f0.type)) = some y) ∧ (∃ y, DataW.trod enc Tryz.prog w 0 (fun _ => true) held n f1.type ((cs.drop f1.offset).take (Tryz.prog.cellsOf f1.type)) = some y) ∧ (∃ y, DataW.trod enc Tryz.prog w 0 (fun _ => true) held n f2.type ((cs.drop f2.offset).take (Tryz.prog.cellsOf f2.type)) = some y) ∧ (∃ y, DataW.trod enc Tryz.prog w 0 (fun _ => true) held n f3.type ((cs.drop f3.offset).take (Tryz.prog.cellsOf f3.type)) = some y) ∧ (∃ y, DataW.trod enc Tryz.prog w 0 (fun _ => true) held n f4.type ((cs.drop f4.offset).take (Tryz.prog.cellsOf f4.type)) = some y) ∧ (∃ y, DataW.trod enc Tryz.prog w 0 (fun _ => true) held n f5.type ((cs.drop f5.offset).take (Tryz.prog.cellsOf f5.type)) = some y) ∧ (∃ y, DataW.trod enc Tryz.prog w 0 (fun _ => true) held n f6.type ((cs.drop f6.offset).take (Tryz.prog.cellsOf f6.type)) = some y) ∧ (∃ y, DataW.trod enc Tryz.prog w 0 (fun _ => true) held n f7.type ((cs.drop f7.offset).take (Tryz.prog.cellsOf f7.type)) = some y) := by
  obtain ⟨xs, n, _, rfl, hl, hlen, hf⟩ := DataW.trod_struct ht h
  match xs, hlen with
  | [y0, y1, y2, y3, y4, y5, y6, y7], _ => exact ⟨hl, n, ⟨y0, by simpa using hf 0 f0 rfl⟩, ⟨y1, by simpa using hf 1 f1 rfl⟩, ⟨y2, by simpa using hf 2 f2 rfl⟩, ⟨y3, by simpa using hf 3 f3 rfl⟩, ⟨y4, by simpa using hf 4 f4 rfl⟩, ⟨y5, by simpa using hf 5 f5 rfl⟩, ⟨y6, by simpa using hf 6 f6 rfl⟩, ⟨y7, by simpa using hf 7 f7 rfl⟩⟩
theorem open_txE (fuel : Nat) (cs : List Value) (x : DataW H × List MemPlace) (h : DataW.trod enc Tryz.prog w 0 (fun _ => true) held fuel 125 cs = some x) : ∃ e : TxD, ∀ j, j < 3 → RdV w (Old w) (cs[j]?.getD undef) (txCell e j) := by
  obtain ⟨t, rfl⟩ := open_txT h
  refine ⟨t, fun j hj => ?_⟩
  match j, hj with
  | 0, _ => exact rfl
  | 1, _ => exact rfl
  | 2, _ => exact rfl
theorem open_txsT {fuel : Nat} {v : Value} {x : DataW H × List MemPlace} (h : DataW.trod enc Tryz.prog w 0 (fun _ => true) held fuel 40 [v] = some x) : ∃ l : List TxD, RdV w (Old w) v (txsDt l) :=
  open_rowsT (t := 107) (k := 3) tx0 Tryz.underlying40 (by kernel_rfl) (by omega) txCell open_txE h
set_option maxRecDepth 100000 in
theorem open_vdT (fuel : Nat) (cs : List Value) (x : DataW H × List MemPlace) (h : DataW.trod enc Tryz.prog w 0 (fun _ => true) held fuel 142 cs = some x) : ∃ e : VdD, ∀ j, j < 4 → RdV w (Old w) (cs[j]?.getD undef) (vdCell e j) := by
  obtain ⟨hl, n, ⟨y0, h0⟩, ⟨y1, h1⟩⟩ := trod_fields2 Tryz.underlying142 h
  have k0 : Tryz.prog.cellsOf 125 = 3 := by kernel_rfl
  have k1 : Tryz.prog.cellsOf 4 = 1 := by kernel_rfl
  have kk : Tryz.prog.cellsOf 142 = 4 := by kernel_rfl
  rw [kk] at hl
  match cs, hl with
  | [c0, c1, c2, c3], _ =>
    simp only [k0, k1, List.drop_zero, List.take_succ_cons, List.take_zero, List.drop_succ_cons] at h0 h1
    obtain ⟨t, e0⟩ := open_txT h0
    simp only [List.cons.injEq, and_true] at e0
    obtain ⟨rfl, rfl, rfl⟩ := e0
    obtain ⟨b, e1, _⟩ := DataW.trod_bool Tryz.underlying4 h1
    simp only [List.cons.injEq, and_true] at e1
    subst e1
    refine ⟨⟨t, b⟩, fun j hj => ?_⟩
    match j, hj with
    | 0, _ => exact rfl
    | 1, _ => exact rfl
    | 2, _ => exact rfl
    | 3, _ => exact rfl
theorem open_vdsT {fuel : Nat} {v : Value} {x : DataW H × List MemPlace} (h : DataW.trod enc Tryz.prog w 0 (fun _ => true) held fuel 39 [v] = some x) : ∃ l : List VdD, RdV w (Old w) v (vdsDt l) :=
  open_rowsT (t := 114) (k := 4) vd0 Tryz.underlying39 (by kernel_rfl) (by omega) vdCell open_vdT h
set_option maxRecDepth 100000 in
theorem open_itT (fuel : Nat) (cs : List Value) (x : DataW H × List MemPlace) (h : DataW.trod enc Tryz.prog w 0 (fun _ => true) held fuel 129 cs = some x) : ∃ e : ItD, ∀ j, j < 15 → RdV w (Old w) (cs[j]?.getD undef) (itCell e j) := by
  obtain ⟨hl, n, ⟨y0, h0⟩, ⟨y1, h1⟩, ⟨y2, h2⟩, ⟨y3, h3⟩⟩ := trod_fieldsW4 Tryz.underlying129 h
  have k0 : Tryz.prog.cellsOf 125 = 3 := by kernel_rfl
  have k1 : Tryz.prog.cellsOf 127 = 8 := by kernel_rfl
  have k2 : Tryz.prog.cellsOf 3 = 1 := by kernel_rfl
  have k3 : Tryz.prog.cellsOf 120 = 3 := by kernel_rfl
  have kk : Tryz.prog.cellsOf 129 = 15 := by kernel_rfl
  rw [kk] at hl
  match cs, hl with
  | [c0, c1, c2, c3, c4, c5, c6, c7, c8, c9, c10, c11, c12, c13, c14], _ =>
    simp only [k0, k1, k2, k3, List.drop_zero, List.take_succ_cons, List.take_zero, List.drop_succ_cons] at h0 h1 h2 h3
    obtain ⟨t, e0⟩ := open_txT h0
    simp only [List.cons.injEq, and_true] at e0
    obtain ⟨rfl, rfl, rfl⟩ := e0
    obtain ⟨p, u1, e1, r1⟩ := open_partT h1
    simp only [List.cons.injEq, and_true] at e1
    obtain ⟨rfl, rfl, rfl, rfl, rfl, rfl, rfl, rfl⟩ := e1
    obtain ⟨c, e2, _, _⟩ := DataW.trod_int Tryz.underlying3 h2
    simp only [List.cons.injEq, and_true] at e2
    subst e2
    obtain ⟨g, e3⟩ := open_handleT h3
    simp only [List.cons.injEq, and_true] at e3
    obtain ⟨rfl, rfl, rfl⟩ := e3
    refine ⟨⟨t, p, c, g⟩, fun j hj => ?_⟩
    match j, hj with
    | 0, _ => exact rfl
    | 1, _ => exact rfl
    | 2, _ => exact rfl
    | 3, _ => exact rfl
    | 4, _ => exact rfl
    | 5, _ => exact rfl
    | 6, _ => exact rfl
    | 7, _ => exact r1
    | 8, _ => exact rfl
    | 9, _ => exact rfl
    | 10, _ => exact rfl
    | 11, _ => exact rfl
    | 12, _ => exact rfl
    | 13, _ => exact rfl
    | 14, _ => exact rfl
theorem open_itsT {fuel : Nat} {v : Value} {x : DataW H × List MemPlace} (h : DataW.trod enc Tryz.prog w 0 (fun _ => true) held fuel 38 [v] = some x) : ∃ l : List ItD, RdV w (Old w) v (itsDt l) :=
  open_rowsT (t := 111) (k := 15) it0 Tryz.underlying38 (by kernel_rfl) (by omega) itCell open_itT h
set_option maxRecDepth 100000 in
theorem open_lsT (fuel : Nat) (cs : List Value) (x : DataW H × List MemPlace) (h : DataW.trod enc Tryz.prog w 0 (fun _ => true) held fuel 134 cs = some x) : ∃ e : LsD, ∀ j, j < 8 → RdV w (Old w) (cs[j]?.getD undef) (lsCell e j) := by
  obtain ⟨hl, n, ⟨y0, h0⟩, ⟨y1, h1⟩, ⟨y2, h2⟩⟩ := trod_fieldsW3 Tryz.underlying134 h
  have k0 : Tryz.prog.cellsOf 3 = 1 := by kernel_rfl
  have k1 : Tryz.prog.cellsOf 132 = 6 := by kernel_rfl
  have kk : Tryz.prog.cellsOf 134 = 8 := by kernel_rfl
  rw [kk] at hl
  match cs, hl with
  | [c0, c1, c2, c3, c4, c5, c6, c7], _ =>
    simp only [k0, k1, List.drop_zero, List.take_succ_cons, List.take_zero, List.drop_succ_cons] at h0 h1 h2
    obtain ⟨a, e0, _, _⟩ := DataW.trod_int Tryz.underlying3 h0
    simp only [List.cons.injEq, and_true] at e0
    subst e0
    obtain ⟨b, e1, _, _⟩ := DataW.trod_int Tryz.underlying3 h1
    simp only [List.cons.injEq, and_true] at e1
    subst e1
    obtain ⟨p, u2, e2, r2⟩ := open_replyT h2
    simp only [List.cons.injEq, and_true] at e2
    obtain ⟨rfl, rfl, rfl, rfl, rfl, rfl⟩ := e2
    refine ⟨⟨a, b, p⟩, fun j hj => ?_⟩
    match j, hj with
    | 0, _ => exact rfl
    | 1, _ => exact rfl
    | 2, _ => exact rfl
    | 3, _ => exact rfl
    | 4, _ => exact rfl
    | 5, _ => exact rfl
    | 6, _ => exact rfl
    | 7, _ => exact r2
theorem open_lssT {fuel : Nat} {v : Value} {x : DataW H × List MemPlace} (h : DataW.trod enc Tryz.prog w 0 (fun _ => true) held fuel 41 [v] = some x) : ∃ l : List LsD, RdV w (Old w) v (lssDt l) :=
  open_rowsT (t := 118) (k := 8) ls0 Tryz.underlying41 (by kernel_rfl) (by omega) lsCell open_lsT h
set_option maxRecDepth 100000 in
theorem open_shT (fuel : Nat) (cs : List Value) (x : DataW H × List MemPlace) (h : DataW.trod enc Tryz.prog w 0 (fun _ => true) held fuel 43 cs = some x) : ∃ e : ShD, ∀ j, j < 8 → RdV w (Old w) (cs[j]?.getD undef) (shCell e j) := by
  obtain ⟨hl, n, ⟨y0, h0⟩, ⟨y1, h1⟩, ⟨y2, h2⟩, ⟨y3, h3⟩, ⟨y4, h4⟩, ⟨y5, h5⟩, ⟨y6, h6⟩, ⟨y7, h7⟩⟩ := trod_fieldsW8 Tryz.underlying43 h
  have k0 : Tryz.prog.cellsOf 3 = 1 := by kernel_rfl
  have k1 : Tryz.prog.cellsOf 37 = 1 := by kernel_rfl
  have k2 : Tryz.prog.cellsOf 38 = 1 := by kernel_rfl
  have k3 : Tryz.prog.cellsOf 39 = 1 := by kernel_rfl
  have k4 : Tryz.prog.cellsOf 40 = 1 := by kernel_rfl
  have k5 : Tryz.prog.cellsOf 41 = 1 := by kernel_rfl
  have kk : Tryz.prog.cellsOf 43 = 8 := by kernel_rfl
  rw [kk] at hl
  match cs, hl with
  | [c0, c1, c2, c3, c4, c5, c6, c7], _ =>
    simp only [k0, k1, k2, k3, k4, k5, List.drop_zero, List.take_succ_cons, List.take_zero, List.drop_succ_cons] at h0 h1 h2 h3 h4 h5 h6 h7
    obtain ⟨a, e0, _, _⟩ := DataW.trod_int Tryz.underlying3 h0
    simp only [List.cons.injEq, and_true] at e0
    subst e0
    obtain ⟨b, e1, _, _⟩ := DataW.trod_int Tryz.underlying3 h1
    simp only [List.cons.injEq, and_true] at e1
    subst e1
    obtain ⟨c, e2, _, _⟩ := DataW.trod_int Tryz.underlying3 h2
    simp only [List.cons.injEq, and_true] at e2
    subst e2
    obtain ⟨l0, r3⟩ := open_ndsT h3
    obtain ⟨l1, r4⟩ := open_itsT h4
    obtain ⟨l2, r5⟩ := open_vdsT h5
    obtain ⟨l3, r6⟩ := open_txsT h6
    obtain ⟨l4, r7⟩ := open_lssT h7
    refine ⟨⟨a, b, c, l0, l1, l2, l3, l4⟩, fun j hj => ?_⟩
    match j, hj with
    | 0, _ => exact rfl
    | 1, _ => exact rfl
    | 2, _ => exact rfl
    | 3, _ => exact r3
    | 4, _ => exact r4
    | 5, _ => exact r5
    | 6, _ => exact r6
    | 7, _ => exact r7
theorem open_shsT {fuel : Nat} {v : Value} {x : DataW H × List MemPlace} (h : DataW.trod enc Tryz.prog w 0 (fun _ => true) held fuel 22 [v] = some x) : ∃ l : List ShD, RdV w (Old w) v (shsDt l) :=
  open_rowsT (t := 49) (k := 8) sh0 Tryz.underlying22 (by kernel_rfl) (by omega) shCell open_shT h
theorem open_shsA {b0 : Nat} {r : Reach} {v : Value} {x : DataW H} {p : List MemPlace} (hv : Value.okWide Tryz.prog w r b0 22 v) (h : DataW.Trod enc Tryz.prog w 0 (fun _ => true) held 22 v x p) : ∃ l : List ShD, RdV w (Old w) v (shsDt l) := by
  obtain ⟨a, n, c, rfl⟩ := okWide_slice Tryz.underlying22 hv
  obtain ⟨fuel, hf⟩ := h
  exact open_shsT hf
end
end
end Go.Proofs.YtoaocjkapoemnaaGreat
