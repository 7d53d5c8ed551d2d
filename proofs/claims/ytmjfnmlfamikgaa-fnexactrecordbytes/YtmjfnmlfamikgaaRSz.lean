/- What the verifier's counting of records answers; no condition on them. -/
import Derived.Test.YtmjfnmlfamikgaaWSz
import Derived.Test.YtmjfnmlfamikgaaRec0
namespace Go.Proofs.Ytmjfnmlfamikgaa
open Go.RowKit
set_option linter.unusedVariables false
set_option linter.unusedSimpArgs false
set_option maxRecDepth 100000

set_option maxHeartbeats 4000000 in
theorem szRecord_d (x y z u : Value) (m : MsD) (S : Nat → Prop) (s : Nat) (w : World) (hs : s ≤ 1048576) (r : RdM w S m x y z u) :
    Calls Try.prog 6 #[rcV m x y z u, .int .i64 s] w fun ret w' => ret = .returned (.int .i64 (leftT (szMs m) s)) ∧ Below w.heap.size w w' := by
  obtain ⟨r1, r2, r3, r4⟩ := r
  obtain ⟨a1, cap1, rfl⟩ := r1.sliceB
  obtain ⟨a2, cap2, rfl⟩ := r2.sliceB
  obtain ⟨a3, cap3, rfl, _⟩ := RdV.sliced r3
  obtain ⟨a4, cap4, rfl⟩ := r4.sliceB
  obtain ⟨kd, fr, to, rq, ⟨ok, ⟨op_, oq, od⟩, nm, ⟨tp, tq, td⟩, asn, ov⟩, ⟨rc, ⟨rp_, rq_, rd⟩, rv, es⟩, ⟨xs, xb, xn⟩, ⟨pk, ⟨pp, pq, pd⟩, pas, ⟨sp, sq, sd⟩⟩, cd, ⟨hp, hq, hd⟩⟩ := m
  unfold szMs
  dsimp only at r1 r2 r3 r4 ⊢
  have HC1 : Hid (∀ W, Below w.heap.size w W → _) := fun W hW => szOp_d _ _ ⟨ok, (op_, oq, od), nm, (tp, tq, td), asn, ov⟩ S s W hs (r1.step hW) (r2.step hW)
  have HC2 : Hid (∀ t W, t ≤ 1048576 → Below w.heap.size w W → _) := fun t W ht hW => szReply_d _ ⟨rc, (rp_, rq_, rd), rv, es⟩ S t W ht (r3.step hW)
  have HC3 : Hid (∀ t W, t ≤ 1048576 → Below w.heap.size w W → _) := fun t W ht hW => szPart_d _ ⟨pk, (pp, pq, pd), pas, (sp, sq, sd)⟩ S t W ht (r4.step hW)
  clear r1 r2 r3 r4
  dsimp only at HC1 HC2 HC3 ⊢
  generalize hg1 : nm.length + asn.length = g1 at HC1 ⊢
  generalize hg2 : szEns es = g2 at HC2 ⊢
  clear hg1 hg2
  generalize hg4 : pas.length = n4 at HC3 ⊢
  clear hg4
  generalize nm.length = n1 at HC1 ⊢
  generalize asn.length = n2 at HC1 ⊢
  generalize es.length = n3 at HC2 ⊢
  by_cases hle0 : g1 ≤ s
  · have hl : leftT g1 s = ((s - g1 : Nat) : Int) := by unfold leftT; rw [if_pos hle0]; omega
    rw [hl] at HC1
    clear hl
    have HD20 := HC2.out (s - g1)
    generalize hq1 : s - g1 = t1 at HC1 HD20
    have HD2 : Hid _ := HD20
    have hts1 : t1 ≤ 1048576 := by omega
    clear HD20 HC2
    by_cases hle1 : g2 ≤ t1
    · have hl : leftT g2 t1 = ((t1 - g2 : Nat) : Int) := by unfold leftT; rw [if_pos hle1]; omega
      rw [hl] at HD2
      clear hl
      have HD30 := HC3.out (t1 - g2)
      generalize hq2 : t1 - g2 = t2 at HD2 HD30
      have HD3 : Hid _ := HD30
      have hts2 : t2 ≤ 1048576 := by omega
      clear HD30 HC3
      by_cases hle2 : n4 ≤ t2
      · have hl : leftT n4 t2 = ((t2 - n4 : Nat) : Int) := by unfold leftT; rw [if_pos hle2]; omega
        rw [hl] at HD3
        clear hl
        have HF : Hid (leftT (g1 + g2 + n4) s = ((t2 - n4 : Nat) : Int)) := by show _ = _; unfold leftT; rw [if_pos (by omega)]; omega
        clear hle0 hle1 hle2 hq1 hq2
        generalize t2 - n4 = z at HD3 HF
        rw [HF.out]
        go_enter Try.func6, Try.ntmps6
        go_wp2_with fail
        refine Calls.mono (HC1.out _ (Below.newH _)) ?_
        rintro e w2 ⟨rfl, b_⟩
        have vA := VarA.step (VarA.new w _ _) b_
        have HB : Hid _ := (Below.newH (w := w) _).trans (b_.mono (by simp))
        clear b_ HC1
        obtain ⟨a0_, a1_, a2_, a3_, a4_, a5_, a6_, a7_, a8_, a9_, a10_, a11_, a12_, a13_, a14_, a15_, a16_, a17_, a18_, a19_, a20_, a21_, a22_, a23_, a24_, a25_, a26_, a27_, a28_, a29_, a30_, a31_, a32_, a33_⟩ := vA.l34
        go_wp2_with fail
        refine Calls.mono (HD2.out _ hts1 HB.out) ?_
        rintro e w3 ⟨rfl, b_⟩
        have vA_ := vA.step b_
        have HB_ : Hid _ := HB.out.trans (b_.mono HB.out.size)
        clear b_ HD2 HB vA a0_ a1_ a2_ a3_ a4_ a5_ a6_ a7_ a8_ a9_ a10_ a11_ a12_ a13_ a14_ a15_ a16_ a17_ a18_ a19_ a20_ a21_ a22_ a23_ a24_ a25_ a26_ a27_ a28_ a29_ a30_ a31_ a32_ a33_
        have vA := vA_
        have HB := HB_
        clear vA_ HB_
        obtain ⟨a0_, a1_, a2_, a3_, a4_, a5_, a6_, a7_, a8_, a9_, a10_, a11_, a12_, a13_, a14_, a15_, a16_, a17_, a18_, a19_, a20_, a21_, a22_, a23_, a24_, a25_, a26_, a27_, a28_, a29_, a30_, a31_, a32_, a33_⟩ := vA.l34
        go_wp2_with fail
        refine Calls.mono (HD3.out _ hts2 HB.out) ?_
        rintro e w4 ⟨rfl, b_⟩
        have vA_ := vA.step b_
        have HB_ : Hid _ := HB.out.trans (b_.mono HB.out.size)
        clear b_ HD3 HB vA a0_ a1_ a2_ a3_ a4_ a5_ a6_ a7_ a8_ a9_ a10_ a11_ a12_ a13_ a14_ a15_ a16_ a17_ a18_ a19_ a20_ a21_ a22_ a23_ a24_ a25_ a26_ a27_ a28_ a29_ a30_ a31_ a32_ a33_
        have vA := vA_
        have HB := HB_
        clear vA_ HB_
        go_wp2
        go_ret
        exact ⟨rfl, HB.out⟩
      · have hl : leftT n4 t2 = -1 := by unfold leftT; rw [if_neg hle2]
        rw [hl] at HD3
        clear hl
        have HF : Hid (leftT (g1 + g2 + n4) s = -1) := by show _ = _; unfold leftT; rw [if_neg (by omega)]
        clear hle0 hle1 hle2 hq1 hq2
        rw [HF.out]
        go_enter Try.func6, Try.ntmps6
        go_wp2_with fail
        refine Calls.mono (HC1.out _ (Below.newH _)) ?_
        rintro e w2 ⟨rfl, b_⟩
        have vA := VarA.step (VarA.new w _ _) b_
        have HB : Hid _ := (Below.newH (w := w) _).trans (b_.mono (by simp))
        clear b_ HC1
        obtain ⟨a0_, a1_, a2_, a3_, a4_, a5_, a6_, a7_, a8_, a9_, a10_, a11_, a12_, a13_, a14_, a15_, a16_, a17_, a18_, a19_, a20_, a21_, a22_, a23_, a24_, a25_, a26_, a27_, a28_, a29_, a30_, a31_, a32_, a33_⟩ := vA.l34
        go_wp2_with fail
        refine Calls.mono (HD2.out _ hts1 HB.out) ?_
        rintro e w3 ⟨rfl, b_⟩
        have vA_ := vA.step b_
        have HB_ : Hid _ := HB.out.trans (b_.mono HB.out.size)
        clear b_ HD2 HB vA a0_ a1_ a2_ a3_ a4_ a5_ a6_ a7_ a8_ a9_ a10_ a11_ a12_ a13_ a14_ a15_ a16_ a17_ a18_ a19_ a20_ a21_ a22_ a23_ a24_ a25_ a26_ a27_ a28_ a29_ a30_ a31_ a32_ a33_
        have vA := vA_
        have HB := HB_
        clear vA_ HB_
        obtain ⟨a0_, a1_, a2_, a3_, a4_, a5_, a6_, a7_, a8_, a9_, a10_, a11_, a12_, a13_, a14_, a15_, a16_, a17_, a18_, a19_, a20_, a21_, a22_, a23_, a24_, a25_, a26_, a27_, a28_, a29_, a30_, a31_, a32_, a33_⟩ := vA.l34
        go_wp2_with fail
        refine Calls.mono (HD3.out _ hts2 HB.out) ?_
        rintro e w4 ⟨rfl, b_⟩
        have vA_ := vA.step b_
        have HB_ : Hid _ := HB.out.trans (b_.mono HB.out.size)
        clear b_ HD3 HB vA a0_ a1_ a2_ a3_ a4_ a5_ a6_ a7_ a8_ a9_ a10_ a11_ a12_ a13_ a14_ a15_ a16_ a17_ a18_ a19_ a20_ a21_ a22_ a23_ a24_ a25_ a26_ a27_ a28_ a29_ a30_ a31_ a32_ a33_
        have vA := vA_
        have HB := HB_
        clear vA_ HB_
        go_wp2
        go_ret
        exact ⟨rfl, HB.out⟩
    · have hl : leftT g2 t1 = -1 := by unfold leftT; rw [if_neg hle1]
      rw [hl] at HD2
      clear hl
      have HF : Hid (leftT (g1 + g2 + n4) s = -1) := by show _ = _; unfold leftT; rw [if_neg (by omega)]
      clear hle0 hle1 hq1
      rw [HF.out]
      go_enter Try.func6, Try.ntmps6
      go_wp2_with fail
      refine Calls.mono (HC1.out _ (Below.newH _)) ?_
      rintro e w2 ⟨rfl, b_⟩
      have vA := VarA.step (VarA.new w _ _) b_
      have HB : Hid _ := (Below.newH (w := w) _).trans (b_.mono (by simp))
      clear b_ HC1
      obtain ⟨a0_, a1_, a2_, a3_, a4_, a5_, a6_, a7_, a8_, a9_, a10_, a11_, a12_, a13_, a14_, a15_, a16_, a17_, a18_, a19_, a20_, a21_, a22_, a23_, a24_, a25_, a26_, a27_, a28_, a29_, a30_, a31_, a32_, a33_⟩ := vA.l34
      go_wp2_with fail
      refine Calls.mono (HD2.out _ hts1 HB.out) ?_
      rintro e w3 ⟨rfl, b_⟩
      have vA_ := vA.step b_
      have HB_ : Hid _ := HB.out.trans (b_.mono HB.out.size)
      clear b_ HD2 HB vA a0_ a1_ a2_ a3_ a4_ a5_ a6_ a7_ a8_ a9_ a10_ a11_ a12_ a13_ a14_ a15_ a16_ a17_ a18_ a19_ a20_ a21_ a22_ a23_ a24_ a25_ a26_ a27_ a28_ a29_ a30_ a31_ a32_ a33_
      have vA := vA_
      have HB := HB_
      clear vA_ HB_
      go_wp2
      go_ret
      exact ⟨rfl, HB.out⟩
  · have hl : leftT g1 s = -1 := by unfold leftT; rw [if_neg hle0]
    rw [hl] at HC1
    clear hl
    have HF : Hid (leftT (g1 + g2 + n4) s = -1) := by show _ = _; unfold leftT; rw [if_neg (by omega)]
    clear hle0
    rw [HF.out]
    go_enter Try.func6, Try.ntmps6
    go_wp2_with fail
    refine Calls.mono (HC1.out _ (Below.newH _)) ?_
    rintro e w2 ⟨rfl, b_⟩
    have vA := VarA.step (VarA.new w _ _) b_
    have HB : Hid _ := (Below.newH (w := w) _).trans (b_.mono (by simp))
    clear b_ HC1
    go_wp2
    go_ret
    exact ⟨rfl, HB.out⟩
end Go.Proofs.Ytmjfnmlfamikgaa
