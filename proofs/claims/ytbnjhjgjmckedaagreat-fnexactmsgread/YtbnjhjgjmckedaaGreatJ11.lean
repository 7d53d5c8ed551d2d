/- Joined: WEq WEq2 WMsg1h WMsg1a. -/
import Derived.Test.YtbnjhjgjmckedaaGreatJ03
import Derived.Test.YtbnjhjgjmckedaaGreatJ10

section
/- Transactions' numbers, parts and replies that read alike are found so by the verifier's helpers. Condition: no more than 2^21 of all. -/
namespace Go.Proofs.YtbnjhjgjmckedaaGreat
open Go.RowKit
set_option linter.unusedVariables false
set_option maxRecDepth 100000

theorem eqTx_same (t : TxD) (w : World) : Calls Tryz.prog 55 #[txV t, txV t] w fun e w' => e = .returned (.bool true) ∧ Below w.heap.size w w' := by
  obtain ⟨s, i, d⟩ := t
  go_enter Tryz.func55, Tryz.ntmps55
  go_wp2
  all_goals (go_ret; exact ⟨by first | rfl | (simp_all <;> omega), by first | exact Below.refl _ _ | exact Below.newH _ | exact Below.newH2 _ _⟩)

set_option maxHeartbeats 2000000 in
theorem eqPart_same (x y : Value) (o : PtD) (S S2 : Nat → Prop) (w : World) (r : RdV w S x (.bytes o.asn)) (r2 : RdV w S2 y (.bytes o.asn)) (hl : o.asn.length ≤ 2097152) :
    Calls Tryz.prog 56 #[ptV o x, ptV o y] w fun q w' => q = .returned (.bool true) ∧ Below w.heap.size w w' := by
  obtain ⟨a, cap, rfl⟩ := r.sliceB
  obtain ⟨a2, cap2, rfl⟩ := r2.sliceB
  obtain ⟨kd, ⟨p, q, d⟩, nm, ⟨p2, q2, d2⟩⟩ := o
  have HR : Hid (∀ W, Below w.heap.size w W → _) := r.old
  have HR2 : Hid (∀ W, Below w.heap.size w W → _) := r2.old
  have HH : Hid (∀ W, _) := fun W => eqHandle_same (p, q, d) W
  have HH2 : Hid (∀ W, _) := fun W => eqHandle_same (p2, q2, d2) W
  have HL : Hid (nm.length ≤ 2097152) := hl
  clear r r2 hl
  dsimp only at HR HR2 ⊢
  generalize nm.length = n0 at HR HR2
  go_enter Tryz.func56, Tryz.ntmps56
  go_wp2_with fail
  refine Calls.mono (HH.out _) ?_
  rintro e w2 ⟨rfl, b_⟩
  have vA : VarA w2 w.heap.size 33 #[.int .i64 kd, .int .i64 p, .int .i64 q, .bool d, .slice a n0 cap, .int .i64 p2, .int .i64 q2, .bool d2] := VarA.step ((VarA.new w _ _).alloc _) b_
  have vB : VarA w2 (w.heap.size + 1) 33 #[.int .i64 kd, .int .i64 p, .int .i64 q, .bool d, .slice a2 n0 cap2, .int .i64 p2, .int .i64 q2, .bool d2] := by
    have := VarA.step (VarA.new (w.alloc _) _ _) b_
    simpa using this
  have HB : Hid _ := (Below.newH2 (w := w) _ _).trans (b_.mono (by simp; omega))
  clear b_
  obtain ⟨a0_, a1_, a2_, a3_, a4_, a5_, a6_, a7_⟩ := vA.l8
  obtain ⟨b0_, b1_, b2_, b3_, b4_, b5_, b6_, b7_⟩ := vB.l8
  go_wp2_with fail
  refine Calls.mono (eqByteS_same _ _ nm S S2 _ (HR.out _ HB.out) (HR2.out _ HB.out) HL.out) ?_
  rintro e w3 ⟨rfl, b_⟩
  have vA_ := vA.step b_
  have vB_ := vB.step b_
  have HB_ : Hid _ := HB.out.trans (b_.mono HB.out.size)
  clear vA vB HB b_ a0_ a1_ a2_ a3_ a4_ a5_ a6_ a7_ b0_ b1_ b2_ b3_ b4_ b5_ b6_ b7_
  have vA := vA_
  have vB := vB_
  have HB := HB_
  clear vA_ vB_ HB_
  obtain ⟨a0_, a1_, a2_, a3_, a4_, a5_, a6_, a7_⟩ := vA.l8
  obtain ⟨b0_, b1_, b2_, b3_, b4_, b5_, b6_, b7_⟩ := vB.l8
  go_wp2_with fail
  refine Calls.mono (HH2.out _) ?_
  rintro e w4 ⟨rfl, b_⟩
  have vA_ := vA.step b_
  have vB_ := vB.step b_
  have HB_ : Hid _ := HB.out.trans (b_.mono HB.out.size)
  clear vA vB HB b_ a0_ a1_ a2_ a3_ a4_ a5_ a6_ a7_ b0_ b1_ b2_ b3_ b4_ b5_ b6_ b7_
  have vA := vA_
  have vB := vB_
  have HB := HB_
  clear vA_ vB_ HB_
  obtain ⟨a0_, a1_, a2_, a3_, a4_, a5_, a6_, a7_⟩ := vA.l8
  obtain ⟨b0_, b1_, b2_, b3_, b4_, b5_, b6_, b7_⟩ := vB.l8
  go_wp2
  go_ret
  exact ⟨rfl, HB.out⟩

set_option maxHeartbeats 2000000 in
theorem eqReply_same (x y : Value) (o : RpD) (S S2 : Nat → Prop) (w : World) (r : RdV w S x (ensDt o.list)) (r2 : RdV w S2 y (ensDt o.list)) (hl : szEns o.list ≤ 2097152) :
    Calls Tryz.prog 54 #[rpV o x, rpV o y] w fun q w' => q = .returned (.bool true) ∧ Below w.heap.size w w' := by
  obtain ⟨a, cap, rfl, _⟩ := RdV.sliced r
  obtain ⟨a2, cap2, rfl, _⟩ := RdV.sliced r2
  obtain ⟨kd, ⟨p, q, d⟩, vl, es⟩ := o
  have HR : Hid (∀ W, Below w.heap.size w W → _) := r.old
  have HR2 : Hid (∀ W, Below w.heap.size w W → _) := r2.old
  have HH : Hid (∀ W, _) := fun W => eqHandle_same (p, q, d) W
  have HL : Hid (szEns es ≤ 2097152) := hl
  clear r r2 hl
  dsimp only at HR HR2 ⊢
  generalize es.length = n0 at HR HR2
  go_enter Tryz.func54, Tryz.ntmps54
  go_wp2_with fail
  refine Calls.mono (HH.out _) ?_
  rintro e w2 ⟨rfl, b_⟩
  have vA : VarA w2 w.heap.size 29 #[.int .i64 kd, .int .i64 p, .int .i64 q, .bool d, .int .i64 vl, .slice a n0 cap] := VarA.step ((VarA.new w _ _).alloc _) b_
  have vB : VarA w2 (w.heap.size + 1) 29 #[.int .i64 kd, .int .i64 p, .int .i64 q, .bool d, .int .i64 vl, .slice a2 n0 cap2] := by
    have := VarA.step (VarA.new (w.alloc _) _ _) b_
    simpa using this
  have HB : Hid _ := (Below.newH2 (w := w) _ _).trans (b_.mono (by simp; omega))
  clear b_
  obtain ⟨a0_, a1_, a2_, a3_, a4_, a5_⟩ := vA.l6
  obtain ⟨b0_, b1_, b2_, b3_, b4_, b5_⟩ := vB.l6
  go_wp2_with fail
  refine Calls.mono (eqEntryS_same _ _ es S S2 _ (HR.out _ HB.out) (HR2.out _ HB.out) HL.out) ?_
  rintro e w3 ⟨rfl, b_⟩
  have vA_ := vA.step b_
  have vB_ := vB.step b_
  have HB_ : Hid _ := HB.out.trans (b_.mono HB.out.size)
  clear vA vB HB b_ a0_ a1_ a2_ a3_ a4_ a5_ b0_ b1_ b2_ b3_ b4_ b5_
  have vA := vA_
  have vB := vB_
  have HB := HB_
  clear vA_ vB_ HB_
  obtain ⟨a0_, a1_, a2_, a3_, a4_, a5_⟩ := vA.l6
  obtain ⟨b0_, b1_, b2_, b3_, b4_, b5_⟩ := vB.l6
  go_wp2
  go_ret
  exact ⟨rfl, HB.out⟩

end Go.Proofs.YtbnjhjgjmckedaaGreat
end

section
/- Messages that read alike are found so by the verifier's helpers. Condition: no more than 2^21 of all. -/
namespace Go.Proofs.YtbnjhjgjmckedaaGreat
open Go.RowKit
set_option linter.unusedVariables false
set_option maxRecDepth 100000

set_option maxHeartbeats 4000000 in
theorem eqMsg_same (x y z u x2 y2 z2 u2 : Value) (m : MsD) (S S2 : Nat → Prop) (w : World) (r : RdM w S m x y z u) (r2 : RdM w S2 m x2 y2 z2 u2) (hl : szMs m ≤ 2097152) :
    Calls Tryz.prog 15 #[msV m x y z u, msV m x2 y2 z2 u2] w fun q w' => q = .returned (.bool true) ∧ Below w.heap.size w w' := by
  obtain ⟨r1, r2_, r3, r4⟩ := r
  obtain ⟨s1, s2, s3, s4⟩ := r2
  obtain ⟨a1, cap1, rfl⟩ := r1.sliceB
  obtain ⟨a2, cap2, rfl⟩ := r2_.sliceB
  obtain ⟨a3, cap3, rfl, _⟩ := RdV.sliced r3
  obtain ⟨a4, cap4, rfl⟩ := r4.sliceB
  obtain ⟨b1, cbp1, rfl⟩ := s1.sliceB
  obtain ⟨b2, cbp2, rfl⟩ := s2.sliceB
  obtain ⟨b3, cbp3, rfl, _⟩ := RdV.sliced s3
  obtain ⟨b4, cbp4, rfl⟩ := s4.sliceB
  obtain ⟨kd, fr, to, rq, ⟨ok, ⟨op_, oq, od⟩, nm, ⟨tp, tq, td⟩, asn, ov⟩, ⟨rc, ⟨rp_, rq_, rd⟩, rv, es⟩, ⟨xs, xb, xn⟩, ⟨pk, ⟨pp, pq, pd⟩, pas, ⟨sp, sq, sd⟩⟩, cd, ⟨hp, hq, hd⟩⟩ := m
  unfold szMs at hl
  dsimp only at r1 r2_ r3 r4 s1 s2 s3 s4 hl ⊢
  have HC1 : Hid (∀ W, Below w.heap.size w W → _) := fun W hW => eqOp_same _ _ _ _ ⟨ok, (op_, oq, od), nm, (tp, tq, td), asn, ov⟩ S S2 W (r1.step hW) (s1.step hW) (r2_.step hW) (s2.step hW) (by dsimp only; omega) (by dsimp only; omega)
  have HC2 : Hid (∀ W, Below w.heap.size w W → _) := fun W hW => eqReply_same _ _ ⟨rc, (rp_, rq_, rd), rv, es⟩ S S2 W (r3.step hW) (s3.step hW) (by dsimp only; omega)
  have HC3 : Hid (∀ W, _) := fun W => eqTx_same (xs, xb, xn) W
  have HC4 : Hid (∀ W, Below w.heap.size w W → _) := fun W hW => eqPart_same _ _ ⟨pk, (pp, pq, pd), pas, (sp, sq, sd)⟩ S S2 W (r4.step hW) (s4.step hW) (by dsimp only; omega)
  have HC5 : Hid (∀ W, _) := fun W => eqHandle_same (hp, hq, hd) W
  clear r1 r2_ r3 r4 s1 s2 s3 s4 hl
  try dsimp only at HC1 HC2 HC4 ⊢
  generalize nm.length = n1 at HC1 ⊢
  generalize asn.length = n2 at HC1 ⊢
  generalize es.length = n3 at HC2 ⊢
  generalize pas.length = n4 at HC4 ⊢
  go_enter Tryz.func15, Tryz.ntmps15
  go_wp2_with fail
  refine Calls.mono (HC1.out _ (Below.newH2 _ _)) ?_
  rintro e w2 ⟨rfl, b_⟩
  have vA : VarA w2 w.heap.size 35 #[.int .i64 kd, .int .i64 fr, .int .i64 to, .int .i64 rq, .int .i64 ok, .int .i64 op_, .int .i64 oq, .bool od, .slice a1 n1 cap1, .int .i64 tp, .int .i64 tq, .bool td, .slice a2 n2 cap2, .int .i64 ov, .int .i64 rc, .int .i64 rp_, .int .i64 rq_, .bool rd, .int .i64 rv, .slice a3 n3 cap3, .int .i64 xs, .int .i64 xb, .int .i64 xn, .int .i64 pk, .int .i64 pp, .int .i64 pq, .bool pd, .slice a4 n4 cap4, .int .i64 sp, .int .i64 sq, .bool sd, .int .i64 cd, .int .i64 hp, .int .i64 hq, .bool hd] := VarA.step ((VarA.new w _ _).alloc _) b_
  have vB : VarA w2 (w.heap.size + 1) 35 #[.int .i64 kd, .int .i64 fr, .int .i64 to, .int .i64 rq, .int .i64 ok, .int .i64 op_, .int .i64 oq, .bool od, .slice b1 n1 cbp1, .int .i64 tp, .int .i64 tq, .bool td, .slice b2 n2 cbp2, .int .i64 ov, .int .i64 rc, .int .i64 rp_, .int .i64 rq_, .bool rd, .int .i64 rv, .slice b3 n3 cbp3, .int .i64 xs, .int .i64 xb, .int .i64 xn, .int .i64 pk, .int .i64 pp, .int .i64 pq, .bool pd, .slice b4 n4 cbp4, .int .i64 sp, .int .i64 sq, .bool sd, .int .i64 cd, .int .i64 hp, .int .i64 hq, .bool hd] := by
    have := VarA.step (VarA.new (w.alloc _) _ _) b_
    simpa using this
  have HB : Hid _ := (Below.newH2 (w := w) _ _).trans (b_.mono (by simp; omega))
  clear b_
  obtain ⟨a0_, a1_, a2_, a3_, a4_, a5_, a6_, a7_, a8_, a9_, a10_, a11_, a12_, a13_, a14_, a15_, a16_, a17_, a18_, a19_, a20_, a21_, a22_, a23_, a24_, a25_, a26_, a27_, a28_, a29_, a30_, a31_, a32_, a33_, a34_⟩ := vA.l35
  obtain ⟨b0_, b1_, b2_, b3_, b4_, b5_, b6_, b7_, b8_, b9_, b10_, b11_, b12_, b13_, b14_, b15_, b16_, b17_, b18_, b19_, b20_, b21_, b22_, b23_, b24_, b25_, b26_, b27_, b28_, b29_, b30_, b31_, b32_, b33_, b34_⟩ := vB.l35
  go_wp2_with fail
  refine Calls.mono (HC2.out _ HB.out) ?_
  rintro e w3 ⟨rfl, b_⟩
  have vA_ := vA.step b_
  have vB_ := vB.step b_
  have HB_ : Hid _ := HB.out.trans (b_.mono HB.out.size)
  clear vA vB HB b_ a0_ a1_ a2_ a3_ a4_ a5_ a6_ a7_ a8_ a9_ a10_ a11_ a12_ a13_ a14_ a15_ a16_ a17_ a18_ a19_ a20_ a21_ a22_ a23_ a24_ a25_ a26_ a27_ a28_ a29_ a30_ a31_ a32_ a33_ a34_ b0_ b1_ b2_ b3_ b4_ b5_ b6_ b7_ b8_ b9_ b10_ b11_ b12_ b13_ b14_ b15_ b16_ b17_ b18_ b19_ b20_ b21_ b22_ b23_ b24_ b25_ b26_ b27_ b28_ b29_ b30_ b31_ b32_ b33_ b34_
  have vA := vA_
  have vB := vB_
  have HB := HB_
  clear vA_ vB_ HB_
  obtain ⟨a0_, a1_, a2_, a3_, a4_, a5_, a6_, a7_, a8_, a9_, a10_, a11_, a12_, a13_, a14_, a15_, a16_, a17_, a18_, a19_, a20_, a21_, a22_, a23_, a24_, a25_, a26_, a27_, a28_, a29_, a30_, a31_, a32_, a33_, a34_⟩ := vA.l35
  obtain ⟨b0_, b1_, b2_, b3_, b4_, b5_, b6_, b7_, b8_, b9_, b10_, b11_, b12_, b13_, b14_, b15_, b16_, b17_, b18_, b19_, b20_, b21_, b22_, b23_, b24_, b25_, b26_, b27_, b28_, b29_, b30_, b31_, b32_, b33_, b34_⟩ := vB.l35
  go_wp2_with fail
  refine Calls.mono (HC3.out _) ?_
  rintro e w4 ⟨rfl, b_⟩
  have vA_ := vA.step b_
  have vB_ := vB.step b_
  have HB_ : Hid _ := HB.out.trans (b_.mono HB.out.size)
  clear vA vB HB b_ a0_ a1_ a2_ a3_ a4_ a5_ a6_ a7_ a8_ a9_ a10_ a11_ a12_ a13_ a14_ a15_ a16_ a17_ a18_ a19_ a20_ a21_ a22_ a23_ a24_ a25_ a26_ a27_ a28_ a29_ a30_ a31_ a32_ a33_ a34_ b0_ b1_ b2_ b3_ b4_ b5_ b6_ b7_ b8_ b9_ b10_ b11_ b12_ b13_ b14_ b15_ b16_ b17_ b18_ b19_ b20_ b21_ b22_ b23_ b24_ b25_ b26_ b27_ b28_ b29_ b30_ b31_ b32_ b33_ b34_
  have vA := vA_
  have vB := vB_
  have HB := HB_
  clear vA_ vB_ HB_
  obtain ⟨a0_, a1_, a2_, a3_, a4_, a5_, a6_, a7_, a8_, a9_, a10_, a11_, a12_, a13_, a14_, a15_, a16_, a17_, a18_, a19_, a20_, a21_, a22_, a23_, a24_, a25_, a26_, a27_, a28_, a29_, a30_, a31_, a32_, a33_, a34_⟩ := vA.l35
  obtain ⟨b0_, b1_, b2_, b3_, b4_, b5_, b6_, b7_, b8_, b9_, b10_, b11_, b12_, b13_, b14_, b15_, b16_, b17_, b18_, b19_, b20_, b21_, b22_, b23_, b24_, b25_, b26_, b27_, b28_, b29_, b30_, b31_, b32_, b33_, b34_⟩ := vB.l35
  go_wp2_with fail
  refine Calls.mono (HC4.out _ HB.out) ?_
  rintro e w5 ⟨rfl, b_⟩
  have vA_ := vA.step b_
  have vB_ := vB.step b_
  have HB_ : Hid _ := HB.out.trans (b_.mono HB.out.size)
  clear vA vB HB b_ a0_ a1_ a2_ a3_ a4_ a5_ a6_ a7_ a8_ a9_ a10_ a11_ a12_ a13_ a14_ a15_ a16_ a17_ a18_ a19_ a20_ a21_ a22_ a23_ a24_ a25_ a26_ a27_ a28_ a29_ a30_ a31_ a32_ a33_ a34_ b0_ b1_ b2_ b3_ b4_ b5_ b6_ b7_ b8_ b9_ b10_ b11_ b12_ b13_ b14_ b15_ b16_ b17_ b18_ b19_ b20_ b21_ b22_ b23_ b24_ b25_ b26_ b27_ b28_ b29_ b30_ b31_ b32_ b33_ b34_
  have vA := vA_
  have vB := vB_
  have HB := HB_
  clear vA_ vB_ HB_
  obtain ⟨a0_, a1_, a2_, a3_, a4_, a5_, a6_, a7_, a8_, a9_, a10_, a11_, a12_, a13_, a14_, a15_, a16_, a17_, a18_, a19_, a20_, a21_, a22_, a23_, a24_, a25_, a26_, a27_, a28_, a29_, a30_, a31_, a32_, a33_, a34_⟩ := vA.l35
  obtain ⟨b0_, b1_, b2_, b3_, b4_, b5_, b6_, b7_, b8_, b9_, b10_, b11_, b12_, b13_, b14_, b15_, b16_, b17_, b18_, b19_, b20_, b21_, b22_, b23_, b24_, b25_, b26_, b27_, b28_, b29_, b30_, b31_, b32_, b33_, b34_⟩ := vB.l35
  go_wp2_with fail
  refine Calls.mono (HC5.out _) ?_
  rintro e w6 ⟨rfl, b_⟩
  have vA_ := vA.step b_
  have vB_ := vB.step b_
  have HB_ : Hid _ := HB.out.trans (b_.mono HB.out.size)
  clear vA vB HB b_ a0_ a1_ a2_ a3_ a4_ a5_ a6_ a7_ a8_ a9_ a10_ a11_ a12_ a13_ a14_ a15_ a16_ a17_ a18_ a19_ a20_ a21_ a22_ a23_ a24_ a25_ a26_ a27_ a28_ a29_ a30_ a31_ a32_ a33_ a34_ b0_ b1_ b2_ b3_ b4_ b5_ b6_ b7_ b8_ b9_ b10_ b11_ b12_ b13_ b14_ b15_ b16_ b17_ b18_ b19_ b20_ b21_ b22_ b23_ b24_ b25_ b26_ b27_ b28_ b29_ b30_ b31_ b32_ b33_ b34_
  have vA := vA_
  have vB := vB_
  have HB := HB_
  clear vA_ vB_ HB_
  obtain ⟨a0_, a1_, a2_, a3_, a4_, a5_, a6_, a7_, a8_, a9_, a10_, a11_, a12_, a13_, a14_, a15_, a16_, a17_, a18_, a19_, a20_, a21_, a22_, a23_, a24_, a25_, a26_, a27_, a28_, a29_, a30_, a31_, a32_, a33_, a34_⟩ := vA.l35
  obtain ⟨b0_, b1_, b2_, b3_, b4_, b5_, b6_, b7_, b8_, b9_, b10_, b11_, b12_, b13_, b14_, b15_, b16_, b17_, b18_, b19_, b20_, b21_, b22_, b23_, b24_, b25_, b26_, b27_, b28_, b29_, b30_, b31_, b32_, b33_, b34_⟩ := vB.l35
  go_wp2
  go_ret
  exact ⟨rfl, HB.out⟩

end Go.Proofs.YtbnjhjgjmckedaaGreat
end

section
/- May a message be? By the specification. Condition: no more than 2^21 of all. -/
namespace Go.Proofs.YtbnjhjgjmckedaaGreat
open Go.RowKit
set_option linter.unusedVariables false
set_option linter.unusedSimpArgs false
set_option maxRecDepth 100000

theorem VarA.ne {w : World} {b : Nat} {T : TypeId} {cs : Array Value} (h : VarA w b T cs) : Nonempty (Cls w) := Cls.ne w
theorem neT_run (p q d s i e : Int) (w : World) : (binOp .neq 31 (.agg #[.int .i64 p, .int .i64 q, .int .i64 d]) (.agg #[.int .i64 s, .int .i64 i, .int .i64 e])).run Tryz.prog w = .ok (.bool (!decide (p = s ∧ q = i ∧ d = e))) w := by
  by_cases h1 : p = s
  · subst h1
    by_cases h2 : q = i
    · subst h2
      by_cases h3 : d = e
      · subst h3
        simp [go_sem]
      · have g : (d == e) = false := by simpa using h3
        simp [go_sem, g, h3]
    · have g : (q == i) = false := by simpa using h2
      simp [go_sem, g, h2]
  · have g : (p == s) = false := by simpa using h1
    simp [go_sem, g, h1]
end Go.Proofs.YtbnjhjgjmckedaaGreat
end

section
/- May a message be? By the specification, kind by kind. Condition: no more than 2^21 of all. -/
namespace Go.Proofs.YtbnjhjgjmckedaaGreat
open Go.RowKit
set_option linter.unusedVariables false
set_option linter.unusedSimpArgs false
set_option maxRecDepth 100000

set_option maxHeartbeats 8000000 in
theorem specMsg0 (x y z u : Value) (m : MsD) (S : Nat → Prop) (w : World) (r : RdM w S m x y z u) (hl : szMs m ≤ 2097152) (hk : m.kind = 0) :
    Calls Tryz.prog 7 #[msV m x y z u] w fun e w' => e = .returned (.bool (MOk m)) ∧ Below w.heap.size w w' := by
  obtain ⟨r1, r2, r3, r4⟩ := r
  obtain ⟨a1, cap1, rfl⟩ := r1.sliceB
  obtain ⟨a2, cap2, rfl⟩ := r2.sliceB
  obtain ⟨a3, cap3, rfl, _⟩ := RdV.sliced r3
  obtain ⟨a4, cap4, rfl⟩ := r4.sliceB
  obtain ⟨kd, fr, to, rq, ⟨ok, ⟨op_, oq, od⟩, nm, ⟨tp, tq, td⟩, asn, ov⟩, ⟨rc, ⟨rp_, rq_, rd⟩, rv, es⟩, ⟨xs, xb, xn⟩, ⟨pk, ⟨pp, pq, pd⟩, pas, ⟨sp, sq, sd⟩⟩, cd, ⟨hp, hq, hd⟩⟩ := m
  unfold szMs at hl
  dsimp only at r1 r2 r3 r4 hl hk ⊢
  subst hk
  have HOP : Hid (∀ W, Below w.heap.size w W → _) := fun W hW => specOpOk_any _ _ ⟨ok, (op_, oq, od), nm, (tp, tq, td), asn, ov⟩ S W (r1.step hW) (r2.step hW) (by dsimp only; omega) (by dsimp only; omega)
  have HZO : Hid (∀ W, Below w.heap.size w W → _) := fun W hW => specZOp_any _ _ ⟨ok, (op_, oq, od), nm, (tp, tq, td), asn, ov⟩ S W (r1.step hW) (r2.step hW)
  have HRP : Hid (∀ W, Below w.heap.size w W → _) := fun W hW => specReplyOk_any _ ⟨rc, (rp_, rq_, rd), rv, es⟩ S W (r3.step hW) (by dsimp only; omega)
  have HZR : Hid (∀ W, Below w.heap.size w W → _) := fun W hW => specZRp_any _ ⟨rc, (rp_, rq_, rd), rv, es⟩ S W (r3.step hW)
  have HTX : Hid (∀ W, _) := fun W => specTxOk_any (xs, xb, xn) W
  have HPT : Hid (∀ W, Below w.heap.size w W → _) := fun W hW => specPartOk_any _ ⟨pk, (pp, pq, pd), pas, (sp, sq, sd)⟩ S W (r4.step hW) (by dsimp only; omega)
  have HZP : Hid (∀ W, Below w.heap.size w W → _) := fun W hW => specZPt_any _ ⟨pk, (pp, pq, pd), pas, (sp, sq, sd)⟩ S W (r4.step hW)
  have HHO : Hid (∀ W, _) := fun W => specHandleOk_any (hp, hq, hd) W
  have HNU : Hid (∀ (n : Int) (W : World), Calls Tryz.prog 26 #[.int .i64 n] W fun e w' => e = .returned (.bool (num n)) ∧ w' = W) := fun n W => specNum_w n W
  have HEN : Hid (∀ (n : Int) (W : World), Calls Tryz.prog 25 #[.int .i64 n] W fun e w' => e = .returned (.bool (isEndB n)) ∧ w' = W) := fun n W => specNode_w n W
  have HNT : Hid (zOp ⟨ok, (op_, oq, od), nm, (tp, tq, td), asn, ov⟩ = true → OOk ⟨ok, (op_, oq, od), nm, (tp, tq, td), asn, ov⟩ = false) := zOp_not
  obtain ⟨res, hres⟩ : ∃ res, MOk ⟨0, fr, to, rq, ⟨ok, (op_, oq, od), nm, (tp, tq, td), asn, ov⟩, ⟨rc, (rp_, rq_, rd), rv, es⟩, (xs, xb, xn), ⟨pk, (pp, pq, pd), pas, (sp, sq, sd)⟩, cd, (hp, hq, hd)⟩ = res := ⟨_, rfl⟩
  rw [hres]
  simp [MOk, MBody, isCd, zTx, tx0, noneOk, hd0] at hres
  clear r1 r2 r3 r4 hl
  try dsimp only at HOP HZO HRP HZR HPT HZP ⊢
  generalize OOk ⟨ok, (op_, oq, od), nm, (tp, tq, td), asn, ov⟩ = bo at HOP HNT hres
  generalize zOp ⟨ok, (op_, oq, od), nm, (tp, tq, td), asn, ov⟩ = zo at HZO HNT hres
  generalize ROk ⟨rc, (rp_, rq_, rd), rv, es⟩ = br at HRP hres
  generalize zRp ⟨rc, (rp_, rq_, rd), rv, es⟩ = zr at HZR hres
  generalize TOk (xs, xb, xn) = bt at HTX hres
  generalize POk ⟨pk, (pp, pq, pd), pas, (sp, sq, sd)⟩ = bp at HPT hres
  generalize zPt ⟨pk, (pp, pq, pd), pas, (sp, sq, sd)⟩ = zp at HZP hres
  generalize HOk (hp, hq, hd) = bh at HHO hres
  generalize nm.length = n1 at *
  generalize asn.length = n2 at *
  generalize es.length = n3 at *
  generalize pas.length = n4 at *
  have HRES : Hid _ := hres
  clear hres
  have hE := fun W => eqH_run hp hq 0 0 hd false W
  have hT := fun W => neT_run xs xb xn 0 0 0 W
  by_cases hA : isEndB fr = true ∧ isEndB to = true ∧ num rq = true ∧ 0 ≤ cd ∧ cd ≤ 11
  case neg =>
    have HF : Hid (res = false) := by
      rw [← HRES.out]; show _ = _
      rw [Bool.eq_false_iff]; intro h
      have hn0 : num 0 = true := by decide
      apply hA
      clear hA HNU HEN HNT HTX HHO HOP HZO HRP HZR HPT HZP hE hT HRES
      simp only [Bool.and_eq_true, Bool.or_eq_true, decide_eq_true_eq] at h
      refine ⟨?_, ?_, ?_, ?_, ?_⟩ <;> first | omega | (simp_all; done) | (simp_all; omega)
    rw [HF.out]
    clear HRES HF HNT hE hT
    go_enter Tryz.func7, Tryz.ntmps7
    go_wp2_with fail
    refine Calls.mono (HEN.out _ _) ?_
    rintro e w2 ⟨rfl, hw2⟩
    have vA : VarA w2 w.heap.size 35 #[.int .i64 0, .int .i64 fr, .int .i64 to, .int .i64 rq, .int .i64 ok, .int .i64 op_, .int .i64 oq, .bool od, .slice a1 n1 cap1, .int .i64 tp, .int .i64 tq, .bool td, .slice a2 n2 cap2, .int .i64 ov, .int .i64 rc, .int .i64 rp_, .int .i64 rq_, .bool rd, .int .i64 rv, .slice a3 n3 cap3, .int .i64 xs, .int .i64 xb, .int .i64 xn, .int .i64 pk, .int .i64 pp, .int .i64 pq, .bool pd, .slice a4 n4 cap4, .int .i64 sp, .int .i64 sq, .bool sd, .int .i64 cd, .int .i64 hp, .int .i64 hq, .bool hd] := by rw [hw2]; exact VarA.new w _ _
    have HB : Hid (Below w.heap.size w w2) := by rw [hw2]; exact Below.newH _
    clear hw2
    obtain ⟨a0_, a1_, a2_, a3_, a4_, a5_, a6_, a7_, a8_, a9_, a10_, a11_, a12_, a13_, a14_, a15_, a16_, a17_, a18_, a19_, a20_, a21_, a22_, a23_, a24_, a25_, a26_, a27_, a28_, a29_, a30_, a31_, a32_, a33_, a34_⟩ := vA.l35
    go_wp2_with (first | (go_at_call 25; refine Calls.mono (HEN.out _ _) ?_; rintro e w' ⟨rfl, rfl⟩) | (go_at_call 26; refine Calls.mono (HNU.out _ _) ?_; rintro e w' ⟨rfl, rfl⟩))
    all_goals first | (go_ret; exact ⟨rfl, HB.out⟩) | (exfalso; apply hA; simp_all; done) | (exfalso; apply hA; simp_all; omega)
  obtain ⟨hA1, hA2, hA3, hA4, hA5⟩ := hA
  try simp only [hA1, hA2, hA3, Bool.true_and] at HRES
  cases bo with
  | false =>
    go_enter Tryz.func7, Tryz.ntmps7
    go_wp2_with fail
    refine Calls.mono (HEN.out _ _) ?_
    rintro e w2 ⟨rfl, hw2⟩
    have vA : VarA w2 w.heap.size 35 #[.int .i64 0, .int .i64 fr, .int .i64 to, .int .i64 rq, .int .i64 ok, .int .i64 op_, .int .i64 oq, .bool od, .slice a1 n1 cap1, .int .i64 tp, .int .i64 tq, .bool td, .slice a2 n2 cap2, .int .i64 ov, .int .i64 rc, .int .i64 rp_, .int .i64 rq_, .bool rd, .int .i64 rv, .slice a3 n3 cap3, .int .i64 xs, .int .i64 xb, .int .i64 xn, .int .i64 pk, .int .i64 pp, .int .i64 pq, .bool pd, .slice a4 n4 cap4, .int .i64 sp, .int .i64 sq, .bool sd, .int .i64 cd, .int .i64 hp, .int .i64 hq, .bool hd] := by rw [hw2]; exact VarA.new w _ _
    have HB : Hid (Below w.heap.size w w2) := by rw [hw2]; exact Below.newH _
    clear hw2
    obtain ⟨a0_, a1_, a2_, a3_, a4_, a5_, a6_, a7_, a8_, a9_, a10_, a11_, a12_, a13_, a14_, a15_, a16_, a17_, a18_, a19_, a20_, a21_, a22_, a23_, a24_, a25_, a26_, a27_, a28_, a29_, a30_, a31_, a32_, a33_, a34_⟩ := vA.l35
    go_wp2_with (first | (go_at_call 25; refine Calls.mono (HEN.out _ _) ?_; rintro e w' ⟨rfl, rfl⟩) | (go_at_call 26; refine Calls.mono (HNU.out _ _) ?_; rintro e w' ⟨rfl, rfl⟩))
    have hlt_ := vA.lt
    haveI := VarA.ne vA
    have k0_ := Cls.cell hlt_ a0_
    have k4_ := Cls.cell hlt_ a4_
    have k5_ := Cls.cell hlt_ a5_
    have k6_ := Cls.cell hlt_ a6_
    have k7_ := Cls.cell hlt_ a7_
    have k8_ := Cls.cell hlt_ a8_
    have k9_ := Cls.cell hlt_ a9_
    have k10_ := Cls.cell hlt_ a10_
    have k11_ := Cls.cell hlt_ a11_
    have k12_ := Cls.cell hlt_ a12_
    have k13_ := Cls.cell hlt_ a13_
    refine wp_region_cls (by kernel_rfl) (by kernel_rfl) ?_
    repeat (go_big_quiet_step (first | (go_at_call 27; exact Calls.cls (HOP.out _ (HB.out.trans ((Cls.h _).mono HB.out.size)))) | (go_at_call 28; exact Calls.cls (HZO.out _ (HB.out.trans ((Cls.h _).mono HB.out.size))))))
    refine wpQuiet_nil ?_
    rintro w' ⟨⟨w', b_⟩, rfl⟩
    clear hlt_ this k0_ k4_ k5_ k6_ k7_ k8_ k9_ k10_ k11_ k12_ k13_
    have vA_ := vA.step b_
    have HB_ : Hid _ := HB.out.trans (b_.mono HB.out.size)
    clear vA HB b_ a0_ a1_ a2_ a3_ a4_ a5_ a6_ a7_ a8_ a9_ a10_ a11_ a12_ a13_ a14_ a15_ a16_ a17_ a18_ a19_ a20_ a21_ a22_ a23_ a24_ a25_ a26_ a27_ a28_ a29_ a30_ a31_ a32_ a33_ a34_
    have vA := vA_
    have HB := HB_
    clear vA_ HB_
    obtain ⟨a0_, a1_, a2_, a3_, a4_, a5_, a6_, a7_, a8_, a9_, a10_, a11_, a12_, a13_, a14_, a15_, a16_, a17_, a18_, a19_, a20_, a21_, a22_, a23_, a24_, a25_, a26_, a27_, a28_, a29_, a30_, a31_, a32_, a33_, a34_⟩ := vA.l35
    go_wp2_with (first | (go_at_call 27; refine Calls.mono (HOP.out _ HB.out) ?_; rintro e w' ⟨rfl, b_⟩; have vA_ := vA.step b_; have HB_ : Hid _ := HB.out.trans (b_.mono HB.out.size); clear vA HB b_ a0_ a1_ a2_ a3_ a4_ a5_ a6_ a7_ a8_ a9_ a10_ a11_ a12_ a13_ a14_ a15_ a16_ a17_ a18_ a19_ a20_ a21_ a22_ a23_ a24_ a25_ a26_ a27_ a28_ a29_ a30_ a31_ a32_ a33_ a34_; have vA := vA_; have HB := HB_; clear vA_ HB_; obtain ⟨a0_, a1_, a2_, a3_, a4_, a5_, a6_, a7_, a8_, a9_, a10_, a11_, a12_, a13_, a14_, a15_, a16_, a17_, a18_, a19_, a20_, a21_, a22_, a23_, a24_, a25_, a26_, a27_, a28_, a29_, a30_, a31_, a32_, a33_, a34_⟩ := vA.l35) | (go_at_call 28; refine Calls.mono (HZO.out _ HB.out) ?_; rintro e w' ⟨rfl, b_⟩; have vA_ := vA.step b_; have HB_ : Hid _ := HB.out.trans (b_.mono HB.out.size); clear vA HB b_ a0_ a1_ a2_ a3_ a4_ a5_ a6_ a7_ a8_ a9_ a10_ a11_ a12_ a13_ a14_ a15_ a16_ a17_ a18_ a19_ a20_ a21_ a22_ a23_ a24_ a25_ a26_ a27_ a28_ a29_ a30_ a31_ a32_ a33_ a34_; have vA := vA_; have HB := HB_; clear vA_ HB_; obtain ⟨a0_, a1_, a2_, a3_, a4_, a5_, a6_, a7_, a8_, a9_, a10_, a11_, a12_, a13_, a14_, a15_, a16_, a17_, a18_, a19_, a20_, a21_, a22_, a23_, a24_, a25_, a26_, a27_, a28_, a29_, a30_, a31_, a32_, a33_, a34_⟩ := vA.l35) | (go_at_call 29; refine Calls.mono (HRP.out _ HB.out) ?_; rintro e w' ⟨rfl, b_⟩; have vA_ := vA.step b_; have HB_ : Hid _ := HB.out.trans (b_.mono HB.out.size); clear vA HB b_ a0_ a1_ a2_ a3_ a4_ a5_ a6_ a7_ a8_ a9_ a10_ a11_ a12_ a13_ a14_ a15_ a16_ a17_ a18_ a19_ a20_ a21_ a22_ a23_ a24_ a25_ a26_ a27_ a28_ a29_ a30_ a31_ a32_ a33_ a34_; have vA := vA_; have HB := HB_; clear vA_ HB_; obtain ⟨a0_, a1_, a2_, a3_, a4_, a5_, a6_, a7_, a8_, a9_, a10_, a11_, a12_, a13_, a14_, a15_, a16_, a17_, a18_, a19_, a20_, a21_, a22_, a23_, a24_, a25_, a26_, a27_, a28_, a29_, a30_, a31_, a32_, a33_, a34_⟩ := vA.l35) | (go_at_call 30; refine Calls.mono (HZR.out _ HB.out) ?_; rintro e w' ⟨rfl, b_⟩; have vA_ := vA.step b_; have HB_ : Hid _ := HB.out.trans (b_.mono HB.out.size); clear vA HB b_ a0_ a1_ a2_ a3_ a4_ a5_ a6_ a7_ a8_ a9_ a10_ a11_ a12_ a13_ a14_ a15_ a16_ a17_ a18_ a19_ a20_ a21_ a22_ a23_ a24_ a25_ a26_ a27_ a28_ a29_ a30_ a31_ a32_ a33_ a34_; have vA := vA_; have HB := HB_; clear vA_ HB_; obtain ⟨a0_, a1_, a2_, a3_, a4_, a5_, a6_, a7_, a8_, a9_, a10_, a11_, a12_, a13_, a14_, a15_, a16_, a17_, a18_, a19_, a20_, a21_, a22_, a23_, a24_, a25_, a26_, a27_, a28_, a29_, a30_, a31_, a32_, a33_, a34_⟩ := vA.l35) | (go_at_call 31; refine Calls.mono (HTX.out _) ?_; rintro e w' ⟨rfl, b_⟩; have vA_ := vA.step b_; have HB_ : Hid _ := HB.out.trans (b_.mono HB.out.size); clear vA HB b_ a0_ a1_ a2_ a3_ a4_ a5_ a6_ a7_ a8_ a9_ a10_ a11_ a12_ a13_ a14_ a15_ a16_ a17_ a18_ a19_ a20_ a21_ a22_ a23_ a24_ a25_ a26_ a27_ a28_ a29_ a30_ a31_ a32_ a33_ a34_; have vA := vA_; have HB := HB_; clear vA_ HB_; obtain ⟨a0_, a1_, a2_, a3_, a4_, a5_, a6_, a7_, a8_, a9_, a10_, a11_, a12_, a13_, a14_, a15_, a16_, a17_, a18_, a19_, a20_, a21_, a22_, a23_, a24_, a25_, a26_, a27_, a28_, a29_, a30_, a31_, a32_, a33_, a34_⟩ := vA.l35) | (go_at_call 32; refine Calls.mono (HPT.out _ HB.out) ?_; rintro e w' ⟨rfl, b_⟩; have vA_ := vA.step b_; have HB_ : Hid _ := HB.out.trans (b_.mono HB.out.size); clear vA HB b_ a0_ a1_ a2_ a3_ a4_ a5_ a6_ a7_ a8_ a9_ a10_ a11_ a12_ a13_ a14_ a15_ a16_ a17_ a18_ a19_ a20_ a21_ a22_ a23_ a24_ a25_ a26_ a27_ a28_ a29_ a30_ a31_ a32_ a33_ a34_; have vA := vA_; have HB := HB_; clear vA_ HB_; obtain ⟨a0_, a1_, a2_, a3_, a4_, a5_, a6_, a7_, a8_, a9_, a10_, a11_, a12_, a13_, a14_, a15_, a16_, a17_, a18_, a19_, a20_, a21_, a22_, a23_, a24_, a25_, a26_, a27_, a28_, a29_, a30_, a31_, a32_, a33_, a34_⟩ := vA.l35) | (go_at_call 33; refine Calls.mono (HZP.out _ HB.out) ?_; rintro e w' ⟨rfl, b_⟩; have vA_ := vA.step b_; have HB_ : Hid _ := HB.out.trans (b_.mono HB.out.size); clear vA HB b_ a0_ a1_ a2_ a3_ a4_ a5_ a6_ a7_ a8_ a9_ a10_ a11_ a12_ a13_ a14_ a15_ a16_ a17_ a18_ a19_ a20_ a21_ a22_ a23_ a24_ a25_ a26_ a27_ a28_ a29_ a30_ a31_ a32_ a33_ a34_; have vA := vA_; have HB := HB_; clear vA_ HB_; obtain ⟨a0_, a1_, a2_, a3_, a4_, a5_, a6_, a7_, a8_, a9_, a10_, a11_, a12_, a13_, a14_, a15_, a16_, a17_, a18_, a19_, a20_, a21_, a22_, a23_, a24_, a25_, a26_, a27_, a28_, a29_, a30_, a31_, a32_, a33_, a34_⟩ := vA.l35) | (go_at_call 34; refine Calls.mono (HHO.out _) ?_; rintro e w' ⟨rfl, b_⟩; have vA_ := vA.step b_; have HB_ : Hid _ := HB.out.trans (b_.mono HB.out.size); clear vA HB b_ a0_ a1_ a2_ a3_ a4_ a5_ a6_ a7_ a8_ a9_ a10_ a11_ a12_ a13_ a14_ a15_ a16_ a17_ a18_ a19_ a20_ a21_ a22_ a23_ a24_ a25_ a26_ a27_ a28_ a29_ a30_ a31_ a32_ a33_ a34_; have vA := vA_; have HB := HB_; clear vA_ HB_; obtain ⟨a0_, a1_, a2_, a3_, a4_, a5_, a6_, a7_, a8_, a9_, a10_, a11_, a12_, a13_, a14_, a15_, a16_, a17_, a18_, a19_, a20_, a21_, a22_, a23_, a24_, a25_, a26_, a27_, a28_, a29_, a30_, a31_, a32_, a33_, a34_⟩ := vA.l35))
    all_goals (clear HOP HZO HRP HZR HTX HPT HZP HHO HNU HEN; go_ret; refine ⟨?_, HB.out⟩; rw [← HRES.out]; clear HRES; first | rfl | (simp_all; done) | (simp_all; omega) | (simp_all; rw [Bool.eq_iff_iff]; simp; done))
  | true =>
    go_enter Tryz.func7, Tryz.ntmps7
    go_wp2_with fail
    refine Calls.mono (HEN.out _ _) ?_
    rintro e w2 ⟨rfl, hw2⟩
    have vA : VarA w2 w.heap.size 35 #[.int .i64 0, .int .i64 fr, .int .i64 to, .int .i64 rq, .int .i64 ok, .int .i64 op_, .int .i64 oq, .bool od, .slice a1 n1 cap1, .int .i64 tp, .int .i64 tq, .bool td, .slice a2 n2 cap2, .int .i64 ov, .int .i64 rc, .int .i64 rp_, .int .i64 rq_, .bool rd, .int .i64 rv, .slice a3 n3 cap3, .int .i64 xs, .int .i64 xb, .int .i64 xn, .int .i64 pk, .int .i64 pp, .int .i64 pq, .bool pd, .slice a4 n4 cap4, .int .i64 sp, .int .i64 sq, .bool sd, .int .i64 cd, .int .i64 hp, .int .i64 hq, .bool hd] := by rw [hw2]; exact VarA.new w _ _
    have HB : Hid (Below w.heap.size w w2) := by rw [hw2]; exact Below.newH _
    clear hw2
    obtain ⟨a0_, a1_, a2_, a3_, a4_, a5_, a6_, a7_, a8_, a9_, a10_, a11_, a12_, a13_, a14_, a15_, a16_, a17_, a18_, a19_, a20_, a21_, a22_, a23_, a24_, a25_, a26_, a27_, a28_, a29_, a30_, a31_, a32_, a33_, a34_⟩ := vA.l35
    go_wp2_with (first | (go_at_call 25; refine Calls.mono (HEN.out _ _) ?_; rintro e w' ⟨rfl, rfl⟩) | (go_at_call 26; refine Calls.mono (HNU.out _ _) ?_; rintro e w' ⟨rfl, rfl⟩))
    have hlt_ := vA.lt
    haveI := VarA.ne vA
    have k0_ := Cls.cell hlt_ a0_
    have k4_ := Cls.cell hlt_ a4_
    have k5_ := Cls.cell hlt_ a5_
    have k6_ := Cls.cell hlt_ a6_
    have k7_ := Cls.cell hlt_ a7_
    have k8_ := Cls.cell hlt_ a8_
    have k9_ := Cls.cell hlt_ a9_
    have k10_ := Cls.cell hlt_ a10_
    have k11_ := Cls.cell hlt_ a11_
    have k12_ := Cls.cell hlt_ a12_
    have k13_ := Cls.cell hlt_ a13_
    refine wp_region_cls (by kernel_rfl) (by kernel_rfl) ?_
    repeat (go_big_quiet_step (first | (go_at_call 27; exact Calls.cls (HOP.out _ (HB.out.trans ((Cls.h _).mono HB.out.size)))) | (go_at_call 28; exact Calls.cls (HZO.out _ (HB.out.trans ((Cls.h _).mono HB.out.size))))))
    refine wpQuiet_nil ?_
    rintro w' ⟨⟨w', b_⟩, rfl⟩
    clear hlt_ this k0_ k4_ k5_ k6_ k7_ k8_ k9_ k10_ k11_ k12_ k13_
    have vA_ := vA.step b_
    have HB_ : Hid _ := HB.out.trans (b_.mono HB.out.size)
    clear vA HB b_ a0_ a1_ a2_ a3_ a4_ a5_ a6_ a7_ a8_ a9_ a10_ a11_ a12_ a13_ a14_ a15_ a16_ a17_ a18_ a19_ a20_ a21_ a22_ a23_ a24_ a25_ a26_ a27_ a28_ a29_ a30_ a31_ a32_ a33_ a34_
    have vA := vA_
    have HB := HB_
    clear vA_ HB_
    obtain ⟨a0_, a1_, a2_, a3_, a4_, a5_, a6_, a7_, a8_, a9_, a10_, a11_, a12_, a13_, a14_, a15_, a16_, a17_, a18_, a19_, a20_, a21_, a22_, a23_, a24_, a25_, a26_, a27_, a28_, a29_, a30_, a31_, a32_, a33_, a34_⟩ := vA.l35
    go_wp2_with (first | (go_at_call 27; refine Calls.mono (HOP.out _ HB.out) ?_; rintro e w' ⟨rfl, b_⟩; have vA_ := vA.step b_; have HB_ : Hid _ := HB.out.trans (b_.mono HB.out.size); clear vA HB b_ a0_ a1_ a2_ a3_ a4_ a5_ a6_ a7_ a8_ a9_ a10_ a11_ a12_ a13_ a14_ a15_ a16_ a17_ a18_ a19_ a20_ a21_ a22_ a23_ a24_ a25_ a26_ a27_ a28_ a29_ a30_ a31_ a32_ a33_ a34_; have vA := vA_; have HB := HB_; clear vA_ HB_; obtain ⟨a0_, a1_, a2_, a3_, a4_, a5_, a6_, a7_, a8_, a9_, a10_, a11_, a12_, a13_, a14_, a15_, a16_, a17_, a18_, a19_, a20_, a21_, a22_, a23_, a24_, a25_, a26_, a27_, a28_, a29_, a30_, a31_, a32_, a33_, a34_⟩ := vA.l35) | (go_at_call 28; refine Calls.mono (HZO.out _ HB.out) ?_; rintro e w' ⟨rfl, b_⟩; have vA_ := vA.step b_; have HB_ : Hid _ := HB.out.trans (b_.mono HB.out.size); clear vA HB b_ a0_ a1_ a2_ a3_ a4_ a5_ a6_ a7_ a8_ a9_ a10_ a11_ a12_ a13_ a14_ a15_ a16_ a17_ a18_ a19_ a20_ a21_ a22_ a23_ a24_ a25_ a26_ a27_ a28_ a29_ a30_ a31_ a32_ a33_ a34_; have vA := vA_; have HB := HB_; clear vA_ HB_; obtain ⟨a0_, a1_, a2_, a3_, a4_, a5_, a6_, a7_, a8_, a9_, a10_, a11_, a12_, a13_, a14_, a15_, a16_, a17_, a18_, a19_, a20_, a21_, a22_, a23_, a24_, a25_, a26_, a27_, a28_, a29_, a30_, a31_, a32_, a33_, a34_⟩ := vA.l35) | (go_at_call 29; refine Calls.mono (HRP.out _ HB.out) ?_; rintro e w' ⟨rfl, b_⟩; have vA_ := vA.step b_; have HB_ : Hid _ := HB.out.trans (b_.mono HB.out.size); clear vA HB b_ a0_ a1_ a2_ a3_ a4_ a5_ a6_ a7_ a8_ a9_ a10_ a11_ a12_ a13_ a14_ a15_ a16_ a17_ a18_ a19_ a20_ a21_ a22_ a23_ a24_ a25_ a26_ a27_ a28_ a29_ a30_ a31_ a32_ a33_ a34_; have vA := vA_; have HB := HB_; clear vA_ HB_; obtain ⟨a0_, a1_, a2_, a3_, a4_, a5_, a6_, a7_, a8_, a9_, a10_, a11_, a12_, a13_, a14_, a15_, a16_, a17_, a18_, a19_, a20_, a21_, a22_, a23_, a24_, a25_, a26_, a27_, a28_, a29_, a30_, a31_, a32_, a33_, a34_⟩ := vA.l35) | (go_at_call 30; refine Calls.mono (HZR.out _ HB.out) ?_; rintro e w' ⟨rfl, b_⟩; have vA_ := vA.step b_; have HB_ : Hid _ := HB.out.trans (b_.mono HB.out.size); clear vA HB b_ a0_ a1_ a2_ a3_ a4_ a5_ a6_ a7_ a8_ a9_ a10_ a11_ a12_ a13_ a14_ a15_ a16_ a17_ a18_ a19_ a20_ a21_ a22_ a23_ a24_ a25_ a26_ a27_ a28_ a29_ a30_ a31_ a32_ a33_ a34_; have vA := vA_; have HB := HB_; clear vA_ HB_; obtain ⟨a0_, a1_, a2_, a3_, a4_, a5_, a6_, a7_, a8_, a9_, a10_, a11_, a12_, a13_, a14_, a15_, a16_, a17_, a18_, a19_, a20_, a21_, a22_, a23_, a24_, a25_, a26_, a27_, a28_, a29_, a30_, a31_, a32_, a33_, a34_⟩ := vA.l35) | (go_at_call 31; refine Calls.mono (HTX.out _) ?_; rintro e w' ⟨rfl, b_⟩; have vA_ := vA.step b_; have HB_ : Hid _ := HB.out.trans (b_.mono HB.out.size); clear vA HB b_ a0_ a1_ a2_ a3_ a4_ a5_ a6_ a7_ a8_ a9_ a10_ a11_ a12_ a13_ a14_ a15_ a16_ a17_ a18_ a19_ a20_ a21_ a22_ a23_ a24_ a25_ a26_ a27_ a28_ a29_ a30_ a31_ a32_ a33_ a34_; have vA := vA_; have HB := HB_; clear vA_ HB_; obtain ⟨a0_, a1_, a2_, a3_, a4_, a5_, a6_, a7_, a8_, a9_, a10_, a11_, a12_, a13_, a14_, a15_, a16_, a17_, a18_, a19_, a20_, a21_, a22_, a23_, a24_, a25_, a26_, a27_, a28_, a29_, a30_, a31_, a32_, a33_, a34_⟩ := vA.l35) | (go_at_call 32; refine Calls.mono (HPT.out _ HB.out) ?_; rintro e w' ⟨rfl, b_⟩; have vA_ := vA.step b_; have HB_ : Hid _ := HB.out.trans (b_.mono HB.out.size); clear vA HB b_ a0_ a1_ a2_ a3_ a4_ a5_ a6_ a7_ a8_ a9_ a10_ a11_ a12_ a13_ a14_ a15_ a16_ a17_ a18_ a19_ a20_ a21_ a22_ a23_ a24_ a25_ a26_ a27_ a28_ a29_ a30_ a31_ a32_ a33_ a34_; have vA := vA_; have HB := HB_; clear vA_ HB_; obtain ⟨a0_, a1_, a2_, a3_, a4_, a5_, a6_, a7_, a8_, a9_, a10_, a11_, a12_, a13_, a14_, a15_, a16_, a17_, a18_, a19_, a20_, a21_, a22_, a23_, a24_, a25_, a26_, a27_, a28_, a29_, a30_, a31_, a32_, a33_, a34_⟩ := vA.l35) | (go_at_call 33; refine Calls.mono (HZP.out _ HB.out) ?_; rintro e w' ⟨rfl, b_⟩; have vA_ := vA.step b_; have HB_ : Hid _ := HB.out.trans (b_.mono HB.out.size); clear vA HB b_ a0_ a1_ a2_ a3_ a4_ a5_ a6_ a7_ a8_ a9_ a10_ a11_ a12_ a13_ a14_ a15_ a16_ a17_ a18_ a19_ a20_ a21_ a22_ a23_ a24_ a25_ a26_ a27_ a28_ a29_ a30_ a31_ a32_ a33_ a34_; have vA := vA_; have HB := HB_; clear vA_ HB_; obtain ⟨a0_, a1_, a2_, a3_, a4_, a5_, a6_, a7_, a8_, a9_, a10_, a11_, a12_, a13_, a14_, a15_, a16_, a17_, a18_, a19_, a20_, a21_, a22_, a23_, a24_, a25_, a26_, a27_, a28_, a29_, a30_, a31_, a32_, a33_, a34_⟩ := vA.l35) | (go_at_call 34; refine Calls.mono (HHO.out _) ?_; rintro e w' ⟨rfl, b_⟩; have vA_ := vA.step b_; have HB_ : Hid _ := HB.out.trans (b_.mono HB.out.size); clear vA HB b_ a0_ a1_ a2_ a3_ a4_ a5_ a6_ a7_ a8_ a9_ a10_ a11_ a12_ a13_ a14_ a15_ a16_ a17_ a18_ a19_ a20_ a21_ a22_ a23_ a24_ a25_ a26_ a27_ a28_ a29_ a30_ a31_ a32_ a33_ a34_; have vA := vA_; have HB := HB_; clear vA_ HB_; obtain ⟨a0_, a1_, a2_, a3_, a4_, a5_, a6_, a7_, a8_, a9_, a10_, a11_, a12_, a13_, a14_, a15_, a16_, a17_, a18_, a19_, a20_, a21_, a22_, a23_, a24_, a25_, a26_, a27_, a28_, a29_, a30_, a31_, a32_, a33_, a34_⟩ := vA.l35))
    all_goals (clear HOP HZO HRP HZR HTX HPT HZP HHO HNU HEN; go_ret; refine ⟨?_, HB.out⟩; rw [← HRES.out]; clear HRES; first | rfl | (simp_all; done) | (simp_all; omega) | (simp_all; rw [Bool.eq_iff_iff]; simp; done))
set_option maxHeartbeats 8000000 in
theorem specMsg1 (x y z u : Value) (m : MsD) (S : Nat → Prop) (w : World) (r : RdM w S m x y z u) (hl : szMs m ≤ 2097152) (hk : m.kind = 1) :
    Calls Tryz.prog 7 #[msV m x y z u] w fun e w' => e = .returned (.bool (MOk m)) ∧ Below w.heap.size w w' := by
  obtain ⟨r1, r2, r3, r4⟩ := r
  obtain ⟨a1, cap1, rfl⟩ := r1.sliceB
  obtain ⟨a2, cap2, rfl⟩ := r2.sliceB
  obtain ⟨a3, cap3, rfl, _⟩ := RdV.sliced r3
  obtain ⟨a4, cap4, rfl⟩ := r4.sliceB
  obtain ⟨kd, fr, to, rq, ⟨ok, ⟨op_, oq, od⟩, nm, ⟨tp, tq, td⟩, asn, ov⟩, ⟨rc, ⟨rp_, rq_, rd⟩, rv, es⟩, ⟨xs, xb, xn⟩, ⟨pk, ⟨pp, pq, pd⟩, pas, ⟨sp, sq, sd⟩⟩, cd, ⟨hp, hq, hd⟩⟩ := m
  unfold szMs at hl
  dsimp only at r1 r2 r3 r4 hl hk ⊢
  subst hk
  have HOP : Hid (∀ W, Below w.heap.size w W → _) := fun W hW => specOpOk_any _ _ ⟨ok, (op_, oq, od), nm, (tp, tq, td), asn, ov⟩ S W (r1.step hW) (r2.step hW) (by dsimp only; omega) (by dsimp only; omega)
  have HZO : Hid (∀ W, Below w.heap.size w W → _) := fun W hW => specZOp_any _ _ ⟨ok, (op_, oq, od), nm, (tp, tq, td), asn, ov⟩ S W (r1.step hW) (r2.step hW)
  have HRP : Hid (∀ W, Below w.heap.size w W → _) := fun W hW => specReplyOk_any _ ⟨rc, (rp_, rq_, rd), rv, es⟩ S W (r3.step hW) (by dsimp only; omega)
  have HZR : Hid (∀ W, Below w.heap.size w W → _) := fun W hW => specZRp_any _ ⟨rc, (rp_, rq_, rd), rv, es⟩ S W (r3.step hW)
  have HTX : Hid (∀ W, _) := fun W => specTxOk_any (xs, xb, xn) W
  have HPT : Hid (∀ W, Below w.heap.size w W → _) := fun W hW => specPartOk_any _ ⟨pk, (pp, pq, pd), pas, (sp, sq, sd)⟩ S W (r4.step hW) (by dsimp only; omega)
  have HZP : Hid (∀ W, Below w.heap.size w W → _) := fun W hW => specZPt_any _ ⟨pk, (pp, pq, pd), pas, (sp, sq, sd)⟩ S W (r4.step hW)
  have HHO : Hid (∀ W, _) := fun W => specHandleOk_any (hp, hq, hd) W
  have HNU : Hid (∀ (n : Int) (W : World), Calls Tryz.prog 26 #[.int .i64 n] W fun e w' => e = .returned (.bool (num n)) ∧ w' = W) := fun n W => specNum_w n W
  have HEN : Hid (∀ (n : Int) (W : World), Calls Tryz.prog 25 #[.int .i64 n] W fun e w' => e = .returned (.bool (isEndB n)) ∧ w' = W) := fun n W => specNode_w n W
  have HNT : Hid (zOp ⟨ok, (op_, oq, od), nm, (tp, tq, td), asn, ov⟩ = true → OOk ⟨ok, (op_, oq, od), nm, (tp, tq, td), asn, ov⟩ = false) := zOp_not
  obtain ⟨res, hres⟩ : ∃ res, MOk ⟨1, fr, to, rq, ⟨ok, (op_, oq, od), nm, (tp, tq, td), asn, ov⟩, ⟨rc, (rp_, rq_, rd), rv, es⟩, (xs, xb, xn), ⟨pk, (pp, pq, pd), pas, (sp, sq, sd)⟩, cd, (hp, hq, hd)⟩ = res := ⟨_, rfl⟩
  rw [hres]
  simp [MOk, MBody, isCd, zTx, tx0, noneOk, hd0] at hres
  clear r1 r2 r3 r4 hl
  try dsimp only at HOP HZO HRP HZR HPT HZP ⊢
  generalize OOk ⟨ok, (op_, oq, od), nm, (tp, tq, td), asn, ov⟩ = bo at HOP HNT hres
  generalize zOp ⟨ok, (op_, oq, od), nm, (tp, tq, td), asn, ov⟩ = zo at HZO HNT hres
  generalize ROk ⟨rc, (rp_, rq_, rd), rv, es⟩ = br at HRP hres
  generalize zRp ⟨rc, (rp_, rq_, rd), rv, es⟩ = zr at HZR hres
  generalize TOk (xs, xb, xn) = bt at HTX hres
  generalize POk ⟨pk, (pp, pq, pd), pas, (sp, sq, sd)⟩ = bp at HPT hres
  generalize zPt ⟨pk, (pp, pq, pd), pas, (sp, sq, sd)⟩ = zp at HZP hres
  generalize HOk (hp, hq, hd) = bh at HHO hres
  generalize nm.length = n1 at *
  generalize asn.length = n2 at *
  generalize es.length = n3 at *
  generalize pas.length = n4 at *
  have HRES : Hid _ := hres
  clear hres
  have hE := fun W => eqH_run hp hq 0 0 hd false W
  have hT := fun W => neT_run xs xb xn 0 0 0 W
  by_cases hA : isEndB fr = true ∧ isEndB to = true ∧ num rq = true ∧ 0 ≤ cd ∧ cd ≤ 11
  case neg =>
    have HF : Hid (res = false) := by
      rw [← HRES.out]; show _ = _
      rw [Bool.eq_false_iff]; intro h
      have hn0 : num 0 = true := by decide
      apply hA
      clear hA HNU HEN HNT HTX HHO HOP HZO HRP HZR HPT HZP hE hT HRES
      simp only [Bool.and_eq_true, Bool.or_eq_true, decide_eq_true_eq] at h
      refine ⟨?_, ?_, ?_, ?_, ?_⟩ <;> first | omega | (simp_all; done) | (simp_all; omega)
    rw [HF.out]
    clear HRES HF HNT hE hT
    go_enter Tryz.func7, Tryz.ntmps7
    go_wp2_with fail
    refine Calls.mono (HEN.out _ _) ?_
    rintro e w2 ⟨rfl, hw2⟩
    have vA : VarA w2 w.heap.size 35 #[.int .i64 1, .int .i64 fr, .int .i64 to, .int .i64 rq, .int .i64 ok, .int .i64 op_, .int .i64 oq, .bool od, .slice a1 n1 cap1, .int .i64 tp, .int .i64 tq, .bool td, .slice a2 n2 cap2, .int .i64 ov, .int .i64 rc, .int .i64 rp_, .int .i64 rq_, .bool rd, .int .i64 rv, .slice a3 n3 cap3, .int .i64 xs, .int .i64 xb, .int .i64 xn, .int .i64 pk, .int .i64 pp, .int .i64 pq, .bool pd, .slice a4 n4 cap4, .int .i64 sp, .int .i64 sq, .bool sd, .int .i64 cd, .int .i64 hp, .int .i64 hq, .bool hd] := by rw [hw2]; exact VarA.new w _ _
    have HB : Hid (Below w.heap.size w w2) := by rw [hw2]; exact Below.newH _
    clear hw2
    obtain ⟨a0_, a1_, a2_, a3_, a4_, a5_, a6_, a7_, a8_, a9_, a10_, a11_, a12_, a13_, a14_, a15_, a16_, a17_, a18_, a19_, a20_, a21_, a22_, a23_, a24_, a25_, a26_, a27_, a28_, a29_, a30_, a31_, a32_, a33_, a34_⟩ := vA.l35
    go_wp2_with (first | (go_at_call 25; refine Calls.mono (HEN.out _ _) ?_; rintro e w' ⟨rfl, rfl⟩) | (go_at_call 26; refine Calls.mono (HNU.out _ _) ?_; rintro e w' ⟨rfl, rfl⟩))
    all_goals first | (go_ret; exact ⟨rfl, HB.out⟩) | (exfalso; apply hA; simp_all; done) | (exfalso; apply hA; simp_all; omega)
  obtain ⟨hA1, hA2, hA3, hA4, hA5⟩ := hA
  try simp only [hA1, hA2, hA3, Bool.true_and] at HRES
  cases bo with
  | false =>
    go_enter Tryz.func7, Tryz.ntmps7
    go_wp2_with fail
    refine Calls.mono (HEN.out _ _) ?_
    rintro e w2 ⟨rfl, hw2⟩
    have vA : VarA w2 w.heap.size 35 #[.int .i64 1, .int .i64 fr, .int .i64 to, .int .i64 rq, .int .i64 ok, .int .i64 op_, .int .i64 oq, .bool od, .slice a1 n1 cap1, .int .i64 tp, .int .i64 tq, .bool td, .slice a2 n2 cap2, .int .i64 ov, .int .i64 rc, .int .i64 rp_, .int .i64 rq_, .bool rd, .int .i64 rv, .slice a3 n3 cap3, .int .i64 xs, .int .i64 xb, .int .i64 xn, .int .i64 pk, .int .i64 pp, .int .i64 pq, .bool pd, .slice a4 n4 cap4, .int .i64 sp, .int .i64 sq, .bool sd, .int .i64 cd, .int .i64 hp, .int .i64 hq, .bool hd] := by rw [hw2]; exact VarA.new w _ _
    have HB : Hid (Below w.heap.size w w2) := by rw [hw2]; exact Below.newH _
    clear hw2
    obtain ⟨a0_, a1_, a2_, a3_, a4_, a5_, a6_, a7_, a8_, a9_, a10_, a11_, a12_, a13_, a14_, a15_, a16_, a17_, a18_, a19_, a20_, a21_, a22_, a23_, a24_, a25_, a26_, a27_, a28_, a29_, a30_, a31_, a32_, a33_, a34_⟩ := vA.l35
    go_wp2_with (first | (go_at_call 25; refine Calls.mono (HEN.out _ _) ?_; rintro e w' ⟨rfl, rfl⟩) | (go_at_call 26; refine Calls.mono (HNU.out _ _) ?_; rintro e w' ⟨rfl, rfl⟩))
    have hlt_ := vA.lt
    haveI := VarA.ne vA
    have k0_ := Cls.cell hlt_ a0_
    have k4_ := Cls.cell hlt_ a4_
    have k5_ := Cls.cell hlt_ a5_
    have k6_ := Cls.cell hlt_ a6_
    have k7_ := Cls.cell hlt_ a7_
    have k8_ := Cls.cell hlt_ a8_
    have k9_ := Cls.cell hlt_ a9_
    have k10_ := Cls.cell hlt_ a10_
    have k11_ := Cls.cell hlt_ a11_
    have k12_ := Cls.cell hlt_ a12_
    have k13_ := Cls.cell hlt_ a13_
    refine wp_region_cls (by kernel_rfl) (by kernel_rfl) ?_
    repeat (go_big_quiet_step (first | (go_at_call 27; exact Calls.cls (HOP.out _ (HB.out.trans ((Cls.h _).mono HB.out.size)))) | (go_at_call 28; exact Calls.cls (HZO.out _ (HB.out.trans ((Cls.h _).mono HB.out.size))))))
    refine wpQuiet_nil ?_
    rintro w' ⟨⟨w', b_⟩, rfl⟩
    clear hlt_ this k0_ k4_ k5_ k6_ k7_ k8_ k9_ k10_ k11_ k12_ k13_
    have vA_ := vA.step b_
    have HB_ : Hid _ := HB.out.trans (b_.mono HB.out.size)
    clear vA HB b_ a0_ a1_ a2_ a3_ a4_ a5_ a6_ a7_ a8_ a9_ a10_ a11_ a12_ a13_ a14_ a15_ a16_ a17_ a18_ a19_ a20_ a21_ a22_ a23_ a24_ a25_ a26_ a27_ a28_ a29_ a30_ a31_ a32_ a33_ a34_
    have vA := vA_
    have HB := HB_
    clear vA_ HB_
    obtain ⟨a0_, a1_, a2_, a3_, a4_, a5_, a6_, a7_, a8_, a9_, a10_, a11_, a12_, a13_, a14_, a15_, a16_, a17_, a18_, a19_, a20_, a21_, a22_, a23_, a24_, a25_, a26_, a27_, a28_, a29_, a30_, a31_, a32_, a33_, a34_⟩ := vA.l35
    go_wp2_with (first | (go_at_call 27; refine Calls.mono (HOP.out _ HB.out) ?_; rintro e w' ⟨rfl, b_⟩; have vA_ := vA.step b_; have HB_ : Hid _ := HB.out.trans (b_.mono HB.out.size); clear vA HB b_ a0_ a1_ a2_ a3_ a4_ a5_ a6_ a7_ a8_ a9_ a10_ a11_ a12_ a13_ a14_ a15_ a16_ a17_ a18_ a19_ a20_ a21_ a22_ a23_ a24_ a25_ a26_ a27_ a28_ a29_ a30_ a31_ a32_ a33_ a34_; have vA := vA_; have HB := HB_; clear vA_ HB_; obtain ⟨a0_, a1_, a2_, a3_, a4_, a5_, a6_, a7_, a8_, a9_, a10_, a11_, a12_, a13_, a14_, a15_, a16_, a17_, a18_, a19_, a20_, a21_, a22_, a23_, a24_, a25_, a26_, a27_, a28_, a29_, a30_, a31_, a32_, a33_, a34_⟩ := vA.l35) | (go_at_call 28; refine Calls.mono (HZO.out _ HB.out) ?_; rintro e w' ⟨rfl, b_⟩; have vA_ := vA.step b_; have HB_ : Hid _ := HB.out.trans (b_.mono HB.out.size); clear vA HB b_ a0_ a1_ a2_ a3_ a4_ a5_ a6_ a7_ a8_ a9_ a10_ a11_ a12_ a13_ a14_ a15_ a16_ a17_ a18_ a19_ a20_ a21_ a22_ a23_ a24_ a25_ a26_ a27_ a28_ a29_ a30_ a31_ a32_ a33_ a34_; have vA := vA_; have HB := HB_; clear vA_ HB_; obtain ⟨a0_, a1_, a2_, a3_, a4_, a5_, a6_, a7_, a8_, a9_, a10_, a11_, a12_, a13_, a14_, a15_, a16_, a17_, a18_, a19_, a20_, a21_, a22_, a23_, a24_, a25_, a26_, a27_, a28_, a29_, a30_, a31_, a32_, a33_, a34_⟩ := vA.l35) | (go_at_call 29; refine Calls.mono (HRP.out _ HB.out) ?_; rintro e w' ⟨rfl, b_⟩; have vA_ := vA.step b_; have HB_ : Hid _ := HB.out.trans (b_.mono HB.out.size); clear vA HB b_ a0_ a1_ a2_ a3_ a4_ a5_ a6_ a7_ a8_ a9_ a10_ a11_ a12_ a13_ a14_ a15_ a16_ a17_ a18_ a19_ a20_ a21_ a22_ a23_ a24_ a25_ a26_ a27_ a28_ a29_ a30_ a31_ a32_ a33_ a34_; have vA := vA_; have HB := HB_; clear vA_ HB_; obtain ⟨a0_, a1_, a2_, a3_, a4_, a5_, a6_, a7_, a8_, a9_, a10_, a11_, a12_, a13_, a14_, a15_, a16_, a17_, a18_, a19_, a20_, a21_, a22_, a23_, a24_, a25_, a26_, a27_, a28_, a29_, a30_, a31_, a32_, a33_, a34_⟩ := vA.l35) | (go_at_call 30; refine Calls.mono (HZR.out _ HB.out) ?_; rintro e w' ⟨rfl, b_⟩; have vA_ := vA.step b_; have HB_ : Hid _ := HB.out.trans (b_.mono HB.out.size); clear vA HB b_ a0_ a1_ a2_ a3_ a4_ a5_ a6_ a7_ a8_ a9_ a10_ a11_ a12_ a13_ a14_ a15_ a16_ a17_ a18_ a19_ a20_ a21_ a22_ a23_ a24_ a25_ a26_ a27_ a28_ a29_ a30_ a31_ a32_ a33_ a34_; have vA := vA_; have HB := HB_; clear vA_ HB_; obtain ⟨a0_, a1_, a2_, a3_, a4_, a5_, a6_, a7_, a8_, a9_, a10_, a11_, a12_, a13_, a14_, a15_, a16_, a17_, a18_, a19_, a20_, a21_, a22_, a23_, a24_, a25_, a26_, a27_, a28_, a29_, a30_, a31_, a32_, a33_, a34_⟩ := vA.l35) | (go_at_call 31; refine Calls.mono (HTX.out _) ?_; rintro e w' ⟨rfl, b_⟩; have vA_ := vA.step b_; have HB_ : Hid _ := HB.out.trans (b_.mono HB.out.size); clear vA HB b_ a0_ a1_ a2_ a3_ a4_ a5_ a6_ a7_ a8_ a9_ a10_ a11_ a12_ a13_ a14_ a15_ a16_ a17_ a18_ a19_ a20_ a21_ a22_ a23_ a24_ a25_ a26_ a27_ a28_ a29_ a30_ a31_ a32_ a33_ a34_; have vA := vA_; have HB := HB_; clear vA_ HB_; obtain ⟨a0_, a1_, a2_, a3_, a4_, a5_, a6_, a7_, a8_, a9_, a10_, a11_, a12_, a13_, a14_, a15_, a16_, a17_, a18_, a19_, a20_, a21_, a22_, a23_, a24_, a25_, a26_, a27_, a28_, a29_, a30_, a31_, a32_, a33_, a34_⟩ := vA.l35) | (go_at_call 32; refine Calls.mono (HPT.out _ HB.out) ?_; rintro e w' ⟨rfl, b_⟩; have vA_ := vA.step b_; have HB_ : Hid _ := HB.out.trans (b_.mono HB.out.size); clear vA HB b_ a0_ a1_ a2_ a3_ a4_ a5_ a6_ a7_ a8_ a9_ a10_ a11_ a12_ a13_ a14_ a15_ a16_ a17_ a18_ a19_ a20_ a21_ a22_ a23_ a24_ a25_ a26_ a27_ a28_ a29_ a30_ a31_ a32_ a33_ a34_; have vA := vA_; have HB := HB_; clear vA_ HB_; obtain ⟨a0_, a1_, a2_, a3_, a4_, a5_, a6_, a7_, a8_, a9_, a10_, a11_, a12_, a13_, a14_, a15_, a16_, a17_, a18_, a19_, a20_, a21_, a22_, a23_, a24_, a25_, a26_, a27_, a28_, a29_, a30_, a31_, a32_, a33_, a34_⟩ := vA.l35) | (go_at_call 33; refine Calls.mono (HZP.out _ HB.out) ?_; rintro e w' ⟨rfl, b_⟩; have vA_ := vA.step b_; have HB_ : Hid _ := HB.out.trans (b_.mono HB.out.size); clear vA HB b_ a0_ a1_ a2_ a3_ a4_ a5_ a6_ a7_ a8_ a9_ a10_ a11_ a12_ a13_ a14_ a15_ a16_ a17_ a18_ a19_ a20_ a21_ a22_ a23_ a24_ a25_ a26_ a27_ a28_ a29_ a30_ a31_ a32_ a33_ a34_; have vA := vA_; have HB := HB_; clear vA_ HB_; obtain ⟨a0_, a1_, a2_, a3_, a4_, a5_, a6_, a7_, a8_, a9_, a10_, a11_, a12_, a13_, a14_, a15_, a16_, a17_, a18_, a19_, a20_, a21_, a22_, a23_, a24_, a25_, a26_, a27_, a28_, a29_, a30_, a31_, a32_, a33_, a34_⟩ := vA.l35) | (go_at_call 34; refine Calls.mono (HHO.out _) ?_; rintro e w' ⟨rfl, b_⟩; have vA_ := vA.step b_; have HB_ : Hid _ := HB.out.trans (b_.mono HB.out.size); clear vA HB b_ a0_ a1_ a2_ a3_ a4_ a5_ a6_ a7_ a8_ a9_ a10_ a11_ a12_ a13_ a14_ a15_ a16_ a17_ a18_ a19_ a20_ a21_ a22_ a23_ a24_ a25_ a26_ a27_ a28_ a29_ a30_ a31_ a32_ a33_ a34_; have vA := vA_; have HB := HB_; clear vA_ HB_; obtain ⟨a0_, a1_, a2_, a3_, a4_, a5_, a6_, a7_, a8_, a9_, a10_, a11_, a12_, a13_, a14_, a15_, a16_, a17_, a18_, a19_, a20_, a21_, a22_, a23_, a24_, a25_, a26_, a27_, a28_, a29_, a30_, a31_, a32_, a33_, a34_⟩ := vA.l35))
    all_goals (clear HOP HZO HRP HZR HTX HPT HZP HHO HNU HEN; go_ret; refine ⟨?_, HB.out⟩; rw [← HRES.out]; clear HRES; first | rfl | (simp_all; done) | (simp_all; omega) | (simp_all; rw [Bool.eq_iff_iff]; simp; done))
  | true =>
    have hzo : zo = false := by cases zo with
      | false => rfl
      | true => exact absurd (HNT.out rfl) (by simp)
    subst hzo
    go_enter Tryz.func7, Tryz.ntmps7
    go_wp2_with fail
    refine Calls.mono (HEN.out _ _) ?_
    rintro e w2 ⟨rfl, hw2⟩
    have vA : VarA w2 w.heap.size 35 #[.int .i64 1, .int .i64 fr, .int .i64 to, .int .i64 rq, .int .i64 ok, .int .i64 op_, .int .i64 oq, .bool od, .slice a1 n1 cap1, .int .i64 tp, .int .i64 tq, .bool td, .slice a2 n2 cap2, .int .i64 ov, .int .i64 rc, .int .i64 rp_, .int .i64 rq_, .bool rd, .int .i64 rv, .slice a3 n3 cap3, .int .i64 xs, .int .i64 xb, .int .i64 xn, .int .i64 pk, .int .i64 pp, .int .i64 pq, .bool pd, .slice a4 n4 cap4, .int .i64 sp, .int .i64 sq, .bool sd, .int .i64 cd, .int .i64 hp, .int .i64 hq, .bool hd] := by rw [hw2]; exact VarA.new w _ _
    have HB : Hid (Below w.heap.size w w2) := by rw [hw2]; exact Below.newH _
    clear hw2
    obtain ⟨a0_, a1_, a2_, a3_, a4_, a5_, a6_, a7_, a8_, a9_, a10_, a11_, a12_, a13_, a14_, a15_, a16_, a17_, a18_, a19_, a20_, a21_, a22_, a23_, a24_, a25_, a26_, a27_, a28_, a29_, a30_, a31_, a32_, a33_, a34_⟩ := vA.l35
    go_wp2_with (first | (go_at_call 25; refine Calls.mono (HEN.out _ _) ?_; rintro e w' ⟨rfl, rfl⟩) | (go_at_call 26; refine Calls.mono (HNU.out _ _) ?_; rintro e w' ⟨rfl, rfl⟩))
    have hlt_ := vA.lt
    haveI := VarA.ne vA
    have k0_ := Cls.cell hlt_ a0_
    have k4_ := Cls.cell hlt_ a4_
    have k5_ := Cls.cell hlt_ a5_
    have k6_ := Cls.cell hlt_ a6_
    have k7_ := Cls.cell hlt_ a7_
    have k8_ := Cls.cell hlt_ a8_
    have k9_ := Cls.cell hlt_ a9_
    have k10_ := Cls.cell hlt_ a10_
    have k11_ := Cls.cell hlt_ a11_
    have k12_ := Cls.cell hlt_ a12_
    have k13_ := Cls.cell hlt_ a13_
    refine wp_region_cls (by kernel_rfl) (by kernel_rfl) ?_
    repeat (go_big_quiet_step (first | (go_at_call 27; exact Calls.cls (HOP.out _ (HB.out.trans ((Cls.h _).mono HB.out.size)))) | (go_at_call 28; exact Calls.cls (HZO.out _ (HB.out.trans ((Cls.h _).mono HB.out.size))))))
    refine wpQuiet_nil ?_
    rintro w' ⟨⟨w', b_⟩, rfl⟩
    clear hlt_ this k0_ k4_ k5_ k6_ k7_ k8_ k9_ k10_ k11_ k12_ k13_
    have vA_ := vA.step b_
    have HB_ : Hid _ := HB.out.trans (b_.mono HB.out.size)
    clear vA HB b_ a0_ a1_ a2_ a3_ a4_ a5_ a6_ a7_ a8_ a9_ a10_ a11_ a12_ a13_ a14_ a15_ a16_ a17_ a18_ a19_ a20_ a21_ a22_ a23_ a24_ a25_ a26_ a27_ a28_ a29_ a30_ a31_ a32_ a33_ a34_
    have vA := vA_
    have HB := HB_
    clear vA_ HB_
    obtain ⟨a0_, a1_, a2_, a3_, a4_, a5_, a6_, a7_, a8_, a9_, a10_, a11_, a12_, a13_, a14_, a15_, a16_, a17_, a18_, a19_, a20_, a21_, a22_, a23_, a24_, a25_, a26_, a27_, a28_, a29_, a30_, a31_, a32_, a33_, a34_⟩ := vA.l35
    go_wp2_with (first | (go_at_call 27; refine Calls.mono (HOP.out _ HB.out) ?_; rintro e w' ⟨rfl, b_⟩; have vA_ := vA.step b_; have HB_ : Hid _ := HB.out.trans (b_.mono HB.out.size); clear vA HB b_ a0_ a1_ a2_ a3_ a4_ a5_ a6_ a7_ a8_ a9_ a10_ a11_ a12_ a13_ a14_ a15_ a16_ a17_ a18_ a19_ a20_ a21_ a22_ a23_ a24_ a25_ a26_ a27_ a28_ a29_ a30_ a31_ a32_ a33_ a34_; have vA := vA_; have HB := HB_; clear vA_ HB_; obtain ⟨a0_, a1_, a2_, a3_, a4_, a5_, a6_, a7_, a8_, a9_, a10_, a11_, a12_, a13_, a14_, a15_, a16_, a17_, a18_, a19_, a20_, a21_, a22_, a23_, a24_, a25_, a26_, a27_, a28_, a29_, a30_, a31_, a32_, a33_, a34_⟩ := vA.l35) | (go_at_call 28; refine Calls.mono (HZO.out _ HB.out) ?_; rintro e w' ⟨rfl, b_⟩; have vA_ := vA.step b_; have HB_ : Hid _ := HB.out.trans (b_.mono HB.out.size); clear vA HB b_ a0_ a1_ a2_ a3_ a4_ a5_ a6_ a7_ a8_ a9_ a10_ a11_ a12_ a13_ a14_ a15_ a16_ a17_ a18_ a19_ a20_ a21_ a22_ a23_ a24_ a25_ a26_ a27_ a28_ a29_ a30_ a31_ a32_ a33_ a34_; have vA := vA_; have HB := HB_; clear vA_ HB_; obtain ⟨a0_, a1_, a2_, a3_, a4_, a5_, a6_, a7_, a8_, a9_, a10_, a11_, a12_, a13_, a14_, a15_, a16_, a17_, a18_, a19_, a20_, a21_, a22_, a23_, a24_, a25_, a26_, a27_, a28_, a29_, a30_, a31_, a32_, a33_, a34_⟩ := vA.l35) | (go_at_call 29; refine Calls.mono (HRP.out _ HB.out) ?_; rintro e w' ⟨rfl, b_⟩; have vA_ := vA.step b_; have HB_ : Hid _ := HB.out.trans (b_.mono HB.out.size); clear vA HB b_ a0_ a1_ a2_ a3_ a4_ a5_ a6_ a7_ a8_ a9_ a10_ a11_ a12_ a13_ a14_ a15_ a16_ a17_ a18_ a19_ a20_ a21_ a22_ a23_ a24_ a25_ a26_ a27_ a28_ a29_ a30_ a31_ a32_ a33_ a34_; have vA := vA_; have HB := HB_; clear vA_ HB_; obtain ⟨a0_, a1_, a2_, a3_, a4_, a5_, a6_, a7_, a8_, a9_, a10_, a11_, a12_, a13_, a14_, a15_, a16_, a17_, a18_, a19_, a20_, a21_, a22_, a23_, a24_, a25_, a26_, a27_, a28_, a29_, a30_, a31_, a32_, a33_, a34_⟩ := vA.l35) | (go_at_call 30; refine Calls.mono (HZR.out _ HB.out) ?_; rintro e w' ⟨rfl, b_⟩; have vA_ := vA.step b_; have HB_ : Hid _ := HB.out.trans (b_.mono HB.out.size); clear vA HB b_ a0_ a1_ a2_ a3_ a4_ a5_ a6_ a7_ a8_ a9_ a10_ a11_ a12_ a13_ a14_ a15_ a16_ a17_ a18_ a19_ a20_ a21_ a22_ a23_ a24_ a25_ a26_ a27_ a28_ a29_ a30_ a31_ a32_ a33_ a34_; have vA := vA_; have HB := HB_; clear vA_ HB_; obtain ⟨a0_, a1_, a2_, a3_, a4_, a5_, a6_, a7_, a8_, a9_, a10_, a11_, a12_, a13_, a14_, a15_, a16_, a17_, a18_, a19_, a20_, a21_, a22_, a23_, a24_, a25_, a26_, a27_, a28_, a29_, a30_, a31_, a32_, a33_, a34_⟩ := vA.l35) | (go_at_call 31; refine Calls.mono (HTX.out _) ?_; rintro e w' ⟨rfl, b_⟩; have vA_ := vA.step b_; have HB_ : Hid _ := HB.out.trans (b_.mono HB.out.size); clear vA HB b_ a0_ a1_ a2_ a3_ a4_ a5_ a6_ a7_ a8_ a9_ a10_ a11_ a12_ a13_ a14_ a15_ a16_ a17_ a18_ a19_ a20_ a21_ a22_ a23_ a24_ a25_ a26_ a27_ a28_ a29_ a30_ a31_ a32_ a33_ a34_; have vA := vA_; have HB := HB_; clear vA_ HB_; obtain ⟨a0_, a1_, a2_, a3_, a4_, a5_, a6_, a7_, a8_, a9_, a10_, a11_, a12_, a13_, a14_, a15_, a16_, a17_, a18_, a19_, a20_, a21_, a22_, a23_, a24_, a25_, a26_, a27_, a28_, a29_, a30_, a31_, a32_, a33_, a34_⟩ := vA.l35) | (go_at_call 32; refine Calls.mono (HPT.out _ HB.out) ?_; rintro e w' ⟨rfl, b_⟩; have vA_ := vA.step b_; have HB_ : Hid _ := HB.out.trans (b_.mono HB.out.size); clear vA HB b_ a0_ a1_ a2_ a3_ a4_ a5_ a6_ a7_ a8_ a9_ a10_ a11_ a12_ a13_ a14_ a15_ a16_ a17_ a18_ a19_ a20_ a21_ a22_ a23_ a24_ a25_ a26_ a27_ a28_ a29_ a30_ a31_ a32_ a33_ a34_; have vA := vA_; have HB := HB_; clear vA_ HB_; obtain ⟨a0_, a1_, a2_, a3_, a4_, a5_, a6_, a7_, a8_, a9_, a10_, a11_, a12_, a13_, a14_, a15_, a16_, a17_, a18_, a19_, a20_, a21_, a22_, a23_, a24_, a25_, a26_, a27_, a28_, a29_, a30_, a31_, a32_, a33_, a34_⟩ := vA.l35) | (go_at_call 33; refine Calls.mono (HZP.out _ HB.out) ?_; rintro e w' ⟨rfl, b_⟩; have vA_ := vA.step b_; have HB_ : Hid _ := HB.out.trans (b_.mono HB.out.size); clear vA HB b_ a0_ a1_ a2_ a3_ a4_ a5_ a6_ a7_ a8_ a9_ a10_ a11_ a12_ a13_ a14_ a15_ a16_ a17_ a18_ a19_ a20_ a21_ a22_ a23_ a24_ a25_ a26_ a27_ a28_ a29_ a30_ a31_ a32_ a33_ a34_; have vA := vA_; have HB := HB_; clear vA_ HB_; obtain ⟨a0_, a1_, a2_, a3_, a4_, a5_, a6_, a7_, a8_, a9_, a10_, a11_, a12_, a13_, a14_, a15_, a16_, a17_, a18_, a19_, a20_, a21_, a22_, a23_, a24_, a25_, a26_, a27_, a28_, a29_, a30_, a31_, a32_, a33_, a34_⟩ := vA.l35) | (go_at_call 34; refine Calls.mono (HHO.out _) ?_; rintro e w' ⟨rfl, b_⟩; have vA_ := vA.step b_; have HB_ : Hid _ := HB.out.trans (b_.mono HB.out.size); clear vA HB b_ a0_ a1_ a2_ a3_ a4_ a5_ a6_ a7_ a8_ a9_ a10_ a11_ a12_ a13_ a14_ a15_ a16_ a17_ a18_ a19_ a20_ a21_ a22_ a23_ a24_ a25_ a26_ a27_ a28_ a29_ a30_ a31_ a32_ a33_ a34_; have vA := vA_; have HB := HB_; clear vA_ HB_; obtain ⟨a0_, a1_, a2_, a3_, a4_, a5_, a6_, a7_, a8_, a9_, a10_, a11_, a12_, a13_, a14_, a15_, a16_, a17_, a18_, a19_, a20_, a21_, a22_, a23_, a24_, a25_, a26_, a27_, a28_, a29_, a30_, a31_, a32_, a33_, a34_⟩ := vA.l35))
    all_goals (clear HOP HZO HRP HZR HTX HPT HZP HHO HNU HEN; go_ret; refine ⟨?_, HB.out⟩; rw [← HRES.out]; clear HRES; first | rfl | (simp_all; done) | (simp_all; omega) | (simp_all; rw [Bool.eq_iff_iff]; simp; done))
end Go.Proofs.YtbnjhjgjmckedaaGreat
end
