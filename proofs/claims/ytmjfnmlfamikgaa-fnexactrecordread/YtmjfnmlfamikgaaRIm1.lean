/- The program compares two records. Condition: what the comparisons of their parts answer. -/
import Derived.Test.YtmjfnmlfamikgaaRDat
import Derived.Test.YtmjfnmlfamikgaaWMsg3
import Derived.Test.YtmjfnmlfamikgaaVarL
namespace Go.Proofs.Ytmjfnmlfamikgaa
open Go.RowKit
set_option linter.unusedVariables false
set_option linter.unusedSimpArgs false
set_option maxRecDepth 100000

set_option maxHeartbeats 8000000 in
theorem sameRecord_any (kd to fr fr2 rq rq2 cd cd2 : Int) (o oz : OpD) (r rz : RpD) (t tz : TxD) (p pz : PtD) (h hz : Hd) (a1 a2 a3 a4 : Option Addr) (n1 n2 n3 n4 c1 c2 c3 c4 : Nat) (a1z a2z a3z a4z : Option Addr) (n1z n2z n3z n4z c1z c2z c3z c4z : Nat) (bo br bp : Bool) (w : World)
    (H1 : ∀ W, Below w.heap.size w W → Calls Try.prog 75 #[opV o (.slice a1 n1 c1) (.slice a2 n2 c2), opV oz (.slice a1z n1z c1z) (.slice a2z n2z c2z)] W fun e w' => e = .returned (.bool bo) ∧ Below W.heap.size W w')
    (H2 : ∀ W, Below w.heap.size w W → Calls Try.prog 76 #[rpV r (.slice a3 n3 c3), rpV rz (.slice a3z n3z c3z)] W fun e w' => e = .returned (.bool br) ∧ Below W.heap.size W w')
    (H3 : ∀ W, Below w.heap.size w W → Calls Try.prog 77 #[ptV p (.slice a4 n4 c4), ptV pz (.slice a4z n4z c4z)] W fun e w' => e = .returned (.bool bp) ∧ Below W.heap.size W w') :
    Calls Try.prog 39 #[rcV ⟨kd, fr, to, rq, o, r, t, p, cd, h⟩ (.slice a1 n1 c1) (.slice a2 n2 c2) (.slice a3 n3 c3) (.slice a4 n4 c4), rcV ⟨kd, fr2, to, rq2, oz, rz, tz, pz, cd2, hz⟩ (.slice a1z n1z c1z) (.slice a2z n2z c2z) (.slice a3z n3z c3z) (.slice a4z n4z c4z)] w
      fun e w' => e = .returned (.bool (decide (fr = fr2) && (decide (rq = rq2) && (bo && (decide (h = hz) && (br && (decide (t = tz) && (bp && decide (cd = cd2))))))))) ∧ Below w.heap.size w w' := by
  obtain ⟨ok, ⟨op, oq, od⟩, nm, ⟨tp, tq, td⟩, asn, ov⟩ := o
  obtain ⟨rc, ⟨rhp, rhq, rhd⟩, rv, es⟩ := r
  obtain ⟨xs, xb, xn⟩ := t
  obtain ⟨pk, ⟨pp, pq, pd⟩, pas, ⟨sp, sq, sd⟩⟩ := p
  obtain ⟨hp, hq, hd⟩ := h
  obtain ⟨okz, ⟨opz, oqz, odz⟩, nmz, ⟨tpz, tqz, tdz⟩, asnz, ovz⟩ := oz
  obtain ⟨rcz, ⟨rhpz, rhqz, rhdz⟩, rvz, esz⟩ := rz
  obtain ⟨xsz, xbz, xnz⟩ := tz
  obtain ⟨pkz, ⟨ppz, pqz, pdz⟩, pasz, ⟨spz, sqz, sdz⟩⟩ := pz
  obtain ⟨hpz, hqz, hdz⟩ := hz
  try dsimp only at H1 H2 H3 ⊢
  have HC1 : Hid _ := H1
  have HC2 : Hid _ := H2
  have HC3 : Hid _ := H3
  clear H1 H2 H3
  have hT := fun W => eqT_run xs xb xn xsz xbz xnz W
  have hE := fun W => eqH_run hp hq hpz hqz hd hdz W
  obtain ⟨res, hres⟩ : ∃ res, (decide (fr = fr2) && (decide (rq = rq2) && (bo && (decide ((hp, hq, hd) = (hpz, hqz, hdz)) && (br && (decide ((xs, xb, xn) = (xsz, xbz, xnz)) && (bp && decide (cd = cd2)))))))) = res := ⟨_, rfl⟩
  rw [hres]
  simp only [Prod.mk.injEq] at hres
  have HRES : Hid _ := hres
  clear hres
  generalize hbt : decide (xs = xsz ∧ xb = xbz ∧ xn = xnz) = bt at hT HRES
  generalize hbh : decide (hp = hpz ∧ hq = hqz ∧ hd = hdz) = bh at hE HRES
  clear hbt hbh
  by_cases hfr : fr = fr2
  case neg =>
    go_enter Try.func39, Try.ntmps39
    go_wp2_with fail
    (clear HC1 HC2 HC3 hT hE; go_ret; refine ⟨?_, Below.newH2 _ _⟩; (rw [← HRES.out]; clear HRES; first | rfl | (simp_all; done) | (simp_all; omega) | (simp_all; rw [Bool.eq_iff_iff]; simp; done)))
  subst hfr
  by_cases hrq : rq = rq2
  case neg =>
    go_enter Try.func39, Try.ntmps39
    go_wp2_with fail
    (clear HC1 HC2 HC3 hT hE; go_ret; refine ⟨?_, Below.newH2 _ _⟩; (rw [← HRES.out]; clear HRES; first | rfl | (simp_all; done) | (simp_all; omega) | (simp_all; rw [Bool.eq_iff_iff]; simp; done)))
  subst hrq
  go_enter Try.func39, Try.ntmps39
  go_wp2_with fail
  all_goals first
    | (clear HC1 HC2 HC3 hT hE; go_ret; refine ⟨?_, Below.newH2 _ _⟩; (rw [← HRES.out]; clear HRES; first | rfl | (simp_all; done) | (simp_all; omega) | (simp_all; rw [Bool.eq_iff_iff]; simp; done)))
    | (refine Calls.mono (HC1.out _ (Below.newH2 _ _)) ?_; rintro e w2 ⟨rfl, b_⟩; have vA : VarA w2 w.heap.size 48 #[.int .i64 kd, .int .i64 fr, .int .i64 rq, .int .i64 ok, .int .i64 op, .int .i64 oq, .bool od, .slice a1 n1 c1, .int .i64 tp, .int .i64 tq, .bool td, .slice a2 n2 c2, .int .i64 ov, .int .i64 hp, .int .i64 hq, .bool hd, .int .i64 rc, .int .i64 rhp, .int .i64 rhq, .bool rhd, .int .i64 rv, .slice a3 n3 c3, .int .i64 xs, .int .i64 xb, .int .i64 xn, .int .i64 pk, .int .i64 pp, .int .i64 pq, .bool pd, .slice a4 n4 c4, .int .i64 sp, .int .i64 sq, .bool sd, .int .i64 cd] := VarA.step ((VarA.new w _ _).alloc _) b_; have vB : VarA w2 (w.heap.size + 1) 48 #[.int .i64 kd, .int .i64 fr, .int .i64 rq, .int .i64 okz, .int .i64 opz, .int .i64 oqz, .bool odz, .slice a1z n1z c1z, .int .i64 tpz, .int .i64 tqz, .bool tdz, .slice a2z n2z c2z, .int .i64 ovz, .int .i64 hpz, .int .i64 hqz, .bool hdz, .int .i64 rcz, .int .i64 rhpz, .int .i64 rhqz, .bool rhdz, .int .i64 rvz, .slice a3z n3z c3z, .int .i64 xsz, .int .i64 xbz, .int .i64 xnz, .int .i64 pkz, .int .i64 ppz, .int .i64 pqz, .bool pdz, .slice a4z n4z c4z, .int .i64 spz, .int .i64 sqz, .bool sdz, .int .i64 cd2] := (by have := VarA.step (VarA.new (w.alloc _) _ _) b_; simpa using this); have HB : Hid _ := (Below.newH2 (w := w) _ _).trans (b_.mono (by simp; omega)); clear b_; obtain ⟨a0_, a1_, a2_, a3_, a4_, a5_, a6_, a7_, a8_, a9_, a10_, a11_, a12_, a13_, a14_, a15_, a16_, a17_, a18_, a19_, a20_, a21_, a22_, a23_, a24_, a25_, a26_, a27_, a28_, a29_, a30_, a31_, a32_, a33_⟩ := vA.l34; obtain ⟨b0_, b1_, b2_, b3_, b4_, b5_, b6_, b7_, b8_, b9_, b10_, b11_, b12_, b13_, b14_, b15_, b16_, b17_, b18_, b19_, b20_, b21_, b22_, b23_, b24_, b25_, b26_, b27_, b28_, b29_, b30_, b31_, b32_, b33_⟩ := vB.l34; go_wp2_with fail
       all_goals first
        | (clear HC1 HC2 HC3 hT hE; go_ret; refine ⟨?_, HB.out⟩; (rw [← HRES.out]; clear HRES; first | rfl | (simp_all; done) | (simp_all; omega) | (simp_all; rw [Bool.eq_iff_iff]; simp; done)))
        | (refine Calls.mono (HC2.out _ HB.out) ?_; rintro e w3 ⟨rfl, b_⟩; have vA_ := vA.step b_; have vB_ := vB.step b_; have HB_ : Hid _ := HB.out.trans (b_.mono HB.out.size); clear vA vB HB b_ a0_ a1_ a2_ a3_ a4_ a5_ a6_ a7_ a8_ a9_ a10_ a11_ a12_ a13_ a14_ a15_ a16_ a17_ a18_ a19_ a20_ a21_ a22_ a23_ a24_ a25_ a26_ a27_ a28_ a29_ a30_ a31_ a32_ a33_ b0_ b1_ b2_ b3_ b4_ b5_ b6_ b7_ b8_ b9_ b10_ b11_ b12_ b13_ b14_ b15_ b16_ b17_ b18_ b19_ b20_ b21_ b22_ b23_ b24_ b25_ b26_ b27_ b28_ b29_ b30_ b31_ b32_ b33_; have vA := vA_; have vB := vB_; have HB := HB_; clear vA_ vB_ HB_; obtain ⟨a0_, a1_, a2_, a3_, a4_, a5_, a6_, a7_, a8_, a9_, a10_, a11_, a12_, a13_, a14_, a15_, a16_, a17_, a18_, a19_, a20_, a21_, a22_, a23_, a24_, a25_, a26_, a27_, a28_, a29_, a30_, a31_, a32_, a33_⟩ := vA.l34; obtain ⟨b0_, b1_, b2_, b3_, b4_, b5_, b6_, b7_, b8_, b9_, b10_, b11_, b12_, b13_, b14_, b15_, b16_, b17_, b18_, b19_, b20_, b21_, b22_, b23_, b24_, b25_, b26_, b27_, b28_, b29_, b30_, b31_, b32_, b33_⟩ := vB.l34; go_wp2_with fail
           all_goals first
            | (clear HC1 HC2 HC3 hT hE; go_ret; refine ⟨?_, HB.out⟩; (rw [← HRES.out]; clear HRES; first | rfl | (simp_all; done) | (simp_all; omega) | (simp_all; rw [Bool.eq_iff_iff]; simp; done)))
            | (refine Calls.mono (HC3.out _ HB.out) ?_; rintro e w4 ⟨rfl, b_⟩; have vA_ := vA.step b_; have vB_ := vB.step b_; have HB_ : Hid _ := HB.out.trans (b_.mono HB.out.size); clear vA vB HB b_ a0_ a1_ a2_ a3_ a4_ a5_ a6_ a7_ a8_ a9_ a10_ a11_ a12_ a13_ a14_ a15_ a16_ a17_ a18_ a19_ a20_ a21_ a22_ a23_ a24_ a25_ a26_ a27_ a28_ a29_ a30_ a31_ a32_ a33_ b0_ b1_ b2_ b3_ b4_ b5_ b6_ b7_ b8_ b9_ b10_ b11_ b12_ b13_ b14_ b15_ b16_ b17_ b18_ b19_ b20_ b21_ b22_ b23_ b24_ b25_ b26_ b27_ b28_ b29_ b30_ b31_ b32_ b33_; have vA := vA_; have vB := vB_; have HB := HB_; clear vA_ vB_ HB_; obtain ⟨a0_, a1_, a2_, a3_, a4_, a5_, a6_, a7_, a8_, a9_, a10_, a11_, a12_, a13_, a14_, a15_, a16_, a17_, a18_, a19_, a20_, a21_, a22_, a23_, a24_, a25_, a26_, a27_, a28_, a29_, a30_, a31_, a32_, a33_⟩ := vA.l34; obtain ⟨b0_, b1_, b2_, b3_, b4_, b5_, b6_, b7_, b8_, b9_, b10_, b11_, b12_, b13_, b14_, b15_, b16_, b17_, b18_, b19_, b20_, b21_, b22_, b23_, b24_, b25_, b26_, b27_, b28_, b29_, b30_, b31_, b32_, b33_⟩ := vB.l34; go_wp2_with fail
               all_goals (clear HC1 HC2 HC3 hT hE; go_ret; refine ⟨?_, HB.out⟩; (rw [← HRES.out]; clear HRES; first | rfl | (simp_all; done) | (simp_all; omega) | (simp_all; rw [Bool.eq_iff_iff]; simp; done))))))
end Go.Proofs.Ytmjfnmlfamikgaa
