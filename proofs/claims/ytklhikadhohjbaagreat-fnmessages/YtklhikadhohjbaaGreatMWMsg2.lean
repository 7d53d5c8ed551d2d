/- The program compares two messages of one head. Condition: what the comparisons of their parts answer. -/
import Derived.Test.YtklhikadhohjbaaGreatMWSame
import Derived.Test.YtklhikadhohjbaaGreatMA04
namespace Go.Proofs.YtklhikadhohjbaaGreat
open Go.RowKit
set_option linter.unusedVariables false
set_option linter.unusedSimpArgs false
set_option maxRecDepth 100000

theorem eqT_run (p q d s i e : Int) (w : World) : (binOp .eql 31 (.agg #[.i p, .i q, .i d]) (.agg #[.i s, .i i, .i e])).run Tryz.prog w = .ok (.bool (decide (p = s ∧ q = i ∧ d = e))) w := by
  by_cases h1 : p = s
  · subst h1
    by_cases h2 : q = i
    · subst h2
      by_cases h3 : d = e
      · subst h3
        simp [go_sem]
      · have g : (d == e) = false := by simpa using h3
        simp [go_sem, g, h3]
    · have g : (q == i) = false := by simpa using h2
      simp [go_sem, g, h2]
  · have g : (p == s) = false := by simpa using h1
    simp [go_sem, g, h1]
set_option maxHeartbeats 8000000 in
theorem sameMsg_any (kd fr to rq rq2 cd cd2 : Int) (o oz : OpD) (r rz : RpD) (t tz : TxD) (p pz : PtD) (h hz : Hd) (a1 a2 a3 a4 : Option Addr) (n1 n2 n3 n4 c1 c2 c3 c4 : Nat) (a1z a2z a3z a4z : Option Addr) (n1z n2z n3z n4z c1z c2z c3z c4z : Nat) (bo br bp : Bool) (w : World)
    (H1 : ∀ W, Below w.heap.size w W → Calls Tryz.prog 148 #[opV o (.slice a1 n1 c1) (.slice a2 n2 c2), opV oz (.slice a1z n1z c1z) (.slice a2z n2z c2z)] W fun e w' => e = .returned (.bool bo) ∧ Below W.heap.size W w')
    (H2 : ∀ W, Below w.heap.size w W → Calls Tryz.prog 149 #[rpV r (.slice a3 n3 c3), rpV rz (.slice a3z n3z c3z)] W fun e w' => e = .returned (.bool br) ∧ Below W.heap.size W w')
    (H3 : ∀ W, Below w.heap.size w W → Calls Tryz.prog 150 #[ptV p (.slice a4 n4 c4), ptV pz (.slice a4z n4z c4z)] W fun e w' => e = .returned (.bool bp) ∧ Below W.heap.size W w') :
    Calls Tryz.prog 65 #[msV ⟨kd, fr, to, rq, o, r, t, p, cd, h⟩ (.slice a1 n1 c1) (.slice a2 n2 c2) (.slice a3 n3 c3) (.slice a4 n4 c4), msV ⟨kd, fr, to, rq2, oz, rz, tz, pz, cd2, hz⟩ (.slice a1z n1z c1z) (.slice a2z n2z c2z) (.slice a3z n3z c3z) (.slice a4z n4z c4z)] w
      fun e w' => e = .returned (.bool (decide (rq = rq2) && (bo && (br && (decide (t = tz) && (bp && (decide (cd = cd2) && decide (h = hz)))))))) ∧ Below w.heap.size w w' := by
  obtain ⟨ok, ⟨op, oq, od⟩, nm, ⟨tp, tq, td⟩, asn, ov⟩ := o
  obtain ⟨rc, ⟨rhp, rhq, rhd⟩, rv, es⟩ := r
  obtain ⟨xs, xb, xn⟩ := t
  obtain ⟨pk, ⟨pp, pq, pd⟩, pas, ⟨sp, sq, sd⟩⟩ := p
  obtain ⟨hp, hq, hd⟩ := h
  obtain ⟨okz, ⟨opz, oqz, odz⟩, nmz, ⟨tpz, tqz, tdz⟩, asnz, ovz⟩ := oz
  obtain ⟨rcz, ⟨rhpz, rhqz, rhdz⟩, rvz, esz⟩ := rz
  obtain ⟨xsz, xbz, xnz⟩ := tz
  obtain ⟨pkz, ⟨ppz, pqz, pdz⟩, pasz, ⟨spz, sqz, sdz⟩⟩ := pz
  obtain ⟨hpz, hqz, hdz⟩ := hz
  try dsimp only at H1 H2 H3 ⊢
  have HC1 : Hid _ := H1
  have HC2 : Hid _ := H2
  have HC3 : Hid _ := H3
  clear H1 H2 H3
  have hT := fun W => eqT_run xs xb xn xsz xbz xnz W
  have hE := fun W => eqH_run hp hq hpz hqz hd hdz W
  obtain ⟨res, hres⟩ : ∃ res, (decide (rq = rq2) && (bo && (br && (decide ((xs, xb, xn) = (xsz, xbz, xnz)) && (bp && (decide (cd = cd2) && decide ((hp, hq, hd) = (hpz, hqz, hdz)))))))) = res := ⟨_, rfl⟩
  rw [hres]
  simp only [Prod.mk.injEq] at hres
  have HRES : Hid _ := hres
  clear hres
  generalize hbt : decide (xs = xsz ∧ xb = xbz ∧ xn = xnz) = bt at hT HRES
  generalize hbh : decide (hp = hpz ∧ hq = hqz ∧ hd = hdz) = bh at hE HRES
  clear hbt hbh
  by_cases hrq : rq = rq2
  case neg =>
    go_enter Tryz.func65, Tryz.ntmps65
    go_wp2_with fail
    (clear HC1 HC2 HC3 hT hE; go_ret; refine ⟨?_, Below.newH2 _ _⟩; (rw [← HRES.out]; clear HRES; first | rfl | (simp_all; done) | (simp_all; omega) | (simp_all; rw [Bool.eq_iff_iff]; simp; done)))
  subst hrq
  go_enter Tryz.func65, Tryz.ntmps65
  go_wp2_with fail
  all_goals first
    | (clear HC1 HC2 HC3 hT hE; go_ret; refine ⟨?_, Below.newH2 _ _⟩; (rw [← HRES.out]; clear HRES; first | rfl | (simp_all; done) | (simp_all; omega) | (simp_all; rw [Bool.eq_iff_iff]; simp; done)))
    | (refine Calls.mono (HC1.out _ (Below.newH2 _ _)) ?_; rintro e w2 ⟨rfl, b_⟩; have vA : VarA w2 w.heap.size 35 #[.i kd, .i fr, .i to, .i rq, .i ok, .i op, .i oq, .bool od, .slice a1 n1 c1, .i tp, .i tq, .bool td, .slice a2 n2 c2, .i ov, .i rc, .i rhp, .i rhq, .bool rhd, .i rv, .slice a3 n3 c3, .i xs, .i xb, .i xn, .i pk, .i pp, .i pq, .bool pd, .slice a4 n4 c4, .i sp, .i sq, .bool sd, .i cd, .i hp, .i hq, .bool hd] := VarA.step ((VarA.new w _ _).alloc _) b_; have vB : VarA w2 (w.heap.size + 1) 35 #[.i kd, .i fr, .i to, .i rq, .i okz, .i opz, .i oqz, .bool odz, .slice a1z n1z c1z, .i tpz, .i tqz, .bool tdz, .slice a2z n2z c2z, .i ovz, .i rcz, .i rhpz, .i rhqz, .bool rhdz, .i rvz, .slice a3z n3z c3z, .i xsz, .i xbz, .i xnz, .i pkz, .i ppz, .i pqz, .bool pdz, .slice a4z n4z c4z, .i spz, .i sqz, .bool sdz, .i cd2, .i hpz, .i hqz, .bool hdz] := (by have := VarA.step (VarA.new (w.alloc _) _ _) b_; simpa using this); have HB : Hid _ := (Below.newH2 (w := w) _ _).trans (b_.mono (by simp; omega)); clear b_; obtain ⟨a0_, a1_, a2_, a3_, a4_, a5_, a6_, a7_, a8_, a9_, a10_, a11_, a12_, a13_, a14_, a15_, a16_, a17_, a18_, a19_, a20_, a21_, a22_, a23_, a24_, a25_, a26_, a27_, a28_, a29_, a30_, a31_, a32_, a33_, a34_⟩ := vA.l35; obtain ⟨b0_, b1_, b2_, b3_, b4_, b5_, b6_, b7_, b8_, b9_, b10_, b11_, b12_, b13_, b14_, b15_, b16_, b17_, b18_, b19_, b20_, b21_, b22_, b23_, b24_, b25_, b26_, b27_, b28_, b29_, b30_, b31_, b32_, b33_, b34_⟩ := vB.l35; go_wp2_with fail
       all_goals first
        | (clear HC1 HC2 HC3 hT hE; go_ret; refine ⟨?_, HB.out⟩; (rw [← HRES.out]; clear HRES; first | rfl | (simp_all; done) | (simp_all; omega) | (simp_all; rw [Bool.eq_iff_iff]; simp; done)))
        | (refine Calls.mono (HC2.out _ HB.out) ?_; rintro e w3 ⟨rfl, b_⟩; have vA_ := vA.step b_; have vB_ := vB.step b_; have HB_ : Hid _ := HB.out.trans (b_.mono HB.out.size); clear vA vB HB b_ a0_ a1_ a2_ a3_ a4_ a5_ a6_ a7_ a8_ a9_ a10_ a11_ a12_ a13_ a14_ a15_ a16_ a17_ a18_ a19_ a20_ a21_ a22_ a23_ a24_ a25_ a26_ a27_ a28_ a29_ a30_ a31_ a32_ a33_ a34_ b0_ b1_ b2_ b3_ b4_ b5_ b6_ b7_ b8_ b9_ b10_ b11_ b12_ b13_ b14_ b15_ b16_ b17_ b18_ b19_ b20_ b21_ b22_ b23_ b24_ b25_ b26_ b27_ b28_ b29_ b30_ b31_ b32_ b33_ b34_; have vA := vA_; have vB := vB_; have HB := HB_; clear vA_ vB_ HB_; obtain ⟨a0_, a1_, a2_, a3_, a4_, a5_, a6_, a7_, a8_, a9_, a10_, a11_, a12_, a13_, a14_, a15_, a16_, a17_, a18_, a19_, a20_, a21_, a22_, a23_, a24_, a25_, a26_, a27_, a28_, a29_, a30_, a31_, a32_, a33_, a34_⟩ := vA.l35; obtain ⟨b0_, b1_, b2_, b3_, b4_, b5_, b6_, b7_, b8_, b9_, b10_, b11_, b12_, b13_, b14_, b15_, b16_, b17_, b18_, b19_, b20_, b21_, b22_, b23_, b24_, b25_, b26_, b27_, b28_, b29_, b30_, b31_, b32_, b33_, b34_⟩ := vB.l35; go_wp2_with fail
           all_goals first
            | (clear HC1 HC2 HC3 hT hE; go_ret; refine ⟨?_, HB.out⟩; (rw [← HRES.out]; clear HRES; first | rfl | (simp_all; done) | (simp_all; omega) | (simp_all; rw [Bool.eq_iff_iff]; simp; done)))
            | (refine Calls.mono (HC3.out _ HB.out) ?_; rintro e w4 ⟨rfl, b_⟩; have vA_ := vA.step b_; have vB_ := vB.step b_; have HB_ : Hid _ := HB.out.trans (b_.mono HB.out.size); clear vA vB HB b_ a0_ a1_ a2_ a3_ a4_ a5_ a6_ a7_ a8_ a9_ a10_ a11_ a12_ a13_ a14_ a15_ a16_ a17_ a18_ a19_ a20_ a21_ a22_ a23_ a24_ a25_ a26_ a27_ a28_ a29_ a30_ a31_ a32_ a33_ a34_ b0_ b1_ b2_ b3_ b4_ b5_ b6_ b7_ b8_ b9_ b10_ b11_ b12_ b13_ b14_ b15_ b16_ b17_ b18_ b19_ b20_ b21_ b22_ b23_ b24_ b25_ b26_ b27_ b28_ b29_ b30_ b31_ b32_ b33_ b34_; have vA := vA_; have vB := vB_; have HB := HB_; clear vA_ vB_ HB_; obtain ⟨a0_, a1_, a2_, a3_, a4_, a5_, a6_, a7_, a8_, a9_, a10_, a11_, a12_, a13_, a14_, a15_, a16_, a17_, a18_, a19_, a20_, a21_, a22_, a23_, a24_, a25_, a26_, a27_, a28_, a29_, a30_, a31_, a32_, a33_, a34_⟩ := vA.l35; obtain ⟨b0_, b1_, b2_, b3_, b4_, b5_, b6_, b7_, b8_, b9_, b10_, b11_, b12_, b13_, b14_, b15_, b16_, b17_, b18_, b19_, b20_, b21_, b22_, b23_, b24_, b25_, b26_, b27_, b28_, b29_, b30_, b31_, b32_, b33_, b34_⟩ := vB.l35; go_wp2_with fail
               all_goals (clear HC1 HC2 HC3 hT hE; go_ret; refine ⟨?_, HB.out⟩; (rw [← HRES.out]; clear HRES; first | rfl | (simp_all; done) | (simp_all; omega) | (simp_all; rw [Bool.eq_iff_iff]; simp; done))))))
end Go.Proofs.YtklhikadhohjbaaGreat
