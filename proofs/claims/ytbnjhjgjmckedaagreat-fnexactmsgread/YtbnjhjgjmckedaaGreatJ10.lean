/- Joined: OpOks2 WOk3 WMsg0 Eqs. -/
import Derived.Test.YtbnjhjgjmckedaaGreatJ09
import Derived.Deep.RegionHeld3
import Derived.Test.YtbnjhjgjmckedaaGreatJ02
import Derived.Deep.QuietTactic
import Derived.BigQuiet

section
/- What the program's look at an operation answers. Condition: texts of at most 2^21 bytes. -/
namespace Go.Proofs.YtbnjhjgjmckedaaGreat
open Go.RowKit
set_option linter.unusedVariables false
set_option linter.unusedSimpArgs false

theorem isShard_any (k : Int) (w : World) : Calls Tryz.prog 161 #[.int .i64 k] w fun e w' => e = .returned (.bool (decide (0 ≤ k) && decide (k < 4))) ∧ w' = w := by
  go_enter Tryz.func161, Tryz.ntmps161
  go_wp2
  all_goals (go_ret; exact ⟨by first | rfl | (simp_all <;> omega), rfl⟩)
theorem isNumber_any (k : Int) (w : World) : Calls Tryz.prog 154 #[.int .i64 k] w fun e w' => e = .returned (.bool (decide (0 ≤ k) && decide (k ≤ 2147483647))) ∧ w' = w := by
  go_enter Tryz.func154, Tryz.ntmps154
  go_wp2
  all_goals (go_ret; exact ⟨by first | rfl | (simp_all <;> omega), rfl⟩)
set_option maxHeartbeats 2000000 in
theorem implNameOk_any (x y : Value) (o : OpD) (S : Nat → Prop) (w : World) (r : RdV w S x (.bytes o.nm)) (r2 : RdV w S y (.bytes o.asn)) (hl : o.nm.length ≤ 2097152) (hl2 : o.asn.length ≤ 2097152) :
    Calls Tryz.prog 157 #[opV o x y] w fun e w' => e = .returned (.bool (nmB o)) ∧ Below w.heap.size w w' := by
  obtain ⟨a, cap, rfl⟩ := r.sliceB
  obtain ⟨a2, cap2, rfl⟩ := r2.sliceB
  obtain ⟨kd, ⟨p, q, d⟩, nm, ⟨p2, q2, d2⟩, asn, vl⟩ := o
  dsimp only at r r2 hl hl2 ⊢
  obtain ⟨res, hres⟩ : ∃ res, nmB ⟨kd, (p, q, d), nm, (p2, q2, d2), asn, vl⟩ = res := ⟨_, rfl⟩
  rw [hres]
  simp only [nmB, nmP, toP, asP, hd0] at hres
  have HX : Hid (∀ W, Below w.heap.size w W → _) := fun W hW => implName_any _ nm S W (r.step hW) hl
  clear r r2
  generalize isNm nm = bn at HX hres
  generalize nm.length = n0 at *
  generalize asn.length = n1 at *
  have HRES : Hid _ := hres
  clear hres
  go_enter Tryz.func157, Tryz.ntmps157
  go_wp2_with (go_at_call 160; refine Calls.mono (HX.out _ (Below.newH _)) ?_; rintro e w2 ⟨rfl, rfl⟩)
  all_goals (go_ret; exact ⟨by rw [← HRES.out]; first | rfl | (simp_all [Hd.sh, Hd.ino, Hd.dir] <;> omega) | (simp_all [Hd.sh, Hd.ino, Hd.dir]; rw [Bool.eq_iff_iff]; simp) | (simp_all [Hd.sh, Hd.ino, Hd.dir]; rw [Bool.eq_iff_iff]; simp; omega), by first | exact Below.newH _ | exact Below.newH2 _ _⟩)
set_option maxHeartbeats 2000000 in
theorem implAsOk_any (x y : Value) (o : OpD) (S : Nat → Prop) (w : World) (r : RdV w S x (.bytes o.nm)) (r2 : RdV w S y (.bytes o.asn)) (hl : o.nm.length ≤ 2097152) (hl2 : o.asn.length ≤ 2097152) :
    Calls Tryz.prog 152 #[opV o x y] w fun e w' => e = .returned (.bool (asB o)) ∧ Below w.heap.size w w' := by
  obtain ⟨a, cap, rfl⟩ := r.sliceB
  obtain ⟨a2, cap2, rfl⟩ := r2.sliceB
  obtain ⟨kd, ⟨p, q, d⟩, nm, ⟨p2, q2, d2⟩, asn, vl⟩ := o
  dsimp only at r r2 hl hl2 ⊢
  obtain ⟨res, hres⟩ : ∃ res, asB ⟨kd, (p, q, d), nm, (p2, q2, d2), asn, vl⟩ = res := ⟨_, rfl⟩
  rw [hres]
  simp only [asB, nmP, toP, asP, hd0] at hres
  have HX : Hid (∀ W, Below w.heap.size w W → _) := fun W hW => implName_any _ asn S W (r2.step hW) hl2
  clear r r2
  generalize isNm asn = bn at HX hres
  generalize nm.length = n0 at *
  generalize asn.length = n1 at *
  have HRES : Hid _ := hres
  clear hres
  go_enter Tryz.func152, Tryz.ntmps152
  go_wp2_with (go_at_call 160; refine Calls.mono (HX.out _ (Below.newH _)) ?_; rintro e w2 ⟨rfl, rfl⟩)
  all_goals (go_ret; exact ⟨by rw [← HRES.out]; first | rfl | (simp_all [Hd.sh, Hd.ino, Hd.dir] <;> omega) | (simp_all [Hd.sh, Hd.ino, Hd.dir]; rw [Bool.eq_iff_iff]; simp) | (simp_all [Hd.sh, Hd.ino, Hd.dir]; rw [Bool.eq_iff_iff]; simp; omega), by first | exact Below.newH _ | exact Below.newH2 _ _⟩)
set_option maxHeartbeats 2000000 in
theorem implValOk_any (x y : Value) (o : OpD) (S : Nat → Prop) (w : World) (r : RdV w S x (.bytes o.nm)) (r2 : RdV w S y (.bytes o.asn)) (hl : o.nm.length ≤ 2097152) (hl2 : o.asn.length ≤ 2097152) :
    Calls Tryz.prog 159 #[opV o x y] w fun e w' => e = .returned (.bool (vlB o)) ∧ Below w.heap.size w w' := by
  obtain ⟨a, cap, rfl⟩ := r.sliceB
  obtain ⟨a2, cap2, rfl⟩ := r2.sliceB
  obtain ⟨kd, ⟨p, q, d⟩, nm, ⟨p2, q2, d2⟩, asn, vl⟩ := o
  dsimp only at r r2 hl hl2 ⊢
  obtain ⟨res, hres⟩ : ∃ res, vlB ⟨kd, (p, q, d), nm, (p2, q2, d2), asn, vl⟩ = res := ⟨_, rfl⟩
  rw [hres]
  simp only [vlB, nmP, toP, asP, hd0] at hres
  have HX : Hid (∀ W, _) := fun W => isNumber_any vl W
  clear r r2
  generalize nm.length = n0 at *
  generalize asn.length = n1 at *
  have HRES : Hid _ := hres
  clear hres
  go_enter Tryz.func159, Tryz.ntmps159
  go_wp2_with (go_at_call 154; refine Calls.mono (HX.out _) ?_; rintro e w2 ⟨rfl, rfl⟩)
  all_goals (go_ret; exact ⟨by rw [← HRES.out]; first | rfl | (simp_all [Hd.sh, Hd.ino, Hd.dir] <;> omega) | (simp_all [Hd.sh, Hd.ino, Hd.dir]; rw [Bool.eq_iff_iff]; simp) | (simp_all [Hd.sh, Hd.ino, Hd.dir]; rw [Bool.eq_iff_iff]; simp; omega), by first | exact Below.newH _ | exact Below.newH2 _ _⟩)
set_option maxHeartbeats 2000000 in
theorem implToOk_any (x y : Value) (o : OpD) (S : Nat → Prop) (w : World) (r : RdV w S x (.bytes o.nm)) (r2 : RdV w S y (.bytes o.asn)) (hl : o.nm.length ≤ 2097152) (hl2 : o.asn.length ≤ 2097152) :
    Calls Tryz.prog 158 #[opV o x y] w fun e w' => e = .returned (.bool (toB o)) ∧ Below w.heap.size w w' := by
  obtain ⟨a, cap, rfl⟩ := r.sliceB
  obtain ⟨a2, cap2, rfl⟩ := r2.sliceB
  obtain ⟨kd, ⟨p, q, d⟩, nm, ⟨p2, q2, d2⟩, asn, vl⟩ := o
  dsimp only at r r2 hl hl2 ⊢
  obtain ⟨res, hres⟩ : ∃ res, toB ⟨kd, (p, q, d), nm, (p2, q2, d2), asn, vl⟩ = res := ⟨_, rfl⟩
  rw [hres]
  simp only [toB, nmP, toP, asP, hd0] at hres
  have HX : Hid (∀ W, _) := fun W => implHandleOk_w (p2, q2, d2) W
  have HS : Hid (∀ W, _) := fun W => isShard_any p2 W
  clear r r2
  generalize HOk (p2, q2, d2) = bt at HX hres
  generalize nm.length = n0 at *
  generalize asn.length = n1 at *
  have HRES : Hid _ := hres
  clear hres
  go_enter Tryz.func158, Tryz.ntmps158
  go_wp2_with (first | (go_at_call 156; refine Calls.mono (HX.out _) ?_; rintro e w2 ⟨rfl, rfl⟩) | (go_at_call 161; refine Calls.mono (HS.out _) ?_; rintro e w2 ⟨rfl, rfl⟩))
  all_goals (go_ret; exact ⟨by rw [← HRES.out]; first | rfl | (simp_all [Hd.sh, Hd.ino, Hd.dir] <;> omega) | (simp_all [Hd.sh, Hd.ino, Hd.dir]; rw [Bool.eq_iff_iff]; simp) | (simp_all [Hd.sh, Hd.ino, Hd.dir]; rw [Bool.eq_iff_iff]; simp; omega), by first | exact Below.newH _ | exact Below.newH2 _ _⟩)
set_option maxHeartbeats 4000000 in
theorem implOpOk_any (x y : Value) (o : OpD) (S : Nat → Prop) (w : World) (r : RdV w S x (.bytes o.nm)) (r2 : RdV w S y (.bytes o.asn)) (hl : o.nm.length ≤ 2097152) (hl2 : o.asn.length ≤ 2097152) :
    Calls Tryz.prog 155 #[opV o x y] w fun e w' => e = .returned (.bool (OOk o)) ∧ Below w.heap.size w w' := by
  have HN : Hid (∀ W, Below w.heap.size w W → _) := fun W hW => implNameOk_any x y o S W (r.step hW) (r2.step hW) hl hl2
  have HT : Hid (∀ W, Below w.heap.size w W → _) := fun W hW => implToOk_any x y o S W (r.step hW) (r2.step hW) hl hl2
  have HA : Hid (∀ W, Below w.heap.size w W → _) := fun W hW => implAsOk_any x y o S W (r.step hW) (r2.step hW) hl hl2
  have HV : Hid (∀ W, Below w.heap.size w W → _) := fun W hW => implValOk_any x y o S W (r.step hW) (r2.step hW) hl hl2
  obtain ⟨a, cap, rfl⟩ := r.sliceB
  obtain ⟨a2, cap2, rfl⟩ := r2.sliceB
  obtain ⟨res, hres⟩ : ∃ res, OOk o = res := ⟨_, rfl⟩
  rw [hres]
  simp only [OOk] at hres
  generalize nmB o = bn at HN hres
  generalize toB o = bt at HT hres
  generalize asB o = ba at HA hres
  generalize vlB o = bv at HV hres
  obtain ⟨kd, ⟨p, q, d⟩, nm, ⟨p2, q2, d2⟩, asn, vl⟩ := o
  dsimp only at hres HN HT HA HV ⊢
  have HH : Hid (∀ W, _) := fun W => implHandleOk_any (p, q, d) W
  generalize HOk (p, q, d) = bd at HH hres
  generalize nm.length = n0 at *
  generalize asn.length = n1 at *
  have HRES : Hid _ := hres
  clear r r2 hl hl2 hres
  by_cases hk : 0 ≤ kd ∧ kd ≤ 7
  case neg =>
    go_enter Tryz.func155, Tryz.ntmps155
    go_wp2_with fail
    all_goals first | (go_ret; exact ⟨by rw [← HRES.out]; first | rfl | (simp; omega), Below.newH _⟩) | (exfalso; omega)
  obtain ⟨hk0, hk7⟩ := hk
  cases bd with
  | false =>
    go_enter Tryz.func155, Tryz.ntmps155
    go_wp2_with fail
    refine Calls.mono (HH.out _) ?_
    rintro e w2 ⟨rfl, b_⟩
    have vA : VarA w2 w.heap.size 26 #[.int .i64 kd, .int .i64 p, .int .i64 q, .bool d, .slice a n0 cap, .int .i64 p2, .int .i64 q2, .bool d2, .slice a2 n1 cap2, .int .i64 vl] := VarA.step (VarA.new w _ _) b_
    have HB : Hid _ := (Below.newH (w := w) _).trans (b_.mono (by simp))
    clear b_
    obtain ⟨a0_, a1_, a2_, a3_, a4_, a5_, a6_, a7_, a8_, a9_⟩ := vA.l10
    go_wp2
    go_ret
    exact ⟨by rw [← HRES.out]; simp [hk0, hk7], HB.out⟩
  | true =>
    cases bn with
    | false =>
      go_enter Tryz.func155, Tryz.ntmps155
      go_wp2_with fail
      refine Calls.mono (HH.out _) ?_
      rintro e w2 ⟨rfl, b_⟩
      have vA : VarA w2 w.heap.size 26 #[.int .i64 kd, .int .i64 p, .int .i64 q, .bool d, .slice a n0 cap, .int .i64 p2, .int .i64 q2, .bool d2, .slice a2 n1 cap2, .int .i64 vl] := VarA.step (VarA.new w _ _) b_
      have HB : Hid _ := (Below.newH (w := w) _).trans (b_.mono (by simp))
      clear b_
      obtain ⟨a0_, a1_, a2_, a3_, a4_, a5_, a6_, a7_, a8_, a9_⟩ := vA.l10
      go_wp2_with fail
      refine Calls.mono (HN.out _ HB.out) ?_
      rintro e w3 ⟨rfl, b_⟩
      have vA_ := vA.step b_
      have HB_ : Hid _ := HB.out.trans (b_.mono HB.out.size)
      clear vA HB b_ a0_ a1_ a2_ a3_ a4_ a5_ a6_ a7_ a8_ a9_
      have vA := vA_
      have HB := HB_
      clear vA_ HB_
      obtain ⟨a0_, a1_, a2_, a3_, a4_, a5_, a6_, a7_, a8_, a9_⟩ := vA.l10
      go_wp2
      go_ret
      exact ⟨by rw [← HRES.out]; simp [hk0, hk7], HB.out⟩
    | true =>
      cases bt with
      | false =>
        go_enter Tryz.func155, Tryz.ntmps155
        go_wp2_with fail
        refine Calls.mono (HH.out _) ?_
        rintro e w2 ⟨rfl, b_⟩
        have vA : VarA w2 w.heap.size 26 #[.int .i64 kd, .int .i64 p, .int .i64 q, .bool d, .slice a n0 cap, .int .i64 p2, .int .i64 q2, .bool d2, .slice a2 n1 cap2, .int .i64 vl] := VarA.step (VarA.new w _ _) b_
        have HB : Hid _ := (Below.newH (w := w) _).trans (b_.mono (by simp))
        clear b_
        obtain ⟨a0_, a1_, a2_, a3_, a4_, a5_, a6_, a7_, a8_, a9_⟩ := vA.l10
        go_wp2_with fail
        refine Calls.mono (HN.out _ HB.out) ?_
        rintro e w3 ⟨rfl, b_⟩
        have vA_ := vA.step b_
        have HB_ : Hid _ := HB.out.trans (b_.mono HB.out.size)
        clear vA HB b_ a0_ a1_ a2_ a3_ a4_ a5_ a6_ a7_ a8_ a9_
        have vA := vA_
        have HB := HB_
        clear vA_ HB_
        obtain ⟨a0_, a1_, a2_, a3_, a4_, a5_, a6_, a7_, a8_, a9_⟩ := vA.l10
        go_wp2_with fail
        refine Calls.mono (HT.out _ HB.out) ?_
        rintro e w4 ⟨rfl, b_⟩
        have vA_ := vA.step b_
        have HB_ : Hid _ := HB.out.trans (b_.mono HB.out.size)
        clear vA HB b_ a0_ a1_ a2_ a3_ a4_ a5_ a6_ a7_ a8_ a9_
        have vA := vA_
        have HB := HB_
        clear vA_ HB_
        obtain ⟨a0_, a1_, a2_, a3_, a4_, a5_, a6_, a7_, a8_, a9_⟩ := vA.l10
        go_wp2
        go_ret
        exact ⟨by rw [← HRES.out]; simp [hk0, hk7], HB.out⟩
      | true =>
        cases ba with
        | false =>
          go_enter Tryz.func155, Tryz.ntmps155
          go_wp2_with fail
          refine Calls.mono (HH.out _) ?_
          rintro e w2 ⟨rfl, b_⟩
          have vA : VarA w2 w.heap.size 26 #[.int .i64 kd, .int .i64 p, .int .i64 q, .bool d, .slice a n0 cap, .int .i64 p2, .int .i64 q2, .bool d2, .slice a2 n1 cap2, .int .i64 vl] := VarA.step (VarA.new w _ _) b_
          have HB : Hid _ := (Below.newH (w := w) _).trans (b_.mono (by simp))
          clear b_
          obtain ⟨a0_, a1_, a2_, a3_, a4_, a5_, a6_, a7_, a8_, a9_⟩ := vA.l10
          go_wp2_with fail
          refine Calls.mono (HN.out _ HB.out) ?_
          rintro e w3 ⟨rfl, b_⟩
          have vA_ := vA.step b_
          have HB_ : Hid _ := HB.out.trans (b_.mono HB.out.size)
          clear vA HB b_ a0_ a1_ a2_ a3_ a4_ a5_ a6_ a7_ a8_ a9_
          have vA := vA_
          have HB := HB_
          clear vA_ HB_
          obtain ⟨a0_, a1_, a2_, a3_, a4_, a5_, a6_, a7_, a8_, a9_⟩ := vA.l10
          go_wp2_with fail
          refine Calls.mono (HT.out _ HB.out) ?_
          rintro e w4 ⟨rfl, b_⟩
          have vA_ := vA.step b_
          have HB_ : Hid _ := HB.out.trans (b_.mono HB.out.size)
          clear vA HB b_ a0_ a1_ a2_ a3_ a4_ a5_ a6_ a7_ a8_ a9_
          have vA := vA_
          have HB := HB_
          clear vA_ HB_
          obtain ⟨a0_, a1_, a2_, a3_, a4_, a5_, a6_, a7_, a8_, a9_⟩ := vA.l10
          go_wp2_with fail
          refine Calls.mono (HA.out _ HB.out) ?_
          rintro e w5 ⟨rfl, b_⟩
          have vA_ := vA.step b_
          have HB_ : Hid _ := HB.out.trans (b_.mono HB.out.size)
          clear vA HB b_ a0_ a1_ a2_ a3_ a4_ a5_ a6_ a7_ a8_ a9_
          have vA := vA_
          have HB := HB_
          clear vA_ HB_
          obtain ⟨a0_, a1_, a2_, a3_, a4_, a5_, a6_, a7_, a8_, a9_⟩ := vA.l10
          go_wp2
          go_ret
          exact ⟨by rw [← HRES.out]; simp [hk0, hk7], HB.out⟩
        | true =>
          cases bv with
          | false =>
            go_enter Tryz.func155, Tryz.ntmps155
            go_wp2_with fail
            refine Calls.mono (HH.out _) ?_
            rintro e w2 ⟨rfl, b_⟩
            have vA : VarA w2 w.heap.size 26 #[.int .i64 kd, .int .i64 p, .int .i64 q, .bool d, .slice a n0 cap, .int .i64 p2, .int .i64 q2, .bool d2, .slice a2 n1 cap2, .int .i64 vl] := VarA.step (VarA.new w _ _) b_
            have HB : Hid _ := (Below.newH (w := w) _).trans (b_.mono (by simp))
            clear b_
            obtain ⟨a0_, a1_, a2_, a3_, a4_, a5_, a6_, a7_, a8_, a9_⟩ := vA.l10
            go_wp2_with fail
            refine Calls.mono (HN.out _ HB.out) ?_
            rintro e w3 ⟨rfl, b_⟩
            have vA_ := vA.step b_
            have HB_ : Hid _ := HB.out.trans (b_.mono HB.out.size)
            clear vA HB b_ a0_ a1_ a2_ a3_ a4_ a5_ a6_ a7_ a8_ a9_
            have vA := vA_
            have HB := HB_
            clear vA_ HB_
            obtain ⟨a0_, a1_, a2_, a3_, a4_, a5_, a6_, a7_, a8_, a9_⟩ := vA.l10
            go_wp2_with fail
            refine Calls.mono (HT.out _ HB.out) ?_
            rintro e w4 ⟨rfl, b_⟩
            have vA_ := vA.step b_
            have HB_ : Hid _ := HB.out.trans (b_.mono HB.out.size)
            clear vA HB b_ a0_ a1_ a2_ a3_ a4_ a5_ a6_ a7_ a8_ a9_
            have vA := vA_
            have HB := HB_
            clear vA_ HB_
            obtain ⟨a0_, a1_, a2_, a3_, a4_, a5_, a6_, a7_, a8_, a9_⟩ := vA.l10
            go_wp2_with fail
            refine Calls.mono (HA.out _ HB.out) ?_
            rintro e w5 ⟨rfl, b_⟩
            have vA_ := vA.step b_
            have HB_ : Hid _ := HB.out.trans (b_.mono HB.out.size)
            clear vA HB b_ a0_ a1_ a2_ a3_ a4_ a5_ a6_ a7_ a8_ a9_
            have vA := vA_
            have HB := HB_
            clear vA_ HB_
            obtain ⟨a0_, a1_, a2_, a3_, a4_, a5_, a6_, a7_, a8_, a9_⟩ := vA.l10
            go_wp2_with fail
            refine Calls.mono (HV.out _ HB.out) ?_
            rintro e w6 ⟨rfl, b_⟩
            have vA_ := vA.step b_
            have HB_ : Hid _ := HB.out.trans (b_.mono HB.out.size)
            clear vA HB b_ a0_ a1_ a2_ a3_ a4_ a5_ a6_ a7_ a8_ a9_
            have vA := vA_
            have HB := HB_
            clear vA_ HB_
            obtain ⟨a0_, a1_, a2_, a3_, a4_, a5_, a6_, a7_, a8_, a9_⟩ := vA.l10
            go_wp2
            go_ret
            exact ⟨by rw [← HRES.out]; simp [hk0, hk7], HB.out⟩
          | true =>
            go_enter Tryz.func155, Tryz.ntmps155
            go_wp2_with fail
            refine Calls.mono (HH.out _) ?_
            rintro e w2 ⟨rfl, b_⟩
            have vA : VarA w2 w.heap.size 26 #[.int .i64 kd, .int .i64 p, .int .i64 q, .bool d, .slice a n0 cap, .int .i64 p2, .int .i64 q2, .bool d2, .slice a2 n1 cap2, .int .i64 vl] := VarA.step (VarA.new w _ _) b_
            have HB : Hid _ := (Below.newH (w := w) _).trans (b_.mono (by simp))
            clear b_
            obtain ⟨a0_, a1_, a2_, a3_, a4_, a5_, a6_, a7_, a8_, a9_⟩ := vA.l10
            go_wp2_with fail
            refine Calls.mono (HN.out _ HB.out) ?_
            rintro e w3 ⟨rfl, b_⟩
            have vA_ := vA.step b_
            have HB_ : Hid _ := HB.out.trans (b_.mono HB.out.size)
            clear vA HB b_ a0_ a1_ a2_ a3_ a4_ a5_ a6_ a7_ a8_ a9_
            have vA := vA_
            have HB := HB_
            clear vA_ HB_
            obtain ⟨a0_, a1_, a2_, a3_, a4_, a5_, a6_, a7_, a8_, a9_⟩ := vA.l10
            go_wp2_with fail
            refine Calls.mono (HT.out _ HB.out) ?_
            rintro e w4 ⟨rfl, b_⟩
            have vA_ := vA.step b_
            have HB_ : Hid _ := HB.out.trans (b_.mono HB.out.size)
            clear vA HB b_ a0_ a1_ a2_ a3_ a4_ a5_ a6_ a7_ a8_ a9_
            have vA := vA_
            have HB := HB_
            clear vA_ HB_
            obtain ⟨a0_, a1_, a2_, a3_, a4_, a5_, a6_, a7_, a8_, a9_⟩ := vA.l10
            go_wp2_with fail
            refine Calls.mono (HA.out _ HB.out) ?_
            rintro e w5 ⟨rfl, b_⟩
            have vA_ := vA.step b_
            have HB_ : Hid _ := HB.out.trans (b_.mono HB.out.size)
            clear vA HB b_ a0_ a1_ a2_ a3_ a4_ a5_ a6_ a7_ a8_ a9_
            have vA := vA_
            have HB := HB_
            clear vA_ HB_
            obtain ⟨a0_, a1_, a2_, a3_, a4_, a5_, a6_, a7_, a8_, a9_⟩ := vA.l10
            go_wp2_with fail
            refine Calls.mono (HV.out _ HB.out) ?_
            rintro e w6 ⟨rfl, b_⟩
            have vA_ := vA.step b_
            have HB_ : Hid _ := HB.out.trans (b_.mono HB.out.size)
            clear vA HB b_ a0_ a1_ a2_ a3_ a4_ a5_ a6_ a7_ a8_ a9_
            have vA := vA_
            have HB := HB_
            clear vA_ HB_
            obtain ⟨a0_, a1_, a2_, a3_, a4_, a5_, a6_, a7_, a8_, a9_⟩ := vA.l10
            go_wp2
            go_ret
            exact ⟨by rw [← HRES.out]; simp [hk0, hk7], HB.out⟩
end Go.Proofs.YtbnjhjgjmckedaaGreat
end

section
/- May a reply be? By the specification and by the program. Condition: no more than 2^21 of all. -/
namespace Go.Proofs.YtbnjhjgjmckedaaGreat
open Go.RowKit
set_option linter.unusedVariables false
set_option linter.unusedSimpArgs false
set_option maxRecDepth 100000

theorem range_all_nextW (f : Nat → Bool) (k : Nat) (h : (List.range k).all f = true) (hk : f k = true) : (List.range (k + 1)).all f = true := by rw [List.range_succ, List.all_append, h]; simp [hk]
theorem range_all_falseW (f : Nat → Bool) (n k : Nat) (hk : k < n) (h : f k = false) : (List.range n).all f = false := by
  rw [Bool.eq_false_iff]; intro ha; rw [List.all_eq_true] at ha; have := ha k (by simpa using hk); rw [h] at this; cases this
def enOk (e : En) : Bool := isNm e.nm && HOk e.h
def enOkAt (l : List En) (i : Nat) : Bool := enOk (l[i]?.getD en0)
def noneOk (h : Hd) : Bool := decide (h = hd0) || HOk h
def ROk (r : RpD) : Bool := ((decide (0 ≤ r.code) && decide (r.code ≤ 11)) && (num r.val && (noneOk r.h && decide (r.list.length ≤ 12)))) && (List.range r.list.length).all (enOkAt r.list)
theorem specNum_w (n : Int) (w : World) : Calls Tryz.prog 26 #[.int .i64 n] w fun e w' => e = .returned (.bool (num n)) ∧ w' = w := by
  go_enter Tryz.func26, Tryz.ntmps26
  go_wp2
  all_goals (go_ret; exact ⟨by first | rfl | (simp_all [num]; done) | (simp_all [num]; omega), rfl⟩)
theorem implCode_w (n : Int) (w : World) : Calls Tryz.prog 164 #[.int .i64 n] w fun e w' => e = .returned (.bool (decide (0 ≤ n) && decide (n ≤ 11))) ∧ w' = w := by
  go_enter Tryz.func164, Tryz.ntmps164
  go_wp2
  all_goals (go_ret; exact ⟨by first | rfl | (simp_all; done) | (simp_all; omega), rfl⟩)
set_option maxHeartbeats 1000000 in
theorem implNone_any (h : Hd) (w : World) : Calls Tryz.prog 165 #[h.v] w fun e w' => e = .returned (.bool (noneOk h)) ∧ Below w.heap.size w w' := by
  obtain ⟨p, q, d⟩ := h
  have HH : Hid (∀ (p q : Int) (d : Bool) (W : World), Calls Tryz.prog 156 #[.agg #[.int .i64 p, .int .i64 q, .bool d]] W fun e w' => e = .returned (.bool (HOk (p, q, d))) ∧ w' = W.alloc (.cells #[.int .i64 p, .int .i64 q, .bool d] 24)) := fun p q d W => implHandleOk_w (p, q, d) W
  obtain ⟨res, hres⟩ : ∃ res, noneOk (p, q, d) = res := ⟨_, rfl⟩
  rw [hres]
  have HRES : Hid _ := hres
  clear hres
  go_enter Tryz.func165, Tryz.ntmps165
  go_wp2_with (go_at_call 156; refine Calls.mono (HH.out _ _ _ _) ?_; rintro e w' ⟨rfl, rfl⟩)
  all_goals (clear HH; go_ret; refine ⟨?_, by repeat (first | exact Below.refl _ _ | refine Below.al ?_ _ | refine below_drewN2 ?_ _)⟩; rw [← HRES.out]; clear HRES; first | rfl | (simp_all [noneOk, hd0, Hd.sh, Hd.ino, Hd.dir]; done) | (simp_all [noneOk, hd0, Hd.sh, Hd.ino, Hd.dir]; omega))
set_option maxHeartbeats 4000000 in
theorem specReplyOk_any (x : Value) (o : RpD) (S : Nat → Prop) (w : World) (r : RdV w S x (ensDt o.list)) (hl : szEns o.list ≤ 2097152) :
    Calls Tryz.prog 29 #[rpV o x] w fun e w' => e = .returned (.bool (ROk o)) ∧ Below w.heap.size w w' := by
  obtain ⟨a, cap, rfl, _⟩ := RdV.sliced r
  obtain ⟨rc, ⟨p, q, d⟩, rv, es⟩ := o
  dsimp only at r hl ⊢
  have HR2 : Hid (∀ W, Below w.heap.size w W → RdV W S (.slice a es.length cap) (.rows 132 4 es.length (fun i j => enCell (es[i]?.getD en0) j))) := RdV.old r
  have hmm : es.length ≤ 2097152 := by unfold szEns at hl; omega
  have HL : Hid _ := hl
  have HH : Hid (∀ (p q : Int) (d : Bool) (W : World), Calls Tryz.prog 34 #[.agg #[.int .i64 p, .int .i64 q, .bool d]] W fun e w' => e = .returned (.bool (HOk (p, q, d))) ∧ w' = W.alloc (.cells #[.int .i64 p, .int .i64 q, .bool d] 24)) := fun p q d W => specHandleOk_w (p, q, d) W
  have HU : Hid (∀ (n : Int) (W : World), Calls Tryz.prog 26 #[.int .i64 n] W fun e w' => e = .returned (.bool (num n)) ∧ w' = W) := fun n W => specNum_w n W
  obtain ⟨m, hm⟩ : ∃ m, es.length = m := ⟨_, rfl⟩
  obtain ⟨res, hres⟩ : ∃ res, ROk ⟨rc, (p, q, d), rv, es⟩ = res := ⟨_, rfl⟩
  rw [hres]
  simp only [ROk] at hres
  rw [hm] at HR2 hmm hres ⊢
  have HRES : Hid _ := hres
  clear r hl hm hres
  by_cases hA : (0 ≤ rc ∧ rc ≤ 11) ∧ (num rv = true ∧ noneOk (p, q, d) = true ∧ m ≤ 12)
  case neg =>
    have HF : Hid (res = false) := by
      rw [← HRES.out]
      show _ = _
      rw [Bool.eq_false_iff]
      intro h
      rw [Bool.and_eq_true] at h
      have h1 := h.1
      simp only [Bool.and_eq_true, decide_eq_true_eq] at h1
      exact hA h1
    rw [HF.out]
    clear HR2 HRES HF HL
    go_enter Tryz.func29, Tryz.ntmps29
    go_wp2_with (first | (go_at_call 26; refine Calls.mono (HU.out _ _) ?_; rintro e w' ⟨rfl, rfl⟩) | (go_at_call 34; refine Calls.mono (HH.out _ _ _ _) ?_; rintro e w' ⟨rfl, rfl⟩))
    all_goals first | (go_ret; exact ⟨rfl, by repeat (first | exact Below.refl _ _ | refine Below.al ?_ _ | refine below_drewN2 ?_ _)⟩) | (exfalso; apply hA; simp_all [noneOk, hd0, Hd.sh, Hd.ino, Hd.dir]; done) | (exfalso; apply hA; simp_all [noneOk, hd0, Hd.sh, Hd.ino, Hd.dir]; omega)
  obtain ⟨⟨h1, h2⟩, h3, h4, h5⟩ := hA
  have HRES2 : Hid ((List.range m).all (enOkAt es) = res) := by
    rw [← HRES.out]; show _ = _; simp [h1, h2, h3, h4, h5]
  rw [← HRES2.out]
  clear HRES HRES2 res
  by_cases hz : (p, q, d) = hd0
  · simp only [hd0, Prod.mk.injEq] at hz
    obtain ⟨rfl, rfl, rfl⟩ := hz
    clear h4
    go_enter Tryz.func29, Tryz.ntmps29
    go_wp2_with (first | (go_at_call 26; refine Calls.mono (HU.out _ _) ?_; rintro e w' ⟨rfl, rfl⟩) | (go_at_call 34; refine Calls.mono (HH.out _ _ _ _) ?_; rintro e w' ⟨rfl, rfl⟩))
    go_loopw [3] (fun i wr => ∃ k : Nat, k ≤ m ∧ i = .int .i64 k ∧ Below w.heap.size w wr ∧ VarA wr w.heap.size 29 #[.int .i64 rc, .int .i64 0, .int .i64 0, .bool false, .int .i64 rv, .slice a m cap] ∧ Hid ((List.range k).all (enOkAt es) = true)) (fun i _ => m - (intOf i).toNat)
    case atStart => exact ⟨0, Nat.zero_le _, rfl, (by repeat (first | exact Below.refl _ _ | refine Below.al ?_ _ | refine below_drewN2 ?_ _)), VarA.new w _ _, by show _ = _; simp⟩
    case round =>
      obtain ⟨k, hk, rfl, hbel, vA, HA⟩ := hrel
      obtain ⟨a0_, a1_, a2_, a3_, a4_, a5_⟩ := vA.l6
      have hvl_ := vA.lt
      by_cases hlt : k < m
      case neg =>
        have he : k = m := by omega
        subst he
        go_wp2
        go_ret
        exact ⟨by rw [HA.out]; rfl, hbel⟩
      obtain ⟨b, off, rfl, hbl, _, hx⟩ := RdV.at (HR2.out wr hbel) hlt
      obtain ⟨e, he⟩ : ∃ e, es[k]?.getD en0 = e := ⟨_, rfl⟩
      obtain ⟨x0, c0, r0⟩ := hx 0 (by omega)
      obtain ⟨x1, c1, r1⟩ := hx 1 (by omega)
      obtain ⟨x2, c2, r2⟩ := hx 2 (by omega)
      obtain ⟨x3, c3, r3⟩ := hx 3 (by omega)
      rw [he] at r0 r1 r2 r3
      have HZ : Hid (e.nm.length ≤ 2097152) := by have h1 := szEns_at es k; rw [he] at h1; have h2 := HL.out; show _ ≤ _; omega
      have HAT : Hid (enOkAt es k = (isNm e.nm && HOk e.h)) := by show _ = _; unfold enOkAt enOk; rw [he]
      clear hx he
      obtain ⟨nm, ⟨s, ino, dd⟩⟩ := e
      obtain rfl : x1 = .int .i64 s := r1
      obtain rfl : x2 = .int .i64 ino := r2
      obtain rfl : x3 = .bool dd := r3
      simp only [Nat.add_zero] at c0
      dsimp only at HAT
      have RB : Hid (RdV wr S x0 (.bytes nm)) := r0
      clear r0
      have HNM : Hid (∀ W, Below wr.heap.size wr W → _) := fun W hW => specName_any x0 nm S W (RdV.step RB.out hW) HZ.out
      have HHO : Hid (∀ W, _) := fun W => specHandleOk_w (s, ino, dd) W
      obtain ⟨xa, xc, rfl⟩ := RdV.sliceB RB.out
      clear RB HZ
      generalize nm.length = xn at *
      generalize isNm nm = bn at HNM HAT
      generalize HOk (s, ino, dd) = bh at HHO HAT
      cases bn with
      | false =>
        have HF : Hid ((List.range m).all (enOkAt es) = false) := range_all_falseW _ _ k hlt (by rw [HAT.out]; rfl)
        go_wp2_with (first | (go_at_call 81; refine Calls.mono (HNM.out _ (by repeat (first | exact Below.refl _ _ | refine Below.al ?_ _ | refine below_drewN2 ?_ _))) ?_; rintro e w' ⟨rfl, rfl⟩) | (go_at_call 34; refine Calls.mono (HHO.out _) ?_; rintro e w' ⟨rfl, rfl⟩))
        go_ret
        exact ⟨by rw [HF.out]; rfl, hbel.trans (Below.mono (by repeat (first | exact Below.refl _ _ | refine Below.al ?_ _ | refine below_drewN2 ?_ _)) hbel.size)⟩
      | true =>
      cases bh with
      | false =>
        have HF : Hid ((List.range m).all (enOkAt es) = false) := range_all_falseW _ _ k hlt (by rw [HAT.out]; rfl)
        go_wp2_with (first | (go_at_call 81; refine Calls.mono (HNM.out _ (by repeat (first | exact Below.refl _ _ | refine Below.al ?_ _ | refine below_drewN2 ?_ _))) ?_; rintro e w' ⟨rfl, rfl⟩) | (go_at_call 34; refine Calls.mono (HHO.out _) ?_; rintro e w' ⟨rfl, rfl⟩))
        go_ret
        exact ⟨by rw [HF.out]; rfl, hbel.trans (Below.mono (by repeat (first | exact Below.refl _ _ | refine Below.al ?_ _ | refine below_drewN2 ?_ _)) hbel.size)⟩
      | true =>
        have HF : Hid ((List.range (k + 1)).all (enOkAt es) = true) := range_all_nextW _ _ HA.out (by rw [HAT.out]; rfl)
        go_wp2_with (first | (go_at_call 81; refine Calls.mono (HNM.out _ (by repeat (first | exact Below.refl _ _ | refine Below.al ?_ _ | refine below_drewN2 ?_ _))) ?_; rintro e w' ⟨rfl, rfl⟩) | (go_at_call 34; refine Calls.mono (HHO.out _) ?_; rintro e w' ⟨rfl, rfl⟩))
        go_roundw
        case rel => exact ⟨k + 1, by omega, by go_num, hbel.trans (Below.mono (by repeat (first | exact Below.refl _ _ | refine Below.al ?_ _ | refine below_drewN2 ?_ _)) hbel.size), vA.step (by repeat (first | exact Below.refl _ _ | refine Below.al ?_ _ | refine below_drewN2 ?_ _)), HF⟩
        case measure => simp [intOf]; omega
  · have h6 : HOk (p, q, d) = true := by simpa [noneOk, hz] using h4
    have hz2 : ¬ (p = 0 ∧ q = 0 ∧ d = false) := by simpa [hd0] using hz
    clear h4 hz
    have hE := fun W => neH_run p q 0 0 d false W
    rw [decide_eq_false hz2] at hE
    go_enter Tryz.func29, Tryz.ntmps29
    go_wp2_with (first | (go_at_call 26; refine Calls.mono (HU.out _ _) ?_; rintro e w' ⟨rfl, rfl⟩) | (go_at_call 34; refine Calls.mono (HH.out _ _ _ _) ?_; rintro e w' ⟨rfl, rfl⟩))
    all_goals first | (exfalso; apply hz2; simp_all; done) | skip
    go_loopw [3] (fun i wr => ∃ k : Nat, k ≤ m ∧ i = .int .i64 k ∧ Below w.heap.size w wr ∧ VarA wr w.heap.size 29 #[.int .i64 rc, .int .i64 p, .int .i64 q, .bool d, .int .i64 rv, .slice a m cap] ∧ Hid ((List.range k).all (enOkAt es) = true)) (fun i _ => m - (intOf i).toNat)
    case atStart => exact ⟨0, Nat.zero_le _, rfl, (by repeat (first | exact Below.refl _ _ | refine Below.al ?_ _ | refine below_drewN2 ?_ _)), (VarA.new w _ _).alloc _, by show _ = _; simp⟩
    case round =>
      obtain ⟨k, hk, rfl, hbel, vA, HA⟩ := hrel
      obtain ⟨a0_, a1_, a2_, a3_, a4_, a5_⟩ := vA.l6
      have hvl_ := vA.lt
      by_cases hlt : k < m
      case neg =>
        have he : k = m := by omega
        subst he
        go_wp2
        go_ret
        exact ⟨by rw [HA.out]; rfl, hbel⟩
      obtain ⟨b, off, rfl, hbl, _, hx⟩ := RdV.at (HR2.out wr hbel) hlt
      obtain ⟨e, he⟩ : ∃ e, es[k]?.getD en0 = e := ⟨_, rfl⟩
      obtain ⟨x0, c0, r0⟩ := hx 0 (by omega)
      obtain ⟨x1, c1, r1⟩ := hx 1 (by omega)
      obtain ⟨x2, c2, r2⟩ := hx 2 (by omega)
      obtain ⟨x3, c3, r3⟩ := hx 3 (by omega)
      rw [he] at r0 r1 r2 r3
      have HZ : Hid (e.nm.length ≤ 2097152) := by have h1 := szEns_at es k; rw [he] at h1; have h2 := HL.out; show _ ≤ _; omega
      have HAT : Hid (enOkAt es k = (isNm e.nm && HOk e.h)) := by show _ = _; unfold enOkAt enOk; rw [he]
      clear hx he
      obtain ⟨nm, ⟨s, ino, dd⟩⟩ := e
      obtain rfl : x1 = .int .i64 s := r1
      obtain rfl : x2 = .int .i64 ino := r2
      obtain rfl : x3 = .bool dd := r3
      simp only [Nat.add_zero] at c0
      dsimp only at HAT
      have RB : Hid (RdV wr S x0 (.bytes nm)) := r0
      clear r0
      have HNM : Hid (∀ W, Below wr.heap.size wr W → _) := fun W hW => specName_any x0 nm S W (RdV.step RB.out hW) HZ.out
      have HHO : Hid (∀ W, _) := fun W => specHandleOk_w (s, ino, dd) W
      obtain ⟨xa, xc, rfl⟩ := RdV.sliceB RB.out
      clear RB HZ
      generalize nm.length = xn at *
      generalize isNm nm = bn at HNM HAT
      generalize HOk (s, ino, dd) = bh at HHO HAT
      cases bn with
      | false =>
        have HF : Hid ((List.range m).all (enOkAt es) = false) := range_all_falseW _ _ k hlt (by rw [HAT.out]; rfl)
        go_wp2_with (first | (go_at_call 81; refine Calls.mono (HNM.out _ (by repeat (first | exact Below.refl _ _ | refine Below.al ?_ _ | refine below_drewN2 ?_ _))) ?_; rintro e w' ⟨rfl, rfl⟩) | (go_at_call 34; refine Calls.mono (HHO.out _) ?_; rintro e w' ⟨rfl, rfl⟩))
        go_ret
        exact ⟨by rw [HF.out]; rfl, hbel.trans (Below.mono (by repeat (first | exact Below.refl _ _ | refine Below.al ?_ _ | refine below_drewN2 ?_ _)) hbel.size)⟩
      | true =>
      cases bh with
      | false =>
        have HF : Hid ((List.range m).all (enOkAt es) = false) := range_all_falseW _ _ k hlt (by rw [HAT.out]; rfl)
        go_wp2_with (first | (go_at_call 81; refine Calls.mono (HNM.out _ (by repeat (first | exact Below.refl _ _ | refine Below.al ?_ _ | refine below_drewN2 ?_ _))) ?_; rintro e w' ⟨rfl, rfl⟩) | (go_at_call 34; refine Calls.mono (HHO.out _) ?_; rintro e w' ⟨rfl, rfl⟩))
        go_ret
        exact ⟨by rw [HF.out]; rfl, hbel.trans (Below.mono (by repeat (first | exact Below.refl _ _ | refine Below.al ?_ _ | refine below_drewN2 ?_ _)) hbel.size)⟩
      | true =>
        have HF : Hid ((List.range (k + 1)).all (enOkAt es) = true) := range_all_nextW _ _ HA.out (by rw [HAT.out]; rfl)
        go_wp2_with (first | (go_at_call 81; refine Calls.mono (HNM.out _ (by repeat (first | exact Below.refl _ _ | refine Below.al ?_ _ | refine below_drewN2 ?_ _))) ?_; rintro e w' ⟨rfl, rfl⟩) | (go_at_call 34; refine Calls.mono (HHO.out _) ?_; rintro e w' ⟨rfl, rfl⟩))
        go_roundw
        case rel => exact ⟨k + 1, by omega, by go_num, hbel.trans (Below.mono (by repeat (first | exact Below.refl _ _ | refine Below.al ?_ _ | refine below_drewN2 ?_ _)) hbel.size), vA.step (by repeat (first | exact Below.refl _ _ | refine Below.al ?_ _ | refine below_drewN2 ?_ _)), HF⟩
        case measure => simp [intOf]; omega
set_option maxHeartbeats 4000000 in
theorem implReplyOk_any (x : Value) (o : RpD) (S : Nat → Prop) (w : World) (r : RdV w S x (ensDt o.list)) (hl : szEns o.list ≤ 2097152) :
    Calls Tryz.prog 163 #[rpV o x] w fun e w' => e = .returned (.bool (ROk o)) ∧ Below w.heap.size w w' := by
  obtain ⟨a, cap, rfl, _⟩ := RdV.sliced r
  obtain ⟨rc, ⟨p, q, d⟩, rv, es⟩ := o
  dsimp only at r hl ⊢
  have HR2 : Hid (∀ W, Below w.heap.size w W → RdV W S (.slice a es.length cap) (.rows 132 4 es.length (fun i j => enCell (es[i]?.getD en0) j))) := RdV.old r
  have hmm : es.length ≤ 2097152 := by unfold szEns at hl; omega
  have HL : Hid _ := hl
  have HH : Hid (∀ (p q : Int) (d : Bool) (W : World), Calls Tryz.prog 156 #[.agg #[.int .i64 p, .int .i64 q, .bool d]] W fun e w' => e = .returned (.bool (HOk (p, q, d))) ∧ w' = W.alloc (.cells #[.int .i64 p, .int .i64 q, .bool d] 24)) := fun p q d W => implHandleOk_w (p, q, d) W
  have HU : Hid (∀ (n : Int) (W : World), Calls Tryz.prog 154 #[.int .i64 n] W fun e w' => e = .returned (.bool (num n)) ∧ w' = W) := fun n W => isNumber_any n W
  have HC : Hid (∀ (n : Int) (W : World), Calls Tryz.prog 164 #[.int .i64 n] W fun e w' => e = .returned (.bool (decide (0 ≤ n) && decide (n ≤ 11))) ∧ w' = W) := fun n W => implCode_w n W
  have HN1 : Hid (∀ (W : World), Calls Tryz.prog 165 #[.agg #[.int .i64 p, .int .i64 q, .bool d]] W fun e w' => e = .returned (.bool (noneOk (p, q, d))) ∧ Below W.heap.size W w') := fun W => implNone_any (p, q, d) W
  obtain ⟨m, hm⟩ : ∃ m, es.length = m := ⟨_, rfl⟩
  obtain ⟨res, hres⟩ : ∃ res, ROk ⟨rc, (p, q, d), rv, es⟩ = res := ⟨_, rfl⟩
  rw [hres]
  simp only [ROk] at hres
  rw [hm] at HR2 hmm hres ⊢
  have HRES : Hid _ := hres
  clear r hl hm hres
  by_cases hA : (0 ≤ rc ∧ rc ≤ 11) ∧ (num rv = true ∧ noneOk (p, q, d) = true ∧ m ≤ 12)
  case neg =>
    have HF : Hid (res = false) := by
      rw [← HRES.out]
      show _ = _
      rw [Bool.eq_false_iff]
      intro h
      rw [Bool.and_eq_true] at h
      have h1 := h.1
      simp only [Bool.and_eq_true, decide_eq_true_eq] at h1
      exact hA h1
    rw [HF.out]
    clear HR2 HRES HF HL
    by_cases hA1 : (0 ≤ rc ∧ rc ≤ 11) ∧ num rv = true
    case neg =>
      go_enter Tryz.func163, Tryz.ntmps163
      go_wp2_with (first | (go_at_call 164; refine Calls.mono (HC.out _ _) ?_; rintro e w' ⟨rfl, rfl⟩) | (go_at_call 154; refine Calls.mono (HU.out _ _) ?_; rintro e w' ⟨rfl, rfl⟩))
      all_goals first | (go_ret; exact ⟨rfl, by repeat (first | exact Below.refl _ _ | refine Below.al ?_ _ | refine below_drewN2 ?_ _)⟩) | (exfalso; apply hA1; simp_all; done) | (exfalso; apply hA1; simp_all; omega)
    obtain ⟨⟨h1, h2⟩, h3⟩ := hA1
    have hA2 : ¬ (noneOk (p, q, d) = true ∧ m ≤ 12) := fun h => hA ⟨⟨h1, h2⟩, h3, h⟩
    clear hA
    go_enter Tryz.func163, Tryz.ntmps163
    go_wp2_with (first | (go_at_call 164; refine Calls.mono (HC.out _ _) ?_; rintro e w' ⟨rfl, rfl⟩) | (go_at_call 154; refine Calls.mono (HU.out _ _) ?_; rintro e w' ⟨rfl, rfl⟩))
    refine Calls.mono (HN1.out _) ?_
    rintro e w2 ⟨rfl, b_⟩
    have vA := VarA.step (VarA.new w _ _) b_
    have hB := (Below.newH (w := w) _).trans (b_.mono (by simp))
    clear b_
    obtain ⟨a0_, a1_, a2_, a3_, a4_, a5_⟩ := vA.l6
    go_wp2
    all_goals first | (go_ret; exact ⟨rfl, hB⟩) | (exfalso; apply hA2; simp_all; done) | (exfalso; apply hA2; simp_all; omega)
  obtain ⟨⟨h1, h2⟩, h3, h4, h5⟩ := hA
  have HRES2 : Hid ((List.range m).all (enOkAt es) = res) := by
    rw [← HRES.out]; show _ = _; simp [h1, h2, h3, h4, h5]
  rw [← HRES2.out]
  clear HRES HRES2 res
  go_enter Tryz.func163, Tryz.ntmps163
  go_wp2_with (first | (go_at_call 164; refine Calls.mono (HC.out _ _) ?_; rintro e w' ⟨rfl, rfl⟩) | (go_at_call 154; refine Calls.mono (HU.out _ _) ?_; rintro e w' ⟨rfl, rfl⟩))
  refine Calls.mono (HN1.out _) ?_
  rintro e w2 ⟨rfl, b_⟩
  have vA := VarA.step (VarA.new w _ _) b_
  have hB := (Below.newH (w := w) _).trans (b_.mono (by simp))
  clear b_
  obtain ⟨a0_, a1_, a2_, a3_, a4_, a5_⟩ := vA.l6
  go_wp2
  clear a0_ a1_ a2_ a3_ a4_ a5_
  go_loopw [30] (fun i wr => ∃ k : Nat, k ≤ m ∧ i = .int .i64 k ∧ Below w.heap.size w wr ∧ VarA wr w.heap.size 29 #[.int .i64 rc, .int .i64 p, .int .i64 q, .bool d, .int .i64 rv, .slice a m cap] ∧ Hid ((List.range k).all (enOkAt es) = true)) (fun i _ => m - (intOf i).toNat)
  case atStart => exact ⟨0, Nat.zero_le _, rfl, hB, vA, by show _ = _; simp⟩
  case round =>
    obtain ⟨k, hk, rfl, hbel, vA, HA⟩ := hrel
    obtain ⟨a0_, a1_, a2_, a3_, a4_, a5_⟩ := vA.l6
    have hvl_ := vA.lt
    by_cases hlt : k < m
    case neg =>
      have he : k = m := by omega
      subst he
      go_wp2
      go_ret
      exact ⟨by rw [HA.out]; rfl, hbel⟩
    obtain ⟨b, off, rfl, hbl, _, hx⟩ := RdV.at (HR2.out wr hbel) hlt
    obtain ⟨e, he⟩ : ∃ e, es[k]?.getD en0 = e := ⟨_, rfl⟩
    obtain ⟨x0, c0, r0⟩ := hx 0 (by omega)
    obtain ⟨x1, c1, r1⟩ := hx 1 (by omega)
    obtain ⟨x2, c2, r2⟩ := hx 2 (by omega)
    obtain ⟨x3, c3, r3⟩ := hx 3 (by omega)
    rw [he] at r0 r1 r2 r3
    have HZ : Hid (e.nm.length ≤ 2097152) := by have h1 := szEns_at es k; rw [he] at h1; have h2 := HL.out; show _ ≤ _; omega
    have HAT : Hid (enOkAt es k = (isNm e.nm && HOk e.h)) := by show _ = _; unfold enOkAt enOk; rw [he]
    clear hx he
    obtain ⟨nm, ⟨s, ino, dd⟩⟩ := e
    obtain rfl : x1 = .int .i64 s := r1
    obtain rfl : x2 = .int .i64 ino := r2
    obtain rfl : x3 = .bool dd := r3
    simp only [Nat.add_zero] at c0
    dsimp only at HAT
    have RB : Hid (RdV wr S x0 (.bytes nm)) := r0
    clear r0
    have HNM : Hid (∀ W, Below wr.heap.size wr W → _) := fun W hW => implName_any x0 nm S W (RdV.step RB.out hW) HZ.out
    have HHO : Hid (∀ W, _) := fun W => implHandleOk_w (s, ino, dd) W
    obtain ⟨xa, xc, rfl⟩ := RdV.sliceB RB.out
    clear RB HZ
    generalize nm.length = xn at *
    generalize isNm nm = bn at HNM HAT
    generalize HOk (s, ino, dd) = bh at HHO HAT
    cases bn with
    | false =>
      have HF : Hid ((List.range m).all (enOkAt es) = false) := range_all_falseW _ _ k hlt (by rw [HAT.out]; rfl)
      go_wp2_with (first | (go_at_call 160; refine Calls.mono (HNM.out _ (by repeat (first | exact Below.refl _ _ | refine Below.al ?_ _ | refine below_drewN2 ?_ _))) ?_; rintro e w' ⟨rfl, rfl⟩) | (go_at_call 156; refine Calls.mono (HHO.out _) ?_; rintro e w' ⟨rfl, rfl⟩))
      go_ret
      exact ⟨by rw [HF.out]; rfl, hbel.trans (Below.mono (by repeat (first | exact Below.refl _ _ | refine Below.al ?_ _ | refine below_drewN2 ?_ _)) hbel.size)⟩
    | true =>
    cases bh with
    | false =>
      have HF : Hid ((List.range m).all (enOkAt es) = false) := range_all_falseW _ _ k hlt (by rw [HAT.out]; rfl)
      go_wp2_with (first | (go_at_call 160; refine Calls.mono (HNM.out _ (by repeat (first | exact Below.refl _ _ | refine Below.al ?_ _ | refine below_drewN2 ?_ _))) ?_; rintro e w' ⟨rfl, rfl⟩) | (go_at_call 156; refine Calls.mono (HHO.out _) ?_; rintro e w' ⟨rfl, rfl⟩))
      go_ret
      exact ⟨by rw [HF.out]; rfl, hbel.trans (Below.mono (by repeat (first | exact Below.refl _ _ | refine Below.al ?_ _ | refine below_drewN2 ?_ _)) hbel.size)⟩
    | true =>
      have HF : Hid ((List.range (k + 1)).all (enOkAt es) = true) := range_all_nextW _ _ HA.out (by rw [HAT.out]; rfl)
      go_wp2_with (first | (go_at_call 160; refine Calls.mono (HNM.out _ (by repeat (first | exact Below.refl _ _ | refine Below.al ?_ _ | refine below_drewN2 ?_ _))) ?_; rintro e w' ⟨rfl, rfl⟩) | (go_at_call 156; refine Calls.mono (HHO.out _) ?_; rintro e w' ⟨rfl, rfl⟩))
      go_roundw
      case rel => exact ⟨k + 1, by omega, by go_num, hbel.trans (Below.mono (by repeat (first | exact Below.refl _ _ | refine Below.al ?_ _ | refine below_drewN2 ?_ _)) hbel.size), vA.step (by repeat (first | exact Below.refl _ _ | refine Below.al ?_ _ | refine below_drewN2 ?_ _)), HF⟩
      case measure => simp [intOf]; omega
end Go.Proofs.YtbnjhjgjmckedaaGreat
end

section
/- May a message be? As data; and what must be zero, by the specification. No condition. -/
namespace Go.Proofs.YtbnjhjgjmckedaaGreat
open Go.RowKit
set_option linter.unusedVariables false
set_option linter.unusedSimpArgs false
set_option maxRecDepth 100000

def isEndB (n : Int) : Bool := decide (0 ≤ n) && decide (n < 8)
def isCd (n : Int) : Bool := decide (0 ≤ n) && decide (n ≤ 11)
def zOp (o : OpD) : Bool := decide (o.kind = 0) && (decide (o.dir = hd0) && (decide (o.nm.length = 0) && (decide (o.to = hd0) && (decide (o.asn.length = 0) && decide (o.val = 0)))))
def zRp (r : RpD) : Bool := decide (r.code = 0) && (decide (r.h = hd0) && (decide (r.val = 0) && decide (r.list.length = 0)))
def zPt (p : PtD) : Bool := decide (p.kind = 0) && (decide (p.h = hd0) && (decide (p.asn.length = 0) && decide (p.to = hd0)))
def zTx (t : TxD) : Bool := decide (t = tx0)
def MBody (m : MsD) : Bool :=
  if m.kind = 0 then (num m.req && OOk m.op) && (zRp m.rp && (zTx m.tx && (zPt m.pt && (decide (m.code = 0) && decide (m.h = hd0)))))
  else if m.kind = 1 then (num m.req && ROk m.rp) && (zOp m.op && (zTx m.tx && (zPt m.pt && (decide (m.code = 0) && decide (m.h = hd0)))))
  else if m.kind = 2 then (TOk m.tx && POk m.pt) && (decide (m.req = 0) && (zOp m.op && (zRp m.rp && (decide (m.code = 0) && decide (m.h = hd0)))))
  else if m.kind = 3 then (TOk m.tx && (POk m.pt && (isCd m.code && noneOk m.h))) && (decide (m.req = 0) && (zOp m.op && zRp m.rp))
  else if m.kind = 4 then TOk m.tx && (decide (m.req = 0) && (zOp m.op && (zRp m.rp && (zPt m.pt && (decide (m.code = 0) && decide (m.h = hd0))))))
  else if m.kind = 5 then (TOk m.tx && (decide (m.code = 0) || decide (m.code = 1))) && (decide (m.req = 0) && (zOp m.op && (zRp m.rp && (zPt m.pt && decide (m.h = hd0)))))
  else if m.kind = 6 then (TOk m.tx && (num m.req && (HOk m.h && m.h.dir))) && (zOp m.op && (zRp m.rp && (zPt m.pt && decide (m.code = 0))))
  else (TOk m.tx && (num m.req && (isCd m.code && noneOk m.h))) && (zOp m.op && (zRp m.rp && zPt m.pt))
def MOk (m : MsD) : Bool := (decide (0 ≤ m.kind) && decide (m.kind ≤ 7)) && ((isEndB m.fr && isEndB m.to) && MBody m)
theorem zOp_not {o : OpD} (h : zOp o = true) : OOk o = false := by
  simp only [zOp, Bool.and_eq_true, decide_eq_true_eq] at h
  have h1 : HOk o.dir = false := by rw [h.2.1]; decide
  simp [OOk, h1]
theorem specNode_w (n : Int) (w : World) : Calls Tryz.prog 25 #[.int .i64 n] w fun e w' => e = .returned (.bool (isEndB n)) ∧ w' = w := by
  go_enter Tryz.func25, Tryz.ntmps25
  go_wp2
  all_goals (go_ret; exact ⟨by first | rfl | (simp_all [isEndB]; done) | (simp_all [isEndB]; omega), rfl⟩)
set_option maxHeartbeats 2000000 in
theorem specZOp_any (x y : Value) (o : OpD) (S : Nat → Prop) (w : World) (r : RdV w S x (.bytes o.nm)) (r2 : RdV w S y (.bytes o.asn)) :
    Calls Tryz.prog 28 #[opV o x y] w fun e w' => e = .returned (.bool (zOp o)) ∧ Below w.heap.size w w' := by
  obtain ⟨a, cap, rfl⟩ := r.sliceB
  obtain ⟨a2, cap2, rfl⟩ := r2.sliceB
  obtain ⟨kd, ⟨p, q, d⟩, nm, ⟨p2, q2, d2⟩, asn, vl⟩ := o
  clear r r2
  simp only [zOp]
  generalize nm.length = n0 at *
  generalize asn.length = n1 at *
  go_enter Tryz.func28, Tryz.ntmps28
  go_wp2
  all_goals (go_ret; refine ⟨?_, by repeat (first | exact Below.refl _ _ | refine Below.al ?_ _ | refine below_drewN2 ?_ _)⟩; first | rfl | (simp_all [hd0, Hd.sh, Hd.ino, Hd.dir]; done) | (simp_all [hd0, Hd.sh, Hd.ino, Hd.dir]; omega) | (simp_all [hd0, Hd.sh, Hd.ino, Hd.dir]; rw [Bool.eq_iff_iff]; simp; done))
set_option maxHeartbeats 2000000 in
theorem specZPt_any (x : Value) (o : PtD) (S : Nat → Prop) (w : World) (r : RdV w S x (.bytes o.asn)) :
    Calls Tryz.prog 33 #[ptV o x] w fun e w' => e = .returned (.bool (zPt o)) ∧ Below w.heap.size w w' := by
  obtain ⟨a, cap, rfl⟩ := r.sliceB
  obtain ⟨kd, ⟨p, q, d⟩, nm, ⟨p2, q2, d2⟩⟩ := o
  clear r
  simp only [zPt]
  generalize nm.length = n0 at *
  go_enter Tryz.func33, Tryz.ntmps33
  go_wp2
  all_goals (go_ret; refine ⟨?_, by repeat (first | exact Below.refl _ _ | refine Below.al ?_ _ | refine below_drewN2 ?_ _)⟩; first | rfl | (simp_all [hd0, Hd.sh, Hd.ino, Hd.dir]; done) | (simp_all [hd0, Hd.sh, Hd.ino, Hd.dir]; omega) | (simp_all [hd0, Hd.sh, Hd.ino, Hd.dir]; rw [Bool.eq_iff_iff]; simp; done))
set_option maxHeartbeats 2000000 in
theorem specZRp_any (x : Value) (o : RpD) (S : Nat → Prop) (w : World) (r : RdV w S x (ensDt o.list)) :
    Calls Tryz.prog 30 #[rpV o x] w fun e w' => e = .returned (.bool (zRp o)) ∧ Below w.heap.size w w' := by
  obtain ⟨a, cap, rfl, _⟩ := RdV.sliced r
  obtain ⟨kd, ⟨p, q, d⟩, vl, es⟩ := o
  clear r
  simp only [zRp]
  generalize es.length = n0 at *
  go_enter Tryz.func30, Tryz.ntmps30
  go_wp2
  all_goals (go_ret; refine ⟨?_, by repeat (first | exact Below.refl _ _ | refine Below.al ?_ _ | refine below_drewN2 ?_ _)⟩; first | rfl | (simp_all [hd0, Hd.sh, Hd.ino, Hd.dir]; done) | (simp_all [hd0, Hd.sh, Hd.ino, Hd.dir]; omega) | (simp_all [hd0, Hd.sh, Hd.ino, Hd.dir]; rw [Bool.eq_iff_iff]; simp; done))
end Go.Proofs.YtbnjhjgjmckedaaGreat
end

section
/- Entries, nodes, trees and operations that read alike are found so by the verifier's helpers. Condition: no more than 2^21 of all. -/
namespace Go.Proofs.YtbnjhjgjmckedaaGreat
open Go.RowKit
set_option linter.unusedVariables false

theorem eqByteS_same (v u : Value) (zs : List Int) (S S2 : Nat → Prop) (w : World) (r : RdV w S v (.bytes zs)) (r2 : RdV w S2 u (.bytes zs)) (hl : zs.length ≤ 2097152) :
    Calls Tryz.prog 16 #[v, u] w fun e w' => e = .returned (.bool true) ∧ Below w.heap.size w w' := by
  obtain ⟨a, cap, rfl, hh, hr⟩ := r.b.reads
  obtain ⟨a2, cap2, rfl, hh2, hr2⟩ := r2.b.reads
  refine (eqByteS_any a a2 zs zs cap cap2 w hr hr2 hl hl).mono ?_
  rintro e w' ⟨rfl, n, rfl⟩
  exact ⟨by rw [beq_self_eq_true], below_drewN2 (Below.refl _ _) n⟩

set_option maxHeartbeats 1000000 in
theorem eqEntry_same (x y : Value) (e : En) (S S2 : Nat → Prop) (w : World) (r : RdV w S x (.bytes e.nm)) (r2 : RdV w S2 y (.bytes e.nm)) (hl : e.nm.length ≤ 2097152) :
    Calls Tryz.prog 118 #[enV x e.h, enV y e.h] w fun q w' => q = .returned (.bool true) ∧ Below w.heap.size w w' := by
  obtain ⟨a, cap, rfl⟩ := r.sliceB
  obtain ⟨a2, cap2, rfl⟩ := r2.sliceB
  obtain ⟨nm, ⟨p, q, d⟩⟩ := e
  have HR : Hid (∀ W, Below w.heap.size w W → _) := r.old
  have HR2 : Hid (∀ W, Below w.heap.size w W → _) := r2.old
  have HH : Hid (∀ W, _) := fun W => eqHandle_same (p, q, d) W
  have HL : Hid (nm.length ≤ 2097152) := hl
  clear r r2 hl
  dsimp only at HR HR2 ⊢
  generalize nm.length = n0 at HR HR2
  go_enter Tryz.func118, Tryz.ntmps118
  go_wp2_with fail
  refine Calls.mono (eqByteS_same _ _ nm S S2 _ (HR.out _ (Below.newH2 _ _)) (HR2.out _ (Below.newH2 _ _)) HL.out) ?_
  rintro e w2 ⟨rfl, b_⟩
  have vA : VarA w2 w.heap.size 132 #[.slice a n0 cap, .int .i64 p, .int .i64 q, .bool d] := VarA.step ((VarA.new w _ _).alloc _) b_
  have vB : VarA w2 (w.heap.size + 1) 132 #[.slice a2 n0 cap2, .int .i64 p, .int .i64 q, .bool d] := by
    have := VarA.step (VarA.new (w.alloc _) _ _) b_
    simpa using this
  have HB : Hid _ := (Below.newH2 (w := w) _ _).trans (b_.mono (by simp; omega))
  clear b_
  obtain ⟨a0_, a1_, a2_, a3_⟩ := vA.l4
  obtain ⟨b0_, b1_, b2_, b3_⟩ := vB.l4
  go_wp2_with fail
  refine Calls.mono (HH.out _) ?_
  rintro e w3 ⟨rfl, b_⟩
  have vA_ := vA.step b_
  have vB_ := vB.step b_
  have HB_ : Hid _ := HB.out.trans (b_.mono HB.out.size)
  clear vA vB HB b_ a0_ a1_ a2_ a3_ b0_ b1_ b2_ b3_
  have vA := vA_
  have vB := vB_
  have HB := HB_
  clear vA_ vB_ HB_
  obtain ⟨a0_, a1_, a2_, a3_⟩ := vA.l4
  obtain ⟨b0_, b1_, b2_, b3_⟩ := vB.l4
  go_wp2
  go_ret
  exact ⟨rfl, HB.out⟩

set_option maxHeartbeats 2000000 in
theorem eqEntryS_same (v u : Value) (l : List En) (S S2 : Nat → Prop) (w : World) (r : RdV w S v (ensDt l)) (r2 : RdV w S2 u (ensDt l)) (hl : szEns l ≤ 2097152) :
    Calls Tryz.prog 100 #[v, u] w fun e w' => e = .returned (.bool true) ∧ Below w.heap.size w w' := by
  obtain ⟨a, cap, rfl, _⟩ := RdV.sliced r
  obtain ⟨a2, cap2, rfl, _⟩ := RdV.sliced r2
  have HR : Hid (∀ W, Below w.heap.size w W → RdV W S (.slice a l.length cap) (ensDt l)) := r.old
  have HR2 : Hid (∀ W, Below w.heap.size w W → RdV W S2 (.slice a2 l.length cap2) (ensDt l)) := r2.old
  have HD : Hid (ensDt l = .rows 132 4 l.length (fun i j => enCell (l[i]?.getD en0) j)) := rfl
  have hnn : l.length ≤ 2097152 := by unfold szEns at hl; omega
  have HL : Hid _ := hl
  clear r r2 hl
  rw [HD.out] at HR HR2
  clear HD
  generalize l.length = n at hnn HR HR2 ⊢
  go_enter Tryz.func100, Tryz.ntmps100
  go_wp2
  go_loopw [5] (fun i wr => ∃ k : Nat, k ≤ n ∧ i = .int .i64 k ∧ Below w.heap.size w wr) (fun i _ => n - (intOf i).toNat)
  case atStart => exact ⟨0, Nat.zero_le _, rfl, Below.refl _ _⟩
  case round =>
    obtain ⟨k, hk, rfl, hbel⟩ := hrel
    by_cases hlt : k < n
    · obtain ⟨b, off, rfl, hbl, _, hx⟩ := RdV.at (HR.out wr hbel) hlt
      obtain ⟨b2, off2, rfl, hbl2, _, hy⟩ := RdV.at (HR2.out wr hbel) hlt
      obtain ⟨e, he⟩ : ∃ e, l[k]?.getD en0 = e := ⟨_, rfl⟩
      obtain ⟨x0, c0, r0⟩ := hx 0 (by omega)
      obtain ⟨y0, dd0, s0⟩ := hy 0 (by omega)
      obtain ⟨x1, c1, r1⟩ := hx 1 (by omega)
      obtain ⟨y1, dd1, s1⟩ := hy 1 (by omega)
      obtain ⟨x2, c2, r2⟩ := hx 2 (by omega)
      obtain ⟨y2, dd2, s2⟩ := hy 2 (by omega)
      obtain ⟨x3, c3, r3⟩ := hx 3 (by omega)
      obtain ⟨y3, dd3, s3⟩ := hy 3 (by omega)
      rw [he] at r0 s0 r1 s1 r2 s2 r3 s3
      have HZ : Hid (e.nm.length ≤ 2097152) := by have h1 := szEns_at l k; rw [he] at h1; have h2 := HL.out; show _ ≤ _; omega
      clear hx hy he
      obtain ⟨nm, ⟨p, q, d⟩⟩ := e
      obtain rfl : x1 = .int .i64 p := r1
      obtain rfl : y1 = .int .i64 p := s1
      obtain rfl : x2 = .int .i64 q := r2
      obtain rfl : y2 = .int .i64 q := s2
      obtain rfl : x3 = .bool d := r3
      obtain rfl : y3 = .bool d := s3
      simp only [Nat.add_zero] at c0 dd0
      have RS : Hid (RdV wr S x0 (.bytes nm)) := r0
      have RS2 : Hid (RdV wr S2 y0 (.bytes nm)) := s0
      clear r0 s0
      obtain ⟨xa, xc, rfl⟩ := RdV.sliceB RS.out
      obtain ⟨ya, yc, rfl⟩ := RdV.sliceB RS2.out
      have RC : Hid _ := eqEntry_same _ _ ⟨nm, p, q, d⟩ S S2 wr.drew (RS.out.step (Below.drew (Below.refl _ _))) (RS2.out.step (Below.drew (Below.refl _ _))) HZ.out
      generalize nm.length = xn at RC c0 dd0
      have hws := hbel.size
      clear HZ RS RS2
      go_wp2
      go_region_held3 (fun w' => w'.cell? ⟨b, off + k * 4, none⟩ = some (.slice xa xn xc) ∧ w'.cell? ⟨b, off + k * 4 + 1, none⟩ = some (.int .i64 p) ∧ w'.cell? ⟨b, off + k * 4 + 2, none⟩ = some (.int .i64 q) ∧ w'.cell? ⟨b, off + k * 4 + 3, none⟩ = some (.bool d) ∧ w'.cell? ⟨b2, off2 + k * 4, none⟩ = some (.slice ya xn yc) ∧ w'.cell? ⟨b2, off2 + k * 4 + 1, none⟩ = some (.int .i64 p) ∧ w'.cell? ⟨b2, off2 + k * 4 + 2, none⟩ = some (.int .i64 q) ∧ w'.cell? ⟨b2, off2 + k * 4 + 3, none⟩ = some (.bool d)) (first | go_keep | (refine ⟨?_, ?_, ?_, ?_, ?_, ?_, ?_, ?_⟩ <;> assumption)) (first | (go_at_call 118; refine Calls.mono RC.out ?_; rintro e w' ⟨rfl, hbw⟩; have q0 := (hbw.cell (p := ⟨b, off + k * 4, none⟩) hbl).trans c0; have q1 := (hbw.cell (p := ⟨b, off + k * 4 + 1, none⟩) hbl).trans c1; have q2 := (hbw.cell (p := ⟨b, off + k * 4 + 2, none⟩) hbl).trans c2; have q3 := (hbw.cell (p := ⟨b, off + k * 4 + 3, none⟩) hbl).trans c3; have q4 := (hbw.cell (p := ⟨b2, off2 + k * 4, none⟩) hbl2).trans dd0; have q5 := (hbw.cell (p := ⟨b2, off2 + k * 4 + 1, none⟩) hbl2).trans dd1; have q6 := (hbw.cell (p := ⟨b2, off2 + k * 4 + 2, none⟩) hbl2).trans dd2; have q7 := (hbw.cell (p := ⟨b2, off2 + k * 4 + 3, none⟩) hbl2).trans dd3))
      go_wp2
      go_roundw
      case rel => exact ⟨k + 1, by omega, by go_num, hbel.drew.trans (hbw.mono hws)⟩
      case measure => simp [intOf]; omega
    · have hkn : k = n := by omega
      subst hkn
      go_wp2
      go_ret
      exact ⟨rfl, hbel⟩

set_option maxHeartbeats 2000000 in
theorem eqOp_same (x y x2 y2 : Value) (o : OpD) (S S2 : Nat → Prop) (w : World) (r : RdV w S x (.bytes o.nm)) (r2 : RdV w S2 x2 (.bytes o.nm)) (s : RdV w S y (.bytes o.asn)) (s2 : RdV w S2 y2 (.bytes o.asn)) (hl : o.nm.length ≤ 2097152) (hl2 : o.asn.length ≤ 2097152) :
    Calls Tryz.prog 53 #[opV o x y, opV o x2 y2] w fun q w' => q = .returned (.bool true) ∧ Below w.heap.size w w' := by
  obtain ⟨a, cap, rfl⟩ := r.sliceB
  obtain ⟨a2, cap2, rfl⟩ := r2.sliceB
  obtain ⟨b, cbp, rfl⟩ := s.sliceB
  obtain ⟨b2, cbp2, rfl⟩ := s2.sliceB
  obtain ⟨kd, ⟨p, q, d⟩, nm, ⟨p2, q2, d2⟩, asn, vl⟩ := o
  have HR : Hid (∀ W, Below w.heap.size w W → _) := r.old
  have HR2 : Hid (∀ W, Below w.heap.size w W → _) := r2.old
  have HS1 : Hid (∀ W, Below w.heap.size w W → _) := s.old
  have HS2_ : Hid (∀ W, Below w.heap.size w W → _) := s2.old
  have HH : Hid (∀ W, _) := fun W => eqHandle_same (p, q, d) W
  have HH2 : Hid (∀ W, _) := fun W => eqHandle_same (p2, q2, d2) W
  have HL : Hid (nm.length ≤ 2097152) := hl
  have HL2 : Hid (asn.length ≤ 2097152) := hl2
  clear r r2 s s2 hl hl2
  dsimp only at HR HR2 HS1 HS2_ ⊢
  generalize nm.length = n0 at HR HR2
  generalize asn.length = n1 at HS1 HS2_
  go_enter Tryz.func53, Tryz.ntmps53
  go_wp2_with fail
  refine Calls.mono (HH.out _) ?_
  rintro e w2 ⟨rfl, b_⟩
  have vA : VarA w2 w.heap.size 26 #[.int .i64 kd, .int .i64 p, .int .i64 q, .bool d, .slice a n0 cap, .int .i64 p2, .int .i64 q2, .bool d2, .slice b n1 cbp, .int .i64 vl] := VarA.step ((VarA.new w _ _).alloc _) b_
  have vB : VarA w2 (w.heap.size + 1) 26 #[.int .i64 kd, .int .i64 p, .int .i64 q, .bool d, .slice a2 n0 cap2, .int .i64 p2, .int .i64 q2, .bool d2, .slice b2 n1 cbp2, .int .i64 vl] := by
    have := VarA.step (VarA.new (w.alloc _) _ _) b_
    simpa using this
  have HB : Hid _ := (Below.newH2 (w := w) _ _).trans (b_.mono (by simp; omega))
  clear b_
  obtain ⟨a0_, a1_, a2_, a3_, a4_, a5_, a6_, a7_, a8_, a9_⟩ := vA.l10
  obtain ⟨b0_, b1_, b2_, b3_, b4_, b5_, b6_, b7_, b8_, b9_⟩ := vB.l10
  go_wp2_with fail
  refine Calls.mono (eqByteS_same _ _ nm S S2 _ (HR.out _ HB.out) (HR2.out _ HB.out) HL.out) ?_
  rintro e w3 ⟨rfl, b_⟩
  have vA_ := vA.step b_
  have vB_ := vB.step b_
  have HB_ : Hid _ := HB.out.trans (b_.mono HB.out.size)
  clear vA vB HB b_ a0_ a1_ a2_ a3_ a4_ a5_ a6_ a7_ a8_ a9_ b0_ b1_ b2_ b3_ b4_ b5_ b6_ b7_ b8_ b9_
  have vA := vA_
  have vB := vB_
  have HB := HB_
  clear vA_ vB_ HB_
  obtain ⟨a0_, a1_, a2_, a3_, a4_, a5_, a6_, a7_, a8_, a9_⟩ := vA.l10
  obtain ⟨b0_, b1_, b2_, b3_, b4_, b5_, b6_, b7_, b8_, b9_⟩ := vB.l10
  go_wp2_with fail
  refine Calls.mono (HH2.out _) ?_
  rintro e w4 ⟨rfl, b_⟩
  have vA_ := vA.step b_
  have vB_ := vB.step b_
  have HB_ : Hid _ := HB.out.trans (b_.mono HB.out.size)
  clear vA vB HB b_ a0_ a1_ a2_ a3_ a4_ a5_ a6_ a7_ a8_ a9_ b0_ b1_ b2_ b3_ b4_ b5_ b6_ b7_ b8_ b9_
  have vA := vA_
  have vB := vB_
  have HB := HB_
  clear vA_ vB_ HB_
  obtain ⟨a0_, a1_, a2_, a3_, a4_, a5_, a6_, a7_, a8_, a9_⟩ := vA.l10
  obtain ⟨b0_, b1_, b2_, b3_, b4_, b5_, b6_, b7_, b8_, b9_⟩ := vB.l10
  go_wp2_with fail
  refine Calls.mono (eqByteS_same _ _ asn S S2 _ (HS1.out _ HB.out) (HS2_.out _ HB.out) HL2.out) ?_
  rintro e w5 ⟨rfl, b_⟩
  have vA_ := vA.step b_
  have vB_ := vB.step b_
  have HB_ : Hid _ := HB.out.trans (b_.mono HB.out.size)
  clear vA vB HB b_ a0_ a1_ a2_ a3_ a4_ a5_ a6_ a7_ a8_ a9_ b0_ b1_ b2_ b3_ b4_ b5_ b6_ b7_ b8_ b9_
  have vA := vA_
  have vB := vB_
  have HB := HB_
  clear vA_ vB_ HB_
  obtain ⟨a0_, a1_, a2_, a3_, a4_, a5_, a6_, a7_, a8_, a9_⟩ := vA.l10
  obtain ⟨b0_, b1_, b2_, b3_, b4_, b5_, b6_, b7_, b8_, b9_⟩ := vB.l10
  go_wp2
  go_ret
  exact ⟨rfl, HB.out⟩

end Go.Proofs.YtbnjhjgjmckedaaGreat
end
