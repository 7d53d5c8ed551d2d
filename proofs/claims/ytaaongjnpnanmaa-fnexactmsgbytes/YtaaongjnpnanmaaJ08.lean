/- Joined: OpOks2 WOk3 WMsg0. -/
import Derived.Test.YtaaongjnpnanmaaJ07
import Derived.Deep.RegionHeld3

section
/- What the program's look at an operation answers. Condition: texts of at most 2^21 bytes. -/
namespace Go.Proofs.Ytaaongjnpnanmaa
open Go.RowKit
set_option linter.unusedVariables false
set_option linter.unusedSimpArgs false

theorem isShard_any (k : Int) (w : World) : Calls Try.prog 54 #[.int .i64 k] w fun e w' => e = .returned (.bool (decide (0 ≤ k) && decide (k < 4))) ∧ w' = w := by
  go_enter Try.func54, Try.ntmps54
  go_wp2
  all_goals (go_ret; exact ⟨by first | rfl | (simp_all <;> omega), rfl⟩)
theorem isNumber_any (k : Int) (w : World) : Calls Try.prog 55 #[.int .i64 k] w fun e w' => e = .returned (.bool (decide (0 ≤ k) && decide (k ≤ 2147483647))) ∧ w' = w := by
  go_enter Try.func55, Try.ntmps55
  go_wp2
  all_goals (go_ret; exact ⟨by first | rfl | (simp_all <;> omega), rfl⟩)
set_option maxHeartbeats 2000000 in
theorem implNameOk_any (x y : Value) (o : OpD) (S : Nat → Prop) (w : World) (r : RdV w S x (.bytes o.nm)) (r2 : RdV w S y (.bytes o.asn)) (hl : o.nm.length ≤ 2097152) (hl2 : o.asn.length ≤ 2097152) :
    Calls Try.prog 145 #[opV o x y] w fun e w' => e = .returned (.bool (nmB o)) ∧ Below w.heap.size w w' := by
  obtain ⟨a, cap, rfl⟩ := r.sliceB
  obtain ⟨a2, cap2, rfl⟩ := r2.sliceB
  obtain ⟨kd, ⟨p, q, d⟩, nm, ⟨p2, q2, d2⟩, asn, vl⟩ := o
  dsimp only at r r2 hl hl2 ⊢
  obtain ⟨res, hres⟩ : ∃ res, nmB ⟨kd, (p, q, d), nm, (p2, q2, d2), asn, vl⟩ = res := ⟨_, rfl⟩
  rw [hres]
  simp only [nmB, nmP, toP, asP, hd0] at hres
  have HX : Hid (∀ W, Below w.heap.size w W → _) := fun W hW => implName_any _ nm S W (r.step hW) hl
  clear r r2
  generalize isNm nm = bn at HX hres
  generalize nm.length = n0 at *
  generalize asn.length = n1 at *
  have HRES : Hid _ := hres
  clear hres
  go_enter Try.func145, Try.ntmps145
  go_wp2_with (go_at_call 63; refine Calls.mono (HX.out _ (Below.newH _)) ?_; rintro e w2 ⟨rfl, rfl⟩)
  all_goals (go_ret; exact ⟨by rw [← HRES.out]; first | rfl | (simp_all [Hd.sh, Hd.ino, Hd.dir] <;> omega) | (simp_all [Hd.sh, Hd.ino, Hd.dir]; rw [Bool.eq_iff_iff]; simp) | (simp_all [Hd.sh, Hd.ino, Hd.dir]; rw [Bool.eq_iff_iff]; simp; omega), by first | exact Below.newH _ | exact Below.newH2 _ _⟩)
set_option maxHeartbeats 2000000 in
theorem implAsOk_any (x y : Value) (o : OpD) (S : Nat → Prop) (w : World) (r : RdV w S x (.bytes o.nm)) (r2 : RdV w S y (.bytes o.asn)) (hl : o.nm.length ≤ 2097152) (hl2 : o.asn.length ≤ 2097152) :
    Calls Try.prog 141 #[opV o x y] w fun e w' => e = .returned (.bool (asB o)) ∧ Below w.heap.size w w' := by
  obtain ⟨a, cap, rfl⟩ := r.sliceB
  obtain ⟨a2, cap2, rfl⟩ := r2.sliceB
  obtain ⟨kd, ⟨p, q, d⟩, nm, ⟨p2, q2, d2⟩, asn, vl⟩ := o
  dsimp only at r r2 hl hl2 ⊢
  obtain ⟨res, hres⟩ : ∃ res, asB ⟨kd, (p, q, d), nm, (p2, q2, d2), asn, vl⟩ = res := ⟨_, rfl⟩
  rw [hres]
  simp only [asB, nmP, toP, asP, hd0] at hres
  have HX : Hid (∀ W, Below w.heap.size w W → _) := fun W hW => implName_any _ asn S W (r2.step hW) hl2
  clear r r2
  generalize isNm asn = bn at HX hres
  generalize nm.length = n0 at *
  generalize asn.length = n1 at *
  have HRES : Hid _ := hres
  clear hres
  go_enter Try.func141, Try.ntmps141
  go_wp2_with (go_at_call 63; refine Calls.mono (HX.out _ (Below.newH _)) ?_; rintro e w2 ⟨rfl, rfl⟩)
  all_goals (go_ret; exact ⟨by rw [← HRES.out]; first | rfl | (simp_all [Hd.sh, Hd.ino, Hd.dir] <;> omega) | (simp_all [Hd.sh, Hd.ino, Hd.dir]; rw [Bool.eq_iff_iff]; simp) | (simp_all [Hd.sh, Hd.ino, Hd.dir]; rw [Bool.eq_iff_iff]; simp; omega), by first | exact Below.newH _ | exact Below.newH2 _ _⟩)
set_option maxHeartbeats 2000000 in
theorem implValOk_any (x y : Value) (o : OpD) (S : Nat → Prop) (w : World) (r : RdV w S x (.bytes o.nm)) (r2 : RdV w S y (.bytes o.asn)) (hl : o.nm.length ≤ 2097152) (hl2 : o.asn.length ≤ 2097152) :
    Calls Try.prog 147 #[opV o x y] w fun e w' => e = .returned (.bool (vlB o)) ∧ Below w.heap.size w w' := by
  obtain ⟨a, cap, rfl⟩ := r.sliceB
  obtain ⟨a2, cap2, rfl⟩ := r2.sliceB
  obtain ⟨kd, ⟨p, q, d⟩, nm, ⟨p2, q2, d2⟩, asn, vl⟩ := o
  dsimp only at r r2 hl hl2 ⊢
  obtain ⟨res, hres⟩ : ∃ res, vlB ⟨kd, (p, q, d), nm, (p2, q2, d2), asn, vl⟩ = res := ⟨_, rfl⟩
  rw [hres]
  simp only [vlB, nmP, toP, asP, hd0] at hres
  have HX : Hid (∀ W, _) := fun W => isNumber_any vl W
  clear r r2
  generalize nm.length = n0 at *
  generalize asn.length = n1 at *
  have HRES : Hid _ := hres
  clear hres
  go_enter Try.func147, Try.ntmps147
  go_wp2_with (go_at_call 55; refine Calls.mono (HX.out _) ?_; rintro e w2 ⟨rfl, rfl⟩)
  all_goals (go_ret; exact ⟨by rw [← HRES.out]; first | rfl | (simp_all [Hd.sh, Hd.ino, Hd.dir] <;> omega) | (simp_all [Hd.sh, Hd.ino, Hd.dir]; rw [Bool.eq_iff_iff]; simp) | (simp_all [Hd.sh, Hd.ino, Hd.dir]; rw [Bool.eq_iff_iff]; simp; omega), by first | exact Below.newH _ | exact Below.newH2 _ _⟩)
set_option maxHeartbeats 2000000 in
theorem implToOk_any (x y : Value) (o : OpD) (S : Nat → Prop) (w : World) (r : RdV w S x (.bytes o.nm)) (r2 : RdV w S y (.bytes o.asn)) (hl : o.nm.length ≤ 2097152) (hl2 : o.asn.length ≤ 2097152) :
    Calls Try.prog 146 #[opV o x y] w fun e w' => e = .returned (.bool (toB o)) ∧ Below w.heap.size w w' := by
  obtain ⟨a, cap, rfl⟩ := r.sliceB
  obtain ⟨a2, cap2, rfl⟩ := r2.sliceB
  obtain ⟨kd, ⟨p, q, d⟩, nm, ⟨p2, q2, d2⟩, asn, vl⟩ := o
  dsimp only at r r2 hl hl2 ⊢
  obtain ⟨res, hres⟩ : ∃ res, toB ⟨kd, (p, q, d), nm, (p2, q2, d2), asn, vl⟩ = res := ⟨_, rfl⟩
  rw [hres]
  simp only [toB, nmP, toP, asP, hd0] at hres
  have HX : Hid (∀ W, _) := fun W => implHandleOk_w (p2, q2, d2) W
  have HS : Hid (∀ W, _) := fun W => isShard_any p2 W
  clear r r2
  generalize HOk (p2, q2, d2) = bt at HX hres
  generalize nm.length = n0 at *
  generalize asn.length = n1 at *
  have HRES : Hid _ := hres
  clear hres
  go_enter Try.func146, Try.ntmps146
  go_wp2_with (first | (go_at_call 61; refine Calls.mono (HX.out _) ?_; rintro e w2 ⟨rfl, rfl⟩) | (go_at_call 54; refine Calls.mono (HS.out _) ?_; rintro e w2 ⟨rfl, rfl⟩))
  all_goals (go_ret; exact ⟨by rw [← HRES.out]; first | rfl | (simp_all [Hd.sh, Hd.ino, Hd.dir] <;> omega) | (simp_all [Hd.sh, Hd.ino, Hd.dir]; rw [Bool.eq_iff_iff]; simp) | (simp_all [Hd.sh, Hd.ino, Hd.dir]; rw [Bool.eq_iff_iff]; simp; omega), by first | exact Below.newH _ | exact Below.newH2 _ _⟩)
set_option maxHeartbeats 4000000 in
theorem implOpOk_any (x y : Value) (o : OpD) (S : Nat → Prop) (w : World) (r : RdV w S x (.bytes o.nm)) (r2 : RdV w S y (.bytes o.asn)) (hl : o.nm.length ≤ 2097152) (hl2 : o.asn.length ≤ 2097152) :
    Calls Try.prog 144 #[opV o x y] w fun e w' => e = .returned (.bool (OOk o)) ∧ Below w.heap.size w w' := by
  have HN : Hid (∀ W, Below w.heap.size w W → _) := fun W hW => implNameOk_any x y o S W (r.step hW) (r2.step hW) hl hl2
  have HT : Hid (∀ W, Below w.heap.size w W → _) := fun W hW => implToOk_any x y o S W (r.step hW) (r2.step hW) hl hl2
  have HA : Hid (∀ W, Below w.heap.size w W → _) := fun W hW => implAsOk_any x y o S W (r.step hW) (r2.step hW) hl hl2
  have HV : Hid (∀ W, Below w.heap.size w W → _) := fun W hW => implValOk_any x y o S W (r.step hW) (r2.step hW) hl hl2
  obtain ⟨a, cap, rfl⟩ := r.sliceB
  obtain ⟨a2, cap2, rfl⟩ := r2.sliceB
  obtain ⟨res, hres⟩ : ∃ res, OOk o = res := ⟨_, rfl⟩
  rw [hres]
  simp only [OOk] at hres
  generalize nmB o = bn at HN hres
  generalize toB o = bt at HT hres
  generalize asB o = ba at HA hres
  generalize vlB o = bv at HV hres
  obtain ⟨kd, ⟨p, q, d⟩, nm, ⟨p2, q2, d2⟩, asn, vl⟩ := o
  dsimp only at hres HN HT HA HV ⊢
  have HH : Hid (∀ W, _) := fun W => implHandleOk_any (p, q, d) W
  generalize HOk (p, q, d) = bd at HH hres
  generalize nm.length = n0 at *
  generalize asn.length = n1 at *
  have HRES : Hid _ := hres
  clear r r2 hl hl2 hres
  by_cases hk : 0 ≤ kd ∧ kd ≤ 7
  case neg =>
    go_enter Try.func144, Try.ntmps144
    go_wp2_with fail
    all_goals first | (go_ret; exact ⟨by rw [← HRES.out]; first | rfl | (simp; omega), Below.newH _⟩) | (exfalso; omega)
  obtain ⟨hk0, hk7⟩ := hk
  cases bd with
  | false =>
    go_enter Try.func144, Try.ntmps144
    go_wp2_with fail
    refine Calls.mono (HH.out _) ?_
    rintro e w2 ⟨rfl, b_⟩
    have vA : VarA w2 w.heap.size 70 #[.int .i64 kd, .int .i64 p, .int .i64 q, .bool d, .slice a n0 cap, .int .i64 p2, .int .i64 q2, .bool d2, .slice a2 n1 cap2, .int .i64 vl] := VarA.step (VarA.new w _ _) b_
    have HB : Hid _ := (Below.newH (w := w) _).trans (b_.mono (by simp))
    clear b_
    obtain ⟨a0_, a1_, a2_, a3_, a4_, a5_, a6_, a7_, a8_, a9_⟩ := vA.l10
    go_wp2
    go_ret
    exact ⟨by rw [← HRES.out]; simp [hk0, hk7], HB.out⟩
  | true =>
    cases bn with
    | false =>
      go_enter Try.func144, Try.ntmps144
      go_wp2_with fail
      refine Calls.mono (HH.out _) ?_
      rintro e w2 ⟨rfl, b_⟩
      have vA : VarA w2 w.heap.size 70 #[.int .i64 kd, .int .i64 p, .int .i64 q, .bool d, .slice a n0 cap, .int .i64 p2, .int .i64 q2, .bool d2, .slice a2 n1 cap2, .int .i64 vl] := VarA.step (VarA.new w _ _) b_
      have HB : Hid _ := (Below.newH (w := w) _).trans (b_.mono (by simp))
      clear b_
      obtain ⟨a0_, a1_, a2_, a3_, a4_, a5_, a6_, a7_, a8_, a9_⟩ := vA.l10
      go_wp2_with fail
      refine Calls.mono (HN.out _ HB.out) ?_
      rintro e w3 ⟨rfl, b_⟩
      have vA_ := vA.step b_
      have HB_ : Hid _ := HB.out.trans (b_.mono HB.out.size)
      clear vA HB b_ a0_ a1_ a2_ a3_ a4_ a5_ a6_ a7_ a8_ a9_
      have vA := vA_
      have HB := HB_
      clear vA_ HB_
      obtain ⟨a0_, a1_, a2_, a3_, a4_, a5_, a6_, a7_, a8_, a9_⟩ := vA.l10
      go_wp2
      go_ret
      exact ⟨by rw [← HRES.out]; simp [hk0, hk7], HB.out⟩
    | true =>
      cases bt with
      | false =>
        go_enter Try.func144, Try.ntmps144
        go_wp2_with fail
        refine Calls.mono (HH.out _) ?_
        rintro e w2 ⟨rfl, b_⟩
        have vA : VarA w2 w.heap.size 70 #[.int .i64 kd, .int .i64 p, .int .i64 q, .bool d, .slice a n0 cap, .int .i64 p2, .int .i64 q2, .bool d2, .slice a2 n1 cap2, .int .i64 vl] := VarA.step (VarA.new w _ _) b_
        have HB : Hid _ := (Below.newH (w := w) _).trans (b_.mono (by simp))
        clear b_
        obtain ⟨a0_, a1_, a2_, a3_, a4_, a5_, a6_, a7_, a8_, a9_⟩ := vA.l10
        go_wp2_with fail
        refine Calls.mono (HN.out _ HB.out) ?_
        rintro e w3 ⟨rfl, b_⟩
        have vA_ := vA.step b_
        have HB_ : Hid _ := HB.out.trans (b_.mono HB.out.size)
        clear vA HB b_ a0_ a1_ a2_ a3_ a4_ a5_ a6_ a7_ a8_ a9_
        have vA := vA_
        have HB := HB_
        clear vA_ HB_
        obtain ⟨a0_, a1_, a2_, a3_, a4_, a5_, a6_, a7_, a8_, a9_⟩ := vA.l10
        go_wp2_with fail
        refine Calls.mono (HT.out _ HB.out) ?_
        rintro e w4 ⟨rfl, b_⟩
        have vA_ := vA.step b_
        have HB_ : Hid _ := HB.out.trans (b_.mono HB.out.size)
        clear vA HB b_ a0_ a1_ a2_ a3_ a4_ a5_ a6_ a7_ a8_ a9_
        have vA := vA_
        have HB := HB_
        clear vA_ HB_
        obtain ⟨a0_, a1_, a2_, a3_, a4_, a5_, a6_, a7_, a8_, a9_⟩ := vA.l10
        go_wp2
        go_ret
        exact ⟨by rw [← HRES.out]; simp [hk0, hk7], HB.out⟩
      | true =>
        cases ba with
        | false =>
          go_enter Try.func144, Try.ntmps144
          go_wp2_with fail
          refine Calls.mono (HH.out _) ?_
          rintro e w2 ⟨rfl, b_⟩
          have vA : VarA w2 w.heap.size 70 #[.int .i64 kd, .int .i64 p, .int .i64 q, .bool d, .slice a n0 cap, .int .i64 p2, .int .i64 q2, .bool d2, .slice a2 n1 cap2, .int .i64 vl] := VarA.step (VarA.new w _ _) b_
          have HB : Hid _ := (Below.newH (w := w) _).trans (b_.mono (by simp))
          clear b_
          obtain ⟨a0_, a1_, a2_, a3_, a4_, a5_, a6_, a7_, a8_, a9_⟩ := vA.l10
          go_wp2_with fail
          refine Calls.mono (HN.out _ HB.out) ?_
          rintro e w3 ⟨rfl, b_⟩
          have vA_ := vA.step b_
          have HB_ : Hid _ := HB.out.trans (b_.mono HB.out.size)
          clear vA HB b_ a0_ a1_ a2_ a3_ a4_ a5_ a6_ a7_ a8_ a9_
          have vA := vA_
          have HB := HB_
          clear vA_ HB_
          obtain ⟨a0_, a1_, a2_, a3_, a4_, a5_, a6_, a7_, a8_, a9_⟩ := vA.l10
          go_wp2_with fail
          refine Calls.mono (HT.out _ HB.out) ?_
          rintro e w4 ⟨rfl, b_⟩
          have vA_ := vA.step b_
          have HB_ : Hid _ := HB.out.trans (b_.mono HB.out.size)
          clear vA HB b_ a0_ a1_ a2_ a3_ a4_ a5_ a6_ a7_ a8_ a9_
          have vA := vA_
          have HB := HB_
          clear vA_ HB_
          obtain ⟨a0_, a1_, a2_, a3_, a4_, a5_, a6_, a7_, a8_, a9_⟩ := vA.l10
          go_wp2_with fail
          refine Calls.mono (HA.out _ HB.out) ?_
          rintro e w5 ⟨rfl, b_⟩
          have vA_ := vA.step b_
          have HB_ : Hid _ := HB.out.trans (b_.mono HB.out.size)
          clear vA HB b_ a0_ a1_ a2_ a3_ a4_ a5_ a6_ a7_ a8_ a9_
          have vA := vA_
          have HB := HB_
          clear vA_ HB_
          obtain ⟨a0_, a1_, a2_, a3_, a4_, a5_, a6_, a7_, a8_, a9_⟩ := vA.l10
          go_wp2
          go_ret
          exact ⟨by rw [← HRES.out]; simp [hk0, hk7], HB.out⟩
        | true =>
          cases bv with
          | false =>
            go_enter Try.func144, Try.ntmps144
            go_wp2_with fail
            refine Calls.mono (HH.out _) ?_
            rintro e w2 ⟨rfl, b_⟩
            have vA : VarA w2 w.heap.size 70 #[.int .i64 kd, .int .i64 p, .int .i64 q, .bool d, .slice a n0 cap, .int .i64 p2, .int .i64 q2, .bool d2, .slice a2 n1 cap2, .int .i64 vl] := VarA.step (VarA.new w _ _) b_
            have HB : Hid _ := (Below.newH (w := w) _).trans (b_.mono (by simp))
            clear b_
            obtain ⟨a0_, a1_, a2_, a3_, a4_, a5_, a6_, a7_, a8_, a9_⟩ := vA.l10
            go_wp2_with fail
            refine Calls.mono (HN.out _ HB.out) ?_
            rintro e w3 ⟨rfl, b_⟩
            have vA_ := vA.step b_
            have HB_ : Hid _ := HB.out.trans (b_.mono HB.out.size)
            clear vA HB b_ a0_ a1_ a2_ a3_ a4_ a5_ a6_ a7_ a8_ a9_
            have vA := vA_
            have HB := HB_
            clear vA_ HB_
            obtain ⟨a0_, a1_, a2_, a3_, a4_, a5_, a6_, a7_, a8_, a9_⟩ := vA.l10
            go_wp2_with fail
            refine Calls.mono (HT.out _ HB.out) ?_
            rintro e w4 ⟨rfl, b_⟩
            have vA_ := vA.step b_
            have HB_ : Hid _ := HB.out.trans (b_.mono HB.out.size)
            clear vA HB b_ a0_ a1_ a2_ a3_ a4_ a5_ a6_ a7_ a8_ a9_
            have vA := vA_
            have HB := HB_
            clear vA_ HB_
            obtain ⟨a0_, a1_, a2_, a3_, a4_, a5_, a6_, a7_, a8_, a9_⟩ := vA.l10
            go_wp2_with fail
            refine Calls.mono (HA.out _ HB.out) ?_
            rintro e w5 ⟨rfl, b_⟩
            have vA_ := vA.step b_
            have HB_ : Hid _ := HB.out.trans (b_.mono HB.out.size)
            clear vA HB b_ a0_ a1_ a2_ a3_ a4_ a5_ a6_ a7_ a8_ a9_
            have vA := vA_
            have HB := HB_
            clear vA_ HB_
            obtain ⟨a0_, a1_, a2_, a3_, a4_, a5_, a6_, a7_, a8_, a9_⟩ := vA.l10
            go_wp2_with fail
            refine Calls.mono (HV.out _ HB.out) ?_
            rintro e w6 ⟨rfl, b_⟩
            have vA_ := vA.step b_
            have HB_ : Hid _ := HB.out.trans (b_.mono HB.out.size)
            clear vA HB b_ a0_ a1_ a2_ a3_ a4_ a5_ a6_ a7_ a8_ a9_
            have vA := vA_
            have HB := HB_
            clear vA_ HB_
            obtain ⟨a0_, a1_, a2_, a3_, a4_, a5_, a6_, a7_, a8_, a9_⟩ := vA.l10
            go_wp2
            go_ret
            exact ⟨by rw [← HRES.out]; simp [hk0, hk7], HB.out⟩
          | true =>
            go_enter Try.func144, Try.ntmps144
            go_wp2_with fail
            refine Calls.mono (HH.out _) ?_
            rintro e w2 ⟨rfl, b_⟩
            have vA : VarA w2 w.heap.size 70 #[.int .i64 kd, .int .i64 p, .int .i64 q, .bool d, .slice a n0 cap, .int .i64 p2, .int .i64 q2, .bool d2, .slice a2 n1 cap2, .int .i64 vl] := VarA.step (VarA.new w _ _) b_
            have HB : Hid _ := (Below.newH (w := w) _).trans (b_.mono (by simp))
            clear b_
            obtain ⟨a0_, a1_, a2_, a3_, a4_, a5_, a6_, a7_, a8_, a9_⟩ := vA.l10
            go_wp2_with fail
            refine Calls.mono (HN.out _ HB.out) ?_
            rintro e w3 ⟨rfl, b_⟩
            have vA_ := vA.step b_
            have HB_ : Hid _ := HB.out.trans (b_.mono HB.out.size)
            clear vA HB b_ a0_ a1_ a2_ a3_ a4_ a5_ a6_ a7_ a8_ a9_
            have vA := vA_
            have HB := HB_
            clear vA_ HB_
            obtain ⟨a0_, a1_, a2_, a3_, a4_, a5_, a6_, a7_, a8_, a9_⟩ := vA.l10
            go_wp2_with fail
            refine Calls.mono (HT.out _ HB.out) ?_
            rintro e w4 ⟨rfl, b_⟩
            have vA_ := vA.step b_
            have HB_ : Hid _ := HB.out.trans (b_.mono HB.out.size)
            clear vA HB b_ a0_ a1_ a2_ a3_ a4_ a5_ a6_ a7_ a8_ a9_
            have vA := vA_
            have HB := HB_
            clear vA_ HB_
            obtain ⟨a0_, a1_, a2_, a3_, a4_, a5_, a6_, a7_, a8_, a9_⟩ := vA.l10
            go_wp2_with fail
            refine Calls.mono (HA.out _ HB.out) ?_
            rintro e w5 ⟨rfl, b_⟩
            have vA_ := vA.step b_
            have HB_ : Hid _ := HB.out.trans (b_.mono HB.out.size)
            clear vA HB b_ a0_ a1_ a2_ a3_ a4_ a5_ a6_ a7_ a8_ a9_
            have vA := vA_
            have HB := HB_
            clear vA_ HB_
            obtain ⟨a0_, a1_, a2_, a3_, a4_, a5_, a6_, a7_, a8_, a9_⟩ := vA.l10
            go_wp2_with fail
            refine Calls.mono (HV.out _ HB.out) ?_
            rintro e w6 ⟨rfl, b_⟩
            have vA_ := vA.step b_
            have HB_ : Hid _ := HB.out.trans (b_.mono HB.out.size)
            clear vA HB b_ a0_ a1_ a2_ a3_ a4_ a5_ a6_ a7_ a8_ a9_
            have vA := vA_
            have HB := HB_
            clear vA_ HB_
            obtain ⟨a0_, a1_, a2_, a3_, a4_, a5_, a6_, a7_, a8_, a9_⟩ := vA.l10
            go_wp2
            go_ret
            exact ⟨by rw [← HRES.out]; simp [hk0, hk7], HB.out⟩
end Go.Proofs.Ytaaongjnpnanmaa
end

section
/- May a reply be? By the specification and by the program. Condition: no more than 2^21 of all. -/
namespace Go.Proofs.Ytaaongjnpnanmaa
open Go.RowKit
set_option linter.unusedVariables false
set_option linter.unusedSimpArgs false
set_option maxRecDepth 100000

theorem range_all_nextW (f : Nat → Bool) (k : Nat) (h : (List.range k).all f = true) (hk : f k = true) : (List.range (k + 1)).all f = true := by rw [List.range_succ, List.all_append, h]; simp [hk]
theorem range_all_falseW (f : Nat → Bool) (n k : Nat) (hk : k < n) (h : f k = false) : (List.range n).all f = false := by
  rw [Bool.eq_false_iff]; intro ha; rw [List.all_eq_true] at ha; have := ha k (by simpa using hk); rw [h] at this; cases this
def enOk (e : En) : Bool := isNm e.nm && HOk e.h
def enOkAt (l : List En) (i : Nat) : Bool := enOk (l[i]?.getD en0)
def noneOk (h : Hd) : Bool := decide (h = hd0) || HOk h
def ROk (r : RpD) : Bool := ((decide (0 ≤ r.code) && decide (r.code ≤ 11)) && (num r.val && (noneOk r.h && decide (r.list.length ≤ 12)))) && (List.range r.list.length).all (enOkAt r.list)
theorem specNum_w (n : Int) (w : World) : Calls Try.prog 53 #[.int .i64 n] w fun e w' => e = .returned (.bool (num n)) ∧ w' = w := by
  go_enter Try.func53, Try.ntmps53
  go_wp2
  all_goals (go_ret; exact ⟨by first | rfl | (simp_all [num]; done) | (simp_all [num]; omega), rfl⟩)
theorem implCode_w (n : Int) (w : World) : Calls Try.prog 67 #[.int .i64 n] w fun e w' => e = .returned (.bool (decide (0 ≤ n) && decide (n ≤ 11))) ∧ w' = w := by
  go_enter Try.func67, Try.ntmps67
  go_wp2
  all_goals (go_ret; exact ⟨by first | rfl | (simp_all; done) | (simp_all; omega), rfl⟩)
set_option maxHeartbeats 1000000 in
theorem implNone_any (h : Hd) (w : World) : Calls Try.prog 68 #[h.v] w fun e w' => e = .returned (.bool (noneOk h)) ∧ Below w.heap.size w w' := by
  obtain ⟨p, q, d⟩ := h
  have HH : Hid (∀ (p q : Int) (d : Bool) (W : World), Calls Try.prog 61 #[.agg #[.int .i64 p, .int .i64 q, .bool d]] W fun e w' => e = .returned (.bool (HOk (p, q, d))) ∧ w' = W.alloc (.cells #[.int .i64 p, .int .i64 q, .bool d] 46)) := fun p q d W => implHandleOk_w (p, q, d) W
  obtain ⟨res, hres⟩ : ∃ res, noneOk (p, q, d) = res := ⟨_, rfl⟩
  rw [hres]
  have HRES : Hid _ := hres
  clear hres
  go_enter Try.func68, Try.ntmps68
  go_wp2_with (go_at_call 61; refine Calls.mono (HH.out _ _ _ _) ?_; rintro e w' ⟨rfl, rfl⟩)
  all_goals (clear HH; go_ret; refine ⟨?_, by repeat (first | exact Below.refl _ _ | refine Below.al ?_ _ | refine below_drewN2 ?_ _)⟩; rw [← HRES.out]; clear HRES; first | rfl | (simp_all [noneOk, hd0, Hd.sh, Hd.ino, Hd.dir]; done) | (simp_all [noneOk, hd0, Hd.sh, Hd.ino, Hd.dir]; omega))
set_option maxHeartbeats 4000000 in
theorem specReplyOk_any (x : Value) (o : RpD) (S : Nat → Prop) (w : World) (r : RdV w S x (ensDt o.list)) (hl : szEns o.list ≤ 2097152) :
    Calls Try.prog 23 #[rpV o x] w fun e w' => e = .returned (.bool (ROk o)) ∧ Below w.heap.size w w' := by
  obtain ⟨a, cap, rfl, _⟩ := RdV.sliced r
  obtain ⟨rc, ⟨p, q, d⟩, rv, es⟩ := o
  dsimp only at r hl ⊢
  have HR2 : Hid (∀ W, Below w.heap.size w W → RdV W S (.slice a es.length cap) (.rows 89 4 es.length (fun i j => enCell (es[i]?.getD en0) j))) := RdV.old r
  have hmm : es.length ≤ 2097152 := by unfold szEns at hl; omega
  have HL : Hid _ := hl
  have HH : Hid (∀ (p q : Int) (d : Bool) (W : World), Calls Try.prog 57 #[.agg #[.int .i64 p, .int .i64 q, .bool d]] W fun e w' => e = .returned (.bool (HOk (p, q, d))) ∧ w' = W.alloc (.cells #[.int .i64 p, .int .i64 q, .bool d] 46)) := fun p q d W => specHandleOk_w (p, q, d) W
  have HU : Hid (∀ (n : Int) (W : World), Calls Try.prog 53 #[.int .i64 n] W fun e w' => e = .returned (.bool (num n)) ∧ w' = W) := fun n W => specNum_w n W
  obtain ⟨m, hm⟩ : ∃ m, es.length = m := ⟨_, rfl⟩
  obtain ⟨res, hres⟩ : ∃ res, ROk ⟨rc, (p, q, d), rv, es⟩ = res := ⟨_, rfl⟩
  rw [hres]
  simp only [ROk] at hres
  rw [hm] at HR2 hmm hres ⊢
  have HRES : Hid _ := hres
  clear r hl hm hres
  by_cases hA : (0 ≤ rc ∧ rc ≤ 11) ∧ (num rv = true ∧ noneOk (p, q, d) = true ∧ m ≤ 12)
  case neg =>
    have HF : Hid (res = false) := by
      rw [← HRES.out]
      show _ = _
      rw [Bool.eq_false_iff]
      intro h
      rw [Bool.and_eq_true] at h
      have h1 := h.1
      simp only [Bool.and_eq_true, decide_eq_true_eq] at h1
      exact hA h1
    rw [HF.out]
    clear HR2 HRES HF HL
    go_enter Try.func23, Try.ntmps23
    go_wp2_with (first | (go_at_call 53; refine Calls.mono (HU.out _ _) ?_; rintro e w' ⟨rfl, rfl⟩) | (go_at_call 57; refine Calls.mono (HH.out _ _ _ _) ?_; rintro e w' ⟨rfl, rfl⟩))
    all_goals first | (go_ret; exact ⟨rfl, by repeat (first | exact Below.refl _ _ | refine Below.al ?_ _ | refine below_drewN2 ?_ _)⟩) | (exfalso; apply hA; simp_all [noneOk, hd0, Hd.sh, Hd.ino, Hd.dir]; done) | (exfalso; apply hA; simp_all [noneOk, hd0, Hd.sh, Hd.ino, Hd.dir]; omega)
  obtain ⟨⟨h1, h2⟩, h3, h4, h5⟩ := hA
  have HRES2 : Hid ((List.range m).all (enOkAt es) = res) := by
    rw [← HRES.out]; show _ = _; simp [h1, h2, h3, h4, h5]
  rw [← HRES2.out]
  clear HRES HRES2 res
  by_cases hz : (p, q, d) = hd0
  · simp only [hd0, Prod.mk.injEq] at hz
    obtain ⟨rfl, rfl, rfl⟩ := hz
    clear h4
    go_enter Try.func23, Try.ntmps23
    go_wp2_with (first | (go_at_call 53; refine Calls.mono (HU.out _ _) ?_; rintro e w' ⟨rfl, rfl⟩) | (go_at_call 57; refine Calls.mono (HH.out _ _ _ _) ?_; rintro e w' ⟨rfl, rfl⟩))
    go_loopw [3] (fun i wr => ∃ k : Nat, k ≤ m ∧ i = .int .i64 k ∧ Below w.heap.size w wr ∧ VarA wr w.heap.size 59 #[.int .i64 rc, .int .i64 0, .int .i64 0, .bool false, .int .i64 rv, .slice a m cap] ∧ Hid ((List.range k).all (enOkAt es) = true)) (fun i _ => m - (intOf i).toNat)
    case atStart => exact ⟨0, Nat.zero_le _, rfl, (by repeat (first | exact Below.refl _ _ | refine Below.al ?_ _ | refine below_drewN2 ?_ _)), VarA.new w _ _, by show _ = _; simp⟩
    case round =>
      obtain ⟨k, hk, rfl, hbel, vA, HA⟩ := hrel
      obtain ⟨a0_, a1_, a2_, a3_, a4_, a5_⟩ := vA.l6
      have hvl_ := vA.lt
      by_cases hlt : k < m
      case neg =>
        have he : k = m := by omega
        subst he
        go_wp2
        go_ret
        exact ⟨by rw [HA.out]; rfl, hbel⟩
      obtain ⟨b, off, rfl, hbl, _, hx⟩ := RdV.at (HR2.out wr hbel) hlt
      obtain ⟨e, he⟩ : ∃ e, es[k]?.getD en0 = e := ⟨_, rfl⟩
      obtain ⟨x0, c0, r0⟩ := hx 0 (by omega)
      obtain ⟨x1, c1, r1⟩ := hx 1 (by omega)
      obtain ⟨x2, c2, r2⟩ := hx 2 (by omega)
      obtain ⟨x3, c3, r3⟩ := hx 3 (by omega)
      rw [he] at r0 r1 r2 r3
      have HZ : Hid (e.nm.length ≤ 2097152) := by have h1 := szEns_at es k; rw [he] at h1; have h2 := HL.out; show _ ≤ _; omega
      have HAT : Hid (enOkAt es k = (isNm e.nm && HOk e.h)) := by show _ = _; unfold enOkAt enOk; rw [he]
      clear hx he
      obtain ⟨nm, ⟨s, ino, dd⟩⟩ := e
      obtain rfl : x1 = .int .i64 s := r1
      obtain rfl : x2 = .int .i64 ino := r2
      obtain rfl : x3 = .bool dd := r3
      simp only [Nat.add_zero] at c0
      dsimp only at HAT
      have RB : Hid (RdV wr S x0 (.bytes nm)) := r0
      clear r0
      have HNM : Hid (∀ W, Below wr.heap.size wr W → _) := fun W hW => specName_any x0 nm S W (RdV.step RB.out hW) HZ.out
      have HHO : Hid (∀ W, _) := fun W => specHandleOk_w (s, ino, dd) W
      obtain ⟨xa, xc, rfl⟩ := RdV.sliceB RB.out
      clear RB HZ
      generalize nm.length = xn at *
      generalize isNm nm = bn at HNM HAT
      generalize HOk (s, ino, dd) = bh at HHO HAT
      cases bn with
      | false =>
        have HF : Hid ((List.range m).all (enOkAt es) = false) := range_all_falseW _ _ k hlt (by rw [HAT.out]; rfl)
        go_wp2_with (first | (go_at_call 58; refine Calls.mono (HNM.out _ (by repeat (first | exact Below.refl _ _ | refine Below.al ?_ _ | refine below_drewN2 ?_ _))) ?_; rintro e w' ⟨rfl, rfl⟩) | (go_at_call 57; refine Calls.mono (HHO.out _) ?_; rintro e w' ⟨rfl, rfl⟩))
        go_ret
        exact ⟨by rw [HF.out]; rfl, hbel.trans (Below.mono (by repeat (first | exact Below.refl _ _ | refine Below.al ?_ _ | refine below_drewN2 ?_ _)) hbel.size)⟩
      | true =>
      cases bh with
      | false =>
        have HF : Hid ((List.range m).all (enOkAt es) = false) := range_all_falseW _ _ k hlt (by rw [HAT.out]; rfl)
        go_wp2_with (first | (go_at_call 58; refine Calls.mono (HNM.out _ (by repeat (first | exact Below.refl _ _ | refine Below.al ?_ _ | refine below_drewN2 ?_ _))) ?_; rintro e w' ⟨rfl, rfl⟩) | (go_at_call 57; refine Calls.mono (HHO.out _) ?_; rintro e w' ⟨rfl, rfl⟩))
        go_ret
        exact ⟨by rw [HF.out]; rfl, hbel.trans (Below.mono (by repeat (first | exact Below.refl _ _ | refine Below.al ?_ _ | refine below_drewN2 ?_ _)) hbel.size)⟩
      | true =>
        have HF : Hid ((List.range (k + 1)).all (enOkAt es) = true) := range_all_nextW _ _ HA.out (by rw [HAT.out]; rfl)
        go_wp2_with (first | (go_at_call 58; refine Calls.mono (HNM.out _ (by repeat (first | exact Below.refl _ _ | refine Below.al ?_ _ | refine below_drewN2 ?_ _))) ?_; rintro e w' ⟨rfl, rfl⟩) | (go_at_call 57; refine Calls.mono (HHO.out _) ?_; rintro e w' ⟨rfl, rfl⟩))
        go_roundw
        case rel => exact ⟨k + 1, by omega, by go_num, hbel.trans (Below.mono (by repeat (first | exact Below.refl _ _ | refine Below.al ?_ _ | refine below_drewN2 ?_ _)) hbel.size), vA.step (by repeat (first | exact Below.refl _ _ | refine Below.al ?_ _ | refine below_drewN2 ?_ _)), HF⟩
        case measure => simp [intOf]; omega
  · have h6 : HOk (p, q, d) = true := by simpa [noneOk, hz] using h4
    have hz2 : ¬ (p = 0 ∧ q = 0 ∧ d = false) := by simpa [hd0] using hz
    clear h4 hz
    have hE := fun W => neH_run p q 0 0 d false W
    rw [decide_eq_false hz2] at hE
    go_enter Try.func23, Try.ntmps23
    go_wp2_with (first | (go_at_call 53; refine Calls.mono (HU.out _ _) ?_; rintro e w' ⟨rfl, rfl⟩) | (go_at_call 57; refine Calls.mono (HH.out _ _ _ _) ?_; rintro e w' ⟨rfl, rfl⟩))
    all_goals first | (exfalso; apply hz2; simp_all; done) | skip
    go_loopw [3] (fun i wr => ∃ k : Nat, k ≤ m ∧ i = .int .i64 k ∧ Below w.heap.size w wr ∧ VarA wr w.heap.size 59 #[.int .i64 rc, .int .i64 p, .int .i64 q, .bool d, .int .i64 rv, .slice a m cap] ∧ Hid ((List.range k).all (enOkAt es) = true)) (fun i _ => m - (intOf i).toNat)
    case atStart => exact ⟨0, Nat.zero_le _, rfl, (by repeat (first | exact Below.refl _ _ | refine Below.al ?_ _ | refine below_drewN2 ?_ _)), (VarA.new w _ _).alloc _, by show _ = _; simp⟩
    case round =>
      obtain ⟨k, hk, rfl, hbel, vA, HA⟩ := hrel
      obtain ⟨a0_, a1_, a2_, a3_, a4_, a5_⟩ := vA.l6
      have hvl_ := vA.lt
      by_cases hlt : k < m
      case neg =>
        have he : k = m := by omega
        subst he
        go_wp2
        go_ret
        exact ⟨by rw [HA.out]; rfl, hbel⟩
      obtain ⟨b, off, rfl, hbl, _, hx⟩ := RdV.at (HR2.out wr hbel) hlt
      obtain ⟨e, he⟩ : ∃ e, es[k]?.getD en0 = e := ⟨_, rfl⟩
      obtain ⟨x0, c0, r0⟩ := hx 0 (by omega)
      obtain ⟨x1, c1, r1⟩ := hx 1 (by omega)
      obtain ⟨x2, c2, r2⟩ := hx 2 (by omega)
      obtain ⟨x3, c3, r3⟩ := hx 3 (by omega)
      rw [he] at r0 r1 r2 r3
      have HZ : Hid (e.nm.length ≤ 2097152) := by have h1 := szEns_at es k; rw [he] at h1; have h2 := HL.out; show _ ≤ _; omega
      have HAT : Hid (enOkAt es k = (isNm e.nm && HOk e.h)) := by show _ = _; unfold enOkAt enOk; rw [he]
      clear hx he
      obtain ⟨nm, ⟨s, ino, dd⟩⟩ := e
      obtain rfl : x1 = .int .i64 s := r1
      obtain rfl : x2 = .int .i64 ino := r2
      obtain rfl : x3 = .bool dd := r3
      simp only [Nat.add_zero] at c0
      dsimp only at HAT
      have RB : Hid (RdV wr S x0 (.bytes nm)) := r0
      clear r0
      have HNM : Hid (∀ W, Below wr.heap.size wr W → _) := fun W hW => specName_any x0 nm S W (RdV.step RB.out hW) HZ.out
      have HHO : Hid (∀ W, _) := fun W => specHandleOk_w (s, ino, dd) W
      obtain ⟨xa, xc, rfl⟩ := RdV.sliceB RB.out
      clear RB HZ
      generalize nm.length = xn at *
      generalize isNm nm = bn at HNM HAT
      generalize HOk (s, ino, dd) = bh at HHO HAT
      cases bn with
      | false =>
        have HF : Hid ((List.range m).all (enOkAt es) = false) := range_all_falseW _ _ k hlt (by rw [HAT.out]; rfl)
        go_wp2_with (first | (go_at_call 58; refine Calls.mono (HNM.out _ (by repeat (first | exact Below.refl _ _ | refine Below.al ?_ _ | refine below_drewN2 ?_ _))) ?_; rintro e w' ⟨rfl, rfl⟩) | (go_at_call 57; refine Calls.mono (HHO.out _) ?_; rintro e w' ⟨rfl, rfl⟩))
        go_ret
        exact ⟨by rw [HF.out]; rfl, hbel.trans (Below.mono (by repeat (first | exact Below.refl _ _ | refine Below.al ?_ _ | refine below_drewN2 ?_ _)) hbel.size)⟩
      | true =>
      cases bh with
      | false =>
        have HF : Hid ((List.range m).all (enOkAt es) = false) := range_all_falseW _ _ k hlt (by rw [HAT.out]; rfl)
        go_wp2_with (first | (go_at_call 58; refine Calls.mono (HNM.out _ (by repeat (first | exact Below.refl _ _ | refine Below.al ?_ _ | refine below_drewN2 ?_ _))) ?_; rintro e w' ⟨rfl, rfl⟩) | (go_at_call 57; refine Calls.mono (HHO.out _) ?_; rintro e w' ⟨rfl, rfl⟩))
        go_ret
        exact ⟨by rw [HF.out]; rfl, hbel.trans (Below.mono (by repeat (first | exact Below.refl _ _ | refine Below.al ?_ _ | refine below_drewN2 ?_ _)) hbel.size)⟩
      | true =>
        have HF : Hid ((List.range (k + 1)).all (enOkAt es) = true) := range_all_nextW _ _ HA.out (by rw [HAT.out]; rfl)
        go_wp2_with (first | (go_at_call 58; refine Calls.mono (HNM.out _ (by repeat (first | exact Below.refl _ _ | refine Below.al ?_ _ | refine below_drewN2 ?_ _))) ?_; rintro e w' ⟨rfl, rfl⟩) | (go_at_call 57; refine Calls.mono (HHO.out _) ?_; rintro e w' ⟨rfl, rfl⟩))
        go_roundw
        case rel => exact ⟨k + 1, by omega, by go_num, hbel.trans (Below.mono (by repeat (first | exact Below.refl _ _ | refine Below.al ?_ _ | refine below_drewN2 ?_ _)) hbel.size), vA.step (by repeat (first | exact Below.refl _ _ | refine Below.al ?_ _ | refine below_drewN2 ?_ _)), HF⟩
        case measure => simp [intOf]; omega
set_option maxHeartbeats 4000000 in
theorem implReplyOk_any (x : Value) (o : RpD) (S : Nat → Prop) (w : World) (r : RdV w S x (ensDt o.list)) (hl : szEns o.list ≤ 2097152) :
    Calls Try.prog 25 #[rpV o x] w fun e w' => e = .returned (.bool (ROk o)) ∧ Below w.heap.size w w' := by
  obtain ⟨a, cap, rfl, _⟩ := RdV.sliced r
  obtain ⟨rc, ⟨p, q, d⟩, rv, es⟩ := o
  dsimp only at r hl ⊢
  have HR2 : Hid (∀ W, Below w.heap.size w W → RdV W S (.slice a es.length cap) (.rows 89 4 es.length (fun i j => enCell (es[i]?.getD en0) j))) := RdV.old r
  have hmm : es.length ≤ 2097152 := by unfold szEns at hl; omega
  have HL : Hid _ := hl
  have HH : Hid (∀ (p q : Int) (d : Bool) (W : World), Calls Try.prog 61 #[.agg #[.int .i64 p, .int .i64 q, .bool d]] W fun e w' => e = .returned (.bool (HOk (p, q, d))) ∧ w' = W.alloc (.cells #[.int .i64 p, .int .i64 q, .bool d] 46)) := fun p q d W => implHandleOk_w (p, q, d) W
  have HU : Hid (∀ (n : Int) (W : World), Calls Try.prog 55 #[.int .i64 n] W fun e w' => e = .returned (.bool (num n)) ∧ w' = W) := fun n W => isNumber_any n W
  have HC : Hid (∀ (n : Int) (W : World), Calls Try.prog 67 #[.int .i64 n] W fun e w' => e = .returned (.bool (decide (0 ≤ n) && decide (n ≤ 11))) ∧ w' = W) := fun n W => implCode_w n W
  have HN1 : Hid (∀ (W : World), Calls Try.prog 68 #[.agg #[.int .i64 p, .int .i64 q, .bool d]] W fun e w' => e = .returned (.bool (noneOk (p, q, d))) ∧ Below W.heap.size W w') := fun W => implNone_any (p, q, d) W
  obtain ⟨m, hm⟩ : ∃ m, es.length = m := ⟨_, rfl⟩
  obtain ⟨res, hres⟩ : ∃ res, ROk ⟨rc, (p, q, d), rv, es⟩ = res := ⟨_, rfl⟩
  rw [hres]
  simp only [ROk] at hres
  rw [hm] at HR2 hmm hres ⊢
  have HRES : Hid _ := hres
  clear r hl hm hres
  by_cases hA : (0 ≤ rc ∧ rc ≤ 11) ∧ (num rv = true ∧ noneOk (p, q, d) = true ∧ m ≤ 12)
  case neg =>
    have HF : Hid (res = false) := by
      rw [← HRES.out]
      show _ = _
      rw [Bool.eq_false_iff]
      intro h
      rw [Bool.and_eq_true] at h
      have h1 := h.1
      simp only [Bool.and_eq_true, decide_eq_true_eq] at h1
      exact hA h1
    rw [HF.out]
    clear HR2 HRES HF HL
    by_cases hA1 : (0 ≤ rc ∧ rc ≤ 11) ∧ num rv = true
    case neg =>
      go_enter Try.func25, Try.ntmps25
      go_wp2_with (first | (go_at_call 67; refine Calls.mono (HC.out _ _) ?_; rintro e w' ⟨rfl, rfl⟩) | (go_at_call 55; refine Calls.mono (HU.out _ _) ?_; rintro e w' ⟨rfl, rfl⟩))
      all_goals first | (go_ret; exact ⟨rfl, by repeat (first | exact Below.refl _ _ | refine Below.al ?_ _ | refine below_drewN2 ?_ _)⟩) | (exfalso; apply hA1; simp_all; done) | (exfalso; apply hA1; simp_all; omega)
    obtain ⟨⟨h1, h2⟩, h3⟩ := hA1
    have hA2 : ¬ (noneOk (p, q, d) = true ∧ m ≤ 12) := fun h => hA ⟨⟨h1, h2⟩, h3, h⟩
    clear hA
    go_enter Try.func25, Try.ntmps25
    go_wp2_with (first | (go_at_call 67; refine Calls.mono (HC.out _ _) ?_; rintro e w' ⟨rfl, rfl⟩) | (go_at_call 55; refine Calls.mono (HU.out _ _) ?_; rintro e w' ⟨rfl, rfl⟩))
    refine Calls.mono (HN1.out _) ?_
    rintro e w2 ⟨rfl, b_⟩
    have vA := VarA.step (VarA.new w _ _) b_
    have hB := (Below.newH (w := w) _).trans (b_.mono (by simp))
    clear b_
    obtain ⟨a0_, a1_, a2_, a3_, a4_, a5_⟩ := vA.l6
    go_wp2
    all_goals first | (go_ret; exact ⟨rfl, hB⟩) | (exfalso; apply hA2; simp_all; done) | (exfalso; apply hA2; simp_all; omega)
  obtain ⟨⟨h1, h2⟩, h3, h4, h5⟩ := hA
  have HRES2 : Hid ((List.range m).all (enOkAt es) = res) := by
    rw [← HRES.out]; show _ = _; simp [h1, h2, h3, h4, h5]
  rw [← HRES2.out]
  clear HRES HRES2 res
  go_enter Try.func25, Try.ntmps25
  go_wp2_with (first | (go_at_call 67; refine Calls.mono (HC.out _ _) ?_; rintro e w' ⟨rfl, rfl⟩) | (go_at_call 55; refine Calls.mono (HU.out _ _) ?_; rintro e w' ⟨rfl, rfl⟩))
  refine Calls.mono (HN1.out _) ?_
  rintro e w2 ⟨rfl, b_⟩
  have vA := VarA.step (VarA.new w _ _) b_
  have hB := (Below.newH (w := w) _).trans (b_.mono (by simp))
  clear b_
  obtain ⟨a0_, a1_, a2_, a3_, a4_, a5_⟩ := vA.l6
  go_wp2
  clear a0_ a1_ a2_ a3_ a4_ a5_
  go_loopw [30] (fun i wr => ∃ k : Nat, k ≤ m ∧ i = .int .i64 k ∧ Below w.heap.size w wr ∧ VarA wr w.heap.size 59 #[.int .i64 rc, .int .i64 p, .int .i64 q, .bool d, .int .i64 rv, .slice a m cap] ∧ Hid ((List.range k).all (enOkAt es) = true)) (fun i _ => m - (intOf i).toNat)
  case atStart => exact ⟨0, Nat.zero_le _, rfl, hB, vA, by show _ = _; simp⟩
  case round =>
    obtain ⟨k, hk, rfl, hbel, vA, HA⟩ := hrel
    obtain ⟨a0_, a1_, a2_, a3_, a4_, a5_⟩ := vA.l6
    have hvl_ := vA.lt
    by_cases hlt : k < m
    case neg =>
      have he : k = m := by omega
      subst he
      go_wp2
      go_ret
      exact ⟨by rw [HA.out]; rfl, hbel⟩
    obtain ⟨b, off, rfl, hbl, _, hx⟩ := RdV.at (HR2.out wr hbel) hlt
    obtain ⟨e, he⟩ : ∃ e, es[k]?.getD en0 = e := ⟨_, rfl⟩
    obtain ⟨x0, c0, r0⟩ := hx 0 (by omega)
    obtain ⟨x1, c1, r1⟩ := hx 1 (by omega)
    obtain ⟨x2, c2, r2⟩ := hx 2 (by omega)
    obtain ⟨x3, c3, r3⟩ := hx 3 (by omega)
    rw [he] at r0 r1 r2 r3
    have HZ : Hid (e.nm.length ≤ 2097152) := by have h1 := szEns_at es k; rw [he] at h1; have h2 := HL.out; show _ ≤ _; omega
    have HAT : Hid (enOkAt es k = (isNm e.nm && HOk e.h)) := by show _ = _; unfold enOkAt enOk; rw [he]
    clear hx he
    obtain ⟨nm, ⟨s, ino, dd⟩⟩ := e
    obtain rfl : x1 = .int .i64 s := r1
    obtain rfl : x2 = .int .i64 ino := r2
    obtain rfl : x3 = .bool dd := r3
    simp only [Nat.add_zero] at c0
    dsimp only at HAT
    have RB : Hid (RdV wr S x0 (.bytes nm)) := r0
    clear r0
    have HNM : Hid (∀ W, Below wr.heap.size wr W → _) := fun W hW => implName_any x0 nm S W (RdV.step RB.out hW) HZ.out
    have HHO : Hid (∀ W, _) := fun W => implHandleOk_w (s, ino, dd) W
    obtain ⟨xa, xc, rfl⟩ := RdV.sliceB RB.out
    clear RB HZ
    generalize nm.length = xn at *
    generalize isNm nm = bn at HNM HAT
    generalize HOk (s, ino, dd) = bh at HHO HAT
    cases bn with
    | false =>
      have HF : Hid ((List.range m).all (enOkAt es) = false) := range_all_falseW _ _ k hlt (by rw [HAT.out]; rfl)
      go_wp2_with (first | (go_at_call 63; refine Calls.mono (HNM.out _ (by repeat (first | exact Below.refl _ _ | refine Below.al ?_ _ | refine below_drewN2 ?_ _))) ?_; rintro e w' ⟨rfl, rfl⟩) | (go_at_call 61; refine Calls.mono (HHO.out _) ?_; rintro e w' ⟨rfl, rfl⟩))
      go_ret
      exact ⟨by rw [HF.out]; rfl, hbel.trans (Below.mono (by repeat (first | exact Below.refl _ _ | refine Below.al ?_ _ | refine below_drewN2 ?_ _)) hbel.size)⟩
    | true =>
    cases bh with
    | false =>
      have HF : Hid ((List.range m).all (enOkAt es) = false) := range_all_falseW _ _ k hlt (by rw [HAT.out]; rfl)
      go_wp2_with (first | (go_at_call 63; refine Calls.mono (HNM.out _ (by repeat (first | exact Below.refl _ _ | refine Below.al ?_ _ | refine below_drewN2 ?_ _))) ?_; rintro e w' ⟨rfl, rfl⟩) | (go_at_call 61; refine Calls.mono (HHO.out _) ?_; rintro e w' ⟨rfl, rfl⟩))
      go_ret
      exact ⟨by rw [HF.out]; rfl, hbel.trans (Below.mono (by repeat (first | exact Below.refl _ _ | refine Below.al ?_ _ | refine below_drewN2 ?_ _)) hbel.size)⟩
    | true =>
      have HF : Hid ((List.range (k + 1)).all (enOkAt es) = true) := range_all_nextW _ _ HA.out (by rw [HAT.out]; rfl)
      go_wp2_with (first | (go_at_call 63; refine Calls.mono (HNM.out _ (by repeat (first | exact Below.refl _ _ | refine Below.al ?_ _ | refine below_drewN2 ?_ _))) ?_; rintro e w' ⟨rfl, rfl⟩) | (go_at_call 61; refine Calls.mono (HHO.out _) ?_; rintro e w' ⟨rfl, rfl⟩))
      go_roundw
      case rel => exact ⟨k + 1, by omega, by go_num, hbel.trans (Below.mono (by repeat (first | exact Below.refl _ _ | refine Below.al ?_ _ | refine below_drewN2 ?_ _)) hbel.size), vA.step (by repeat (first | exact Below.refl _ _ | refine Below.al ?_ _ | refine below_drewN2 ?_ _)), HF⟩
      case measure => simp [intOf]; omega
end Go.Proofs.Ytaaongjnpnanmaa
end

section
/- May a message be? As data; and what must be zero, by the specification. No condition. -/
namespace Go.Proofs.Ytaaongjnpnanmaa
open Go.RowKit
set_option linter.unusedVariables false
set_option linter.unusedSimpArgs false
set_option maxRecDepth 100000

def isEndB (n : Int) : Bool := decide (0 ≤ n) && decide (n < 8)
def isCd (n : Int) : Bool := decide (0 ≤ n) && decide (n ≤ 11)
def zOp (o : OpD) : Bool := decide (o.kind = 0) && (decide (o.dir = hd0) && (decide (o.nm.length = 0) && (decide (o.to = hd0) && (decide (o.asn.length = 0) && decide (o.val = 0)))))
def zRp (r : RpD) : Bool := decide (r.code = 0) && (decide (r.h = hd0) && (decide (r.val = 0) && decide (r.list.length = 0)))
def zPt (p : PtD) : Bool := decide (p.kind = 0) && (decide (p.h = hd0) && (decide (p.asn.length = 0) && decide (p.to = hd0)))
def zTx (t : TxD) : Bool := decide (t = tx0)
def MBody (m : MsD) : Bool :=
  if m.kind = 0 then (num m.req && OOk m.op) && (zRp m.rp && (zTx m.tx && (zPt m.pt && (decide (m.code = 0) && decide (m.h = hd0)))))
  else if m.kind = 1 then (num m.req && ROk m.rp) && (zOp m.op && (zTx m.tx && (zPt m.pt && (decide (m.code = 0) && decide (m.h = hd0)))))
  else if m.kind = 2 then (TOk m.tx && POk m.pt) && (decide (m.req = 0) && (zOp m.op && (zRp m.rp && (decide (m.code = 0) && decide (m.h = hd0)))))
  else if m.kind = 3 then (TOk m.tx && (POk m.pt && (isCd m.code && noneOk m.h))) && (decide (m.req = 0) && (zOp m.op && zRp m.rp))
  else if m.kind = 4 then TOk m.tx && (decide (m.req = 0) && (zOp m.op && (zRp m.rp && (zPt m.pt && (decide (m.code = 0) && decide (m.h = hd0))))))
  else if m.kind = 5 then (TOk m.tx && (decide (m.code = 0) || decide (m.code = 1))) && (decide (m.req = 0) && (zOp m.op && (zRp m.rp && (zPt m.pt && decide (m.h = hd0)))))
  else if m.kind = 6 then (TOk m.tx && (num m.req && (HOk m.h && m.h.dir))) && (zOp m.op && (zRp m.rp && (zPt m.pt && decide (m.code = 0))))
  else (TOk m.tx && (num m.req && (isCd m.code && noneOk m.h))) && (zOp m.op && (zRp m.rp && zPt m.pt))
def MOk (m : MsD) : Bool := (decide (0 ≤ m.kind) && decide (m.kind ≤ 7)) && ((isEndB m.fr && isEndB m.to) && MBody m)
theorem zOp_not {o : OpD} (h : zOp o = true) : OOk o = false := by
  simp only [zOp, Bool.and_eq_true, decide_eq_true_eq] at h
  have h1 : HOk o.dir = false := by rw [h.2.1]; decide
  simp [OOk, h1]
theorem specNode_w (n : Int) (w : World) : Calls Try.prog 71 #[.int .i64 n] w fun e w' => e = .returned (.bool (isEndB n)) ∧ w' = w := by
  go_enter Try.func71, Try.ntmps71
  go_wp2
  all_goals (go_ret; exact ⟨by first | rfl | (simp_all [isEndB]; done) | (simp_all [isEndB]; omega), rfl⟩)
set_option maxHeartbeats 2000000 in
theorem specZOp_any (x y : Value) (o : OpD) (S : Nat → Prop) (w : World) (r : RdV w S x (.bytes o.nm)) (r2 : RdV w S y (.bytes o.asn)) :
    Calls Try.prog 73 #[opV o x y] w fun e w' => e = .returned (.bool (zOp o)) ∧ Below w.heap.size w w' := by
  obtain ⟨a, cap, rfl⟩ := r.sliceB
  obtain ⟨a2, cap2, rfl⟩ := r2.sliceB
  obtain ⟨kd, ⟨p, q, d⟩, nm, ⟨p2, q2, d2⟩, asn, vl⟩ := o
  clear r r2
  simp only [zOp]
  generalize nm.length = n0 at *
  generalize asn.length = n1 at *
  go_enter Try.func73, Try.ntmps73
  go_wp2
  all_goals (go_ret; refine ⟨?_, by repeat (first | exact Below.refl _ _ | refine Below.al ?_ _ | refine below_drewN2 ?_ _)⟩; first | rfl | (simp_all [hd0, Hd.sh, Hd.ino, Hd.dir]; done) | (simp_all [hd0, Hd.sh, Hd.ino, Hd.dir]; omega) | (simp_all [hd0, Hd.sh, Hd.ino, Hd.dir]; rw [Bool.eq_iff_iff]; simp; done))
set_option maxHeartbeats 2000000 in
theorem specZPt_any (x : Value) (o : PtD) (S : Nat → Prop) (w : World) (r : RdV w S x (.bytes o.asn)) :
    Calls Try.prog 75 #[ptV o x] w fun e w' => e = .returned (.bool (zPt o)) ∧ Below w.heap.size w w' := by
  obtain ⟨a, cap, rfl⟩ := r.sliceB
  obtain ⟨kd, ⟨p, q, d⟩, nm, ⟨p2, q2, d2⟩⟩ := o
  clear r
  simp only [zPt]
  generalize nm.length = n0 at *
  go_enter Try.func75, Try.ntmps75
  go_wp2
  all_goals (go_ret; refine ⟨?_, by repeat (first | exact Below.refl _ _ | refine Below.al ?_ _ | refine below_drewN2 ?_ _)⟩; first | rfl | (simp_all [hd0, Hd.sh, Hd.ino, Hd.dir]; done) | (simp_all [hd0, Hd.sh, Hd.ino, Hd.dir]; omega) | (simp_all [hd0, Hd.sh, Hd.ino, Hd.dir]; rw [Bool.eq_iff_iff]; simp; done))
set_option maxHeartbeats 2000000 in
theorem specZRp_any (x : Value) (o : RpD) (S : Nat → Prop) (w : World) (r : RdV w S x (ensDt o.list)) :
    Calls Try.prog 74 #[rpV o x] w fun e w' => e = .returned (.bool (zRp o)) ∧ Below w.heap.size w w' := by
  obtain ⟨a, cap, rfl, _⟩ := RdV.sliced r
  obtain ⟨kd, ⟨p, q, d⟩, vl, es⟩ := o
  clear r
  simp only [zRp]
  generalize es.length = n0 at *
  go_enter Try.func74, Try.ntmps74
  go_wp2
  all_goals (go_ret; refine ⟨?_, by repeat (first | exact Below.refl _ _ | refine Below.al ?_ _ | refine below_drewN2 ?_ _)⟩; first | rfl | (simp_all [hd0, Hd.sh, Hd.ino, Hd.dir]; done) | (simp_all [hd0, Hd.sh, Hd.ino, Hd.dir]; omega) | (simp_all [hd0, Hd.sh, Hd.ino, Hd.dir]; rw [Bool.eq_iff_iff]; simp; done))
end Go.Proofs.Ytaaongjnpnanmaa
end
