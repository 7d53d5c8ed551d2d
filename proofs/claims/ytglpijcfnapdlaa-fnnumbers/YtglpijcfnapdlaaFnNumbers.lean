/- Proved: laws.FnNumbers answers true at every input, and leaves its argument as it was: drawn numbers and texts come back from their bytes, and whatever bytes are read as a number are just the bytes of it; no condition. -/
import Derived.Test.YtglpijcfnapdlaaRows
import Derived.Test.YtglpijcfnapdlaaDraws2
import Derived.Test.YtglpijcfnapdlaaSame
import Derived.Test.YtglpijcfnapdlaaPure
import Derived.Test.YtglpijcfnapdlaaGetTexts
import Derived.Test.YtglpijcfnapdlaaRows0
import Derived.WalkKit
import Derived.ProofKit
import Derived.OpenShut
import Derived.ShutString
import Derived.ChangeOld
import Derived.Below
namespace Go.Proofs.Ytglpijcfnapdlaa.fnNumbers
open Go.ChangeShapes Go.WideShapes Go.ChangeAt Go.RowKit
open Go.ChangeMaps (open_string shut_string)
set_option linter.unusedVariables false

theorem own : ownKnob Try.prog.godebug = none := by kernel_rfl
theorem laidOut : laidOutB Try.prog = true := by kernel_rfl

set_option maxHeartbeats 4000000 in
theorem walk (a0 : Option Addr) (len0 cap0 : Nat) (z0 : List Int) (w : World) (w0 : IsRow .u8 w a0 len0 cap0 z0) :
    Calls Try.prog 3 #[.slice a0 len0 cap0] w fun e w' => e = .returned (.bool true) ∧ Below w.heap.size w w' := by
  obtain ⟨zs, hlen, hr, hcap, hcm⟩ := row_reads w0
  have hm : zs.length ≤ maxLen := by omega
  have HLEN : Hid _ := hlen
  clear w0 hcap hcm hlen
  go_enter Try.func3, Try.ntmps3
  go_wp2_with fail
  refine (drawPutNum_any a0 zs _ _ w hr HLEN.out hm).mono ?_
  rintro e w1 ⟨vb, ys, n, rfl, hob, hyb, hyl, hb1⟩
  obtain ⟨a1, L1, c1, rfl, HL1, HN1, HF1⟩ := hob.form
  have hL1 : L1 ≤ 4 := by rw [HL1.out]; exact hyl
  go_wp2_with fail
  refine (implPut_any a1 ys L1 c1 n w1 (hob.reads hyb).2 HL1.out (by omega)).mono ?_
  rintro e w2 ⟨vx, rfl, hox, hb2⟩
  have hp := putB_len n
  have hxl : (ys ++ putB n).length ≤ 9 := by rw [List.length_append]; omega
  obtain ⟨a2, L2, c2, rfl, HL2, HN2, HF2⟩ := hox.form
  have hL2 : L2 ≤ 9 := by rw [HL2.out]; exact hxl
  have B2 := hb1.trans (hb2.mono hb1.size)
  go_wp2_with (at_builtin; go_must (refine wpList_app _ rfl (.tmp 26) (.tmp 27) rfl w1.heap.size _ (ys ++ putB n) [7] rfl (hox.alloc _) _ 1 1 rfl rfl (one_new _ 7 (by omega) (by omega)) (by omega) (by simp) (by have := hb2.size; simp; omega) (fun h => by cases h) ?_; intro v3 w3 ho3 hg3))
  have hb3' : isBytes (ys ++ putB n ++ [7]) := isBytes_snoc (isBytes_append hyb (putB_bytes n)) (by omega) (by omega)
  have hget := implGet_v v3 _ _ (L1 : Int) w3 ho3 hb3' (by rw [List.length_append]; simp; omega)
  have HX : Hid (0 ≤ n ∧ n ≤ 2147483647 → getNum (ys ++ putB n ++ [7]) (L1 : Int) = (n, (L2 : Int))) := fun hn => by
    rw [HL1.out, getNum_put ys [7] n hn.1 hn.2, HL2.out, List.length_append]; simp
  have B3 : Below w.heap.size w w3 := (B2.alloc B2.size _).grown hg3 (by have := B2.size; simp; omega) (fun q hq => by have := (hox.lt q hq).1; have := hb1.size; omega)
  have hr3 := hr.below B3
  generalize hgn : getNum (ys ++ putB n ++ [7]) (L1 : Int) = gn at hget
  obtain ⟨m, nx⟩ := gn
  have HGN : Hid _ := hgn
  have HGET : Hid _ := hget
  have HB3 : Hid _ := B3
  clear hget hgn ho3 hg3 hox hob hb1 hb2 B2 B3 HN1 HN2 HF1 HF2 hb3'
  refine Calls.mono HGET.out ?_
  rintro e w4 ⟨rfl, hw4⟩
  subst hw4
  have HTEST : Hid (0 ≤ n → n ≤ 2147483647 → (m != n) = false ∧ (nx != (L2 : Int)) = false) := fun h0 h1 => by
    have := HX.out ⟨h0, h1⟩
    rw [HGN.out] at this
    simp only [Prod.mk.injEq] at this
    simp [this.1, this.2]
  clear HX HGN HGET
  rcases (show n < 0 ∨ (0 ≤ n ∧ 2147483647 < n) ∨ (0 ≤ n ∧ n ≤ 2147483647) from by omega) with hn0 | ⟨hn0, hn1⟩ | ⟨hn0, hn1⟩
  rotate_left 2
  obtain ⟨ht1, ht2⟩ := HTEST.out hn0 hn1
  rotate_left 1
  all_goals
    clear HTEST
    go_wp2_with fail
    refine (drawPutText_any a0 zs _ _ _ hr3 HLEN.out hm).mono ?_
    rintro e w5 ⟨vc, vt, cs, ts, rfl, hoc, hot, hcb, htb, hcl, htl, hb5⟩
    obtain ⟨ac, Lc, cc, rfl, HLc, HNc, HFc⟩ := hoc.form
    obtain ⟨at', Lt, ct, rfl, HLt, HNt, HFt⟩ := hot.form
    have hLc : Lc ≤ 3 := by rw [HLc.out]; exact hcl
    have hLt : Lt ≤ 41 := by rw [HLt.out]; exact htl
    have HB5 : Hid _ := HB3.out.trans (hb5.mono HB3.out.size)
    go_wp2_with fail
    refine (implPutText_any ac at' cs ts Lc cc Lt ct w5 (hoc.reads hcb).2 (hot.reads htb).2 HLc.out HLt.out (by omega) (by omega)).mono ?_
    rintro e w6 ⟨vy, rfl, hoy, hb6⟩
    have hyl' : (cs ++ textB ts).length ≤ 48 := by rw [List.length_append]; have := textB_len ts; omega
    have hot6 := hot.step hb6
    obtain ⟨ay, Ly, cy, rfl, HLy, HNy, HFy⟩ := hoy.form
    have hLy : Ly ≤ 48 := by rw [HLy.out]; exact hyl'
    have HB6 : Hid _ := HB5.out.trans (hb6.mono HB5.out.size)
    have hgt := implGetText_v _ _ _ (Lc : Int) w6 hoy (isBytes_append hcb (textB_bytes htb)) (by omega)
    have HT : Hid (Lt ≤ 40 → getText (cs ++ textB ts) (Lc : Int) = (ts, (Ly : Int))) := fun h => by
      rw [HLc.out, getText_put cs ts (by rw [← HLt.out]; exact h), HLy.out]
    generalize hgn : getText (cs ++ textB ts) (Lc : Int) = gt at hgt
    obtain ⟨us, en⟩ := gt
    have HGT : Hid _ := hgt
    have HGN : Hid _ := hgn
    clear hgt hgn hoc hot hb5 hb6 HFc HFt HFy HNc HNt HNy hoy
    go_wp2_with fail
    refine Calls.mono HGT.out ?_
    rintro e w7 ⟨vu, rfl, hou, hb7⟩
    have hot7 := hot6.step hb7
    have HB7 : Hid _ := HB6.out.trans (hb7.mono HB6.out.size)
    have hr7 := hr.below HB7.out
    by_cases h40 : Lt ≤ 40
    · have hgt := HT.out h40
      rw [HGN.out] at hgt
      simp only [Prod.mk.injEq] at hgt
      obtain ⟨rfl, rfl⟩ := hgt
      clear HT HGN HGT
      obtain ⟨au, Lu, cu, rfl, HLu, HNu, HFu⟩ := hou.form
      go_wp2_with fail
      refine (sameBytes_any au at' us Lu cu Lt ct w7 (hou.reads htb).2 (hot7.reads htb).2 HLu.out HLt.out).mono ?_
      rintro e wS ⟨rfl, hwS⟩
      subst hwS
      clear hou hot7 hot6 hb7
      go_wp2_with fail
      refine (drawGetNum_any a0 zs _ _ _ hr7 HLEN.out hm).mono ?_
      rintro e w8 ⟨va, qs, p, rfl, hoa, hqb, hql, hpb, hb8⟩
      have HB8 : Hid _ := HB7.out.trans (hb8.mono HB7.out.size)
      have hg8 := implGet_v va qs _ p w8 hoa hqb (by omega)
      generalize hgn : getNum qs p = gq at hg8
      obtain ⟨k, st⟩ := gq
      have HG8 : Hid _ := hg8
      have HGN : Hid _ := hgn
      have hfit := getNum_fits hqb hgn
      obtain ⟨aa, La, ca, rfl, HLa, HNa, HFa⟩ := hoa.form
      have hLa : La ≤ 20 := by rw [HLa.out]; exact hql
      clear hg8 hgn hb8
      go_wp2_with fail
      refine Calls.mono HG8.out ?_
      rintro e w9 ⟨rfl, hw9⟩
      subst hw9
      by_cases hst : st < 0
      · clear hfit HGN HG8 hoa
        go_wp2
        go_region
        all_goals go_wp2
        all_goals go_ret
        all_goals exact ⟨rfl, HB8.out.drew⟩
      · obtain ⟨S, rfl⟩ : ∃ S : Nat, st = (S : Int) := ⟨st.toNat, by omega⟩
        obtain ⟨P, rfl⟩ : ∃ P : Nat, p = (P : Int) := ⟨p.toNat, by omega⟩
        obtain ⟨_, hPS, hSL, heq⟩ := getNum_only qs (P : Int) k S hqb HGN.out
        rw [Int.toNat_natCast] at hPS heq
        have hSLa : S ≤ La := by rw [HLa.out]; exact hSL
        have hne : La ≠ 0 := by omega
        obtain ⟨g, rfl, hg1, hg2, hg3, hg4⟩ := HFa.out.resolve_left hne
        have hrd : Reads w9.drew (some ⟨g, 0, none⟩) qs := (hoa.reads hqb).2.drew1
        have HRP : Hid (Reads w9.drew (some ⟨g, 0, none⟩) (qs.take P)) := by
          have := hrd.part 0 P (by omega); rw [List.drop_zero] at this; exact this
        have HRS : Hid (∀ W, Below w9.heap.size w9.drew W → Reads W (some ⟨g, 0, none⟩) (qs.take S)) := fun W hW => by
          have := (hrd.part 0 S (by omega)).below hW; rw [List.drop_zero] at this; exact this
        have HPl : Hid (P = (qs.take P).length) := by show _ = _; rw [List.length_take]; omega
        have HSl : Hid (S = (qs.take S).length) := by show _ = _; rw [List.length_take]; omega
        have HPn : Hid ((qs.take P).length ≤ 2097152) := by show _ ≤ _; rw [List.length_take]; omega
        have HSb : Hid (isBytes (qs.take S)) := isBytes_take hqb S
        have HEQ : Hid _ := heq
        have hPc : P ≤ ca := by omega
        have hSc : S ≤ ca := by omega
        have hB9 := HB8.out
        clear hrd heq hoa HG8 HGN hfit
        go_wp2
        have hd : decide ((S : Int) < 0) = false := by simp
        go_region_held3 (fun _ => True) (trivial) (first | (go_at_call 9; refine (implPut_any (some ⟨g, 0, none⟩) (qs.take P) P ca k _ HRP.out HPl.out HPn.out).mono ?_; rintro e wA ⟨vA, rfl, hoA, hbA⟩; rw [HEQ.out] at hoA) | (go_at_call 14; refine (sameBytes_v vA (some ⟨g, 0, none⟩) (qs.take S) _ S ca _ hoA HSb.out (HRS.out _ hbA) HSl.out).mono ?_; rintro e wB ⟨rfl, hwB⟩; subst hwB))
        all_goals go_wp2
        all_goals go_ret
        all_goals exact ⟨rfl, hB9.drew.trans (hbA.mono hB9.size)⟩
    · clear HT HGN HGT hou hot7 hot6 hb7
      go_wp2_with fail
      refine (drawGetNum_any a0 zs _ _ _ hr7 HLEN.out hm).mono ?_
      rintro e w8 ⟨va, qs, p, rfl, hoa, hqb, hql, hpb, hb8⟩
      have HB8 : Hid _ := HB7.out.trans (hb8.mono HB7.out.size)
      have hg8 := implGet_v va qs _ p w8 hoa hqb (by omega)
      generalize hgn : getNum qs p = gq at hg8
      obtain ⟨k, st⟩ := gq
      have HG8 : Hid _ := hg8
      have HGN : Hid _ := hgn
      have hfit := getNum_fits hqb hgn
      obtain ⟨aa, La, ca, rfl, HLa, HNa, HFa⟩ := hoa.form
      have hLa : La ≤ 20 := by rw [HLa.out]; exact hql
      clear hg8 hgn hb8
      go_wp2_with fail
      refine Calls.mono HG8.out ?_
      rintro e w9 ⟨rfl, hw9⟩
      subst hw9
      by_cases hst : st < 0
      · clear hfit HGN HG8 hoa
        go_wp2
        go_region
        all_goals go_wp2
        all_goals go_ret
        all_goals exact ⟨rfl, HB8.out.drew⟩
      · obtain ⟨S, rfl⟩ : ∃ S : Nat, st = (S : Int) := ⟨st.toNat, by omega⟩
        obtain ⟨P, rfl⟩ : ∃ P : Nat, p = (P : Int) := ⟨p.toNat, by omega⟩
        obtain ⟨_, hPS, hSL, heq⟩ := getNum_only qs (P : Int) k S hqb HGN.out
        rw [Int.toNat_natCast] at hPS heq
        have hSLa : S ≤ La := by rw [HLa.out]; exact hSL
        have hne : La ≠ 0 := by omega
        obtain ⟨g, rfl, hg1, hg2, hg3, hg4⟩ := HFa.out.resolve_left hne
        have hrd : Reads w9.drew (some ⟨g, 0, none⟩) qs := (hoa.reads hqb).2.drew1
        have HRP : Hid (Reads w9.drew (some ⟨g, 0, none⟩) (qs.take P)) := by
          have := hrd.part 0 P (by omega); rw [List.drop_zero] at this; exact this
        have HRS : Hid (∀ W, Below w9.heap.size w9.drew W → Reads W (some ⟨g, 0, none⟩) (qs.take S)) := fun W hW => by
          have := (hrd.part 0 S (by omega)).below hW; rw [List.drop_zero] at this; exact this
        have HPl : Hid (P = (qs.take P).length) := by show _ = _; rw [List.length_take]; omega
        have HSl : Hid (S = (qs.take S).length) := by show _ = _; rw [List.length_take]; omega
        have HPn : Hid ((qs.take P).length ≤ 2097152) := by show _ ≤ _; rw [List.length_take]; omega
        have HSb : Hid (isBytes (qs.take S)) := isBytes_take hqb S
        have HEQ : Hid _ := heq
        have hPc : P ≤ ca := by omega
        have hSc : S ≤ ca := by omega
        have hB9 := HB8.out
        clear hrd heq hoa HG8 HGN hfit
        go_wp2
        have hd : decide ((S : Int) < 0) = false := by simp
        go_region_held3 (fun _ => True) (trivial) (first | (go_at_call 9; refine (implPut_any (some ⟨g, 0, none⟩) (qs.take P) P ca k _ HRP.out HPl.out HPn.out).mono ?_; rintro e wA ⟨vA, rfl, hoA, hbA⟩; rw [HEQ.out] at hoA) | (go_at_call 14; refine (sameBytes_v vA (some ⟨g, 0, none⟩) (qs.take S) _ S ca _ hoA HSb.out (HRS.out _ hbA) HSl.out).mono ?_; rintro e wB ⟨rfl, hwB⟩; subst hwB))
        all_goals go_wp2
        all_goals go_ret
        all_goals exact ⟨rfl, hB9.drew.trans (hbA.mono hB9.size)⟩

set_option maxRecDepth 100000 in
theorem lifted (os : Os) (started : os.Started) (H : Type) (enc : TypeId × Value → H) :
    ReturnsInHanded {} Try.checked os 3 .any (Rows.fnNumbersSpec.pre6 enc Try.prog Try.f3 Rows.fnNumbersRow.domain false) (Rows.fnNumbersSpec.post enc Try.prog Try.f3 false true false false) := by
  refine returnsInHanded_of_change (C := Try.checked) own started (by kernel_rfl) Try.func3
    (ChangeSpec.witness6 (enc := enc) (C := Try.checked) false ⟨#[], #[.slice none 0 0], []⟩ 8 (by kernel_rfl) (by kernel_rfl) (by kernel_rfl) (by kernel_rfl)) ?_
  intro W base args ds gs before hval0 hW hcnd _
  have hval : ∀ (j : Nat) t v, Try.f3.params[j]? = some t → args[j]? = some v → Value.okWide Try.prog W .any base t v := hval0
  have hW' := hW
  obtain ⟨p, q, hA0, hV, rfl, hfz, hnd⟩ := hW
  have hA : DataW.TrodAll enc Try.prog W 0 (fun _ => true) true Try.f3.params.toList args.toList ds p := hA0
  rw [Try.params3] at hA hval
  obtain ⟨v0, vs0, d0, ds0, p0, q0, hargs, rfl, rfl, h0, r0⟩ := trodAll_cons hA
  obtain ⟨rfl, rfl, rfl⟩ := trodAll_nil r0
  obtain rfl : args = #[v0] := by cases args; simp_all
  obtain ⟨rfl, rfl⟩ := trodVars_none hV
  obtain ⟨a0, len0, cap0, rfl⟩ := okWide_slice Try.underlying22 (hval 0 22 v0 rfl rfl)
  have k0 := h0
  have lt0 : ∀ x ∈ p0, x.block < W.heap.size := by obtain ⟨m, hm⟩ := k0; exact DataW.trod_lt m _ _ _ hm
  obtain ⟨z0, w0⟩ : ∃ zs, IsRow .u8 W a0 len0 cap0 zs := by
    obtain ⟨fuel, hf⟩ := h0
    rcases open_ints Try.underlying22 Try.underlying5 (by kernel_rfl) hf with ⟨hcs, _⟩ | ⟨x, l, c, zs, hcs, _, hl, hm, hz, _, hcell, hwz⟩
    · simp [Value.cells] at hcs
      obtain ⟨rfl, rfl, rfl⟩ := hcs
      exact ⟨[], .inl ⟨rfl, rfl, rfl, rfl⟩⟩
    · simp [Value.cells] at hcs
      obtain ⟨rfl, rfl, rfl⟩ := hcs
      exact ⟨zs, .inr ⟨_, rfl, hl, hm, by simpa using hz, hcell, hwz⟩⟩
  clear hA0 hval0
  refine (walk a0 len0 cap0 z0 W w0).mono fun e W' ⟨he, bel⟩ => ?_
  subst he
  exact ⟨_, rfl, _, _, _, [], _, [], hW', trodAll_mk1 (shut_bool Try.underlying4 _), (trodAll_cons_mk (Below.trod laidOut (by kernel_rfl) (of_decide_eq_true (by kernel_rfl)) k0 bel lt0) trodAll_mk0), rfl, bel.frame _, fun h => by cases h⟩

theorem over : Rows.fnNumbersRow.holds Try.pinned (OpenSpec.ofChange Rows.fnNumbersSpec) :=
  OpenClaim.holds_of_wide 3 Try.f3 rfl rfl rfl rfl rfl rfl rfl ⟨rfl, rfl, rfl, rfl, rfl⟩ rfl rfl rfl rfl rfl (by kernel_rfl) Try.func3 (by kernel_rfl)
    (of_decide_eq_true (by kernel_rfl)) (by unfold Func.isWrapper; first | (rw [if_pos (by decide +kernel)]; kernel_rfl) | (rw [if_neg (by decide +kernel)]; exact ⟨rfl, rfl⟩))
    (fun os started H enc _ => lifted os started H enc)

theorem proved : Rows.FnNumbersSaid := over
end Go.Proofs.Ytglpijcfnapdlaa.fnNumbers

namespace Go.Proofs.Ytglpijcfnapdlaa
/-- The given statement. -/
theorem fnNumbers_holds : Rows.FnNumbersSaid := fnNumbers.proved
#print axioms fnNumbers_holds
end Go.Proofs.Ytglpijcfnapdlaa
