/- Joined: Appends. -/
import Derived.Test.YtjhaanenkeceiaaDoorJ15
import Derived.Test.YtjhaanenkeceiaaDoorJ02

section
/- The specification's Append as a plain function of its arguments. Condition: the disk is of at most 2^21 bytes and writes. -/
namespace Go.Proofs.YtjhaanenkeceiaaDoor
open Go.RowKit
set_option linter.unusedVariables false
set_option linter.unusedSimpArgs false
attribute [local go_sem ↓] Go.wp_at_zero Go.wp_at_succ

def okJ (j : Jn) : Bool := okD j.1 && decide (0 ≤ j.2.1) && decide (j.2.1 ≤ (j.1.1.length : Int)) && decide (0 ≤ j.2.2) && decide (j.2.2 ≤ 60000)
def appendJ (j : Jn) (zs : List Int) : Jn × Bool :=
  if okJ j then (if zs.length ≤ 200 ∧ roomJ j zs = true then (((flushS j.1.1 (j.1.2 ++ frameW j.2.1 (frameN j.2.2.toNat zs)), []), j.2.1 + (manyN zs.length : Int), j.2.2 + 1), true) else (j, false)) else ((([], []), 0, 0), false)
theorem KpBB.kpeL {w : World} {l h b : Nat} {v : Value} {zss : List (List Int)} (o : KpBB w l h v zss) (hb : b < l) (hw : Whole zss) : KpE w l h b v zss := by
  obtain ⟨vs, hl, ho, hbf, he⟩ := o
  refine ⟨vs, hl, ho, fun k hk => ⟨hbf k hk, by have := (ho.lt k hk).1; omega⟩, fun i hi => ⟨(he i hi).1, fun g hg => ?_⟩⟩
  have h1 := (he i hi).1.own (by rw [hw i hi]; omega) g hg
  exact ⟨h1.1, h1.2, by omega, ((he i hi).2 g hg).2⟩
theorem KpE.low {w : World} {l l' h b : Nat} {v : Value} {zss : List (List Int)} (o : KpE w l h b v zss) (h1 : l' ≤ l) : KpE w l' h b v zss := by
  obtain ⟨vs, hl, ho, hbf, he⟩ := o
  refine ⟨vs, hl, ⟨ho.1, ?_⟩, hbf, fun i hi => ⟨(he i hi).1.wide h1 (Nat.le_refl _), fun g hg => ⟨by have := ((he i hi).2 g hg).1; omega, ((he i hi).2 g hg).2⟩⟩⟩
  rcases ho.2 with h0 | ⟨g, c, cur, hv, hg, r⟩
  · exact .inl h0
  · exact .inr ⟨g, c, cur, hv, by omega, r⟩
theorem GrWs.kwgL {w : World} {l b : Nat} {v : Value} {ws : List Wt} (o : GrWs w l v ws) (hb : b < l) : KwG w l w.heap.size b v ws := by
  obtain ⟨xs, C, hl, ho, hC, he⟩ := o
  exact ⟨xs, C, hl, ho, fun k hk => ⟨(ho.lt k hk).2, by have := (ho.lt k hk).1; omega⟩, hC, fun i hi => ⟨(he i hi).1, fun g hg => by have := (he i hi).2 g hg; exact ⟨this.1.1, this.1.2, by omega, this.2⟩⟩⟩
theorem okD_frame {d : Dk} {p q : Nat} {zs : List Int} (h : okD d = true) (hr : roomJ (d, (p : Int), (q : Int)) zs = true) : okD (d.1, d.2 ++ frameW p (frameN q zs)) = true := by
  obtain ⟨⟨h1, h2⟩, hw, hp⟩ := okD_whole h
  unfold roomJ at hr
  simp only [Bool.and_eq_true, decide_eq_true_eq] at hr
  have hfl : (frameN q zs).length = manyN zs.length := by unfold frameN; simp
  have hlen : (d.2 ++ frameW p (frameN q zs)).length = d.2.length + manyN zs.length := by rw [List.length_append, frameW_len, hfl]
  unfold okD
  simp only [Bool.and_eq_true, decide_eq_true_eq, List.all_eq_true]
  unfold okD at h
  simp only [Bool.and_eq_true, decide_eq_true_eq, List.all_eq_true] at h
  refine ⟨⟨⟨h1, ?_⟩, h.1.2⟩, fun z hz => ?_⟩
  · rw [hlen]; omega
  · rw [List.mem_append] at hz
    rcases hz with hz | hz
    · exact h.2 z hz
    · unfold frameW at hz
      rw [List.mem_mapIdx] at hz
      obtain ⟨i, hi, rfl⟩ := hz
      have hall : ∀ s ∈ frameN q zs, s.length = 32 := fun s hs => by
        unfold frameN at hs
        rw [List.mem_map] at hs
        obtain ⟨k, _, rfl⟩ := hs
        exact secN_length _ _ _
      have hl : ((frameN q zs)[i]).length = 32 := hall _ (List.getElem_mem hi)
      rw [hfl] at hi
      simp only [waitOk, secOk, hl, Bool.and_eq_true, decide_eq_true_eq, beq_self_eq_true, and_true]
      omega

set_option maxHeartbeats 2000000 in
theorem jok_any (v : Value) (j : Jn) (l h : Nat) (w : World) (r : RdJ w l h v j) (hh : h ≤ w.heap.size) :
    Calls Tryd.prog 56 #[v] w fun e w' => e = .returned (.bool (okJ j)) ∧ Below w.heap.size w w' := by
  obtain ⟨xa, xn, xc, ya, yn, yc, rfl, r1⟩ := r.open
  clear r
  obtain ⟨d, p, q⟩ := j
  have b0 := Below.new (w := w) (.cells #[.slice xa xn xc, .slice ya yn yc, .int .i64 p, .int .i64 q] 30)
  have v0 := VarJ.new (T := 30) w (.slice xa xn xc) (.slice ya yn yc) p q
  generalize hw0 : w.alloc (.cells #[.slice xa xn xc, .slice ya yn yc, .int .i64 p, .int .i64 q] 30) = w0 at b0 v0
  have HW : Hid _ := hw0
  have hsz := b0.size
  have HOK : Hid _ := specOk_any _ d l h w0 (r1.step hh b0) (by omega)
  have hln : xn = d.1.length ∧ xn ≤ 9223372036854775807 := by
    obtain ⟨x', y', he, ra, _⟩ := r1
    simp only [Value.agg.injEq, Array.mk.injEq, List.cons.injEq, and_true] at he
    obtain ⟨rfl, rfl⟩ := he
    obtain ⟨a', n', c', vs, he, hl, hh, _⟩ := ra
    simp only [Value.slice.injEq] at he
    obtain ⟨rfl, rfl, rfl⟩ := he
    exact ⟨hl, by have := hh.1; have := hh.2.1; unfold maxLen at this; omega⟩
  have HEX : Hid (okJ (d, p, q) = (okD d && decide (0 ≤ p) && decide (p ≤ (xn : Int)) && decide (0 ≤ q) && decide (q ≤ 60000))) := by show _ = _; unfold okJ; rw [hln.1]
  have hxm := hln.2
  generalize okJ (d, p, q) = ok at HEX
  generalize okD d = od at HEX HOK
  have k0 := v0.c0
  have k1 := v0.c1
  have HV0 : Hid (VarJ _ w0 w.heap.size _ _ _ _) := v0
  have HB0 : Hid _ := b0
  clear hw0 b0 v0 r1 hln
  have step : ∀ (A B C D E : Bool), od = A → decide (0 ≤ p) = B → decide (p ≤ (xn : Int)) = C → decide (0 ≤ q) = D → decide (q ≤ 60000) = E → ok = (A && B && C && D && E) := fun A B C D E h1 h2 h3 h4 h5 => by rw [HEX.out, h1, h2, h3, h4, h5]
  have HSTEP : Hid _ := step
  clear HEX step
  cases od with
  | false =>
    have HRES : Hid (ok = false) := by show _ = _; rw [HSTEP.out false _ _ _ _ rfl rfl rfl rfl rfl]; rfl
    clear HSTEP
    go_enter Tryd.func56, Tryd.ntmps56
    go_wp2_with (rw [HW.out])
    refine Calls.mono HOK.out ?_
    rintro e w1 ⟨rfl, b1⟩
    have V1 := VarJ.step HV0.out b1
    have j0 := V1.c0
    have j2 := V1.c2
    have j3 := V1.c3
    have HB : Hid _ := HB0.out.trans (b1.mono HB0.out.size)
    clear b1 V1 HV0 HOK HB0
    go_wp2
    go_ret
    exact ⟨by rw [HRES.out]; rfl, HB.out⟩
  | true =>
    by_cases a1 : 0 ≤ p
    case neg =>
      have e1 : decide (0 ≤ p) = false := by simpa using a1
      have HRES : Hid (ok = false) := by show _ = _; rw [HSTEP.out true false _ _ _ rfl e1 rfl rfl rfl]; rfl
      clear HSTEP a1
      go_enter Tryd.func56, Tryd.ntmps56
      go_wp2_with (rw [HW.out])
      refine Calls.mono HOK.out ?_
      rintro e w1 ⟨rfl, b1⟩
      have V1 := VarJ.step HV0.out b1
      have j0 := V1.c0
      have j2 := V1.c2
      have j3 := V1.c3
      have HB : Hid _ := HB0.out.trans (b1.mono HB0.out.size)
      clear b1 V1 HV0 HOK HB0
      go_wp2
      go_ret
      exact ⟨by rw [HRES.out]; rfl, HB.out⟩
    have e1 : decide (0 ≤ p) = true := by simpa using a1
    by_cases a2 : p ≤ (xn : Int)
    case neg =>
      have e2 : decide (p ≤ (xn : Int)) = false := by simpa using a2
      have HRES : Hid (ok = false) := by show _ = _; rw [HSTEP.out true true false _ _ rfl e1 e2 rfl rfl]; rfl
      clear HSTEP a1 a2
      go_enter Tryd.func56, Tryd.ntmps56
      go_wp2_with (rw [HW.out])
      refine Calls.mono HOK.out ?_
      rintro e w1 ⟨rfl, b1⟩
      have V1 := VarJ.step HV0.out b1
      have j0 := V1.c0
      have j2 := V1.c2
      have j3 := V1.c3
      have HB : Hid _ := HB0.out.trans (b1.mono HB0.out.size)
      clear b1 V1 HV0 HOK HB0
      go_wp2
      go_ret
      exact ⟨by rw [HRES.out]; rfl, HB.out⟩
    have e2 : decide (p ≤ (xn : Int)) = true := by simpa using a2
    by_cases a3 : 0 ≤ q
    case neg =>
      have e3 : decide (0 ≤ q) = false := by simpa using a3
      have HRES : Hid (ok = false) := by show _ = _; rw [HSTEP.out true true true false _ rfl e1 e2 e3 rfl]; rfl
      clear HSTEP a1 a2 a3
      go_enter Tryd.func56, Tryd.ntmps56
      go_wp2_with (rw [HW.out])
      refine Calls.mono HOK.out ?_
      rintro e w1 ⟨rfl, b1⟩
      have V1 := VarJ.step HV0.out b1
      have j0 := V1.c0
      have j2 := V1.c2
      have j3 := V1.c3
      have HB : Hid _ := HB0.out.trans (b1.mono HB0.out.size)
      clear b1 V1 HV0 HOK HB0
      go_wp2
      go_ret
      exact ⟨by rw [HRES.out]; rfl, HB.out⟩
    have e3 : decide (0 ≤ q) = true := by simpa using a3
    cases hE : decide (q ≤ 60000) with
    | false =>
      have HRES : Hid (ok = false) := by show _ = _; rw [HSTEP.out true true true true false rfl e1 e2 e3 hE]; rfl
      clear HSTEP a1 a2 a3
      go_enter Tryd.func56, Tryd.ntmps56
      go_wp2_with (rw [HW.out])
      refine Calls.mono HOK.out ?_
      rintro e w1 ⟨rfl, b1⟩
      have V1 := VarJ.step HV0.out b1
      have j0 := V1.c0
      have j2 := V1.c2
      have j3 := V1.c3
      have HB : Hid _ := HB0.out.trans (b1.mono HB0.out.size)
      clear b1 V1 HV0 HOK HB0
      go_wp2
      go_ret
      exact ⟨by rw [HRES.out]; rfl, HB.out⟩
    | true =>
      have HRES : Hid (ok = true) := by show _ = _; rw [HSTEP.out true true true true true rfl e1 e2 e3 hE]; rfl
      clear HSTEP a1 a2 a3
      go_enter Tryd.func56, Tryd.ntmps56
      go_wp2_with (rw [HW.out])
      refine Calls.mono HOK.out ?_
      rintro e w1 ⟨rfl, b1⟩
      have V1 := VarJ.step HV0.out b1
      have j0 := V1.c0
      have j2 := V1.c2
      have j3 := V1.c3
      have HB : Hid _ := HB0.out.trans (b1.mono HB0.out.size)
      clear b1 V1 HV0 HOK HB0
      go_wp2
      go_ret
      exact ⟨by rw [HRES.out]; rfl, HB.out⟩
end Go.Proofs.YtjhaanenkeceiaaDoor
end
