/- Joined: Draw6 ImplOpen2 Draw7. -/
import Derived.Test.YtjhaanenkeceiaaDoorJ07
import Derived.Test.YtjhaanenkeceiaaDoorJ08
import Derived.Test.YtjhaanenkeceiaaDoorJ14
import Derived.Test.YtjhaanenkeceiaaDoorJ17
import Derived.Test.YtjhaanenkeceiaaDoorJ03

section
/- What is drawn in chapter 3: a record, and a journal of some records. No condition. -/
namespace Go.Proofs.YtjhaanenkeceiaaDoor
open Go.RowKit
set_option linter.unusedVariables false
set_option linter.unusedSimpArgs false
attribute [local go_sem ↓] Go.wp_at_zero Go.wp_at_succ

set_option maxHeartbeats 1000000 in
theorem record_any (pb : Nat) (w : World) (h : CurAt w pb) :
    Calls Tryd.prog 45 #[.pointer (some ⟨pb, 0, none⟩)] w fun e w' => ∃ v ys, e = .returned v ∧ RdB w' w.heap.size w'.heap.size v ys ∧ ys.length ≤ 300 ∧ CurAt w' pb ∧ w.grownBy w' (some pb) := by
  have hpb := h.lt
  have HO : Hid _ := once_any pb 12 w h (by omega) (by omega)
  obtain ⟨i0, hi, hz0, hz1, hz2⟩ := info_parts Tryd.infoB
  clear h
  go_enter Tryd.func45, Tryd.ntmps45
  go_wp2_with fail
  refine Calls.mono HO.out ?_
  rintro e w1 ⟨x, rfl, hc1, hg1⟩
  have s1 := hg1.size
  cases x with
  | true =>
    have HB : Hid _ := below_any pb 2 w1 hc1 (by omega) (by omega)
    clear HO hc1
    go_wp2_with fail
    refine Calls.mono HB.out ?_
    rintro e w2 ⟨y, rfl, hy0, hy1, hc2, hg2⟩
    obtain ⟨N, hN⟩ : ∃ N : Nat, 200 + y = (N : Int) := ⟨(200 + y).toNat, by omega⟩
    have hN9 : N ≤ 201 := by omega
    have hwy : IntKind.i64.wrap (200 + y) = (N : Int) := by rw [hN]; exact wrap_id _ (by omega) (by omega)
    have s2 := hg2.size
    have hg12 := grown_trans hg1 hg2
    have HN : Hid _ := hN
    clear HB hN
    go_wp2_with (at_make; (try rw [HN.out]); refine wpList_make_full _ rfl _ _ 22 rfl w2.heap.size 5 i0 (.int .u8 0) 1 Tryd.underlying22 hi hz0 hz1 .i64 .i64 _ _ N rfl rfl rfl rfl (by rw [hz2]; omega) (by unfold maxLen; omega) (Nat.le_refl _) ?_; intro w3 hown hgrow)
    have hb3 : Below w2.heap.size w2 w3 := (Below.refl _ _).grown hgrow (Nat.le_refl _) (fun k h => by cases h)
    rw [madeCells_bytes] at hown
    have hO : Owns w3 w2.heap.size (.slice (some ⟨w2.heap.size, 0, none⟩) N N) (List.replicate N 0) := by
      show World.ownsRow _ _ _ _ _ _ _
      simpa using hown
    have s3 := hb3.size
    have HF : Hid (RdB w3 w.heap.size w3.heap.size (.slice (some ⟨w2.heap.size, 0, none⟩) N N) (List.replicate N 0)) := ((OwB.of (isBytes_zeros N) hO).rd).wide (by omega) (Nat.le_refl _)
    have HC : Hid _ := CurAt.below hc2 hb3
    have HG : Hid (w.grownBy w3 (some pb)) := grown_trans hg12 (grown_below hb3)
    clear hown hgrow hb3 hO hc2 hg2 hg12 hg1
    go_wp2
    go_ret
    first | exact ⟨_, _, rfl, HF.out, by simp; omega, HC.out, HG.out⟩ | exact ⟨_, rfl, ⟨_, HF.out, by simp; omega⟩, HC.out, HG.out⟩
  | false =>
    have HS : Hid _ := some_any pb 60 w1 hc1 (by omega)
    clear HO hc1
    go_wp2_with fail
    refine Calls.mono HS.out ?_
    rintro e w2 ⟨v, ys, rfl, ho, hb, hl, hc2, hg2⟩
    obtain ⟨va, vn, vc, rfl⟩ := ho.sliced
    have HF : Hid (RdB w2 w.heap.size w2.heap.size (.slice va vn vc) ys) := ((OwB.of hb ho).rd).wide (by omega) (Nat.le_refl _)
    have HC : Hid _ := hc2
    have HG : Hid (w.grownBy w2 (some pb)) := grown_trans hg1 hg2
    have hl3 : ys.length ≤ 300 := by omega
    clear ho hb hc2 hg2 hg1 HS
    go_wp2
    go_ret
    exact ⟨_, _, rfl, HF.out, hl3, HC.out, HG.out⟩
end Go.Proofs.YtjhaanenkeceiaaDoor
end

section
/- The program's Open of a disk that is DiskOk and on which nothing waits; it leans on the package's error errNoSector. -/
namespace Go.Proofs.YtjhaanenkeceiaaDoor
open Go.RowKit Go.Shelf
set_option linter.unusedVariables false
set_option linter.unusedSimpArgs false
attribute [local go_sem] Oper.semAt_some
attribute [local go_sem ↓] Go.wp_at_zero Go.wp_at_succ

theorem cell_row1 {w : World} {c : Nat} {v : Value} {t : TypeId} (h : w.heap[c]? = some (.cells #[v] t (0, 0))) : w.cell? ⟨c, 0, none⟩ = some v := by rw [cell_of_row _ _ _ _ _ _ h]; rfl

theorem four_other2 {w : World} {b k : Nat} {a c e f : Value} (h : k ≠ b) : ((((w.setCell ⟨b, 0, none⟩ a).setCell ⟨b, 1, none⟩ c).setCell ⟨b, 2, none⟩ e).setCell ⟨b, 3, none⟩ f).heap[k]? = w.heap[k]? := by
  rw [heap_setCell_other _ _ _ _ h, heap_setCell_other _ _ _ _ h, heap_setCell_other _ _ _ _ h, heap_setCell_other _ _ _ _ h]
theorem four_below2 {w w' : World} {B b : Nat} {a c e f : Value} (h : Below B w w') (hb : B ≤ b) : Below B w ((((w'.setCell ⟨b, 0, none⟩ a).setCell ⟨b, 1, none⟩ c).setCell ⟨b, 2, none⟩ e).setCell ⟨b, 3, none⟩ f) :=
  (((h.setCell hb _).setCell hb _).setCell hb _).setCell hb _
theorem four_same2 {w : World} {l h b : Nat} {a c e f : Value} (hb : b < l) : SameIn l h w ((((w.setCell ⟨b, 0, none⟩ a).setCell ⟨b, 1, none⟩ c).setCell ⟨b, 2, none⟩ e).setCell ⟨b, 3, none⟩ f) :=
  ⟨by simp, fun k h1 _ => four_other2 (by omega)⟩
/-- What behind the loop is left. -/
def FinI (b c D L : Nat) (x y : Value) (wb : World) (H : Nat) (S : List (List Int)) (W : World) : Prop := ∃ r P q acc, RecI b c D L x y r wb H S P q acc W ∧ readD S P q = none

set_option maxRecDepth 100000 in
set_option maxHeartbeats 4000000 in
/-- reopen, of a journal's variable on top of all: what lies on its disk. -/
theorem reopen_any (w3 w4 : World) (pa : Option Addr) (pn pc : Nat) (qa : Option Addr) (qn qc : Nat) (P0 Q0 : Int) (d1 : List (List Int)) (lS : Nat) (a : Addr) (vJ : VarJ 30 w4 w3.heap.size (.slice pa pn pc) (.slice qa qn qc) P0 Q0) (b4 : Below w3.heap.size w3 w4) (s4 : w4.heap.size = w3.heap.size + 1)
    (rS : RdBB w3 lS w3.heap.size (.slice pa pn pc) d1) (hg : Glob w3 a) (hS2 : d1.length ≤ 2000) (hw32 : ∀ i, i < d1.length → (d1[i]?.getD []).length = 32) (hbz : ∀ i : Nat, isBytes (d1[i]?.getD [])) :
    Calls Tryd.prog 50 #[.pointer (some ⟨w3.heap.size, 0, none⟩)] w4 fun e w' => ∃ V vs, e = .returned V ∧ VarJ 30 w' w3.heap.size (.slice pa pn pc) (.slice qa qn qc) ((openS d1).1 : Int) ((openS d1).2.1 : Int) ∧ OwX w' (w3.heap.size + 1) w'.heap.size V (openS d1).2.2 vs ∧ Below w3.heap.size w3 w' ∧ w3.heap.size + 1 ≤ w'.heap.size := by
  have hgl := hg.lt
  have vZ := (VarJ.set2 vJ 0).set3 0
  have bz : Below w3.heap.size w3 ((w4.setCell ⟨w3.heap.size, 2, none⟩ (.int .i64 0)).setCell ⟨w3.heap.size, 3, none⟩ (.int .i64 0)) := (b4.setCell (Nat.le_refl _) _).setCell (Nat.le_refl _) _
  have sz : ((w4.setCell ⟨w3.heap.size, 2, none⟩ (.int .i64 0)).setCell ⟨w3.heap.size, 3, none⟩ (.int .i64 0)).heap.size = w3.heap.size + 1 := by simp [s4]
  generalize hwz : (w4.setCell ⟨w3.heap.size, 2, none⟩ (.int .i64 0)).setCell ⟨w3.heap.size, 3, none⟩ (.int .i64 0) = wz at vZ bz sz
  have b5 := Below.new (w := wz) (.cells #[.slice none 0 0] 23)
  have hc5 := heap_alloc_new wz (.cells #[.slice none 0 0] 23)
  rw [sz] at hc5
  have vJ5 := vZ.step b5
  generalize hw5 : wz.alloc (.cells #[.slice none 0 0] 23) = w5 at b5 hc5 vJ5
  have s5 : w5.heap.size = w3.heap.size + 2 := by rw [← hw5]; simp; omega
  have HW5 : Hid (((w4.setCell ⟨w3.heap.size, 2, none⟩ (.int .i64 0)).setCell ⟨w3.heap.size, 3, none⟩ (.int .i64 0)).alloc (.cells #[.slice none 0 0] 23) = w5) := by show _ = _; rw [hwz, hw5]
  have B35 : Below w3.heap.size w3 w5 := bz.trans (b5.mono (by omega))
  obtain ⟨L, hL⟩ : ∃ L, L = w5.heap.size + 1 := ⟨_, rfl⟩
  have hD : w5.heap.size = w3.heap.size + 2 := s5
  have HG3 : Hid (Glob w3 a) := hg
  have HVJ5 : Hid (VarJ _ w5 w3.heap.size _ _ _ _) := vJ5
  have HC5 : Hid _ := hc5
  have HB35 : Hid (Below w3.heap.size w3 w5) := B35
  have HRS3 : Hid (RdBB w3 lS w3.heap.size (.slice pa pn pc) d1) := rS
  have HW32 : Hid (∀ i, i < d1.length → (d1[i]?.getD []).length = 32) := hw32
  have HBZ : Hid (∀ i : Nat, isBytes (d1[i]?.getD [])) := hbz
  have k2 := vJ.c2
  have k3 := vJ.c3
  have f2 := vJ.f 2
  have f3 := vJ.f 3
  obtain ⟨i0, hi, hz0, hz1, hz2⟩ := info_parts Tryd.infoBB
  clear hwz hw5 b5 vZ bz sz vJ5 hc5 B35 rS hg hw32 hbz vJ b4
  refine (callsIn_wide (n := 9)).1 ?_
  refine callsIn_of_wp_marks Tryd.func50 rfl trivial ?_ rfl
  simp only [Tryd.ntmps50, List.size_toArray, List.length_cons, List.length_nil, Nat.reduceAdd, Nat.reduceSub, Array.replicate_succ, Array.replicate_zero, List.push_toArray, List.append_toArray, List.nil_append, List.cons_append]
  refine wpIn_wide.2 ?_
  go_wp2_with (rw [HW5.out])
  clear k2 k3 f2 f3
  refine range_st (gf := 76) (bnd := #[.pointer (some ⟨w3.heap.size, 0, none⟩)]) rfl (enters_of Tryd.func76 (by kernel_rfl) rfl)
    (FinI w3.heap.size (w3.heap.size + 1) w5.heap.size L (.slice pa pn pc) (.slice qa qn qc) w3 w3.heap.size d1) ?_ ?_
  · intro fn
    rw [← hL]
    generalize hr : recOf _ _ _ _ _ _ _ = rr
    have ba := Below.new (w := w5) (.deferred (some []))
    have bb := Below.new (w := w5.alloc (.deferred (some []))) (.loop rr)
    have ha : (w5.alloc (.deferred (some []))).heap[w5.heap.size]? = some (.deferred (some [])) := World.alloc_heap_new _ _
    have hb : ((w5.alloc (.deferred (some []))).alloc (.loop rr)).heap[L]? = some (.loop rr) := by
      have := World.alloc_heap_new (w5.alloc (.deferred (some []))) (.loop rr)
      rw [World.size_alloc, ← hL] at this; exact this
    have hsa : (w5.alloc (.deferred (some []))).heap.size = w5.heap.size + 1 := by simp
    have bab : Below w5.heap.size w5 ((w5.alloc (.deferred (some []))).alloc (.loop rr)) := ba.trans (bb.mono (by omega))
    have RI : RecI w3.heap.size (w3.heap.size + 1) w5.heap.size L (.slice pa pn pc) (.slice qa qn qc) rr w3 w3.heap.size d1 0 0 [] ((w5.alloc (.deferred (some []))).alloc (.loop rr)) := by
      refine ⟨VarJ.step HVJ5.out bab, ⟨.slice none 0 0, [], (bab.block _ (by omega)).trans HC5.out, ?_⟩, hb, (bb.block _ (by omega)).trans ha, HB35.out.trans (bab.mono (by omega)), OpenAt.start d1⟩
      exact ⟨rfl, World.ownsRow_nil _ _ _ _, fun k h => by simp [Value.ownBlock] at h, fun i hi => absurd hi (Nat.not_lt_zero _), fun i j q _ hj => absurd hj (Nat.not_lt_zero _)⟩
    have HYO : YieldOk (w3.heap.size + 1) L rr := by
      clear ba bb ha hb hsa bab RI
      intro u zs W acc v vs h0 hc hX hU hL1 hh0 hLr hac
      rw [← hr] at hLr ⊢
      have hLa : L ≤ w5.heap.size + 1 ∧ w5.heap.size + 1 ≤ L ∧ w5.heap.size ≤ w3.heap.size + 2 ∧ w3.heap.size + 2 ≤ w5.heap.size := by omega
      clear hL hD hr s4
      obtain ⟨ua, un, uc, rfl⟩ := hU.rd.sliced
      have hLlt : L < W.heap.size := (Array.getElem?_eq_some_iff.1 hLr).1
      refine round_st hLr rfl { tmps := #[.pointer (some ⟨w3.heap.size, 0, none⟩), undef, .slice none 0 0, .pointer (some ⟨w3.heap.size + 1, 0, none⟩), .slice ua un uc, .pointer (some ⟨w3.heap.size, 0, none⟩), .pointer (some ⟨w3.heap.size, 0, none⟩), .pointer (some ⟨w3.heap.size, 0, none⟩), .pointer (some ⟨w3.heap.size, 2, none⟩), .pointer (some ⟨w3.heap.size, 0, none⟩), .pointer (some ⟨w3.heap.size, 3, none⟩), .pointer (some ⟨w3.heap.size, 0, none⟩), .func (.func 76) #[.pointer (some ⟨w3.heap.size, 0, none⟩)] #[], .slice ua un uc, undef, undef, undef, undef, undef], defers := [] } ?_ ?_
      · intro K hK
        gi_wp2
        exact hK
      · generalize hbz9 : recOf _ _ _ _ _ _ .busy = rb
        generalize hrd9 : recOf _ _ _ _ _ _ .ready = rd
        have k2 : ∀ k, k ≠ L → (W.putObj L (.loop rb)).heap[k]? = W.heap[k]? := fun k hk => World.putObj_heap_other hk
        have l2 : (W.putObj L (.loop rb)).heap[L]? = some (.loop rb) := World.putObj_heap_same hLlt
        have z2 : (W.putObj L (.loop rb)).heap.size = W.heap.size := World.putObj_size
        have o2 : (W.putObj L (.loop rb)).os = W.os ∧ (W.putObj L (.loop rb)).tape = W.tape ∧ (W.putObj L (.loop rb)).output = W.output := ⟨rfl, rfl, rfl⟩
        generalize W.putObj L (.loop rb) = W2 at k2 l2 z2 o2 ⊢
        have z2a : W2.heap.size ≤ W.heap.size ∧ W.heap.size ≤ W2.heap.size := by omega
        clear z2
        have hc2 : W2.heap[w3.heap.size + 1]? = some (.cells #[v] 23 (0, 0)) := (k2 _ (by omega)).trans hc
        have cc := cell_row1 hc2
        have hrow2 : W2.ownsRow (L + 1) 22 1 v vs.length vs := ownsRow_kept2 hX.2.1 (fun q hq => k2 q (by have := (hX.2.1.lt q hq).1; omega))
        have hvl : vs.length ≤ acc.length ∧ acc.length ≤ vs.length := by have := hX.1; omega
        have HC2 : Hid _ := hc2
        have HK2 : Hid _ := k2
        have HX : Hid _ := hX
        have HU : Hid _ := hU
        have hvb : ∀ q, v.ownBlock = some q → L + 1 ≤ q := fun q hq => (hX.2.1.lt q hq).1
        have HVB : Hid _ := hvb
        have ff : W2.frozen? ⟨w3.heap.size + 1, 0, none⟩ = false := frozen_of_row _ _ _ _ _ hc2
        have HO2 : Hid _ := o2
        have HL2 : Hid _ := l2
        clear hX hU k2 hc2 hc hLr hvb l2 o2
        gi_wp2_with (gi_at_builtin; refine wpListIn_append_own _ rfl _ _ 23 rfl (L + 1) 22 i0 (.slice none 0 0) 1 24 Tryd.underlying23 hi hz0 hz1 hz2 rfl (by decide) _ _ _ rfl (World.ownsRow.alloc hrow2 _) ⟨W2.heap.size, 0, none⟩ 1 1 [.slice ua un uc] rfl rfl (one_slice W2 _) (one_slice1 _) (by unfold maxLen; omega) (by omega) (by simp; omega) ?_; intro v' w1 hown' hgrow _; obtain ⟨g', cap', rfl⟩ := ownsRow_succ hown'; have hcg : w1.heap[w3.heap.size + 1]? = some (.cells #[v] 23 (0, 0)) := (hgrow.block _ (by simp; omega) (fun e => by have := HVB.out _ e.symm; omega)).trans ((Below.heap_alloc W2 _ _ (by omega)).trans HC2.out); have cg := cell_row1 hcg; have fg : w1.frozen? ⟨w3.heap.size + 1, 0, none⟩ = false := frozen_of_row _ _ _ _ _ hcg)
        have hs1 := hgrow.size
        rw [World.size_alloc] at hs1
        have hfar1 : ∀ k, k < W2.heap.size → v.ownBlock ≠ some k → w1.heap[k]? = W2.heap[k]? := fun k hk hne => (hgrow.block k (by simp; omega) (fun e => hne e.symm)).trans (Below.heap_alloc W2 _ k hk)
        have hL1' : w1.heap[L]? = some (.loop rb) := (hfar1 L (by omega) (fun e => by have := HVB.out _ e; omega)).trans HL2.out
        refine ⟨?_, rfl, ⟨.slice (some ⟨g', 0, none⟩) (vs.length + 1) cap', vs ++ [.slice ua un uc], ?_, ?_⟩, ?_, ?_, ?_⟩
        · rw [heap_setCell_other _ _ _ _ (by show L ≠ w3.heap.size + 1; omega)]; exact hL1'
        · rw [World.putObj_heap_other (by omega), heap_setCell_same _ _ _ _ _ _ hcg]; rfl
        · have hsn := OwX.snoc (W := W) (wa := W2.alloc (.cells #[.slice ua un uc] 22)) (n := vs.length + 1) HX.out HU.out hL1 hh0 ⟨by simp; omega, fun k h1 h2 => (Below.heap_alloc W2 _ k (by omega)).trans (HK2.out k (by omega))⟩ (by simp; omega) (by omega) hown' hgrow
          have hsm := hsn.same (w' := (w1.setCell ⟨w3.heap.size + 1, 0, none⟩ (.slice (some ⟨g', 0, none⟩) (vs.length + 1) cap')).putObj L (.loop rd)) ⟨by simp, fun k h1 h2 => by rw [World.putObj_heap_other (by omega), heap_setCell_other _ _ _ _ (by show k ≠ w3.heap.size + 1; omega)]⟩
          simpa using hsm
        · exact World.putObj_heap_same (by simp; omega)
        · intro k hk hkc
          rw [World.putObj_heap_other (by omega), heap_setCell_other _ _ _ _ hkc]
          exact (hfar1 k (by omega) (fun e => by have := HVB.out _ e; omega)).trans (HK2.out k (by omega))
        · exact ⟨hgrow.os.trans HO2.out.1, hgrow.tape.trans HO2.out.2.1, hgrow.output.trans HO2.out.2.2, by simp; omega⟩
    refine Calls.mono (records_any w3.heap.size (w3.heap.size + 1) w5.heap.size L (.slice pa pn pc) (.slice qa qn qc) rr w3 w3.heap.size d1 lS w3.heap.size a _ RI HYO HRS3.out (Nat.le_refl _) (Nat.le_refl _) HG3.out (by omega) (by omega) hS2 HW32.out HBZ.out) ?_
    rintro e W' ⟨hv, hl, P, q, acc, hI, hn⟩
    exact ⟨hv, hl, _, P, q, acc, hI, hn⟩
  · intro r W hF hlt
    obtain ⟨r', P, q, acc, ⟨hV, ⟨v, vs, hc, hX⟩, hLr, hDf, hB, hO⟩, hn⟩ := hF
    have hst := hO.stop hn
    have HSTO : Hid _ := hst
    obtain ⟨va, vn, vc, rfl⟩ := row_sliced hX.2.1
    have hLlt := (Array.getElem?_eq_some_iff.1 hLr).1
    have k6 : ∀ k, k ≠ L → (W.putObj (w5.heap.size + 1) (.loop r)).heap[k]? = W.heap[k]? := fun k hk => World.putObj_heap_other (by omega)
    have z6 : (W.putObj (w5.heap.size + 1) (.loop r)).heap.size = W.heap.size := World.putObj_size
    have o6 : (W.putObj (w5.heap.size + 1) (.loop r)).os = W.os ∧ (W.putObj (w5.heap.size + 1) (.loop r)).tape = W.tape ∧ (W.putObj (w5.heap.size + 1) (.loop r)).output = W.output := ⟨rfl, rfl, rfl⟩
    generalize W.putObj (w5.heap.size + 1) (.loop r) = W6 at k6 z6 o6 ⊢
    have hV6 : VarJ 30 W6 w3.heap.size (.slice pa pn pc) (.slice qa qn qc) (P : Int) (q : Int) := (k6 _ (by omega)).trans hV
    have hc6 := (k6 (w3.heap.size + 1) (by omega)).trans hc
    have cc6 := cell_row1 hc6
    have HD6 : Hid (W6.heap[w5.heap.size]? = some (.deferred (some []))) := (k6 w5.heap.size (by omega)).trans hDf
    have far8 : ∀ k, k ≠ w5.heap.size → (W6.putObj w5.heap.size (.deferred none)).heap[k]? = W6.heap[k]? := fun k h2 => World.putObj_heap_other h2
    have z8 : (W6.putObj w5.heap.size (.deferred none)).heap.size = W6.heap.size := World.putObj_size
    have o8 : (W6.putObj w5.heap.size (.deferred none)).os = W6.os ∧ (W6.putObj w5.heap.size (.deferred none)).tape = W6.tape ∧ (W6.putObj w5.heap.size (.deferred none)).output = W6.output := ⟨rfl, rfl, rfl⟩
    generalize hW8 : W6.putObj w5.heap.size (.deferred none) = W8 at far8 z8 o8
    have HW8 : Hid _ := hW8
    have VJ8 : VarJ 30 W8 w3.heap.size (.slice pa pn pc) (.slice qa qn qc) (P : Int) (q : Int) := (far8 _ (by omega)).trans hV6
    have OX8 : OwX W8 (w3.heap.size + 1) W8.heap.size (.slice va vn vc) acc vs := by
      have h8 := hX.same (w' := W8) ⟨by rw [z8]; omega, fun k h1 h2 => (far8 k (by omega)).trans (k6 k (by omega))⟩
      exact h8.wide (by omega) (by rw [z8]; omega)
    have B8 : Below w3.heap.size w3 W8 := ⟨o8.1.trans (o6.1.trans hB.os), o8.2.1.trans (o6.2.1.trans hB.tape), o8.2.2.trans (o6.2.2.trans hB.output), by rw [z8]; have := hB.size; omega, fun k hk => (far8 k (by omega)).trans ((k6 k (by omega)).trans (hB.block k hk))⟩
    have HALL : Hid _ := And.intro VJ8 (And.intro OX8 (And.intro B8 (show w3.heap.size + 1 ≤ W8.heap.size by rw [z8]; omega)))
    clear VJ8 OX8 B8 hW8 z8 o8 far8 hD hL z6 hV hc hX hLr hDf hB hO hn hst k6 o6 hV6 hc6
    go_wp2
    refine ⟨by simp, .inl ⟨_, _, rfl, run_takeDeferred HD6.out, ?_⟩⟩
    rw [HW8.out]
    refine ⟨.slice va vn vc, ?_, _, vs, rfl, ?_, ?_, ?_, ?_⟩
    · simp [results, Tryd.results50, go_sem]
    · rw [HSTO.out]; exact HALL.out.1
    · rw [HSTO.out]; exact HALL.out.2.1
    · exact HALL.out.2.2.1
    · exact HALL.out.2.2.2
set_option maxRecDepth 100000 in
set_option maxHeartbeats 4000000 in
theorem implOpen_yes (v : Value) (d : Dk) (l h : Nat) (w : World) (r : RdD w l h v d) (hh : h ≤ w.heap.size) (a : Addr) (hg : Glob w a) (hok : okD d = true) (hno : d.2 = []) :
    Calls Tryd.prog 13 #[v] w fun e w' => ∃ X V vs H, e = .returned (.tuple #[X, V, .bool true]) ∧ OwJ2 w' w.heap.size H X (d, ((openS d.1).1 : Int), ((openS d.1).2.1 : Int)) ∧ OwX w' H w'.heap.size V (openS d.1).2.2 vs ∧ H ≤ w'.heap.size ∧ w.heap.size ≤ H ∧ Below w.heap.size w w' := by
  obtain ⟨d1, d2⟩ := d
  subst hno
  obtain ⟨xa, xn, xc, ya, yn, yc, rfl⟩ := r.open
  have hyn : yn = 0 := by
    obtain ⟨x', y', he, _, rb⟩ := r
    simp only [Value.agg.injEq, Array.mk.injEq, List.cons.injEq, and_true] at he
    obtain ⟨rfl, rfl⟩ := he
    exact rb.len.1
  subst hyn
  have hlt := hg.lt
  have b0 := Below.new (w := w) (.cells #[.slice xa xn xc, .slice ya 0 yc] 26)
  have v0 := VarD.new w (.slice xa xn xc) (.slice ya 0 yc)
  generalize hw0 : w.alloc (.cells #[.slice xa xn xc, .slice ya 0 yc] 26) = w0 at b0 v0
  have s0 : w0.heap.size = w.heap.size + 1 := by rw [← hw0]; simp
  have b1 := Below.new (w := w0) (.cells #[.slice none 0 0, .slice none 0 0, .int .i64 0, .int .i64 0] 30)
  have vR := VarJ.new (T := 30) w0 (.slice none 0 0) (.slice none 0 0) 0 0
  rw [s0] at vR
  have v1 := v0.step b1
  generalize hw1 : w0.alloc (.cells #[.slice none 0 0, .slice none 0 0, .int .i64 0, .int .i64 0] 30) = w1 at b1 vR v1
  have B1 : Below w.heap.size w w1 := b0.trans (b1.mono (by omega))
  have sR := vR.lt
  have s1 := B1.size
  have r1 := r.step hh B1
  have g1 := hg.step B1 hlt
  have h9 := implOk_any _ (d1, []) l h a w1 r1 (by omega) g1
  rw [hok] at h9
  have HOK : Hid _ := h9
  have HW : Hid ((w.alloc (.cells #[.slice xa xn xc, .slice ya 0 yc] 26)).alloc (.cells #[.slice none 0 0, .slice none 0 0, .int .i64 0, .int .i64 0] 30) = w1) := by show _ = _; rw [hw0, hw1]
  have HV1 : Hid (VarD w1 w.heap.size _ _) := v1
  have HVR : Hid (VarJ _ w1 (w.heap.size + 1) _ _ _ _) := vR
  have HB1 : Hid (Below w.heap.size w w1) := B1
  have HR1 : Hid (RdD w1 l h _ _) := r1
  have HG1 : Hid _ := g1
  have HOKD : Hid (okD (d1, []) = true) := hok
  have hpar := hok
  unfold okD at hpar
  simp only [Bool.and_eq_true, decide_eq_true_eq, List.all_eq_true] at hpar
  have hS2 : d1.length ≤ 2000 := hpar.1.1.1
  have HW32 : Hid (∀ i, i < d1.length → (d1[i]?.getD []).length = 32) := fun i hi => by
    have := hpar.1.2 _ (List.getElem_mem hi)
    simp [secOk] at this
    rw [List.getElem?_eq_getElem hi]
    simpa using this
  have c0 := v1.c0
  have c1 := v1.c1
  clear hw0 hw1 r hg b0 v0 b1 vR v1 B1 s0 r1 g1 h9 hok hpar
  go_enter Tryd.func13, Tryd.ntmps13
  go_wp2_with fail
  rw [HW.out]
  refine Calls.mono HOK.out ?_
  rintro e w2 ⟨rfl, b2⟩
  have v2 := VarD.step HV1.out b2
  have k1 := v2.c1
  have r2 := RdD.step HR1.out (by omega) b2
  obtain ⟨x', y', he, r21, r22⟩ := r2
  simp only [Value.agg.injEq, Array.mk.injEq, List.cons.injEq, and_true] at he
  obtain ⟨rfl, rfl⟩ := he
  have s2 := b2.size
  have HCL : Hid _ := clone_any w.heap.size _ _ (d1, []) l h w2 v2 r21 r22 (by omega) HOKD.out
  have HVR2 : Hid (VarJ _ w2 (w.heap.size + 1) _ _ _ _) := VarJ.step HVR.out b2
  have HB2 : Hid (Below w.heap.size w w2) := HB1.out.trans (b2.mono HB1.out.size)
  have HG2 : Hid (Glob w2 a) := Glob.step (w := w1) HG1.out b2 (by omega)
  clear b2 v2 r21 r22 HOK HV1 HVR HB1 HR1 HG1 c0 c1
  go_wp2_with fail
  refine Calls.mono HCL.out ?_
  rintro e w3 ⟨u, rfl, oU, b3⟩
  obtain ⟨pa, pn, pc, qa, qn, qc, rfl⟩ := oU.rd.open
  have s3 := b3.size
  have b4 := Below.new (w := w3) (.cells #[.slice pa pn pc, .slice qa qn qc, .int .i64 0, .int .i64 0] 30)
  have vJ := VarJ.new (T := 30) w3 (.slice pa pn pc) (.slice qa qn qc) 0 0
  generalize hw4 : w3.alloc (.cells #[.slice pa pn pc, .slice qa qn qc, .int .i64 0, .int .i64 0] 30) = w4 at b4 vJ
  have s4 : w4.heap.size = w3.heap.size + 1 := by rw [← hw4]; simp
  have HW4 : Hid (w3.alloc (.cells #[.slice pa pn pc, .slice qa qn qc, .int .i64 0, .int .i64 0] 30) = w4) := hw4
  have HRS3 : RdBB w3 w2.heap.size w3.heap.size (.slice pa pn pc) d1 := by
    obtain ⟨x', y', he, ra, _⟩ := oU.rd
    simp only [Value.agg.injEq, Array.mk.injEq, List.cons.injEq, and_true] at he
    obtain ⟨rfl, rfl⟩ := he
    exact ra
  have HBZ : ∀ i : Nat, isBytes (d1[i]?.getD []) := fun i => by
    obtain ⟨a', n', c', us, he, hl, _, _, hee⟩ := HRS3
    by_cases hi : i < n'
    · exact (hee i hi).1
    · rw [List.getElem?_eq_none (by omega)]; exact isBytes_nil
  have HRE : Hid _ := reopen_any w3 w4 pa pn pc qa qn qc 0 0 d1 w2.heap.size a vJ b4 s4 HRS3 (Glob.step (w := w2) HG2.out b3 (by omega)) hS2 HW32.out HBZ
  have B24 : Below w2.heap.size w2 w4 := b3.trans (b4.mono s3)
  have HB4 : Hid (Below w.heap.size w w4) := HB2.out.trans (B24.mono HB2.out.size)
  have HVR4 : Hid (VarJ 30 w4 (w.heap.size + 1) (.slice none 0 0) (.slice none 0 0) 0 0) := VarJ.step HVR2.out B24
  have HO3 : Hid (OwD2 w3 w2.heap.size w3.heap.size (.agg #[.slice pa pn pc, .slice qa qn qc]) (d1, [])) := oU
  have HB34 : Hid (Below w3.heap.size w3 w4) := b4
  have hrl : w.heap.size + 1 < w2.heap.size := by omega
  clear hw4 oU b3 b4 B24 vJ HG2 HB2 HVR2 HCL k1 HRS3 HBZ HW32
  go_wp2_with (rw [HW4.out])
  refine Calls.mono HRE.out ?_
  rintro e w6 ⟨V, vs, rfl, vJ6, oX6, b6, s6⟩
  obtain ⟨va, vn, vc, rfl⟩ := row_sliced oX6.2.1
  have vR6 : VarJ 30 w6 (w.heap.size + 1) (.slice none 0 0) (.slice none 0 0) 0 0 := (b6.block _ (by omega)).trans ((HB34.out.block _ (by omega)).symm.trans HVR4.out)
  have B6 : Below w.heap.size w w6 := ⟨b6.os.trans (HB34.out.os.symm.trans HB4.out.os), b6.tape.trans (HB34.out.tape.symm.trans HB4.out.tape), b6.output.trans (HB34.out.output.symm.trans HB4.out.output), by have := HB4.out.size; omega, fun k hk => (b6.block k (by omega)).trans ((HB34.out.block k (by omega)).symm.trans (HB4.out.block k hk))⟩
  have O6 : OwD2 w6 w2.heap.size w3.heap.size (.agg #[.slice pa pn pc, .slice qa qn qc]) (d1, []) := OwD2.same HO3.out ⟨b6.size, fun k h1 h2 => b6.block k h2⟩
  obtain ⟨Po, hPo⟩ : ∃ P, P = (openS d1).1 := ⟨_, rfl⟩
  obtain ⟨Qo, hQo⟩ : ∃ P, P = (openS d1).2.1 := ⟨_, rfl⟩
  rw [← hPo, ← hQo] at vJ6
  have HP : Hid (Po = (openS d1).1 ∧ Qo = (openS d1).2.1) := ⟨hPo, hQo⟩
  clear hPo hQo
  have k0 := vJ6.c0
  have k1 := vJ6.c1
  have k2 := vJ6.c2
  have k3 := vJ6.c3
  have e0 := vR6.c0
  have e1 := vR6.c1
  have e2 := vR6.c2
  have e3 := vR6.c3
  have f0 := vR6.f 0
  have f1 := vR6.f 1
  have f2 := vR6.f 2
  have f3 := vR6.f 3
  have HX6 : Hid (OwX w6 (w3.heap.size + 1) w6.heap.size _ (openS d1).2.2 vs) := oX6
  have HB6 : Hid (Below w.heap.size w w6) := B6
  have HO6 : Hid (OwD2 w6 w2.heap.size w3.heap.size _ _) := O6
  have nb1 : ¬ w3.heap.size = w.heap.size + 1 := by omega
  have nb3 : ¬ w.heap.size + 1 = w3.heap.size := by omega
  clear vJ6 oX6 vR6 B6 O6 HO3 HB34 HB4 HVR4 HRE b6
  go_wp2
  rw [← HP.out.1, ← HP.out.2]
  refine bodyPost_ret (v := .tuple #[.agg #[.slice pa pn pc, .slice qa qn qc, .int .i64 (Po : Int), .int .i64 (Qo : Int)], .slice va vn vc, .bool true]) (by simp [results, Tryd.results13, go_sem, e0, e1, e2, e3]) rfl ⟨_, _, vs, w3.heap.size + 1, rfl, ⟨_, _, rfl, (OwD2.same HO6.out (four_same2 (by omega))).wide (by omega) (by omega)⟩, (OwX.same HX6.out (four_same2 (by omega))).wide (Nat.le_refl _) (by simp), by simp; omega, by omega, four_below2 HB6.out (Nat.le_succ _)⟩
end Go.Proofs.YtjhaanenkeceiaaDoor
end

section
/- A drawn journal: some journal, in memory of its own; the cursor's own block turns, nothing else. No condition. -/
namespace Go.Proofs.YtjhaanenkeceiaaDoor
open Go.RowKit
set_option linter.unusedVariables false
set_option linter.unusedSimpArgs false
attribute [local go_sem ↓] Go.wp_at_zero Go.wp_at_succ

theorem RdD.curJ {w w' : World} {l h pb : Nat} {v : Value} {d : Dk} (r : RdD w l h v d) (hg : w.grownBy w' (some pb)) (hp : pb < l) (hh : h ≤ w.heap.size) : RdD w' l h v d :=
  r.same ⟨hg.size, fun k h1 h2 => hg.block k (by omega) (fun e => by cases e; omega)⟩
/-- What is drawn. -/
def JnOut (pb : Nat) (w : World) (e : Ending) (w' : World) : Prop := ∃ v j, e = .returned v ∧ RdJ w' w.heap.size w'.heap.size v j ∧ Small j.1 ∧ CurAt w' pb ∧ w.grownBy w' (some pb)
def JLRel (w : World) (pb b N : Nat) (i : Value) (wr : World) : Prop :=
  ∃ (k : Nat) (j : Jn) (x y : Value) (l h : Nat), k ≤ N ∧ i = .int .i64 k ∧ Hid (VarJ 30 wr b x y j.2.1 j.2.2) ∧ Hid (RdD wr l h (.agg #[x, y]) j.1) ∧ (w.heap.size + 1 ≤ l ∧ h ≤ wr.heap.size ∧ (h ≤ b ∨ b < l)) ∧ Hid (Small j.1) ∧ Hid (VarJ 30 wr w.heap.size (.slice none 0 0) (.slice none 0 0) 0 0) ∧ CurAt wr pb ∧ w.grownBy wr (some pb)
theorem newD_small (n : Int) (hn : n < 20) : Small (newD n) := by
  unfold newD
  split
  · refine ⟨?_, ?_, by simp [lenWs]⟩
    · simp; omega
    · have h := lenBB_most (List.replicate n.toNat zsec) (fun i => by
        rw [List.getElem?_replicate]
        split
        · simp [zsec]
        · simp)
      rw [List.length_replicate] at h
      show lenBB (List.replicate n.toNat zsec) ≤ _
      omega
  · exact ⟨by simp, by simp [lenBB], by simp [lenWs]⟩

set_option maxRecDepth 100000 in
set_option maxHeartbeats 4000000 in
theorem journal_any (pb : Nat) (w : World) (h : CurAt w pb) :
    Calls Tryd.prog 40 #[.pointer (some ⟨pb, 0, none⟩)] w (JnOut pb w) := by
  have hpb := h.lt
  have b1 := Below.new (w := w) (.cells #[.slice none 0 0, .slice none 0 0, .int .i64 0, .int .i64 0] 30)
  have vR := VarJ.new (T := 30) w (.slice none 0 0) (.slice none 0 0) 0 0
  generalize hw1 : w.alloc (.cells #[.slice none 0 0, .slice none 0 0, .int .i64 0, .int .i64 0] 30) = w1 at b1 vR
  have HW1 : Hid _ := hw1
  have s1 : w1.heap.size = w.heap.size + 1 := by rw [← hw1]; simp
  have hc1 := CurAt.below h b1
  have HB : Hid _ := below_any pb 20 w1 hc1 (by omega) (by omega)
  have HB1 : Hid _ := b1
  have HVR1 : Hid (VarJ 30 w1 w.heap.size _ _ _ _) := vR
  have s1a : w1.heap.size ≤ w.heap.size + 1 ∧ w.heap.size + 1 ≤ w1.heap.size := by omega
  clear hw1 b1 vR h hc1 s1
  go_enter Tryd.func40, Tryd.ntmps40
  go_wp2_with (rw [HW1.out])
  refine Calls.mono HB.out ?_
  rintro e w2 ⟨n, rfl, hn0, hn1, hc2, hg2⟩
  have s2 := hg2.size
  have HNW : Hid _ := specNew_any n w2
  have HC2 : Hid _ := hc2
  have HG2 : Hid (w.grownBy w2 (some pb)) := grown_trans (grown_below HB1.out) hg2
  have HVR2 : Hid (VarJ 30 w2 w.heap.size _ _ _ _) := (hg2.block w.heap.size (by omega) (fun e => by cases e; omega)).trans HVR1.out
  clear HB HB1 HVR1 hc2 hg2
  go_wp2_with fail
  refine Calls.mono HNW.out ?_
  rintro e w3 ⟨u, rfl, rU, b3⟩
  have s3 := b3.size
  obtain ⟨da, dn, dc, fa, fn, fc, rfl⟩ := rU.open
  have b4 := Below.new (w := w3) (.cells #[.slice da dn dc, .slice fa fn fc] 26)
  have vD := VarD.new w3 (.slice da dn dc) (.slice fa fn fc)
  have rU4 := rU.step (Nat.le_refl _) b4
  generalize hw4 : w3.alloc (.cells #[.slice da dn dc, .slice fa fn fc] 26) = w4 at b4 vD rU4
  have HW4 : Hid _ := hw4
  have s4 := b4.size
  have HOP : Hid _ := fnExactOpen.specOpen_all _ (newD n) _ _ w4 rU4 (by omega) (newD_small n hn1)
  have k0 := vD.c0
  have k1 := vD.c1
  have b24 : Below w2.heap.size w2 w4 := b3.trans (b4.mono s3)
  have HC4 : Hid _ := CurAt.below HC2.out b24
  have HG4 : Hid (w.grownBy w4 (some pb)) := grown_trans HG2.out (grown_below b24)
  have HVR4 : Hid (VarJ 30 w4 w.heap.size _ _ _ _) := VarJ.step HVR2.out b24
  have hosz := fnExactOpen.open_sizes (newD n) (newD_small n hn1)
  have HSM0 : Hid _ := hosz.1
  clear HNW HC2 HG2 HVR2 hw4 b3 b4 vD rU rU4 b24 hosz
  go_wp2_with (rw [HW4.out])
  refine Calls.mono HOP.out ?_
  rintro e w5 ⟨X, V, rfl, rJ, rV, b5⟩
  obtain ⟨va, vn, vc, rfl⟩ := rV.sliced
  obtain ⟨ga, gn, gc, ha, hn, hc, rfl, rD⟩ := rJ.open
  have s5 := b5.size
  generalize openOk (newD n) = okk
  generalize openJ (newD n) = Z at rD HSM0 ⊢
  have b6 := Below.new (w := w5) (.cells #[.slice ga gn gc, .slice ha hn hc, .int .i64 Z.2.1, .int .i64 Z.2.2] 30)
  have vJ := VarJ.new (T := 30) w5 (.slice ga gn gc) (.slice ha hn hc) Z.2.1 Z.2.2
  have HRD6 : Hid (RdD _ w4.heap.size w5.heap.size (.agg #[.slice ga gn gc, .slice ha hn hc]) Z.1) := rD.step (Nat.le_refl _) b6
  generalize hw6 : w5.alloc (.cells #[.slice ga gn gc, .slice ha hn hc, .int .i64 Z.2.1, .int .i64 Z.2.2] 30) = w6 at b6 vJ HRD6
  have HW6 : Hid _ := hw6
  have s6 := b6.size
  have s6l := vJ.lt
  obtain ⟨b, hb⟩ : ∃ b, b = w5.heap.size := ⟨_, rfl⟩
  have b46 : Below w4.heap.size w4 w6 := b5.trans (b6.mono s5)
  have HV6 : Hid (VarJ 30 w6 w5.heap.size _ _ _ _) := vJ
  have HVR6 : Hid (VarJ 30 w6 w.heap.size _ _ _ _) := VarJ.step HVR4.out b46
  have hc6 := CurAt.below HC4.out b46
  have HG6 : Hid (w.grownBy w6 (some pb)) := grown_trans HG4.out (grown_below b46)
  have HBL : Hid _ := below_any pb 5 w6 hc6 (by omega) (by omega)
  have hpb6 : pb < w6.heap.size := by omega
  have hs46 : w4.heap.size ≤ w5.heap.size := s5
  clear rJ rV rD hw6 b5 b6 vJ b46 HC4 HG4 HVR4 HOP k0 k1
  go_wp2_with (rw [HW6.out])
  refine Calls.mono HBL.out ?_
  rintro e w7 ⟨m, rfl, hm0, hm1, hc7, hg7⟩
  obtain ⟨N, hN⟩ : ∃ N : Nat, m = (N : Int) := ⟨m.toNat, by omega⟩
  subst hN
  have s7 := hg7.size
  have HST : Hid (JLRel w pb b N (.int .i64 0) w7) := by
    refine ⟨0, Z, _, _, w4.heap.size, w5.heap.size, Nat.zero_le _, rfl, ?_, RdD.curJ HRD6.out hg7 (by omega) (by omega), ⟨by omega, by omega, by omega⟩, HSM0.out, ?_, hc7, grown_trans HG6.out hg7⟩
    · rw [hb]; exact (hg7.block _ s6l (fun e => by cases e; omega)).trans HV6.out
    · exact (hg7.block _ (by omega) (fun e => by cases e; omega)).trans HVR6.out
  have hbb : w.heap.size + 1 ≤ b := by omega
  have hN5 : N < 5 := by omega
  have hb5 : b ≤ w5.heap.size ∧ w5.heap.size ≤ b := by omega
  rw [← hb]
  clear HBL HV6 HVR6 HG6 HRD6 HSM0 hc7 hg7 hc6 hb
  go_wp2
  go_loopw [9] (fun i wr => JLRel w pb b N i wr) (fun i _ => N - (intOf i).toNat)
  case atStart => exact HST.out
  case round =>
    clear HST
    obtain ⟨k, ⟨d, P, Q⟩, x, y, l, h, hk, rfl, HV, HRD, hlh, HSM, HVR, hcw, hgw⟩ := hrel
    obtain ⟨xa, xn, xc, ya, yn, yc, he⟩ := HRD.out.open
    simp only [Value.agg.injEq, Array.mk.injEq, List.cons.injEq, and_true] at he
    obtain ⟨rfl, rfl⟩ := he
    have hV := HV.out
    have hbw : b < wr.heap.size := hV.lt
    have c0 := hV.c0
    have c1 := hV.c1
    have c2 := hV.c2
    have c3 := hV.c3
    have hVRl : w.heap.size < wr.heap.size := VarJ.lt HVR.out
    by_cases hlt : k < N
    · have hlt9 : (k : Int) < (N : Int) := by omega
      have HSO : Hid _ := some_any pb 60 wr.drew (CurAt.below hcw (Below.drew (Below.refl _ _))) (by omega)
      clear hV hcw
      go_wp2
      refine wp_region_noPanic ?_
      refine wp_region_held_drew (S := fun _ => True) (by kernel_rfl) trivial (fun hHeld => ?_)
      clear hHeld
      refine wpAnyH_take (i := 1) (v := ?_) rfl (by kernel_rfl) (by kernel_rfl) (by kernel_rfl) (fun _ _ _ h => h) (Or.inl ⟨by rfl, ?_⟩) trivial ?_
      rotate_left
      · (intro w_ hSw_; (try dsimp only at hSw_); go_simp; try with_reducible rfl)
      try simp only [Act.put, List.setIfInBounds_toArray, List.set_cons_zero, List.set_cons_succ, List.getElem_toArray, List.getElem_cons_zero, List.getElem_cons_succ]
      refine wpAnyH_ready (rs := [0, 2]) (by kernel_rfl) (by simp) ?_
      refine AllReadyH.cons rfl (fun K hK => ?_) ?_
      · go_simp
        refine hK.out _ _ trivial (fun hHeld => ?_)
        clear hK K hHeld
        try simp only [Act.put, List.setIfInBounds_toArray, List.set_cons_zero, List.set_cons_succ, List.getElem_toArray, List.getElem_cons_zero, List.getElem_cons_succ]
        refine wpAnyH_ready (rs := [2]) (by kernel_rfl) (by simp) ?_
        refine AllReadyH.cons rfl (fun K hK => ?_) AllReadyH.nil
        go_simp
        refine Calls.mono HSO.out ?_
        rintro e w3 ⟨rv, ys, rfl, hor, hbr, hlr, hc3, hg3⟩
        obtain ⟨ra, rn, rc, rfl⟩ := hor.sliced
        have s3 : wr.heap.size ≤ w3.heap.size := hg3.size
        have v3 : VarJ 30 w3 b (.slice xa xn xc) (.slice ya yn yc) P Q := (hg3.block b hbw (fun e => by cases e; omega)).trans HV.out
        have k0 := v3.c0
        have k1 := v3.c1
        have k2 := v3.c2
        have k3 := v3.c3
        have HV3 : Hid (VarJ 30 w3 b _ _ _ _) := v3
        have HVR3 : Hid (VarJ 30 w3 w.heap.size _ _ _ _) := (hg3.block w.heap.size (by show _ < wr.heap.size; omega) (fun e => by cases e; omega)).trans HVR.out
        have hg3w : wr.grownBy w3 (some pb) := grown_trans (grown_below (Below.drew (Below.refl _ _))) hg3
        have HAP : Hid _ := specAppend_all (.agg #[.slice xa xn xc, .slice ya yn yc, .int .i64 P, .int .i64 Q]) (d, P, Q) l h _ ys wr.heap.size w3.heap.size w3 ⟨_, _, rfl, RdD.curJ HRD.out hg3w (by omega) hlh.2.1⟩ (by omega) (OwB.of hbr hor).rd (Nat.le_refl _) HSM.out
        have HC3 : Hid _ := hc3
        have HG3 : Hid (w.grownBy w3 (some pb)) := grown_trans hgw (grown_trans (grown_below (Below.drew (Below.refl _ _))) hg3)
        clear v3 hor hbr hc3 hg3 hg3w HSO
        go_wp2_with fail
        refine hK.out _ _ trivial (fun hHeld => ?_)
        clear hK K hHeld
        try simp only [Act.put, List.setIfInBounds_toArray, List.set_cons_zero, List.set_cons_succ, List.getElem_toArray, List.getElem_cons_zero, List.getElem_cons_succ]
        refine wpAnyH_ready (rs := [3]) (by kernel_rfl) (by simp) ?_
        refine AllReadyH.cons rfl (fun K hK => ?_) AllReadyH.nil
        go_simp
        refine Calls.mono HAP.out ?_
        rintro e w4 ⟨u, rfl, rU, b4⟩
        obtain ⟨ga, gn, gc, ha, hn, hc, rfl, rD⟩ := rU.open
        have s4 := b4.size
        have v4 := VarJ.step HV3.out b4
        have m0 := v4.c0
        have m1 := v4.c1
        have m2 := v4.c2
        have m3 := v4.c3
        have f0 := v4.f 0
        have f1 := v4.f 1
        have f2 := v4.f 2
        have f3 := v4.f 3
        have HV4 : Hid (VarJ 30 w4 b _ _ _ _) := v4
        have HVR4 : Hid (VarJ 30 w4 w.heap.size _ _ _ _) := VarJ.step HVR3.out b4
        have HRD4 : Hid (RdD w4 w3.heap.size w4.heap.size (.agg #[.slice ga gn gc, .slice ha hn hc]) _) := rD
        have HC4 : Hid _ := CurAt.below HC3.out b4
        have HG4 : Hid (w.grownBy w4 (some pb)) := grown_trans HG3.out (grown_below b4)
        have HSA : Hid _ := appendJ_small (j := (d, P, Q)) HSM.out ys
        clear v4 rU rD b4 HAP k0 k1 k2 k3 HV3 HVR3 HC3 HG3
        go_wp2_with fail
        refine hK.out _ _ trivial (fun hHeld => ?_)
        clear hK K hHeld
        try simp only [Act.put, List.setIfInBounds_toArray, List.set_cons_zero, List.set_cons_succ, List.getElem_toArray, List.getElem_cons_zero, List.getElem_cons_succ]
        refine wpAnyH_take (i := 4) (v := ?_) rfl (by kernel_rfl) (by kernel_rfl) (by kernel_rfl) (fun _ _ _ h => h) (Or.inl ⟨by rfl, ?_⟩) trivial ?_
        rotate_left
        · (intro w_ hSw_; (try dsimp only at hSw_); go_simp; try with_reducible rfl)
        try simp only [Act.put, List.setIfInBounds_toArray, List.set_cons_zero, List.set_cons_succ, List.getElem_toArray, List.getElem_cons_zero, List.getElem_cons_succ]
        refine wpAnyH_take (i := 5) (v := ?_) rfl (by kernel_rfl) (by kernel_rfl) (by kernel_rfl) (fun _ _ _ h => h) (Or.inl ⟨by rfl, ?_⟩) trivial ?_
        rotate_left
        · (intro w_ hSw_; (try dsimp only at hSw_); go_simp; try with_reducible rfl)
        try simp only [Act.put, List.setIfInBounds_toArray, List.set_cons_zero, List.set_cons_succ, List.getElem_toArray, List.getElem_cons_zero, List.getElem_cons_succ]
        refine wpAnyH_take (i := 6) (v := ?_) rfl (by kernel_rfl) (by kernel_rfl) (by kernel_rfl) (fun _ _ _ h => h) (Or.inl ⟨by rfl, ?_⟩) trivial ?_
        rotate_left
        · (intro w_ hSw_; (try dsimp only at hSw_); go_simp; try with_reducible rfl)
        try simp only [Act.put, List.setIfInBounds_toArray, List.set_cons_zero, List.set_cons_succ, List.getElem_toArray, List.getElem_cons_zero, List.getElem_cons_succ]
        refine wpAnyH_ready (rs := [7]) (by kernel_rfl) (by simp) ?_
        refine AllReadyH.cons rfl (fun K hK => ?_) AllReadyH.nil
        go_simp
        refine hK.out _ _ trivial (fun hHeld => ?_)
        clear hK K hHeld
        try simp only [Act.put, List.setIfInBounds_toArray, List.set_cons_zero, List.set_cons_succ, List.getElem_toArray, List.getElem_cons_zero, List.getElem_cons_succ]
        refine wpAnyH_done (by kernel_rfl) (NoPanic.normal ?_) _
        have HR : Hid (JLRel w pb b N (.int .i64 ((k : Int) + 1)) ((((w4.setCell ⟨b, 0, none⟩ (.slice ga gn gc)).setCell ⟨b, 1, none⟩ (.slice ha hn hc)).setCell ⟨b, 2, none⟩ (.int .i64 (appendJ (d, P, Q) ys).1.2.1)).setCell ⟨b, 3, none⟩ (.int .i64 (appendJ (d, P, Q) ys).1.2.2))) := by
          refine ⟨k + 1, (appendJ (d, P, Q) ys).1, _, _, w3.heap.size, w4.heap.size, by omega, by go_num, VarJ.fill HV4.out _ _ _ _, RdD.same HRD4.out ⟨by simp, fun q h1 _ => four_other2 (by omega)⟩, ⟨by omega, by simp, by omega⟩, HSA.out, ?_, ?_, ?_⟩
          · exact (four_other2 (by omega)).trans HVR4.out
          · exact (((CurAt.put HC4.out (by omega)).put (by omega)).put (by omega)).put (by omega)
          · exact grown_put (grown_put (grown_put (grown_put HG4.out _ (by omega)) _ (by omega)) _ (by omega)) _ (by omega)
        clear HV4 HVR4 HRD4 HC4 HG4 HSA m0 m1 m2 m3 f0 f1 f2 f3
        go_wp2
        refine ⟨?_, by simp [intOf]; omega⟩
        first | exact HR.out | exact ⟨_, HR.out, rfl⟩ | exact ⟨_, _, HR.out, rfl⟩ | exact ⟨_, _, _, HR.out, rfl⟩ | exact ⟨_, _, _, _, HR.out, rfl⟩ | exact ⟨_, _, _, _, _, HR.out, rfl⟩ | exact ⟨_, _, _, _, _, _, HR.out, rfl⟩ | exact ⟨_, _, _, _, _, _, _, HR.out, rfl⟩ | exact ⟨_, _, _, _, _, _, _, _, HR.out, rfl⟩ | exact ⟨_, _, _, _, _, _, _, _, _, HR.out, rfl⟩ | exact ⟨_, _, _, _, _, _, _, _, _, _, HR.out, rfl⟩ | exact ⟨_, _, _, _, _, _, _, _, _, _, _, HR.out, rfl⟩ | exact ⟨_, _, _, _, _, _, _, _, _, _, _, _, HR.out, rfl⟩ | exact ⟨_, _, _, _, _, _, _, _, _, _, _, _, _, HR.out, rfl⟩ | exact ⟨_, _, _, _, _, _, _, _, _, _, _, _, _, _, HR.out, rfl⟩ | exact ⟨_, _, _, _, _, _, _, _, _, _, _, _, _, _, _, HR.out, rfl⟩ | exact ⟨_, _, _, _, _, _, _, _, _, _, _, _, _, _, _, _, HR.out, rfl⟩ | exact ⟨_, _, _, _, _, _, _, _, _, _, _, _, _, _, _, _, _, HR.out, rfl⟩ | exact ⟨_, _, _, _, _, _, _, _, _, _, _, _, _, _, _, _, _, _, HR.out, rfl⟩ | exact ⟨_, _, _, _, _, _, _, _, _, _, _, _, _, _, _, _, _, _, _, HR.out, rfl⟩ | exact ⟨_, _, _, _, _, _, _, _, _, _, _, _, _, _, _, _, _, _, _, _, HR.out, rfl⟩ | exact ⟨_, _, _, _, _, _, _, _, _, _, _, _, _, _, _, _, _, _, _, _, _, HR.out, rfl⟩ | exact ⟨_, _, _, _, _, _, _, _, _, _, _, _, _, _, _, _, _, _, _, _, _, _, HR.out, rfl⟩ | exact ⟨_, _, _, _, _, _, _, _, _, _, _, _, _, _, _, _, _, _, _, _, _, _, _, HR.out, rfl⟩ | exact ⟨_, _, _, _, _, _, _, _, _, _, _, _, _, _, _, _, _, _, _, _, _, _, _, _, HR.out, rfl⟩ | exact ⟨_, _, _, _, _, _, _, _, _, _, _, _, _, _, _, _, _, _, _, _, _, _, _, _, _, HR.out, rfl⟩ | exact ⟨_, _, _, _, _, _, _, _, _, _, _, _, _, _, _, _, _, _, _, _, _, _, _, _, _, _, HR.out, rfl⟩ | exact ⟨_, _, _, _, _, _, _, _, _, _, _, _, _, _, _, _, _, _, _, _, _, _, _, _, _, _, _, HR.out, rfl⟩ | exact ⟨_, _, _, _, _, _, _, _, _, _, _, _, _, _, _, _, _, _, _, _, _, _, _, _, _, _, _, _, HR.out, rfl⟩ | exact ⟨_, _, _, _, _, _, _, _, _, _, _, _, _, _, _, _, _, _, _, _, _, _, _, _, _, _, _, _, _, HR.out, rfl⟩ | exact ⟨_, _, _, _, _, _, _, _, _, _, _, _, _, _, _, _, _, _, _, _, _, _, _, _, _, _, _, _, _, _, HR.out, rfl⟩ | exact ⟨_, _, _, _, _, _, _, _, _, _, _, _, _, _, _, _, _, _, _, _, _, _, _, _, _, _, _, _, _, _, _, HR.out, rfl⟩ | exact ⟨_, _, _, _, _, _, _, _, _, _, _, _, _, _, _, _, _, _, _, _, _, _, _, _, _, _, _, _, _, _, _, _, HR.out, rfl⟩ | exact ⟨_, _, _, _, _, _, _, _, _, _, _, _, _, _, _, _, _, _, _, _, _, _, _, _, _, _, _, _, _, _, _, _, _, HR.out, rfl⟩ | exact ⟨_, _, _, _, _, _, _, _, _, _, _, _, _, _, _, _, _, _, _, _, _, _, _, _, _, _, _, _, _, _, _, _, _, _, HR.out, rfl⟩ | exact ⟨_, _, _, _, _, _, _, _, _, _, _, _, _, _, _, _, _, _, _, _, _, _, _, _, _, _, _, _, _, _, _, _, _, _, _, HR.out, rfl⟩ | exact ⟨_, _, _, _, _, _, _, _, _, _, _, _, _, _, _, _, _, _, _, _, _, _, _, _, _, _, _, _, _, _, _, _, _, _, _, _, HR.out, rfl⟩ | exact ⟨_, _, _, _, _, _, _, _, _, _, _, _, _, _, _, _, _, _, _, _, _, _, _, _, _, _, _, _, _, _, _, _, _, _, _, _, _, HR.out, rfl⟩ | exact ⟨_, _, _, _, _, _, _, _, _, _, _, _, _, _, _, _, _, _, _, _, _, _, _, _, _, _, _, _, _, _, _, _, _, _, _, _, _, _, HR.out, rfl⟩ | exact ⟨_, _, _, _, _, _, _, _, _, _, _, _, _, _, _, _, _, _, _, _, _, _, _, _, _, _, _, _, _, _, _, _, _, _, _, _, _, _, _, HR.out, rfl⟩
      refine AllReadyH.cons rfl (fun K hK => ?_) AllReadyH.nil
      go_simp
      refine Calls.mono HSO.out ?_
      rintro e w3 ⟨rv, ys, rfl, hor, hbr, hlr, hc3, hg3⟩
      obtain ⟨ra, rn, rc, rfl⟩ := hor.sliced
      have s3 : wr.heap.size ≤ w3.heap.size := hg3.size
      have v3 : VarJ 30 w3 b (.slice xa xn xc) (.slice ya yn yc) P Q := (hg3.block b hbw (fun e => by cases e; omega)).trans HV.out
      have k0 := v3.c0
      have k1 := v3.c1
      have k2 := v3.c2
      have k3 := v3.c3
      have HV3 : Hid (VarJ 30 w3 b _ _ _ _) := v3
      have HVR3 : Hid (VarJ 30 w3 w.heap.size _ _ _ _) := (hg3.block w.heap.size (by show _ < wr.heap.size; omega) (fun e => by cases e; omega)).trans HVR.out
      have hg3w : wr.grownBy w3 (some pb) := grown_trans (grown_below (Below.drew (Below.refl _ _))) hg3
      have HAP : Hid _ := specAppend_all (.agg #[.slice xa xn xc, .slice ya yn yc, .int .i64 P, .int .i64 Q]) (d, P, Q) l h _ ys wr.heap.size w3.heap.size w3 ⟨_, _, rfl, RdD.curJ HRD.out hg3w (by omega) hlh.2.1⟩ (by omega) (OwB.of hbr hor).rd (Nat.le_refl _) HSM.out
      have HC3 : Hid _ := hc3
      have HG3 : Hid (w.grownBy w3 (some pb)) := grown_trans hgw (grown_trans (grown_below (Below.drew (Below.refl _ _))) hg3)
      clear v3 hor hbr hc3 hg3 hg3w HSO
      go_wp2_with fail
      refine hK.out _ _ trivial (fun hHeld => ?_)
      clear hK K hHeld
      try simp only [Act.put, List.setIfInBounds_toArray, List.set_cons_zero, List.set_cons_succ, List.getElem_toArray, List.getElem_cons_zero, List.getElem_cons_succ]
      refine wpAnyH_ready (rs := [0]) (by kernel_rfl) (by simp) ?_
      refine AllReadyH.cons rfl (fun K hK => ?_) AllReadyH.nil
      go_simp
      refine hK.out _ _ trivial (fun hHeld => ?_)
      clear hK K hHeld
      try simp only [Act.put, List.setIfInBounds_toArray, List.set_cons_zero, List.set_cons_succ, List.getElem_toArray, List.getElem_cons_zero, List.getElem_cons_succ]
      refine wpAnyH_ready (rs := [3]) (by kernel_rfl) (by simp) ?_
      refine AllReadyH.cons rfl (fun K hK => ?_) AllReadyH.nil
      go_simp
      refine Calls.mono HAP.out ?_
      rintro e w4 ⟨u, rfl, rU, b4⟩
      obtain ⟨ga, gn, gc, ha, hn, hc, rfl, rD⟩ := rU.open
      have s4 := b4.size
      have v4 := VarJ.step HV3.out b4
      have m0 := v4.c0
      have m1 := v4.c1
      have m2 := v4.c2
      have m3 := v4.c3
      have f0 := v4.f 0
      have f1 := v4.f 1
      have f2 := v4.f 2
      have f3 := v4.f 3
      have HV4 : Hid (VarJ 30 w4 b _ _ _ _) := v4
      have HVR4 : Hid (VarJ 30 w4 w.heap.size _ _ _ _) := VarJ.step HVR3.out b4
      have HRD4 : Hid (RdD w4 w3.heap.size w4.heap.size (.agg #[.slice ga gn gc, .slice ha hn hc]) _) := rD
      have HC4 : Hid _ := CurAt.below HC3.out b4
      have HG4 : Hid (w.grownBy w4 (some pb)) := grown_trans HG3.out (grown_below b4)
      have HSA : Hid _ := appendJ_small (j := (d, P, Q)) HSM.out ys
      clear v4 rU rD b4 HAP k0 k1 k2 k3 HV3 HVR3 HC3 HG3
      go_wp2_with fail
      refine hK.out _ _ trivial (fun hHeld => ?_)
      clear hK K hHeld
      try simp only [Act.put, List.setIfInBounds_toArray, List.set_cons_zero, List.set_cons_succ, List.getElem_toArray, List.getElem_cons_zero, List.getElem_cons_succ]
      refine wpAnyH_take (i := 4) (v := ?_) rfl (by kernel_rfl) (by kernel_rfl) (by kernel_rfl) (fun _ _ _ h => h) (Or.inl ⟨by rfl, ?_⟩) trivial ?_
      rotate_left
      · (intro w_ hSw_; (try dsimp only at hSw_); go_simp; try with_reducible rfl)
      try simp only [Act.put, List.setIfInBounds_toArray, List.set_cons_zero, List.set_cons_succ, List.getElem_toArray, List.getElem_cons_zero, List.getElem_cons_succ]
      refine wpAnyH_take (i := 5) (v := ?_) rfl (by kernel_rfl) (by kernel_rfl) (by kernel_rfl) (fun _ _ _ h => h) (Or.inl ⟨by rfl, ?_⟩) trivial ?_
      rotate_left
      · (intro w_ hSw_; (try dsimp only at hSw_); go_simp; try with_reducible rfl)
      try simp only [Act.put, List.setIfInBounds_toArray, List.set_cons_zero, List.set_cons_succ, List.getElem_toArray, List.getElem_cons_zero, List.getElem_cons_succ]
      refine wpAnyH_take (i := 6) (v := ?_) rfl (by kernel_rfl) (by kernel_rfl) (by kernel_rfl) (fun _ _ _ h => h) (Or.inl ⟨by rfl, ?_⟩) trivial ?_
      rotate_left
      · (intro w_ hSw_; (try dsimp only at hSw_); go_simp; try with_reducible rfl)
      try simp only [Act.put, List.setIfInBounds_toArray, List.set_cons_zero, List.set_cons_succ, List.getElem_toArray, List.getElem_cons_zero, List.getElem_cons_succ]
      refine wpAnyH_ready (rs := [7]) (by kernel_rfl) (by simp) ?_
      refine AllReadyH.cons rfl (fun K hK => ?_) AllReadyH.nil
      go_simp
      refine hK.out _ _ trivial (fun hHeld => ?_)
      clear hK K hHeld
      try simp only [Act.put, List.setIfInBounds_toArray, List.set_cons_zero, List.set_cons_succ, List.getElem_toArray, List.getElem_cons_zero, List.getElem_cons_succ]
      refine wpAnyH_done (by kernel_rfl) (NoPanic.normal ?_) _
      have HR : Hid (JLRel w pb b N (.int .i64 ((k : Int) + 1)) ((((w4.setCell ⟨b, 0, none⟩ (.slice ga gn gc)).setCell ⟨b, 1, none⟩ (.slice ha hn hc)).setCell ⟨b, 2, none⟩ (.int .i64 (appendJ (d, P, Q) ys).1.2.1)).setCell ⟨b, 3, none⟩ (.int .i64 (appendJ (d, P, Q) ys).1.2.2))) := by
        refine ⟨k + 1, (appendJ (d, P, Q) ys).1, _, _, w3.heap.size, w4.heap.size, by omega, by go_num, VarJ.fill HV4.out _ _ _ _, RdD.same HRD4.out ⟨by simp, fun q h1 _ => four_other2 (by omega)⟩, ⟨by omega, by simp, by omega⟩, HSA.out, ?_, ?_, ?_⟩
        · exact (four_other2 (by omega)).trans HVR4.out
        · exact (((CurAt.put HC4.out (by omega)).put (by omega)).put (by omega)).put (by omega)
        · exact grown_put (grown_put (grown_put (grown_put HG4.out _ (by omega)) _ (by omega)) _ (by omega)) _ (by omega)
      clear HV4 HVR4 HRD4 HC4 HG4 HSA m0 m1 m2 m3 f0 f1 f2 f3
      go_wp2
      refine ⟨?_, by simp [intOf]; omega⟩
      first | exact HR.out | exact ⟨_, HR.out, rfl⟩ | exact ⟨_, _, HR.out, rfl⟩ | exact ⟨_, _, _, HR.out, rfl⟩ | exact ⟨_, _, _, _, HR.out, rfl⟩ | exact ⟨_, _, _, _, _, HR.out, rfl⟩ | exact ⟨_, _, _, _, _, _, HR.out, rfl⟩ | exact ⟨_, _, _, _, _, _, _, HR.out, rfl⟩ | exact ⟨_, _, _, _, _, _, _, _, HR.out, rfl⟩ | exact ⟨_, _, _, _, _, _, _, _, _, HR.out, rfl⟩ | exact ⟨_, _, _, _, _, _, _, _, _, _, HR.out, rfl⟩ | exact ⟨_, _, _, _, _, _, _, _, _, _, _, HR.out, rfl⟩ | exact ⟨_, _, _, _, _, _, _, _, _, _, _, _, HR.out, rfl⟩ | exact ⟨_, _, _, _, _, _, _, _, _, _, _, _, _, HR.out, rfl⟩ | exact ⟨_, _, _, _, _, _, _, _, _, _, _, _, _, _, HR.out, rfl⟩ | exact ⟨_, _, _, _, _, _, _, _, _, _, _, _, _, _, _, HR.out, rfl⟩ | exact ⟨_, _, _, _, _, _, _, _, _, _, _, _, _, _, _, _, HR.out, rfl⟩ | exact ⟨_, _, _, _, _, _, _, _, _, _, _, _, _, _, _, _, _, HR.out, rfl⟩ | exact ⟨_, _, _, _, _, _, _, _, _, _, _, _, _, _, _, _, _, _, HR.out, rfl⟩ | exact ⟨_, _, _, _, _, _, _, _, _, _, _, _, _, _, _, _, _, _, _, HR.out, rfl⟩ | exact ⟨_, _, _, _, _, _, _, _, _, _, _, _, _, _, _, _, _, _, _, _, HR.out, rfl⟩ | exact ⟨_, _, _, _, _, _, _, _, _, _, _, _, _, _, _, _, _, _, _, _, _, HR.out, rfl⟩ | exact ⟨_, _, _, _, _, _, _, _, _, _, _, _, _, _, _, _, _, _, _, _, _, _, HR.out, rfl⟩ | exact ⟨_, _, _, _, _, _, _, _, _, _, _, _, _, _, _, _, _, _, _, _, _, _, _, HR.out, rfl⟩ | exact ⟨_, _, _, _, _, _, _, _, _, _, _, _, _, _, _, _, _, _, _, _, _, _, _, _, HR.out, rfl⟩ | exact ⟨_, _, _, _, _, _, _, _, _, _, _, _, _, _, _, _, _, _, _, _, _, _, _, _, _, HR.out, rfl⟩ | exact ⟨_, _, _, _, _, _, _, _, _, _, _, _, _, _, _, _, _, _, _, _, _, _, _, _, _, _, HR.out, rfl⟩ | exact ⟨_, _, _, _, _, _, _, _, _, _, _, _, _, _, _, _, _, _, _, _, _, _, _, _, _, _, _, HR.out, rfl⟩ | exact ⟨_, _, _, _, _, _, _, _, _, _, _, _, _, _, _, _, _, _, _, _, _, _, _, _, _, _, _, _, HR.out, rfl⟩ | exact ⟨_, _, _, _, _, _, _, _, _, _, _, _, _, _, _, _, _, _, _, _, _, _, _, _, _, _, _, _, _, HR.out, rfl⟩ | exact ⟨_, _, _, _, _, _, _, _, _, _, _, _, _, _, _, _, _, _, _, _, _, _, _, _, _, _, _, _, _, _, HR.out, rfl⟩ | exact ⟨_, _, _, _, _, _, _, _, _, _, _, _, _, _, _, _, _, _, _, _, _, _, _, _, _, _, _, _, _, _, _, HR.out, rfl⟩ | exact ⟨_, _, _, _, _, _, _, _, _, _, _, _, _, _, _, _, _, _, _, _, _, _, _, _, _, _, _, _, _, _, _, _, HR.out, rfl⟩ | exact ⟨_, _, _, _, _, _, _, _, _, _, _, _, _, _, _, _, _, _, _, _, _, _, _, _, _, _, _, _, _, _, _, _, _, HR.out, rfl⟩ | exact ⟨_, _, _, _, _, _, _, _, _, _, _, _, _, _, _, _, _, _, _, _, _, _, _, _, _, _, _, _, _, _, _, _, _, _, HR.out, rfl⟩ | exact ⟨_, _, _, _, _, _, _, _, _, _, _, _, _, _, _, _, _, _, _, _, _, _, _, _, _, _, _, _, _, _, _, _, _, _, _, HR.out, rfl⟩ | exact ⟨_, _, _, _, _, _, _, _, _, _, _, _, _, _, _, _, _, _, _, _, _, _, _, _, _, _, _, _, _, _, _, _, _, _, _, _, HR.out, rfl⟩ | exact ⟨_, _, _, _, _, _, _, _, _, _, _, _, _, _, _, _, _, _, _, _, _, _, _, _, _, _, _, _, _, _, _, _, _, _, _, _, _, HR.out, rfl⟩ | exact ⟨_, _, _, _, _, _, _, _, _, _, _, _, _, _, _, _, _, _, _, _, _, _, _, _, _, _, _, _, _, _, _, _, _, _, _, _, _, _, HR.out, rfl⟩ | exact ⟨_, _, _, _, _, _, _, _, _, _, _, _, _, _, _, _, _, _, _, _, _, _, _, _, _, _, _, _, _, _, _, _, _, _, _, _, _, _, _, HR.out, rfl⟩
    · have hk9 : ¬ (k : Int) < (N : Int) := by omega
      have hVR := HVR.out
      have e0 := hVR.c0
      have e1 := hVR.c1
      have e2 := hVR.c2
      have e3 := hVR.c3
      have f0 := hVR.f 0
      have f1 := hVR.f 1
      have f2 := hVR.f 2
      have f3 := hVR.f 3
      have HC : Hid _ := hcw
      have HGW : Hid _ := hgw
      have VR9 := VarJ.fill hVR (.slice xa xn xc) (.slice ya yn yc) P Q
      have t0 := VR9.c0
      have t1 := VR9.c1
      have t2 := VR9.c2
      have t3 := VR9.c3
      have HT : Hid _ := And.intro t0 (And.intro t1 (And.intro t2 t3))
      clear hV hVR hcw hgw VR9 t0 t1 t2 t3
      go_wp2
      refine bodyPost_ret (v := .agg #[.slice xa xn xc, .slice ya yn yc, .int .i64 P, .int .i64 Q]) (by have t0 := HT.out.1; have t1 := HT.out.2.1; have t2 := HT.out.2.2.1; have t3 := HT.out.2.2.2; simp [results, Tryd.results40, go_sem, t0, t1, t2, t3]) rfl ⟨_, (d, P, Q), rfl, ⟨_, _, rfl, ?_⟩, HSM.out, ?_, ?_⟩
      · exact (RdD.same HRD.out ⟨by simp, fun q h1 _ => four_other2 (by omega)⟩).wide (by omega) (by simp; omega)
      · exact (((CurAt.put HC.out (by omega)).put (by omega)).put (by omega)).put (by omega)
      · exact grown_put (grown_put (grown_put (grown_put HGW.out _ (Nat.le_refl _)) _ (Nat.le_refl _)) _ (Nat.le_refl _)) _ (Nat.le_refl _)
end Go.Proofs.YtjhaanenkeceiaaDoor
end
