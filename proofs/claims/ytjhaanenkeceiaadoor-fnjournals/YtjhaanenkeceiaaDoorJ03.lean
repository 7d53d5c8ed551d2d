/- Joined: News Apart WalkBase. -/
import Derived.Test.YtjhaanenkeceiaaDoorJ01
import Derived.Test.YtjhaanenkeceiaaDoorJ02
import Derived.Deep.DrawnRows
import Derived.Deep.AppendLies
import Derived.Deep.RegionHeld3

section
/- New disks, the program's and the specification's. No condition. -/
namespace Go.Proofs.YtjhaanenkeceiaaDoor
open Go.RowKit
set_option linter.unusedVariables false
attribute [local go_sem ↓] Go.wp_at_zero Go.wp_at_succ

def zsec : List Int := List.replicate 32 0
def newOk (n : Int) : Bool := decide (0 ≤ n) && decide (n ≤ 2000)
def newD (n : Int) : Dk := if newOk n then (List.replicate n.toNat zsec, []) else ([], [])

theorem OwBB_nil (w : World) (l h : Nat) : OwBB w l h (.slice none 0 0) [] :=
  ⟨[], rfl, World.ownsRow_nil _ _ _ _, (fun (k : Nat) (hk : Value.ownBlock (.slice none 0 0) = some k) => by cases hk), fun i hi => absurd hi (Nat.not_lt_zero _), fun i j k _ hj => absurd hj (Nat.not_lt_zero _)⟩
theorem OwWs_nil (w : World) (l h : Nat) : OwWs w l h (.slice none 0 0) [] :=
  ⟨[], [], rfl, World.ownsRow_nil _ _ _ _, (fun (k : Nat) (hk : Value.ownBlock (.slice none 0 0) = some k) => by cases hk), fun i hi => absurd hi (Nat.not_lt_zero _), fun i hi => absurd hi (Nat.not_lt_zero _), fun i j k _ hj => absurd hj (Nat.not_lt_zero _)⟩
theorem OwD_nil (w : World) (l h : Nat) (hl : l ≤ h) : OwD w l h (.agg #[.slice none 0 0, .slice none 0 0]) ([], []) :=
  ⟨_, _, h, rfl, hl, Nat.le_refl _, OwBB_nil _ _ _, OwWs_nil _ _ _⟩

theorem getD_rep {α : Type} (n i : Nat) (x d : α) (h : i < n) : (List.replicate n x)[i]?.getD d = x := by simp [h]

def NRel (w : World) (q n : Nat) (i : Value) (wr : World) : Prop :=
  ∃ k : Nat, k ≤ n ∧ i = .int .i64 k ∧ Hid (PartBB wr (w.heap.size + 1) n (List.replicate n zsec) k) ∧ wr.heap[w.heap.size]? = some (.cells #[.slice none 0 0, .slice none 0 0] 26 (0, 0)) ∧
    wr.heap[q]? = some (.cells #[.slice (some ⟨w.heap.size + 1, 0, none⟩) n n, .slice none 0 0] 26 (0, 0)) ∧ Below w.heap.size w wr

set_option maxRecDepth 100000 in
set_option maxHeartbeats 2000000 in
theorem implNew_any (n : Int) (w : World) :
    Calls Tryd.prog 7 #[.int .i64 n] w fun e w' => ∃ u, e = .returned (.tuple #[u, .bool (newOk n)]) ∧ OwD w' w.heap.size w'.heap.size u (newD n) ∧ Below w.heap.size w w' := by
  by_cases h0 : 0 ≤ n
  · by_cases h1 : n ≤ 2000
    · have hok : newOk n = true := by simp [newOk, h0, h1]
      have hnd : newD n = (List.replicate n.toNat zsec, []) := by simp [newD, hok]
      rw [hok, hnd]
      obtain ⟨m, rfl⟩ : ∃ m : Nat, n = (m : Int) := ⟨n.toNat, by omega⟩
      have hm : m ≤ 2000 := by omega
      simp only [Int.toNat_natCast]
      clear hok hnd h0 h1
      obtain ⟨i0, hi, hz0, hz1, hz2⟩ := info_parts Tryd.infoBB
      go_enter Tryd.func7, Tryd.ntmps7
      go_wp2_with (at_make; refine wpList_make_full _ rfl _ _ 23 rfl (w.heap.size + 1) 22 i0 (.slice none 0 0) 1 Tryd.underlying23 hi hz0 hz1 .i64 .i64 _ _ m rfl rfl rfl rfl (by rw [hz2]; omega) (by unfold maxLen; omega) (by simp) ?_; intro w1 hown hgrow)
      have hz : (w.alloc (.cells #[.slice none 0 0, .slice none 0 0] 26)).heap.size = w.heap.size + 1 := by simp
      rw [hz] at hown
      have hb1 : Below w.heap.size w w1 := ((Below.refl _ _).alloc (Nat.le_refl _) _).grown hgrow (by simp) (fun k h => by cases h)
      have hs1 : w.heap.size + 1 < w1.heap.size := (hown.lt _ rfl).2
      have g0 : w1.heap[w.heap.size]? = some (.cells #[.slice none 0 0, .slice none 0 0] 26 (0, 0)) := (hgrow.block _ (by simp) (by simp)).trans (heap_alloc_new w _)
      have HP : Hid (PartBB (w1.alloc (.cells #[.slice (some ⟨w.heap.size + 1, 0, none⟩) m m, .slice none 0 0] 26)) (w.heap.size + 1) m (List.replicate m zsec) 0) :=
        ⟨[], rfl, by rw [List.nil_append, Nat.sub_zero, ← madeCells_nil]; exact World.ownsRow.alloc hown _, by simp; omega, fun i hi => absurd hi (Nat.not_lt_zero _), fun i j q _ hj => absurd hj (Nat.not_lt_zero _)⟩
      have HS : Hid (NRel w w1.heap.size m (.int .i64 0) (w1.alloc (.cells #[.slice (some ⟨w.heap.size + 1, 0, none⟩) m m, .slice none 0 0] 26))) :=
        ⟨0, Nat.zero_le _, rfl, HP, (Below.heap_alloc w1 _ _ (by omega)).trans g0, heap_alloc_new w1 _, hb1.alloc hb1.size _⟩
      clear hgrow hown HP g0 hz hb1
      go_loopw [19] (fun i wr => NRel w w1.heap.size m i wr) (fun i _ => m - (intOf i).toNat)
      case atStart => exact HS.out
      case round =>
        clear HS
        obtain ⟨k, hk, rfl, HP, g0, g1, hbel⟩ := hrel
        have c10 : wr.cell? ⟨w1.heap.size, 0, none⟩ = some (.slice (some ⟨w.heap.size + 1, 0, none⟩) m m) := by rw [cell_of_row _ _ _ _ _ _ g1]; rfl
        have c11 : wr.cell? ⟨w1.heap.size, 1, none⟩ = some (.slice none 0 0) := by rw [cell_of_row _ _ _ _ _ _ g1]; rfl
        have hq := lt_of_block g1
        by_cases hlt : k < m
        · have HG : Hid _ := And.intro g0 g1
          have hi0 : (0 : Int) ≤ (k : Int) := by omega
          have hi1 : (k : Int) < (m : Int) := by omega
          have hne : ¬ w1.heap.size = w.heap.size + 1 := by omega
          have hne' : ¬ w.heap.size + 1 = w1.heap.size := by omega
          clear g0 g1
          go_wp2
          go_region_held3 (fun w' => w'.cell? ⟨w1.heap.size, 0, none⟩ = some (.slice (some ⟨w.heap.size + 1, 0, none⟩) m m)) (first | go_keep | assumption) (first | (go_at_call 35; refine (newSector_any _ [] 0 0 _ ⟨isBytes_nil, none, 0, 0, rfl, rfl, ⟨Nat.le_refl _, Nat.zero_le _, fun _ => ⟨rfl, rfl⟩⟩, .inl rfl⟩ (Nat.zero_le _)).mono ?_; rintro e w2 ⟨u, rfl, ho2, hb2⟩; obtain ⟨ua, un, uc, rfl⟩ := ho2.sliced; have k0 := (hb2.cell (p := ⟨w1.heap.size, 0, none⟩) hq).trans c10; have hb3 : Below wr.heap.size wr w2 := (Below.drew (Below.refl _ _)).trans hb2; have hsl := PartBB.slot HP.out hlt hb3; obtain ⟨⟨v0, hv0⟩, hfz⟩ := hsl))
          have hws : w.heap.size < wr.heap.size := by omega
          have HR : Hid (NRel w w1.heap.size m (.int .i64 ((k : Int) + 1)) (w2.setCell ⟨w.heap.size + 1, k, none⟩ (.slice ua un uc))) := by
            refine ⟨k + 1, by omega, by go_num, PartBB.next HP.out hlt hb3 (isBytes_zeros 32) (by rw [← sec_nil]; exact ho2) (getD_rep _ _ _ _ hlt).symm, ?_, ?_, ?_⟩
            · rw [heap_setCell_other _ _ _ _ (by simp), hb3.block _ hws]; exact HG.out.1
            · rw [heap_setCell_other _ _ _ _ (by simpa using hne), hb3.block _ hq]; exact HG.out.2
            · exact (hbel.trans (hb3.mono hbel.size)).setCell (by simp) _
          clear HP HG ho2 hb2 hb3 hfz hv0 c10 c11 k0
          go_wp2
          refine ⟨?_, by simp [intOf]; omega⟩
          first | exact HR.out | exact ⟨_, _, _, _, _, _, _, _, _, _, HR.out, rfl⟩
        · have hkm : k = m := by omega
          subst hkm
          have c00 : wr.cell? ⟨w.heap.size, 0, none⟩ = some (.slice none 0 0) := by rw [cell_of_row _ _ _ _ _ _ g0]; rfl
          have c01 : wr.cell? ⟨w.heap.size, 1, none⟩ = some (.slice none 0 0) := by rw [cell_of_row _ _ _ _ _ _ g0]; rfl
          have f00 : wr.frozen? ⟨w.heap.size, 0, none⟩ = false := frozen_of_row _ _ _ _ _ g0
          have f01 : wr.frozen? ⟨w.heap.size, 1, none⟩ = false := frozen_of_row _ _ _ _ _ g0
          have hws : w.heap.size < wr.heap.size := by omega
          have HD : Hid (OwBB wr (w.heap.size + 1) wr.heap.size (.slice (some ⟨w.heap.size + 1, 0, none⟩) k k) (List.replicate k zsec)) := HP.out.done (by simp)
          have HBE : Hid _ := hbel
          clear HP g0 g1 hbel
          go_wp2
          refine bodyPost_ret (v := .tuple #[.agg #[.slice (some ⟨w.heap.size + 1, 0, none⟩) k k, .slice none 0 0], .bool true]) (by simp [results, Tryd.results7, go_sem, c00, c01]) rfl ⟨_, rfl, ?_, ?_⟩
          · refine ⟨_, _, wr.heap.size, rfl, by omega, by simp, ?_, OwWs_nil _ _ _⟩
            refine OwBB.wide (l := w.heap.size + 1) ?_ (by omega) (Nat.le_refl _)
            exact HD.out.same (SameIn.trans (SameIn.set (.inl (by simp))) (SameIn.set (.inl (by simp))))
          · exact (HBE.out.setCell (by simp) _).setCell (by simp) _
    · have hok : newOk n = false := by simp [newOk, h1]
      have hnd : newD n = ([], []) := by simp [newD, hok]
      rw [hok, hnd]
      have h2 : 2000 < n := by omega
      clear hok hnd h1
      go_enter Tryd.func7, Tryd.ntmps7
      go_wp2
      refine bodyPost_ret (v := .tuple #[.agg #[.slice none 0 0, .slice none 0 0], .bool false]) (by simp [results, Tryd.results7, go_sem]) rfl ⟨_, rfl, OwD_nil _ _ _ (by simp), ?_⟩
      exact (Below.refl _ _).alloc (Nat.le_refl _) _
  · have hok : newOk n = false := by simp [newOk, h0]
    have hnd : newD n = ([], []) := by simp [newD, hok]
    rw [hok, hnd]
    have h2 : n < 0 := by omega
    clear hok hnd h0
    go_enter Tryd.func7, Tryd.ntmps7
    go_wp2
    refine bodyPost_ret (v := .tuple #[.agg #[.slice none 0 0, .slice none 0 0], .bool false]) (by simp [results, Tryd.results7, go_sem]) rfl ⟨_, rfl, OwD_nil _ _ _ (by simp), ?_⟩
    exact (Below.refl _ _).alloc (Nat.le_refl _) _

theorem far_kept {w wa w' : World} {b : Nat} {r : Option Nat} (hb : Below w.heap.size w wa) (hg : wa.grownBy w' r) (hr : r ≠ some b) (hlt : b < w.heap.size) : w'.heap[b]? = w.heap[b]? :=
  (hg.block b (by have := hb.size; omega) (fun e => hr e.symm)).trans (hb.block b hlt)

/-- What holds at the head of each round of the specification's loop. -/
def SRel (w : World) (n : Nat) (i : Value) (wr : World) : Prop :=
  ∃ (k : Nat) (x : Value), k ≤ n ∧ i = .int .i64 k ∧ wr.heap[w.heap.size]? = some (.cells #[.slice none 0 0, .slice none 0 0] 26 (0, 0)) ∧ wr.heap[w.heap.size + 1]? = some (.cells #[x, .slice none 0 0] 26 (0, 0)) ∧
    Hid (GrBB wr (w.heap.size + 2) x (List.replicate k zsec)) ∧ Below w.heap.size w wr

set_option maxRecDepth 100000 in
set_option maxHeartbeats 2000000 in
theorem specNew_any (n : Int) (w : World) :
    Calls Tryd.prog 69 #[.int .i64 n] w fun e w' => ∃ u, e = .returned (.tuple #[u, .bool (newOk n)]) ∧ RdD w' w.heap.size w'.heap.size u (newD n) ∧ Below w.heap.size w w' := by
  by_cases h0 : 0 ≤ n
  · by_cases h1 : n ≤ 2000
    · have hok : newOk n = true := by simp [newOk, h0, h1]
      have hnd : newD n = (List.replicate n.toNat zsec, []) := by simp [newD, hok]
      rw [hok, hnd]
      obtain ⟨m, rfl⟩ : ∃ m : Nat, n = (m : Int) := ⟨n.toNat, by omega⟩
      have hm : m ≤ 2000 := by omega
      simp only [Int.toNat_natCast]
      clear hok hnd h0 h1
      go_enter Tryd.func69, Tryd.ntmps69
      go_wp2
      have HS : Hid (SRel w m (.int .i64 0) ((w.alloc (.cells #[.slice none 0 0, .slice none 0 0] 26)).alloc (.cells #[.slice none 0 0, .slice none 0 0] 26))) :=
        ⟨0, .slice none 0 0, Nat.zero_le _, rfl, (Below.heap_alloc _ _ _ (by simp)).trans (heap_alloc_new w _), by have := heap_alloc_new (w.alloc (.cells #[.slice none 0 0, .slice none 0 0] 26)) (.cells #[.slice none 0 0, .slice none 0 0] 26); simpa using this, GrBB_nil _ _, ((Below.refl _ _).alloc (Nat.le_refl _) _).alloc (by simp) _⟩
      go_loopw [5] (fun i wr => SRel w m i wr) (fun i _ => m - (intOf i).toNat)
      case atStart => exact HS.out
      case round =>
        clear HS
        obtain ⟨k, x, hk, rfl, g0, g1, HGR, hbel⟩ := hrel
        have c10 : wr.cell? ⟨w.heap.size + 1, 0, none⟩ = some x := by rw [cell_of_row _ _ _ _ _ _ g1]; rfl
        have c11 : wr.cell? ⟨w.heap.size + 1, 1, none⟩ = some (.slice none 0 0) := by rw [cell_of_row _ _ _ _ _ _ g1]; rfl
        have f10 : wr.frozen? ⟨w.heap.size + 1, 0, none⟩ = false := frozen_of_row _ _ _ _ _ g1
        have hq := lt_of_block g1
        by_cases hlt : k < m
        · have HG : Hid _ := And.intro g0 g1
          have hne : ¬ w.heap.size + 1 = wr.heap.size := by omega
          obtain ⟨i0, hi, hz0, hz1, hz2⟩ := info_parts Tryd.infoB
          obtain ⟨w2, hrun, ho2, hg2⟩ := run_make_full (P := Tryd.prog) wr.drew wr.heap.size 22 5 i0 (.int .u8 0) 1 Tryd.underlying22 hi hz0 hz1 .i64 .i64 32 (by rw [hz2]; omega) (by unfold maxLen; omega) (Nat.le_refl _)
          have hb2 : Below wr.heap.size wr w2 := (Below.drew (Below.refl _ _)).grown hg2 (Nat.le_refl _) (fun k h => by cases h)
          rw [madeCells_bytes] at ho2
          have hrun' : (Instr.makeSlice 22 (.int .i64 32) (.int .i64 32)).run Tryd.prog wr.drew = .ok (.slice (some ⟨wr.heap.size, 0, none⟩) 32 32) w2 := hrun
          have k10 : w2.cell? ⟨w.heap.size + 1, 0, none⟩ = some x := (hb2.cell (p := ⟨w.heap.size + 1, 0, none⟩) hq).trans c10
          have kf10 : w2.frozen? ⟨w.heap.size + 1, 0, none⟩ = false := (hb2.frozen (p := ⟨w.heap.size + 1, 0, none⟩) hq).trans f10
          have hs2 : wr.heap.size < w2.heap.size := (ho2.lt _ rfl).2
          obtain ⟨vs, hvl, hrow, he⟩ := HGR.out
          obtain ⟨xa, xc, hxs⟩ := HGR.out.sliced
          have hrz : (List.replicate k zsec).length = k := by simp
          rw [hrz] at hxs
          have hxb : x.ownBlock ≠ some (w.heap.size + 1) := fun e => by have := (hrow.lt _ e).1; omega
          have hxb0 : x.ownBlock ≠ some w.heap.size := fun e => by have := (hrow.lt _ e).1; omega
          have HO2 : Hid (w2.ownsRow (w.heap.size + 2) 22 1 x k vs) := by
            rw [← hrz]; exact ownsRow_same (h := wr.heap.size) hrow (fun q hq => (hrow.lt q hq).2) (SameIn.ofBelow hb2 (Nat.le_refl _))
          have HZ2 : Hid (Owns w2 wr.heap.size (.slice (some ⟨wr.heap.size, 0, none⟩) 32 32) zsec) := by show Owns _ _ _ _; unfold Owns; simpa [zsec] using ho2
          have HROW : Hid _ := And.intro hvl (And.intro hrow he)
          have HXB : Hid _ := And.intro hxb hxb0
          have HSZ : Hid (w.heap.size + 2 ≤ (w2.alloc (.cells #[.slice (some ⟨wr.heap.size, 0, none⟩) 32 32] 22)).heap.size) := by show _ ≤ _; simp; omega
          have hne3 : ¬ w.heap.size + 1 = w2.heap.size := by omega
          have hq2 : w.heap.size + 1 < w2.heap.size := by omega
          have hkn : k ≤ 4194304 := by omega
          have HB2 : Hid _ := hb2
          subst hxs
          clear g0 g1 ho2 hvl hrow he hrun hg2 hxb hxb0 hb2 hi hz0 hz1 hz2 HGR
          go_wp2
          go_region_law (first | (refine step_appL rfl (.tmp 19) (.tmp 21) (by rfl) (w.heap.size + 2) _ k vs (by rfl) (World.ownsRow.alloc HO2.out _) w2.heap.size (.slice (some ⟨wr.heap.size, 0, none⟩) 32 32) (by rfl) (World.cell?_alloc_at _ _ _ _ rfl) rfl hkn HSZ.out ?_; intro g5 c5 w5 ho5 hg5 ha5 hl5; have hk5 := far_kept (HB2.out.alloc (Nat.le_of_lt hs2) _) hg5 HXB.out.1 hq; have e50 := (World.cell?_of_block (w := wr) (w' := w5) (a := ⟨w.heap.size + 1, 0, none⟩) hk5).trans c10; have h50 := (World.frozen?_of_block (w := wr) (w' := w5) (a := ⟨w.heap.size + 1, 0, none⟩) hk5).trans f10))
          all_goals
            have hws : w.heap.size < wr.heap.size := by omega
            have hbw : Below wr.heap.size wr (w2.alloc (.cells #[.slice (some ⟨wr.heap.size, 0, none⟩) 32 32] 22)) := HB2.out.alloc (Nat.le_of_lt hs2) _
            have hbz : Below w2.heap.size w2 (w2.alloc (.cells #[.slice (some ⟨wr.heap.size, 0, none⟩) 32 32] 22)) := (Below.refl _ _).alloc (Nat.le_refl _) _
            have HGN : Hid (GrBB w5 (w.heap.size + 2) (.slice (some ⟨g5, 0, none⟩) (k + 1) c5) (List.replicate (k + 1) zsec)) := by
              have hz2 : OwB (w2.alloc (.cells #[.slice (some ⟨wr.heap.size, 0, none⟩) 32 32] 22)) wr.heap.size w2.heap.size (.slice (some ⟨wr.heap.size, 0, none⟩) 32 32) zsec := (OwB.of (isBytes_zeros 32) HZ2.out).same (SameIn.ofBelow hbz (Nat.le_refl _))
              have := GrBB.next (zss := List.replicate k zsec) HROW.out.1 HROW.out.2.1 HROW.out.2.2 hbw (by rw [hrz]; exact ho5) hg5 ha5 (hz2.rd.wide (by omega) (by simp)) (fun q hq => by have := slice_block hq; simp at this; simp; omega)
              rw [hrz, ← List.replicate_succ'] at this
              exact this
            have HR : Hid (SRel w m (.int .i64 ((k : Int) + 1)) (w5.setCell ⟨w.heap.size + 1, 0, none⟩ (.slice (some ⟨g5, 0, none⟩) (k + 1) c5))) := by
              refine ⟨k + 1, .slice (some ⟨g5, 0, none⟩) (k + 1) c5, by omega, by go_num, ?_, ?_, HGN.out.same (SameIn.set (.inl (by simp))), ?_⟩
              · rw [heap_setCell_other _ _ _ _ (by simp), far_kept hbw hg5 HXB.out.2 hws]; exact HG.out.1
              · rw [heap_setCell_same _ _ _ _ _ _ (hk5.trans HG.out.2)]; rfl
              · exact Below.setCell (hbel.trans ⟨hg5.os.trans hbw.os, hg5.tape.trans hbw.tape, hg5.output.trans hbw.output, Nat.le_trans hbw.size hg5.size, fun q hq => far_kept hbw hg5 (fun e => by have := (HROW.out.2.1.lt q e).1; omega) (by have := hbel.size; omega)⟩) (by simp) _
            clear HGN HG HROW HXB HB2 HZ2 HO2 HSZ ho5 hg5 ha5 hk5 hbw hbz
            go_wp2
            refine ⟨?_, by simp [intOf]; omega⟩
            first | exact HR.out | exact ⟨_, _, _, _, _, _, _, _, _, _, _, _, HR.out, rfl⟩
        · have hkm : k = m := by omega
          subst hkm
          have c00 : wr.cell? ⟨w.heap.size, 0, none⟩ = some (.slice none 0 0) := by rw [cell_of_row _ _ _ _ _ _ g0]; rfl
          have c01 : wr.cell? ⟨w.heap.size, 1, none⟩ = some (.slice none 0 0) := by rw [cell_of_row _ _ _ _ _ _ g0]; rfl
          have f00 : wr.frozen? ⟨w.heap.size, 0, none⟩ = false := frozen_of_row _ _ _ _ _ g0
          have f01 : wr.frozen? ⟨w.heap.size, 1, none⟩ = false := frozen_of_row _ _ _ _ _ g0
          have hws : w.heap.size < wr.heap.size := by omega
          obtain ⟨xa, xc, hxs⟩ := HGR.out.sliced
          rw [show (List.replicate k zsec).length = k by simp] at hxs
          subst hxs
          have HBE : Hid _ := hbel
          clear g0 g1 hbel
          go_wp2
          refine bodyPost_ret (v := .tuple #[.agg #[.slice xa k xc, .slice none 0 0], .bool true]) (by simp [results, Tryd.results69, go_sem, c00, c01]) rfl ⟨_, rfl, ?_, ?_⟩
          · refine ⟨_, _, rfl, ?_, (OwWs_nil _ _ _).rd⟩
            have h1 := HGR.out.rd.same (SameIn.trans (SameIn.set (p := ⟨w.heap.size, 0, none⟩) (u := .slice xa k xc) (.inl (by simp))) (SameIn.set (p := ⟨w.heap.size, 1, none⟩) (u := .slice none 0 0) (.inl (by simp))))
            exact h1.wide (by omega) (by simp)
          · exact (HBE.out.setCell (by simp) _).setCell (by simp) _
    · have hok : newOk n = false := by simp [newOk, h1]
      have hnd : newD n = ([], []) := by simp [newD, hok]
      rw [hok, hnd]
      have h2 : 2000 < n := by omega
      clear hok hnd h1
      go_enter Tryd.func69, Tryd.ntmps69
      go_wp2
      refine bodyPost_ret (v := .tuple #[.agg #[.slice none 0 0, .slice none 0 0], .bool false]) (by simp [results, Tryd.results69, go_sem]) rfl ⟨_, rfl, (OwD_nil _ _ _ (by simp)).rd, ?_⟩
      exact (Below.refl _ _).alloc (Nat.le_refl _) _
  · have hok : newOk n = false := by simp [newOk, h0]
    have hnd : newD n = ([], []) := by simp [newD, hok]
    rw [hok, hnd]
    have h2 : n < 0 := by omega
    clear hok hnd h0
    go_enter Tryd.func69, Tryd.ntmps69
    go_wp2
    refine bodyPost_ret (v := .tuple #[.agg #[.slice none 0 0, .slice none 0 0], .bool false]) (by simp [results, Tryd.results69, go_sem]) rfl ⟨_, rfl, (OwD_nil _ _ _ (by simp)).rd, ?_⟩
    exact (Below.refl _ _).alloc (Nat.le_refl _) _
end Go.Proofs.YtjhaanenkeceiaaDoor
end

section
/- Disks of a call's own whose sectors and waiting writes lie mixed among one another, each in a block of its own: how they are marked. Conditions: at most 2^21 of each and of their bytes. -/
namespace Go.Proofs.YtjhaanenkeceiaaDoor
open Go.RowKit
set_option linter.unusedVariables false

/-- q is the block of one of these. -/
def Blk (vs : List Value) (q : Nat) : Prop := ∃ i, i < vs.length ∧ (vs[i]?.getD undef).ownBlock = some q
/-- Only blocks of these, and new ones, have turned. -/
structure TurnsV (vs : List Value) (w w' : World) : Prop where
  os : w'.os = w.os
  tape : w'.tape = w.tape
  output : w'.output = w.output
  size : w.heap.size ≤ w'.heap.size
  block : ∀ k, k < w.heap.size → ¬ Blk vs k → w'.heap[k]? = w.heap[k]?
theorem TurnsV.refl (vs : List Value) (w : World) : TurnsV vs w w := ⟨rfl, rfl, rfl, Nat.le_refl _, fun _ _ _ => rfl⟩
theorem TurnsV.trans {vs : List Value} {a b c : World} (h : TurnsV vs a b) (k : TurnsV vs b c) : TurnsV vs a c :=
  ⟨k.os.trans h.os, k.tape.trans h.tape, k.output.trans h.output, Nat.le_trans h.size k.size, fun i hi hr => (k.block i (Nat.lt_of_lt_of_le hi h.size) hr).trans (h.block i hi hr)⟩
theorem TurnsV.ofGrown {vs : List Value} {a b : World} {r : Option Nat} (h : a.grownBy b r) (hr : ∀ k, r = some k → Blk vs k) : TurnsV vs a b :=
  ⟨h.os, h.tape, h.output, h.size, fun i hi ho => h.block i hi (fun e => ho (hr i e.symm))⟩
/-- As OwBB, its elements named. -/
def OwX (w : World) (l h : Nat) (v : Value) (zss : List (List Int)) (vs : List Value) : Prop :=
  vs.length = zss.length ∧ w.ownsRow l 22 1 v vs.length vs ∧ Before v h ∧ (∀ i, i < vs.length → OwB w l h (vs[i]?.getD undef) (zss[i]?.getD [])) ∧
    ∀ i j k, i < j → j < vs.length → (vs[i]?.getD undef).ownBlock = some k → (vs[j]?.getD undef).ownBlock ≠ some k
theorem OwX.bb {w : World} {l h : Nat} {v : Value} {zss : List (List Int)} {vs : List Value} (o : OwX w l h v zss vs) : OwBB w l h v zss := ⟨vs, o⟩
theorem OwX.lt {w : World} {l h : Nat} {v : Value} {zss : List (List Int)} {vs : List Value} (o : OwX w l h v zss vs) : ∀ k, Blk vs k → l ≤ k ∧ k < h := fun k ⟨i, hi, hk⟩ => ⟨((o.2.2.2.1 i hi).2.1.lt k hk).1, (o.2.2.2.1 i hi).2.2 k hk⟩
theorem Owns.kept2 {w w' : World} {base : Nat} {v : Value} {zs : List Int} (h : Owns w base v zs) (hk : ∀ q, v.ownBlock = some q → w'.heap[q]? = w.heap[q]?) : Owns w' base v zs := by
  obtain ⟨h1, h2⟩ := h
  refine ⟨h1, ?_⟩
  rcases h2 with h2 | ⟨g, c, cur, hv, hg, hh, r⟩
  · exact .inl h2
  · exact .inr ⟨g, c, cur, hv, hg, by rw [hk g (by rw [hv]; rfl)]; exact hh, r⟩
theorem ownsRow_kept2 {w w' : World} {l : Nat} {e : TypeId} {size : Nat} {v : Value} {n : Nat} {xs : List Value} (o : w.ownsRow l e size v n xs) (hk : ∀ q, v.ownBlock = some q → w'.heap[q]? = w.heap[q]?) : w'.ownsRow l e size v n xs := by
  obtain ⟨h1, h2⟩ := o
  refine ⟨h1, ?_⟩
  rcases h2 with h2 | ⟨g, c, cur, hv, hg, hh, r⟩
  · exact .inl h2
  · exact .inr ⟨g, c, cur, hv, hg, by rw [hk g (by rw [hv]; rfl)]; exact hh, r⟩
theorem OwX.keep {w w' : World} {l h : Nat} {v : Value} {zss : List (List Int)} {vs : List Value} (o : OwX w l h v zss vs) (h1 : ∀ q, v.ownBlock = some q → w'.heap[q]? = w.heap[q]?) (h2 : ∀ q, Blk vs q → w'.heap[q]? = w.heap[q]?) : OwX w' l h v zss vs :=
  ⟨o.1, ownsRow_kept2 o.2.1 h1, o.2.2.1, fun i hi => ⟨(o.2.2.2.1 i hi).1, (o.2.2.2.1 i hi).2.1.kept2 (fun q hq => h2 q ⟨i, hi, hq⟩), (o.2.2.2.1 i hi).2.2⟩, o.2.2.2.2⟩
/-- The block of a row of one type is not that of bytes. -/
theorem tag_ne {w : World} {l l' : Nat} {e : TypeId} {size : Nat} {v u : Value} {n : Nat} {xs : List Value} {zs : List Int} (o : w.ownsRow l e size v n xs) (h : Owns w l' u zs) (he : e ≠ 5) (q : Nat) (hv : v.ownBlock = some q) : u.ownBlock ≠ some q := by
  intro hu
  rcases o.2 with ⟨h0, _⟩ | ⟨g, c, cur, h0, _, hh, _⟩
  · rw [h0] at hv; cases hv
  · rw [h0] at hv; cases hv
    rcases h.2 with ⟨e1, _⟩ | ⟨g', c', cur', e1, _, hh', _⟩
    · rw [e1] at hu; cases hu
    · rw [e1] at hu; cases hu
      rw [hh] at hh'
      simp only [Option.some.injEq, Obj.cells.injEq] at hh'
      exact he hh'.2.1

/-- One of the lists was turned in its own block. -/
theorem OwX.put {w w' : World} {l h : Nat} {v : Value} {zss : List (List Int)} {j : Nat} {new : List Int} {vs : List Value} (o : OwX w l h v zss vs) (hj : j < zss.length) :
    ∃ g cap x, v = .slice (some ⟨g, 0, none⟩) zss.length cap ∧ w.cell? ⟨g, j, none⟩ = some x ∧ x = vs[j]?.getD undef ∧ OwB w l h x (zss[j]?.getD []) ∧
      (∀ w' new, isBytes new → Owns w' l x new → w.grownBy w' x.ownBlock → OwX w' l h v (zss.set j new) vs) := by
  obtain ⟨hl, ho, hb, he, hd⟩ := o
  rcases ho.2 with ⟨hv, h0⟩ | ⟨g, c, cur, hv, hg, hh, hnc, hm, hr⟩
  · omega
  subst hv
  refine ⟨g, c, vs[j]?.getD undef, by rw [hl], ?_, rfl, he j (by omega), fun w' new hnb hon hgr => ?_⟩
  · rw [World.ownsRow.cellAt ho j (by omega)]
    simp [show j < vs.length by omega]
  · have tag : (vs[j]?.getD undef).ownBlock ≠ some g := fun e => by
      rcases (he j (by omega)).2.1.2 with ⟨e1, _⟩ | ⟨g', c', cur', e1, _, hh', _⟩
      · rw [e1] at e; cases e
      · rw [e1] at e; cases e
        rw [hh] at hh'
        simp at hh'
    refine ⟨by simp [hl], World.ownsRow.kept ho hgr (.inr (fun e => tag e.symm)), hb, fun i hi => ?_, hd⟩
    rw [List.getElem?_set]
    by_cases hij : j = i
    · subst hij
      rw [if_pos rfl]
      simp only [show j < zss.length by omega, if_true, Option.getD_some]
      exact ⟨hnb, hon, (he j (by omega)).2.2⟩
    · rw [if_neg hij]
      have oi := he i hi
      refine ⟨oi.1, ?_, oi.2.2⟩
      refine oi.2.1.other hgr (fun k hk e => ?_)
      rcases Nat.lt_or_gt_of_ne hij with h1 | h1
      · exact hd j i k h1 hi e hk
      · exact hd i j k h1 (by omega) hk e

def MRelX (zss : List (List Int)) (vs : List Value) (k l h n : Nat) (v : Value) (w : World) (q i : Value) (wr : World) : Prop :=
  ∃ j s : Nat, j ≤ n ∧ i = .int .i64 j ∧ q = .int .i64 s ∧ Hid (s = k + lenBB (zss.take j)) ∧ Hid (OwX wr l h v (markedBB zss k j) vs) ∧ TurnsV vs w wr

/-- As OwWs, its data named. -/
def OwY (w : World) (l h : Nat) (v : Value) (ws : List Wt) (xs : List Value) : Prop :=
  ∃ C : List Value, xs.length = ws.length ∧ w.ownsRow l 75 2 v xs.length C ∧ Before v h ∧
    (∀ i, i < xs.length → C[i * 2]? = some (.int .i64 (ws[i]?.getD (0, [])).1) ∧ C[i * 2 + 1]? = some (xs[i]?.getD undef)) ∧
    (∀ i, i < xs.length → OwB w l h (xs[i]?.getD undef) (ws[i]?.getD (0, [])).2) ∧
    ∀ i j k, i < j → j < xs.length → (xs[i]?.getD undef).ownBlock = some k → (xs[j]?.getD undef).ownBlock ≠ some k
theorem OwY.ww {w : World} {l h : Nat} {v : Value} {ws : List Wt} {xs : List Value} (o : OwY w l h v ws xs) : OwWs w l h v ws := by
  obtain ⟨C, o⟩ := o
  exact ⟨xs, C, o⟩
theorem OwY.lt {w : World} {l h : Nat} {v : Value} {ws : List Wt} {xs : List Value} (o : OwY w l h v ws xs) : ∀ k, Blk (v :: xs) k → l ≤ k ∧ k < h := by
  obtain ⟨C, h1, h2, h3, h4, h5, h6⟩ := o
  rintro k ⟨i, hi, hk⟩
  cases i with
  | zero => exact ⟨(h2.lt k (by simpa using hk)).1, h3 k (by simpa using hk)⟩
  | succ i =>
    have hi' : i < xs.length := by simpa using hi
    have hk' : (xs[i]?.getD undef).ownBlock = some k := by simpa using hk
    exact ⟨((h5 i hi').2.1.lt k hk').1, (h5 i hi').2.2 k hk'⟩
theorem OwY.keep {w w' : World} {l h : Nat} {v : Value} {ws : List Wt} {xs : List Value} (o : OwY w l h v ws xs) (hk : ∀ q, Blk (v :: xs) q → w'.heap[q]? = w.heap[q]?) : OwY w' l h v ws xs := by
  obtain ⟨C, h1, h2, h3, h4, h5, h6⟩ := o
  refine ⟨C, h1, ownsRow_kept2 h2 (fun q hq => hk q ⟨0, by simp, by simpa using hq⟩), h3, h4, fun i hi => ⟨(h5 i hi).1, (h5 i hi).2.1.kept2 (fun q hq => hk q ⟨i + 1, by simpa using hi, by simpa using hq⟩), (h5 i hi).2.2⟩, h6⟩

def MRelY (ws : List Wt) (xs : List Value) (k l h n : Nat) (v : Value) (w : World) (q i : Value) (wr : World) : Prop :=
  ∃ j s : Nat, j ≤ n ∧ i = .int .i64 j ∧ q = .int .i64 s ∧ Hid (s = k + lenWs (ws.take j)) ∧ Hid (OwY wr l h v (markedWs ws k j) xs) ∧ TurnsV (v :: xs) w wr

/-- v is the call's own, with the disk d, no two of its lists in one block, all in blocks l .. h-1. -/
def OwD2 (w : World) (l h : Nat) (v : Value) (d : Dk) : Prop := ∃ x y vs xs, v = .agg #[x, y] ∧ OwX w l h x d.1 vs ∧ OwY w l h y d.2 xs ∧ ∀ q, Blk vs q → ¬ Blk xs q
theorem OwD2.rd {w : World} {l h : Nat} {v : Value} {d : Dk} (o : OwD2 w l h v d) : RdD w l h v d := by
  obtain ⟨x, y, vs, xs, hv, h1, h2, _⟩ := o
  exact ⟨x, y, hv, h1.bb.rd, h2.ww.rd⟩
theorem OwX.same {w w' : World} {l h : Nat} {v : Value} {zss : List (List Int)} {vs : List Value} (o : OwX w l h v zss vs) (t : SameIn l h w w') : OwX w' l h v zss vs :=
  o.keep (fun q hq => t.2 q (o.2.1.lt q hq).1 (o.2.2.1 q hq)) (fun q hq => t.2 q (o.lt q hq).1 (o.lt q hq).2)
theorem OwY.same {w w' : World} {l h : Nat} {v : Value} {ws : List Wt} {xs : List Value} (o : OwY w l h v ws xs) (t : SameIn l h w w') : OwY w' l h v ws xs :=
  o.keep (fun q hq => t.2 q (o.lt q hq).1 (o.lt q hq).2)
theorem OwD2.same {w w' : World} {l h : Nat} {v : Value} {d : Dk} (o : OwD2 w l h v d) (t : SameIn l h w w') : OwD2 w' l h v d := by
  obtain ⟨x, y, vs, xs, hv, h1, h2, h3⟩ := o
  exact ⟨x, y, vs, xs, hv, h1.same t, h2.same t, h3⟩
theorem OwD2.step {w w' : World} {l h : Nat} {v : Value} {d : Dk} (r : OwD2 w l h v d) (hh : h ≤ w.heap.size) (hb : Below w.heap.size w w') : OwD2 w' l h v d := r.same (SameIn.ofBelow hb hh)
/-- append(v, x), v a list of writes of the call's own, x one of them in a block of its own: where the new list lies. -/
theorem step_appW {ops : Array Oper} {o : Oper} {a : Act} {w : World} {K : Act → World → Prop} {Q : Exit → Act → World → Prop} {E : Prop} (hgd : o.guard = none) (s x : Operand)
    (ho : o.op = .call { callee := .builtin .append, args := #[s, x], argTypes := #[24, 24] })
    (base : Nat) (v : Value) (n : Nat) (C : List Value) (hs : a.eval s = v) (hown : w.ownsRow base 75 2 v n C) (b : Nat) (p : Int) (u : Value) (hx : a.eval x = .slice (some ⟨b, 0, none⟩) 1 1) (hu : w.heap[b]? = some (.cells #[.int .i64 p, u] 75 (0, 0))) (h1 : u.oneCell' = true)
    (hl : n ≤ 4194304) (hbase : base ≤ w.heap.size)
    (h : ∀ g cap w', w'.ownsRow base 75 2 (.slice (some ⟨g, 0, none⟩) (n + 1) cap) (n + 1) (C ++ [.int .i64 p, u]) → w.grownBy w' v.ownBlock → (v.ownBlock = some g ∨ g = w.heap.size) → g < w'.heap.size → K (a.put o.dst (.slice (some ⟨g, 0, none⟩) (n + 1) cap)) w') : if Region.wanted o (yielded ops a.tmps) = true then Oper.wp Tryd.prog o a w K Q else E := by
  obtain ⟨i0, hi, hz0, hz1, hz2⟩ := info_parts Tryd.infoW
  refine step_append_lies w hgd s x 24 ho base 75 i0 (.agg #[.int .i64 0, .slice none 0 0]) 2 32 Tryd.underlying24 hi hz0 hz1 hz2 rfl (by decide) v n C hs hown ⟨b, 0, none⟩ 1 1 [.int .i64 p, u] hx rfl (World.news_of_block hu) (fun q hq => ?_) (by decide) (by unfold maxLen; omega) (by omega) hbase _ rfl h
  simp only [List.mem_cons, List.not_mem_nil, or_false] at hq
  rcases hq with rfl | rfl
  · rfl
  · exact h1

end Go.Proofs.YtjhaanenkeceiaaDoor
end

section
/- What the walks of the laws on disks share: the variables in which they keep disks; no condition. -/
namespace Go.Proofs.YtjhaanenkeceiaaDoor
open Go.RowKit
set_option linter.unusedVariables false

/-- A variable that holds the caller's disk. -/
def VarL (w : World) (b : Nat) (x y : Value) : Prop := w.heap[b]? = some (.cells #[x, y] 48 (0, 0))
theorem RdB.sliced {w : World} {l h : Nat} {v : Value} {zs : List Int} (r : RdB w l h v zs) : ∃ a n c, v = .slice a n c := by
  obtain ⟨_, a, n, c, hv, _⟩ := r; exact ⟨a, n, c, hv⟩
end Go.Proofs.YtjhaanenkeceiaaDoor
end
