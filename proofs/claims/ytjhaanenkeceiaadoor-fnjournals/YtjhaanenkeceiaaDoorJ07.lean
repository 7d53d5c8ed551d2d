/- Joined: Draw3. -/
import Derived.Test.YtjhaanenkeceiaaDoorJ06

section
/- A drawn disk: what spec.l2disk hands back is some disk of at most five sectors and four writes, in memory of its own; the cursor's own block turns, nothing else. No condition. -/
namespace Go.Proofs.YtjhaanenkeceiaaDoor
open Go.RowKit
set_option linter.unusedVariables false
set_option linter.unusedSimpArgs false
attribute [local go_sem ↓] Go.wp_at_zero Go.wp_at_succ

def Tiny (d : Dk) : Prop := d.1.length ≤ 5 ∧ d.2.length ≤ 4 ∧ (∀ i : Nat, (d.1[i]?.getD []).length ≤ 32) ∧ ∀ i : Nat, (d.2[i]?.getD (0, [])).2.length ≤ 32
theorem lenBB_most (s : List (List Int)) (h : ∀ i : Nat, (s[i]?.getD []).length ≤ 32) : lenBB s ≤ 32 * s.length := by
  induction s with
  | nil => simp [lenBB]
  | cons z r ih =>
    have h0 := h 0
    have h1 := ih (fun i => by have := h (i + 1); simpa using this)
    simp only [List.getElem?_cons_zero, Option.getD_some] at h0
    rw [lenBB, List.length_cons]; omega
theorem lenWs_most (s : List Wt) (h : ∀ i : Nat, (s[i]?.getD (0, [])).2.length ≤ 32) : lenWs s ≤ 33 * s.length := by
  induction s with
  | nil => simp [lenWs]
  | cons z r ih =>
    have h0 := h 0
    have h1 := ih (fun i => by have := h (i + 1); simpa using this)
    simp only [List.getElem?_cons_zero, Option.getD_some] at h0
    rw [lenWs, List.length_cons]; omega
theorem Tiny.small {d : Dk} (h : Tiny d) : Small d := by
  obtain ⟨h1, h2, h3, h4⟩ := h
  have := lenBB_most _ h3
  have := lenWs_most _ h4
  exact ⟨by omega, by omega, by omega⟩
def Short (ws : List Wt) : Prop := ∀ i : Nat, (ws[i]?.getD (0, [])).2.length ≤ 32
theorem Short.snoc {ws : List Wt} {p : Int} {zs : List Int} (h : Short ws) (hz : zs.length ≤ 32) : Short (ws ++ [(p, zs)]) := fun i => by
  rw [getD_snoc]
  split
  · exact h i
  · split
    · exact hz
    · simp
theorem Short.put {ws : List Wt} {q : Nat} {p : Wt} (h : Short ws) (hp : p.2.length ≤ 32) : Short (ws.set q p) := fun i => by
  rw [List.getElem?_set]
  split
  · split
    · exact hp
    · simp
  · exact h i
theorem Whole.most {S : List (List Int)} (h : Whole S) : ∀ i : Nat, (S[i]?.getD []).length ≤ 32 := fun i => by
  by_cases hi : i < S.length
  · rw [h i hi]; omega
  · rw [List.getElem?_eq_none (by omega)]; simp
theorem most_put {S : List (List Int)} {q : Nat} {zs : List Int} (h : ∀ i : Nat, (S[i]?.getD []).length ≤ 32) (hz : zs.length ≤ 32) : ∀ i : Nat, ((S.set q zs)[i]?.getD []).length ≤ 32 := fun i => by
  rw [List.getElem?_set]
  split
  · split
    · exact hz
    · simp
  · exact h i

theorem GrWs.setAt {w : World} {l gy c : Nat} {ws : List Wt} {p : Int} (o : GrWs w l (.slice (some ⟨gy, 0, none⟩) ws.length c) ws) (h0 : 0 < ws.length) :
    GrWs (w.setCell ⟨gy, 0, none⟩ (.int .i64 p)) l (.slice (some ⟨gy, 0, none⟩) ws.length c) (ws.set 0 (p, (ws[0]?.getD (0, [])).2)) := by
  obtain ⟨xs, C, hxl, hrow, hC, he⟩ := o
  have hCl : C.length = ws.length * 2 := hrow.1
  have hst := hrow.stored 0 (.int .i64 p)
  have hset : ∀ q, q ≠ gy → (w.setCell ⟨gy, 0, none⟩ (.int .i64 p)).heap[q]? = w.heap[q]? := fun q hq => heap_setCell_other _ _ _ _ hq
  refine ⟨xs, C.set 0 (.int .i64 p), by simp [hxl], by simpa using hst.1, fun i hi => ?_, fun i hi => ?_⟩
  · rw [List.length_set] at hi
    rw [List.getElem?_set, List.getElem?_set, List.getElem?_set]
    by_cases e : i = 0
    · subst e
      rw [if_pos (by omega), if_pos (by omega), if_pos rfl, if_pos h0, if_neg (by omega)]
      exact ⟨rfl, (hC 0 h0).2⟩
    · rw [if_neg (by omega), if_neg (by omega), if_neg (by omega)]
      exact hC i hi
  · rw [List.length_set] at hi
    obtain ⟨h2, h3⟩ := he i hi
    have e2 : ((ws.set 0 (p, (ws[0]?.getD (0, [])).2))[i]?.getD (0, [])).2 = (ws[i]?.getD (0, [])).2 := by
      rw [List.getElem?_set]
      by_cases e : 0 = i
      · subst e; rw [if_pos rfl, if_pos h0]; rfl
      · rw [if_neg e]
    rw [e2]
    refine ⟨(h2.blk (fun g hg => hset g (fun e' => (h3 g hg).2 ?_))).wide (Nat.le_refl _) (by simp), fun g hg => ⟨by have := (h3 g hg).1; simpa using this, (h3 g hg).2⟩⟩
    subst e'; rfl
theorem GrWs.setNil {w : World} {l gy c : Nat} {ws : List Wt} (o : GrWs w l (.slice (some ⟨gy, 0, none⟩) ws.length c) ws) (h0 : 0 < ws.length) :
    GrWs (w.setCell ⟨gy, 1, none⟩ (.slice none 0 0)) l (.slice (some ⟨gy, 0, none⟩) ws.length c) (ws.set 0 ((ws[0]?.getD (0, [])).1, [])) := by
  obtain ⟨xs, C, hxl, hrow, hC, he⟩ := o
  have hCl : C.length = ws.length * 2 := hrow.1
  have hst := hrow.stored 1 (.slice none 0 0)
  have hset : ∀ q, q ≠ gy → (w.setCell ⟨gy, 1, none⟩ (.slice none 0 0)).heap[q]? = w.heap[q]? := fun q hq => heap_setCell_other _ _ _ _ hq
  refine ⟨xs.set 0 (.slice none 0 0), C.set 1 (.slice none 0 0), by simp [hxl], by simpa using hst.1, fun i hi => ?_, fun i hi => ?_⟩
  · rw [List.length_set] at hi
    rw [List.getElem?_set, List.getElem?_set, List.getElem?_set, List.getElem?_set]
    by_cases e : i = 0
    · subst e
      rw [if_neg (by omega), if_pos rfl, if_pos h0, if_pos (by omega), if_pos (by omega), if_pos rfl, if_pos (by omega)]
      exact ⟨(hC 0 h0).1, rfl⟩
    · rw [if_neg (by omega), if_neg (by omega), if_neg (by omega), if_neg (by omega)]
      exact hC i hi
  · rw [List.length_set] at hi
    rw [List.getElem?_set, List.getElem?_set]
    by_cases e : 0 = i
    · subst e
      rw [if_pos rfl, if_pos (by omega), if_pos rfl, if_pos h0]
      exact ⟨⟨isBytes_nil, none, 0, 0, rfl, rfl, ⟨Nat.le_refl _, Nat.zero_le _, fun _ => ⟨rfl, rfl⟩⟩, .inl rfl⟩, fun g hg => by cases hg⟩
    · rw [if_neg e, if_neg e]
      obtain ⟨h2, h3⟩ := he i hi
      refine ⟨(h2.blk (fun g hg => hset g (fun e' => (h3 g hg).2 ?_))).wide (Nat.le_refl _) (by simp), fun g hg => ⟨by have := (h3 g hg).1; simpa using this, (h3 g hg).2⟩⟩
      subst e'; rfl
theorem GrWs.sliced {w : World} {l : Nat} {v : Value} {ws : List Wt} (o : GrWs w l v ws) : ∃ a c, v = .slice a ws.length c := by
  obtain ⟨xs, C, hl, ho, _⟩ := o
  rcases ho.2 with ⟨h0, hz⟩ | ⟨g, c, cur, h0, _⟩
  · exact ⟨none, 0, by rw [h0, hz]⟩
  · exact ⟨_, _, h0⟩

/-- What a step of the cursor, or memory that is made, leaves as it was. -/
theorem KpE.cur {w w' : World} {l b pb : Nat} {v : Value} {zss : List (List Int)} (o : KpE w l w.heap.size b v zss) (hg : w.grownBy w' (some pb)) (hp : pb < l) : KpE w' l w'.heap.size b v zss :=
  (o.keep (fun q h1 h2 _ => hg.block q h2 (fun e => by have : q = pb := by simpa using e
                                                       omega))).up hg.size
theorem KpE.curH {w w' : World} {l H b pb : Nat} {v : Value} {zss : List (List Int)} (o : KpE w l H b v zss) (hg : w.grownBy w' (some pb)) (hp : pb < l) (hH : H ≤ w.heap.size) : KpE w' l H b v zss :=
  o.keep (fun q h1 h2 _ => hg.block q (by omega) (fun e => by have : q = pb := by simpa using e
                                                              omega))
theorem VarD.cur {w w' : World} {b pb : Nat} {x y : Value} (h : VarD w b x y) (hg : w.grownBy w' (some pb)) (hp : pb < b) : VarD w' b x y :=
  (hg.block b h.lt (fun e => by have : b = pb := by simpa using e
                                omega)).trans h
theorem GrWs.cur {w w' : World} {l pb : Nat} {v : Value} {ws : List Wt} (o : GrWs w l v ws) (hg : w.grownBy w' (some pb)) (hp : pb < l) : GrWs w' l v ws :=
  o.same ⟨hg.size, fun q h1 h2 => hg.block q h2 (fun e => by have : q = pb := by simpa using e
                                                             omega)⟩
theorem grown_put {a b : World} {r : Option Nat} {p j : Nat} (h : a.grownBy b r) (u : Value) (hp : a.heap.size ≤ p) : a.grownBy (b.setCell ⟨p, j, none⟩ u) r :=
  grown_new h (r' := some p) ⟨rfl, rfl, rfl, by simp, fun k _ hk => heap_setCell_other b ⟨p, j, none⟩ k u (fun e => hk (by simp [e]))⟩ (fun k hk => by cases hk; exact hp)
theorem CurAt.put {w : World} {pb p j : Nat} {u : Value} (h : CurAt w pb) (hp : pb < p) : CurAt (w.setCell ⟨p, j, none⟩ u) pb :=
  h.grown (r := some p) ⟨rfl, rfl, rfl, by simp, fun k _ hk => heap_setCell_other w ⟨p, j, none⟩ k u (fun e => hk (by simp [e]))⟩ (fun k hk => by cases hk; exact hp)

def D1Rel (w : World) (pb vb n : Nat) (x : Value) (i : Value) (wr : World) : Prop :=
  ∃ (k : Nat) (S : List (List Int)), k ≤ n ∧ i = .int .i64 k ∧ S.length = n ∧ Whole S ∧ KpE wr (w.heap.size + 1) wr.heap.size vb x S ∧ VarD wr vb x (.slice none 0 0) ∧ VarD wr w.heap.size (.slice none 0 0) (.slice none 0 0) ∧ CurAt wr pb ∧ w.grownBy wr (some pb)
def D2Rel (w : World) (pb vb n N H : Nat) (x : Value) (S : List (List Int)) (i : Value) (wr : World) : Prop :=
  ∃ (k : Nat) (y : Value) (ws : List Wt), k ≤ N ∧ i = .int .i64 k ∧ ws.length ≤ k ∧ (ws = [] ∨ 0 < n) ∧ Short ws ∧ KpE wr (w.heap.size + 1) H vb x S ∧ GrWs wr H y ws ∧ VarD wr vb x y ∧ VarD wr w.heap.size (.slice none 0 0) (.slice none 0 0) ∧ CurAt wr pb ∧ w.grownBy wr (some pb) ∧ H ≤ wr.heap.size

theorem grown_again {a b : World} {r : Option Nat} (h : a.grownBy b r) : a.grownBy b.drew r := ⟨h.os, h.tape, h.output, h.size, h.block⟩
/-- The end of the draw: the disk in the variable is handed back. -/
theorem drawn_end {w wf : World} {pb vb H : Nat} {x y : Value} {S : List (List Int)} {ws : List Wt} (hX : KpE wf (w.heap.size + 1) H vb x S) (hY : GrWs wf H y ws) (hc : CurAt wf pb) (hg : w.grownBy wf (some pb)) (hpb : pb < w.heap.size) (hH : w.heap.size < H) (hHw : H ≤ wf.heap.size) :
    RdD ((wf.setCell ⟨w.heap.size, 0, none⟩ x).setCell ⟨w.heap.size, 1, none⟩ y) w.heap.size ((wf.setCell ⟨w.heap.size, 0, none⟩ x).setCell ⟨w.heap.size, 1, none⟩ y).heap.size (.agg #[x, y]) (S, ws) ∧ CurAt ((wf.setCell ⟨w.heap.size, 0, none⟩ x).setCell ⟨w.heap.size, 1, none⟩ y) pb ∧ w.grownBy ((wf.setCell ⟨w.heap.size, 0, none⟩ x).setCell ⟨w.heap.size, 1, none⟩ y) (some pb) := by
  have same : ∀ q, q ≠ w.heap.size → ((wf.setCell ⟨w.heap.size, 0, none⟩ x).setCell ⟨w.heap.size, 1, none⟩ y).heap[q]? = wf.heap[q]? := fun q hq => (heap_setCell_other _ _ _ _ hq).trans (heap_setCell_other _ _ _ _ hq)
  refine ⟨⟨_, _, rfl, ?_, ?_⟩, (hc.put hpb).put hpb, grown_put (grown_put hg _ (Nat.le_refl _)) _ (Nat.le_refl _)⟩
  · exact ((hX.keep (fun q h1 h2 _ => same q (by omega))).rd).wide (by omega) (by simpa using hHw)
  · exact ((hY.same ⟨by simp, fun q h1 h2 => same q (by omega)⟩).rd).wide (by omega) (Nat.le_refl _)

set_option maxRecDepth 100000 in
set_option maxHeartbeats 8000000 in
theorem disk_any (pb : Nat) (w : World) (h : CurAt w pb) :
    Calls Tryd.prog 44 #[.pointer (some ⟨pb, 0, none⟩)] w fun e w' => ∃ v d, e = .returned v ∧ RdD w' w.heap.size w'.heap.size v d ∧ Tiny d ∧ CurAt w' pb ∧ w.grownBy w' (some pb) := by
  have hpb := h.lt
  have v0 := VarD.new w (.slice none 0 0) (.slice none 0 0)
  have h0 := h.alloc (.cells #[.slice none 0 0, .slice none 0 0] 26)
  have g0 : w.grownBy (w.alloc (.cells #[.slice none 0 0, .slice none 0 0] 26)) (some pb) := grown_alloc (grown_refl _ _) _
  generalize hw0 : w.alloc (.cells #[.slice none 0 0, .slice none 0 0] 26) = w0 at v0 h0 g0
  have HW0 : Hid _ := hw0
  have s0 := v0.lt
  clear hw0 h
  go_enter Tryd.func44, Tryd.ntmps44
  go_wp2_with fail
  rw [HW0.out]
  refine (below_any pb 6 _ h0 (by omega) (by omega)).mono ?_
  rintro e w1 ⟨xi, rfl, hx0, hx1, hc1, hg1⟩
  obtain ⟨n, rfl⟩ : ∃ n : Nat, xi = (n : Int) := ⟨xi.toNat, by omega⟩
  have hn5 : n ≤ 5 := by omega
  have v1 := v0.cur hg1 hpb
  have g1 := grown_trans g0 hg1
  have s1 := hg1.size
  clear v0 h0 g0 hg1 HW0 hx0 hx1
  go_wp2_with fail
  refine (specNewK_any n (by omega) w1).mono ?_
  rintro e w2 ⟨x, rfl, hX, hb2⟩
  have s2 := hb2.size
  have hX2 := (hX.wide (l' := w.heap.size + 1) (by omega)).kpe (b := w2.heap.size) (Nat.le_refl _) (Whole_rep n)
  have v2 := v1.step hb2
  have c2 := hc1.below hb2
  have g2 : w.grownBy w2 (some pb) := grown_trans g1 (grown_below hb2)
  obtain ⟨xa, xc, rfl⟩ := hX2.sliced
  rw [List.length_replicate] at hX2 ⊢
  have b3 := Below.new (w := w2) (.cells #[.slice xa n xc, .slice none 0 0] 26)
  have vV := VarD.new w2 (.slice xa n xc) (.slice none 0 0)
  have v3 := v2.step b3
  have c3 := c2.below b3
  have g3 : w.grownBy (w2.alloc (.cells #[.slice xa n xc, .slice none 0 0] 26)) (some pb) := grown_trans g2 (grown_below b3)
  have X3 := (hX2.keep (w' := w2.alloc (.cells #[.slice xa n xc, .slice none 0 0] 26)) (fun q _ hq _ => b3.block q hq)).up b3.size
  obtain ⟨vb, hvb⟩ : ∃ vb, vb = w2.heap.size := ⟨_, rfl⟩
  rw [← hvb] at vV X3
  have HST : Hid (D1Rel w pb vb n (.slice xa n xc) (.int .i64 0) (w2.alloc (.cells #[.slice xa n xc, .slice none 0 0] 26))) := ⟨0, _, Nat.zero_le _, rfl, List.length_replicate, Whole_rep n, X3, vV, v3, c3, g3⟩
  have hvw : w.heap.size < vb := by omega
  have HVB : Hid _ := hvb
  clear hX hb2 hX2 v2 c2 g2 b3 vV v3 c3 g3 X3 v1 hc1 g1
  go_wp2_with fail
  rw [← HVB.out]
  go_loopw [5] (fun i wr => D1Rel w pb vb n (.slice xa n xc) i wr) (fun i _ => n - (intOf i).toNat)
  case atStart => exact HST.out
  case round =>
    clear HST HVB hvb
    obtain ⟨k, S, hk, rfl, hSl, hwh, hX, hV, hR, hcur, hgr⟩ := hrel
    have c0 := hV.c0
    have hvl := hV.lt
    by_cases hlt : k < n
    · have HX : Hid (KpE wr (w.heap.size + 1) wr.heap.size vb _ S) := hX
      have HV : Hid (VarD wr vb _ _) := hV
      have HR0 : Hid (VarD wr w.heap.size _ _) := hR
      have HG : Hid (w.grownBy wr (some pb)) := hgr
      have HWH : Hid _ := hwh
      have HSL : Hid _ := hSl
      clear hX hV hR hgr hwh hSl
      go_wp2_with fail
      refine (once_any pb 2 wr hcur (by omega) (by omega)).mono ?_
      rintro e w4 ⟨bo, rfl, hc4, hg4⟩
      have X4 := KpE.cur HX.out hg4 (by omega)
      have V4 := VarD.cur HV.out hg4 (by omega)
      have R4 := VarD.cur HR0.out hg4 hpb
      have G4 := grown_trans HG.out hg4
      have s4 := hg4.size
      cases bo with
      | false =>
        have HR : Hid (D1Rel w pb vb n (.slice xa n xc) (.int .i64 ((k : Int) + 1)) w4) := ⟨k + 1, S, by omega, by go_num, HSL.out, HWH.out, X4, V4, R4, hc4, G4⟩
        clear X4 V4 R4 G4 hc4 hg4 HX HV HR0 HG HWH HSL c0
        go_wp2
        refine ⟨?_, by simp [intOf]; omega⟩
        first | exact HR.out | exact ⟨_, _, _, _, _, _, _, _, _, _, _, _, _, _, _, _, _, _, _, _, _, _, _, _, _, _, _, _, _, _, _, _, _, _, _, _, _, _, _, _, _, _, _, _, _, _, _, _, _, _, _, _, _, _, _, _, _, _, _, _, _, _, _, _, _, _, _, _, _, _, _, _, _, _, _, _, _, _, _, _, _, _, _, _, _, _, HR.out, rfl⟩ | exact ⟨_, _, _, _, _, _, _, _, _, _, _, _, _, _, _, _, _, _, _, _, _, _, _, _, _, _, _, _, _, _, _, _, _, _, _, _, _, _, _, _, _, _, _, _, _, _, _, _, _, _, _, _, _, _, _, _, _, _, _, _, _, _, _, _, _, _, _, _, _, _, _, _, _, _, _, _, _, _, _, _, _, _, _, _, _, HR.out, rfl⟩ | exact ⟨_, _, _, _, _, _, _, _, _, _, _, _, _, _, _, _, _, _, _, _, _, _, _, _, _, _, _, _, _, _, _, _, _, _, _, _, _, _, _, _, _, _, _, _, _, _, _, _, _, _, _, _, _, _, _, _, _, _, _, _, _, _, _, _, _, _, _, _, _, _, _, _, _, _, _, _, _, _, _, _, _, _, _, _, HR.out, rfl⟩ | exact ⟨_, _, _, _, _, _, _, _, _, _, _, _, _, _, _, _, _, _, _, _, _, _, _, _, _, _, _, _, _, _, _, _, _, _, _, _, _, _, _, _, _, _, _, _, _, _, _, _, _, _, _, _, _, _, _, _, _, _, _, _, _, _, _, _, _, _, _, _, _, _, _, _, _, _, _, _, _, _, _, _, _, _, _, HR.out, rfl⟩ | exact ⟨_, _, _, _, _, _, _, _, _, _, _, _, _, _, _, _, _, _, _, _, _, _, _, _, _, _, _, _, _, _, _, _, _, _, _, _, _, _, _, _, _, _, _, _, _, _, _, _, _, _, _, _, _, _, _, _, _, _, _, _, _, _, _, _, _, _, _, _, _, _, _, _, _, _, _, _, _, _, _, _, _, _, _, _, _, _, _, HR.out, rfl⟩ | exact ⟨_, _, _, _, _, _, _, _, _, _, _, _, _, _, _, _, _, _, _, _, _, _, _, _, _, _, _, _, _, _, _, _, _, _, _, _, _, _, _, _, _, _, _, _, _, _, _, _, _, _, _, _, _, _, _, _, _, _, _, _, _, _, _, _, _, _, _, _, _, _, _, _, _, _, _, _, _, _, _, _, _, _, _, _, _, _, _, _, HR.out, rfl⟩ | exact ⟨_, _, _, _, _, _, _, _, _, _, _, _, _, _, _, _, _, _, _, _, _, _, _, _, _, _, _, _, _, _, _, _, _, _, _, _, _, _, _, _, _, _, _, _, _, _, _, _, _, _, _, _, _, _, _, _, _, _, _, _, _, _, _, _, _, _, _, _, _, _, _, _, _, _, _, _, _, _, _, _, _, _, _, _, _, _, _, _, _, HR.out, rfl⟩ | exact ⟨_, _, _, _, _, _, _, _, _, _, _, _, _, _, _, _, _, _, _, _, _, _, _, _, _, _, _, _, _, _, _, _, _, _, _, _, _, _, _, _, _, _, _, _, _, _, _, _, _, _, _, _, _, _, _, _, _, _, _, _, _, _, _, _, _, _, _, _, _, _, _, _, _, _, _, _, _, _, _, _, _, _, _, _, _, _, _, _, _, _, HR.out, rfl⟩ | exact ⟨_, _, _, _, _, _, _, _, _, _, _, _, _, _, _, _, _, _, _, _, _, _, _, _, _, _, _, _, _, _, _, _, _, _, _, _, _, _, _, _, _, _, _, _, _, _, _, _, _, _, _, _, _, _, _, _, _, _, _, _, _, _, _, _, _, _, _, _, _, _, _, _, _, _, _, _, _, _, _, _, _, _, HR.out, rfl⟩ | exact ⟨_, _, _, _, _, _, _, _, _, _, _, _, _, _, _, _, _, _, _, _, _, _, _, _, _, _, _, _, _, _, _, _, _, _, _, _, _, _, _, _, _, _, _, _, _, _, _, _, _, _, _, _, _, _, _, _, _, _, _, _, _, _, _, _, _, _, _, _, _, _, _, _, _, _, _, _, _, _, _, _, _, HR.out, rfl⟩ | exact ⟨_, _, _, _, _, _, _, _, _, _, _, _, _, _, _, _, _, _, _, _, _, _, _, _, _, _, _, _, _, _, _, _, _, _, _, _, _, _, _, _, _, _, _, _, _, _, _, _, _, _, _, _, _, _, _, _, _, _, _, _, _, _, _, _, _, _, _, _, _, _, _, _, _, _, _, _, _, _, _, _, HR.out, rfl⟩
      | true =>
        have d0 := V4.c0
        have hks : k < S.length := by rw [HSL.out]; exact hlt
        have hsn : S.length = n := HSL.out
        obtain ⟨vs, hvl', hrow, hxb, hxe⟩ := X4
        rcases hrow.2 with ⟨_, hz0⟩ | ⟨gx, cx, curx, hxe', hgx, _⟩
        · omega
        simp only [Value.slice.injEq] at hxe'
        obtain ⟨rfl, hq9, hcx⟩ := hxe'
        clear hcx hq9
        have hrow' : w4.ownsRow (w.heap.size + 1) 22 1 (.slice (some ⟨gx, 0, none⟩) S.length xc) S.length vs := by rw [hsn] at hrow ⊢; exact hrow
        have hgb := hxb gx rfl
        obtain ⟨o0, hov⟩ : ∃ v, w4.cell? ⟨gx, k, none⟩ = some v := by rw [hrow'.cellAt k (by omega)]; exact ⟨_, List.getElem?_eq_getElem (by omega)⟩
        have hof := hrow'.frozenAt k
        have HX4 : Hid (KpE w4 (w.heap.size + 1) w4.heap.size vb (.slice (some ⟨gx, 0, none⟩) S.length xc) S) := ⟨vs, hvl', hrow', hxb, hxe⟩
        have HV4 : Hid (VarD w4 vb _ _) := V4
        have HR4 : Hid (VarD w4 w.heap.size _ _) := R4
        have HG4 : Hid (w.grownBy w4 (some pb)) := G4
        have HC4 : Hid (CurAt w4.drew pb) := hc4.below (Below.drew (Below.refl _ _))
        have hi0 : (0 : Int) ≤ (k : Int) := by omega
        have hi1 : (k : Int) < (n : Int) := by omega
        have hgv : ¬ gx = vb := hgb.2
        have hgv' : ¬ vb = gx := fun e => hgb.2 e.symm
        have HSW : Hid (S.length = n) := hsn
        clear V4 R4 G4 hc4 hg4 HX HV HR0 HG c0 hvl' hrow hxb hxe hrow' hsn hcur
        go_wp2
        refine wp_region_noPanic ?_
        refine wp_region_held_drew (S := fun w' => w'.cell? ⟨vb, 0, none⟩ = some (.slice (some ⟨gx, 0, none⟩) n xc)) (by kernel_rfl) d0 (fun hHeld => ?_)
        refine wpAnyH_take (i := 0) (v := ?_) rfl (by kernel_rfl) (by kernel_rfl) (by kernel_rfl) (fun _ _ _ h => h) (Or.inl ⟨by rfl, ?_⟩) (by assumption) ?_
        rotate_left
        · (intro w_ hSw_; (try dsimp only at hSw_); go_simp; try with_reducible rfl)
        try simp only [Act.put, List.setIfInBounds_toArray, List.set_cons_zero, List.set_cons_succ, List.getElem_toArray, List.getElem_cons_zero, List.getElem_cons_succ]
        refine wpAnyH_take (i := 1) (v := ?_) rfl (by kernel_rfl) (by kernel_rfl) (by kernel_rfl) (fun _ _ _ h => h) (Or.inl ⟨by rfl, ?_⟩) (by assumption) ?_
        rotate_left
        · (intro w_ hSw_; (try dsimp only at hSw_); go_simp; try with_reducible rfl)
        try simp only [Act.put, List.setIfInBounds_toArray, List.set_cons_zero, List.set_cons_succ, List.getElem_toArray, List.getElem_cons_zero, List.getElem_cons_succ]
        refine wpAnyH_take (i := 2) (v := ?_) rfl (by kernel_rfl) (by kernel_rfl) (by kernel_rfl) (fun _ _ _ h => h) (Or.inl ⟨by rfl, ?_⟩) (by assumption) ?_
        rotate_left
        · (intro w_ hSw_; (try dsimp only at hSw_); go_simp; try with_reducible rfl)
        try simp only [Act.put, List.setIfInBounds_toArray, List.set_cons_zero, List.set_cons_succ, List.getElem_toArray, List.getElem_cons_zero, List.getElem_cons_succ]
        refine wpAnyH_take (i := 3) (v := ?_) rfl (by kernel_rfl) (by kernel_rfl) (by kernel_rfl) (fun _ _ _ h => h) (Or.inl ⟨by rfl, ?_⟩) (by assumption) ?_
        rotate_left
        · (intro w_ hSw_; (try dsimp only at hSw_); go_simp; try with_reducible rfl)
        try simp only [Act.put, List.setIfInBounds_toArray, List.set_cons_zero, List.set_cons_succ, List.getElem_toArray, List.getElem_cons_zero, List.getElem_cons_succ]
        refine wpAnyH_ready (rs := [4]) (by kernel_rfl) (by simp) ?_
        refine AllReadyH.cons rfl (fun K hK => ?_) AllReadyH.nil
        go_simp
        refine (sector_any pb _ HC4.out).mono ?_
        rintro e w5 ⟨u, ys, rfl, ho5, hyb, hyl, hc5, hg5⟩
        obtain ⟨ua, un, uc, rfl⟩ := Owns.sliced ho5
        have hg5' : w4.grownBy w5 (some pb) := ⟨hg5.os, hg5.tape, hg5.output, hg5.size, hg5.block⟩
        have s5 := hg5'.size
        have t0 := (VarD.cur HV4.out hg5' (by omega)).c0
        have t1 := hg5'.cell hov (by simp; omega)
        have t2 := (World.frozen?_of_block (w := w4) (w' := w5) (a := ⟨gx, k, none⟩) (hg5'.block gx (by have := hgb.1; omega) (by simp; omega))).trans hof
        go_wp2_with fail
        refine hK.out _ _ t0 (fun hHeld => ?_)
        clear hK K
        try simp only [Act.put, List.setIfInBounds_toArray, List.set_cons_zero, List.set_cons_succ, List.getElem_toArray, List.getElem_cons_zero, List.getElem_cons_succ]
        refine wpAnyH_take (i := 5) (v := ?_) rfl (by kernel_rfl) (by kernel_rfl) (by kernel_rfl) (fun _ _ _ h => h) (Or.inl ⟨by rfl, ?_⟩) (by assumption) ?_
        rotate_left
        · (intro w_ hSw_; (try dsimp only at hSw_); go_simp; try with_reducible rfl)
        try simp only [Act.put, List.setIfInBounds_toArray, List.set_cons_zero, List.set_cons_succ, List.getElem_toArray, List.getElem_cons_zero, List.getElem_cons_succ]
        refine wpAnyH_ready (rs := [6]) (by kernel_rfl) (by simp) ?_
        refine AllReadyH.cons rfl (fun K hK => ?_) AllReadyH.nil
        go_simp
        have t3 := (World.cell?_of_block (w := w5) (w' := w5.setCell ⟨gx, k, none⟩ (.slice ua un uc)) (a := ⟨vb, 0, none⟩) (heap_setCell_other _ _ _ _ (by show vb ≠ gx; omega))).trans t0
        refine hK.out _ _ t3 (fun hHeld => ?_)
        clear hK K
        try simp only [Act.put, List.setIfInBounds_toArray, List.set_cons_zero, List.set_cons_succ, List.getElem_toArray, List.getElem_cons_zero, List.getElem_cons_succ]
        refine wpAnyH_done (by kernel_rfl) (NoPanic.normal ?_) _
        have X5 := KpE.cur HX4.out hg5' (by omega)
        have hu := ((OwB.of hyb ho5).rd).wide (l' := w.heap.size + 1) (by show _ ≤ w4.heap.size; omega) (Nat.le_refl _)
        have X6 := X5.put hks hu (fun g hg => by have h9 : w4.heap.size ≤ g ∧ g < w5.heap.size := ho5.lt g hg; have := hgb.1; exact ⟨by omega, by omega, by omega, by omega⟩)
        have HR : Hid (D1Rel w pb vb n (.slice (some ⟨gx, 0, none⟩) n xc) (.int .i64 ((k : Int) + 1)) (w5.setCell ⟨gx, k, none⟩ (.slice ua un uc))) := by
          rw [HSW.out] at X6
          exact ⟨k + 1, S.set k ys, by omega, by go_num, by rw [List.length_set]; exact HSW.out, Whole.put HWH.out k hyl, by simpa using X6, (heap_setCell_other _ _ _ _ (by show vb ≠ gx; omega)).trans (VarD.cur HV4.out hg5' (by omega)), (heap_setCell_other _ _ _ _ (by show w.heap.size ≠ gx; omega)).trans (VarD.cur HR4.out hg5' hpb), hc5.put (by omega), grown_put (grown_trans HG4.out hg5') _ (by omega)⟩
        clear X5 X6 hu ho5 hyb hyl hc5 hg5 hg5' t0 t1 t2 t3 hHeld hov hof d0 HX4 HV4 HR4 HG4 HC4 HWH HSL HSW
        go_wp2
        refine ⟨?_, by simp [intOf]; omega⟩
        first | exact HR.out | exact ⟨_, _, _, _, _, _, _, _, _, _, _, _, _, _, _, _, _, _, _, _, _, _, _, _, _, _, _, _, _, _, _, _, _, _, _, _, _, _, _, _, _, _, _, _, _, _, _, _, _, _, _, _, _, _, _, _, _, _, _, _, _, _, _, _, _, _, _, _, _, _, _, _, _, _, _, _, _, _, _, _, _, _, _, _, _, _, HR.out, rfl⟩ | exact ⟨_, _, _, _, _, _, _, _, _, _, _, _, _, _, _, _, _, _, _, _, _, _, _, _, _, _, _, _, _, _, _, _, _, _, _, _, _, _, _, _, _, _, _, _, _, _, _, _, _, _, _, _, _, _, _, _, _, _, _, _, _, _, _, _, _, _, _, _, _, _, _, _, _, _, _, _, _, _, _, _, _, _, _, _, _, HR.out, rfl⟩ | exact ⟨_, _, _, _, _, _, _, _, _, _, _, _, _, _, _, _, _, _, _, _, _, _, _, _, _, _, _, _, _, _, _, _, _, _, _, _, _, _, _, _, _, _, _, _, _, _, _, _, _, _, _, _, _, _, _, _, _, _, _, _, _, _, _, _, _, _, _, _, _, _, _, _, _, _, _, _, _, _, _, _, _, _, _, _, HR.out, rfl⟩ | exact ⟨_, _, _, _, _, _, _, _, _, _, _, _, _, _, _, _, _, _, _, _, _, _, _, _, _, _, _, _, _, _, _, _, _, _, _, _, _, _, _, _, _, _, _, _, _, _, _, _, _, _, _, _, _, _, _, _, _, _, _, _, _, _, _, _, _, _, _, _, _, _, _, _, _, _, _, _, _, _, _, _, _, _, _, HR.out, rfl⟩ | exact ⟨_, _, _, _, _, _, _, _, _, _, _, _, _, _, _, _, _, _, _, _, _, _, _, _, _, _, _, _, _, _, _, _, _, _, _, _, _, _, _, _, _, _, _, _, _, _, _, _, _, _, _, _, _, _, _, _, _, _, _, _, _, _, _, _, _, _, _, _, _, _, _, _, _, _, _, _, _, _, _, _, _, _, _, _, _, _, _, HR.out, rfl⟩ | exact ⟨_, _, _, _, _, _, _, _, _, _, _, _, _, _, _, _, _, _, _, _, _, _, _, _, _, _, _, _, _, _, _, _, _, _, _, _, _, _, _, _, _, _, _, _, _, _, _, _, _, _, _, _, _, _, _, _, _, _, _, _, _, _, _, _, _, _, _, _, _, _, _, _, _, _, _, _, _, _, _, _, _, _, _, _, _, _, _, _, HR.out, rfl⟩ | exact ⟨_, _, _, _, _, _, _, _, _, _, _, _, _, _, _, _, _, _, _, _, _, _, _, _, _, _, _, _, _, _, _, _, _, _, _, _, _, _, _, _, _, _, _, _, _, _, _, _, _, _, _, _, _, _, _, _, _, _, _, _, _, _, _, _, _, _, _, _, _, _, _, _, _, _, _, _, _, _, _, _, _, _, _, _, _, _, _, _, _, HR.out, rfl⟩ | exact ⟨_, _, _, _, _, _, _, _, _, _, _, _, _, _, _, _, _, _, _, _, _, _, _, _, _, _, _, _, _, _, _, _, _, _, _, _, _, _, _, _, _, _, _, _, _, _, _, _, _, _, _, _, _, _, _, _, _, _, _, _, _, _, _, _, _, _, _, _, _, _, _, _, _, _, _, _, _, _, _, _, _, _, _, _, _, _, _, _, _, _, HR.out, rfl⟩ | exact ⟨_, _, _, _, _, _, _, _, _, _, _, _, _, _, _, _, _, _, _, _, _, _, _, _, _, _, _, _, _, _, _, _, _, _, _, _, _, _, _, _, _, _, _, _, _, _, _, _, _, _, _, _, _, _, _, _, _, _, _, _, _, _, _, _, _, _, _, _, _, _, _, _, _, _, _, _, _, _, _, _, _, _, HR.out, rfl⟩ | exact ⟨_, _, _, _, _, _, _, _, _, _, _, _, _, _, _, _, _, _, _, _, _, _, _, _, _, _, _, _, _, _, _, _, _, _, _, _, _, _, _, _, _, _, _, _, _, _, _, _, _, _, _, _, _, _, _, _, _, _, _, _, _, _, _, _, _, _, _, _, _, _, _, _, _, _, _, _, _, _, _, _, _, HR.out, rfl⟩ | exact ⟨_, _, _, _, _, _, _, _, _, _, _, _, _, _, _, _, _, _, _, _, _, _, _, _, _, _, _, _, _, _, _, _, _, _, _, _, _, _, _, _, _, _, _, _, _, _, _, _, _, _, _, _, _, _, _, _, _, _, _, _, _, _, _, _, _, _, _, _, _, _, _, _, _, _, _, _, _, _, _, _, HR.out, rfl⟩
    · have hkn : k = n := by omega
      have HX : Hid (KpE wr (w.heap.size + 1) wr.heap.size vb _ S) := hX
      have HV : Hid (VarD wr vb _ _) := hV
      have HR0 : Hid (VarD wr w.heap.size _ _) := hR
      have HG : Hid (w.grownBy wr (some pb)) := hgr
      have HWH : Hid _ := hwh
      have HSL : Hid _ := hSl
      clear hX hV hR hgr hwh hSl hkn
      go_wp2_with fail
      refine (below_any pb 5 wr hcur (by omega) (by omega)).mono ?_
      rintro e w4 ⟨xi, rfl, hx0, hx1, hc4, hg4⟩
      obtain ⟨N, rfl⟩ : ∃ n : Nat, xi = (n : Int) := ⟨xi.toNat, by omega⟩
      have hN4 : N ≤ 4 := by omega
      have X4 := KpE.cur HX.out hg4 (by omega)
      have V4 := VarD.cur HV.out hg4 (by omega)
      have R4 := VarD.cur HR0.out hg4 hpb
      have G4 := grown_trans HG.out hg4
      have s4 := hg4.size
      have hvH : vb < w4.heap.size := V4.lt
      have HST : Hid (D2Rel w pb vb n N w4.heap.size (.slice xa n xc) S (.int .i64 0) w4) := ⟨0, .slice none 0 0, [], Nat.zero_le _, rfl, Nat.le_refl _, .inl rfl, fun i => by simp, X4, GrWs_nil _ _, V4, R4, hc4, G4, Nat.le_refl _⟩
      have hwH : w.heap.size < w4.heap.size := by omega
      obtain ⟨H, hH⟩ : ∃ H, H = w4.heap.size := ⟨_, rfl⟩
      rw [← hH] at HST hvH hwH
      clear X4 V4 R4 G4 hc4 hg4 HX HV HR0 HG hx0 hx1 c0 hcur hvl hlt
      go_wp2
      go_loopw [7] (fun i wr => D2Rel w pb vb n N H (.slice xa n xc) S i wr) (fun i _ => N - (intOf i).toNat)
      case atStart => exact HST.out
      case round =>
        clear HST hH s4
        obtain ⟨j, y, ws, hj, rfl, hwl, hne, hsh, hX, hY, hV, hR, hcur, hgr, hHw⟩ := hrel
        obtain ⟨ya, yc, rfl⟩ := hY.sliced
        have c0 := hV.c0
        have c1 := hV.c1
        have HX : Hid (KpE wr (w.heap.size + 1) H vb _ S) := hX
        have HV : Hid (VarD wr vb _ _) := hV
        have HR0 : Hid (VarD wr w.heap.size _ _) := hR
        have HG : Hid (w.grownBy wr (some pb)) := hgr
        have HY : Hid (GrWs wr H _ ws) := hY
        have HSH : Hid _ := hsh
        have HNE : Hid _ := hne
        have hws4 : ws.length ≤ 4 := by omega
        clear hX hV hR hgr hY hsh hne
        by_cases hlt : j < N
        · by_cases hn0 : 0 < n
          · obtain ⟨ys, C, hxl, hrow, hCC, hee⟩ := HY.out
            have HROW : Hid _ := And.intro hxl (And.intro hrow (And.intro hCC hee))
            have HRK : Hid (∀ W, SameIn H wr.heap.size wr W → W.ownsRow H 75 2 (.slice ya ws.length yc) ws.length C) := fun W hW => ownsRow_same hrow (fun q hq => (hrow.lt q hq).2) hW
            have HYL : Hid (∀ q, (Value.slice ya ws.length yc).ownBlock = some q → H ≤ q ∧ q < wr.heap.size) := fun q hq => hrow.lt q hq
            obtain ⟨m, hm⟩ : ∃ m, m = ws.length := ⟨_, rfl⟩
            rw [← hm] at c1 HV HRK HYL HROW hws4 hwl
            have HM : Hid _ := hm
            have hi0 : decide ((0 : Int) < (n : Int)) = true := by simp; omega
            have hi1 : decide ((j : Int) < (N : Int)) = true := by simp; omega
            have HC : Hid (CurAt wr.drew pb) := hcur.below (Below.drew (Below.refl _ _))
            have hvwr : vb < wr.heap.size := by omega
            have hn9 : (0 : Int) < (n : Int) := by omega
            have hlt9 : (j : Int) < (N : Int) := by omega
            have of1 := VarD.f HV.out 1
            clear hxl hrow hCC hee hm HY hcur hi0 hi1
            go_wp2
            refine wp_region_noPanic ?_
            refine wp_region_held_drew (S := fun w' => w'.cell? ⟨vb, 0, none⟩ = some (.slice xa n xc)) (by kernel_rfl) c0 (fun hHeld => ?_)
            refine wpAnyH_take (i := 0) (v := ?_) rfl (by kernel_rfl) (by kernel_rfl) (by kernel_rfl) (fun _ _ _ h => h) (Or.inl ⟨by rfl, ?_⟩) (by assumption) ?_
            rotate_left
            · (intro w_ hSw_; (try dsimp only at hSw_); go_simp; try with_reducible rfl)
            try simp only [Act.put, List.setIfInBounds_toArray, List.set_cons_zero, List.set_cons_succ, List.getElem_toArray, List.getElem_cons_zero, List.getElem_cons_succ]
            refine wpAnyH_take (i := 2) (v := ?_) rfl (by kernel_rfl) (by kernel_rfl) (by kernel_rfl) (fun _ _ _ h => h) (Or.inl ⟨by rfl, ?_⟩) (by assumption) ?_
            rotate_left
            · (intro w_ hSw_; (try dsimp only at hSw_); go_simp; try with_reducible rfl)
            try simp only [Act.put, List.setIfInBounds_toArray, List.set_cons_zero, List.set_cons_succ, List.getElem_toArray, List.getElem_cons_zero, List.getElem_cons_succ]
            refine wpAnyH_take (i := 3) (v := ?_) rfl (by kernel_rfl) (by kernel_rfl) (by kernel_rfl) (fun _ _ _ h => h) (Or.inl ⟨by rfl, ?_⟩) (by assumption) ?_
            rotate_left
            · (intro w_ hSw_; (try dsimp only at hSw_); go_simp; try with_reducible rfl)
            try simp only [Act.put, List.setIfInBounds_toArray, List.set_cons_zero, List.set_cons_succ, List.getElem_toArray, List.getElem_cons_zero, List.getElem_cons_succ]
            refine wpAnyH_take (i := 4) (v := ?_) rfl (by kernel_rfl) (by kernel_rfl) (by kernel_rfl) (fun _ _ _ h => h) (Or.inl ⟨by rfl, ?_⟩) (by assumption) ?_
            rotate_left
            · (intro w_ hSw_; (try dsimp only at hSw_); go_simp; try with_reducible rfl)
            try simp only [Act.put, List.setIfInBounds_toArray, List.set_cons_zero, List.set_cons_succ, List.getElem_toArray, List.getElem_cons_zero, List.getElem_cons_succ]
            refine wpAnyH_take (i := 5) (v := ?_) rfl (by kernel_rfl) (by kernel_rfl) (by kernel_rfl) (fun _ _ _ h => h) (Or.inl ⟨by rfl, ?_⟩) (by assumption) ?_
            rotate_left
            · (intro w_ hSw_; (try dsimp only at hSw_); go_simp; try with_reducible rfl)
            try simp only [Act.put, List.setIfInBounds_toArray, List.set_cons_zero, List.set_cons_succ, List.getElem_toArray, List.getElem_cons_zero, List.getElem_cons_succ]
            refine wpAnyH_take (i := 7) (v := ?_) rfl (by kernel_rfl) (by kernel_rfl) (by kernel_rfl) (fun _ _ _ h => h) (Or.inl ⟨by rfl, ?_⟩) (by assumption) ?_
            rotate_left
            · (intro w_ hSw_; (try dsimp only at hSw_); go_simp; try with_reducible rfl)
            try simp only [Act.put, List.setIfInBounds_toArray, List.set_cons_zero, List.set_cons_succ, List.getElem_toArray, List.getElem_cons_zero, List.getElem_cons_succ]
            refine wpAnyH_ready (rs := [1, 6]) (by kernel_rfl) (by simp) ?_
            refine AllReadyH.cons rfl (fun K hK => ?_) ?_
            · go_simp
              refine hK.out _ _ (by assumption) (fun hHeld => ?_)
              clear hK K
              try simp only [Act.put, List.setIfInBounds_toArray, List.set_cons_zero, List.set_cons_succ, List.getElem_toArray, List.getElem_cons_zero, List.getElem_cons_succ]
              refine wpAnyH_ready (rs := [6]) (by kernel_rfl) (by simp) ?_
              refine AllReadyH.cons rfl (fun K hK => ?_) AllReadyH.nil
              go_simp
              refine (below_any pb (n : Int) _ HC.out (by omega) (by omega)).mono ?_
              rintro e w5 ⟨zi, rfl, hz0, hz1, hc5, hg5⟩
              have hg5' : wr.grownBy w5 (some pb) := ⟨hg5.os, hg5.tape, hg5.output, hg5.size, hg5.block⟩
              have s5 := hg5'.size
              have t0 := (VarD.cur HV.out hg5' (by omega)).c0
              have t1 := (VarD.cur HV.out hg5' (by omega)).c1
              go_wp2_with fail
              refine hK.out _ _ t0 (fun hHeld => ?_)
              clear hK K
              try simp only [Act.put, List.setIfInBounds_toArray, List.set_cons_zero, List.set_cons_succ, List.getElem_toArray, List.getElem_cons_zero, List.getElem_cons_succ]
              refine wpAnyH_ready (rs := [8]) (by kernel_rfl) (by simp) ?_
              refine AllReadyH.cons rfl (fun K hK => ?_) AllReadyH.nil
              go_simp
              refine (sector_any pb w5 hc5).mono ?_
              rintro e w6 ⟨u, zs, rfl, ho6, hzb, hzl, hc6, hg6⟩
              obtain ⟨ua, un, uc, rfl⟩ := Owns.sliced ho6
              have s6 := hg6.size
              have hg56 := grown_trans hg5' hg6
              have r0 := (VarD.cur HV.out hg56 (by omega)).c0
              have r1 := (VarD.cur HV.out hg56 (by omega)).c1
              have n6 : ¬ vb = w6.heap.size := by omega
              go_wp2_with fail
              refine hK.out _ _ r0 (fun hHeld => ?_)
              clear hK K
              try simp only [Act.put, List.setIfInBounds_toArray, List.set_cons_zero, List.set_cons_succ, List.getElem_toArray, List.getElem_cons_zero, List.getElem_cons_succ]
              refine wpAnyH_take (i := 9) (v := ?_) rfl (by kernel_rfl) (by kernel_rfl) (by kernel_rfl) (fun _ _ _ h => h) (Or.inl ⟨by rfl, ?_⟩) (by assumption) ?_
              rotate_left
              · (intro w_ hSw_; (try dsimp only at hSw_); go_simp; try with_reducible rfl)
              try simp only [Act.put, List.setIfInBounds_toArray, List.set_cons_zero, List.set_cons_succ, List.getElem_toArray, List.getElem_cons_zero, List.getElem_cons_succ]
              refine wpAnyH_ready (rs := [10]) (by kernel_rfl) (by simp) ?_
              refine AllReadyH.cons rfl (fun K hK => ?_) AllReadyH.nil
              go_simp
              have b7 := Below.new (w := w6) (.cells #[.int .i64 zi, .slice ua un uc] 75)
              have V7 := (VarD.cur HV.out hg56 (by omega)).step b7
              have m0 := V7.c0
              have m1 := V7.c1
              have hsame : SameIn H wr.heap.size wr (w6.alloc (.cells #[.int .i64 zi, .slice ua un uc] 75)) := ⟨by simp; omega, fun q h1 h2 => (b7.block q (by omega)).trans (hg56.block q h2 (by simp; omega))⟩
              refine hK.out _ _ m0 (fun hHeld => ?_)
              clear hK K
              try simp only [Act.put, List.setIfInBounds_toArray, List.set_cons_zero, List.set_cons_succ, List.getElem_toArray, List.getElem_cons_zero, List.getElem_cons_succ]
              refine wpAnyH_ready (rs := [11]) (by kernel_rfl) (by simp) ?_
              refine AllReadyH.cons rfl (fun K hK => ?_) AllReadyH.nil
              refine step_appW rfl (.tmp 43) (.tmp 52) (by rfl) H _ m C (by rfl) (HRK.out _ hsame) w6.heap.size zi (.slice ua un uc) (by rfl) (heap_alloc_new _ _) rfl (by omega) (by simp; omega) ?_
              intro g8 c8 w8 ho8 hg8 ha8 hl8
              have hV8 : VarD w8 vb (.slice xa n xc) (.slice ya m yc) := (hg8.block vb (by simp; omega) (fun e => by have := HYL.out vb e.symm; omega)).trans V7
              have k0 := hV8.c0
              have k1 := hV8.c1
              have kf := hV8.f 1
              refine hK.out _ _ k0 (fun hHeld => ?_)
              clear hK K
              try simp only [Act.put, List.setIfInBounds_toArray, List.set_cons_zero, List.set_cons_succ, List.getElem_toArray, List.getElem_cons_zero, List.getElem_cons_succ]
              refine wpAnyH_take (i := 12) (v := ?_) rfl (by kernel_rfl) (by kernel_rfl) (by kernel_rfl) (fun _ _ _ h => h) (Or.inl ⟨by rfl, ?_⟩) (by assumption) ?_
              rotate_left
              · (intro w_ hSw_; (try dsimp only at hSw_); go_simp; try with_reducible rfl)
              try simp only [Act.put, List.setIfInBounds_toArray, List.set_cons_zero, List.set_cons_succ, List.getElem_toArray, List.getElem_cons_zero, List.getElem_cons_succ]
              refine wpAnyH_ready (rs := [13]) (by kernel_rfl) (by simp) ?_
              refine AllReadyH.cons rfl (fun K hK => ?_) AllReadyH.nil
              go_simp
              have hV9 : VarD (w8.setCell ⟨vb, 1, none⟩ (.slice (some ⟨g8, 0, none⟩) (m + 1) c8)) vb (.slice xa n xc) (.slice (some ⟨g8, 0, none⟩) (m + 1) c8) := by
                show _ = _
                rw [heap_setCell_same _ _ _ _ _ _ hV8]; rfl
              have l0 := hV9.c0
              refine hK.out _ _ l0 (fun hHeld => ?_)
              clear hK K
              try simp only [Act.put, List.setIfInBounds_toArray, List.set_cons_zero, List.set_cons_succ, List.getElem_toArray, List.getElem_cons_zero, List.getElem_cons_succ]
              refine wpAnyH_done (by kernel_rfl) (NoPanic.normal ?_) _
              have hs8 := hg8.size
              have hsz8 : w6.heap.size + 1 ≤ w8.heap.size := by simpa using hs8
              have hG := GrWs.next2 (w := wr) (wa := w6.alloc (.cells #[.int .i64 zi, .slice ua un uc] 75)) (w' := w8) (l := H) (ws := ws) (by rw [← HM.out]; exact HROW.out.1) (by rw [← HM.out]; exact HROW.out.2.1) (by rw [← HM.out]; exact HROW.out.2.2.1) (by rw [← HM.out]; exact HROW.out.2.2.2) hsame (by rw [← HM.out]; exact ho8) hg8 ha8 ((((OwB.of hzb ho6).rd).same (SameIn.ofBelow b7 (Nat.le_refl _))).wide (by omega) b7.size) (fun q hq => by have h9 : w5.heap.size ≤ q ∧ q < w6.heap.size := ho6.lt q hq; simp; omega) hHw
              rw [← HM.out] at hG
              have far : ∀ q, q < H → q ≠ pb → w8.heap[q]? = wr.heap[q]? := fun q hq hp => (hg8.block q (by simp; omega) (fun e => by have := HYL.out q e.symm; omega)).trans ((b7.block q (by omega)).trans (hg56.block q (by omega) (by simpa using hp)))
              have HR : Hid (D2Rel w pb vb n N H (.slice xa n xc) S (.int .i64 ((j : Int) + 1)) (w8.setCell ⟨vb, 1, none⟩ (.slice (some ⟨g8, 0, none⟩) (m + 1) c8))) := by
                refine ⟨j + 1, .slice (some ⟨g8, 0, none⟩) (m + 1) c8, ws ++ [(zi, zs)], by omega, by go_num, by simp; have := HM.out; omega, .inr hn0, Short.snoc HSH.out (by omega), ?_, ?_, hV9, ?_, ?_, ?_, by simp; omega⟩
                · exact KpE.keep HX.out (fun q h1 h2 h3 => (heap_setCell_other _ _ _ _ h3).trans (far q h2 (by omega)))
                · exact hG.same (SameIn.set (p := ⟨vb, 1, none⟩) (.inl (by show vb < H; omega)))
                · exact (heap_setCell_other _ _ _ _ (by show w.heap.size ≠ vb; omega)).trans ((far _ (by omega) (by omega)).trans HR0.out)
                · exact (((hc6.alloc _).grown hg8 (fun q hq => by have := HYL.out q hq; omega))).put (by omega)
                · exact grown_put (grown_new (grown_alloc (grown_trans HG.out hg56) _) hg8 (fun q hq => by have := HYL.out q hq; omega)) _ (by omega)
              clear hG far ho6 hzb hzl hc6 hg6 hg56 hg5 hg5' hc5 ho8 hg8 ha8 hV8 hV9 V7 b7 hsame hHeld HROW HRK HYL HX HV HR0 HG HC HSH HNE c0 c1 of1 k0 k1 kf l0 HM
              go_wp2
              refine ⟨?_, by simp [intOf]; omega⟩
              first | exact HR.out | exact ⟨_, _, _, _, _, _, _, _, _, _, _, _, _, _, _, _, _, _, _, _, _, _, _, _, _, _, _, _, _, _, _, _, _, _, _, _, _, _, _, _, _, _, _, _, _, _, _, _, _, _, _, _, _, _, _, _, _, _, _, _, _, _, _, _, _, _, _, _, _, _, _, _, _, _, _, _, _, _, _, _, _, _, _, _, _, _, HR.out, rfl⟩ | exact ⟨_, _, _, _, _, _, _, _, _, _, _, _, _, _, _, _, _, _, _, _, _, _, _, _, _, _, _, _, _, _, _, _, _, _, _, _, _, _, _, _, _, _, _, _, _, _, _, _, _, _, _, _, _, _, _, _, _, _, _, _, _, _, _, _, _, _, _, _, _, _, _, _, _, _, _, _, _, _, _, _, _, _, _, _, _, HR.out, rfl⟩ | exact ⟨_, _, _, _, _, _, _, _, _, _, _, _, _, _, _, _, _, _, _, _, _, _, _, _, _, _, _, _, _, _, _, _, _, _, _, _, _, _, _, _, _, _, _, _, _, _, _, _, _, _, _, _, _, _, _, _, _, _, _, _, _, _, _, _, _, _, _, _, _, _, _, _, _, _, _, _, _, _, _, _, _, _, _, _, HR.out, rfl⟩ | exact ⟨_, _, _, _, _, _, _, _, _, _, _, _, _, _, _, _, _, _, _, _, _, _, _, _, _, _, _, _, _, _, _, _, _, _, _, _, _, _, _, _, _, _, _, _, _, _, _, _, _, _, _, _, _, _, _, _, _, _, _, _, _, _, _, _, _, _, _, _, _, _, _, _, _, _, _, _, _, _, _, _, _, _, _, HR.out, rfl⟩ | exact ⟨_, _, _, _, _, _, _, _, _, _, _, _, _, _, _, _, _, _, _, _, _, _, _, _, _, _, _, _, _, _, _, _, _, _, _, _, _, _, _, _, _, _, _, _, _, _, _, _, _, _, _, _, _, _, _, _, _, _, _, _, _, _, _, _, _, _, _, _, _, _, _, _, _, _, _, _, _, _, _, _, _, _, _, _, _, _, _, HR.out, rfl⟩ | exact ⟨_, _, _, _, _, _, _, _, _, _, _, _, _, _, _, _, _, _, _, _, _, _, _, _, _, _, _, _, _, _, _, _, _, _, _, _, _, _, _, _, _, _, _, _, _, _, _, _, _, _, _, _, _, _, _, _, _, _, _, _, _, _, _, _, _, _, _, _, _, _, _, _, _, _, _, _, _, _, _, _, _, _, _, _, _, _, _, _, HR.out, rfl⟩ | exact ⟨_, _, _, _, _, _, _, _, _, _, _, _, _, _, _, _, _, _, _, _, _, _, _, _, _, _, _, _, _, _, _, _, _, _, _, _, _, _, _, _, _, _, _, _, _, _, _, _, _, _, _, _, _, _, _, _, _, _, _, _, _, _, _, _, _, _, _, _, _, _, _, _, _, _, _, _, _, _, _, _, _, _, _, _, _, _, _, _, _, HR.out, rfl⟩ | exact ⟨_, _, _, _, _, _, _, _, _, _, _, _, _, _, _, _, _, _, _, _, _, _, _, _, _, _, _, _, _, _, _, _, _, _, _, _, _, _, _, _, _, _, _, _, _, _, _, _, _, _, _, _, _, _, _, _, _, _, _, _, _, _, _, _, _, _, _, _, _, _, _, _, _, _, _, _, _, _, _, _, _, _, _, _, _, _, _, _, _, _, HR.out, rfl⟩ | exact ⟨_, _, _, _, _, _, _, _, _, _, _, _, _, _, _, _, _, _, _, _, _, _, _, _, _, _, _, _, _, _, _, _, _, _, _, _, _, _, _, _, _, _, _, _, _, _, _, _, _, _, _, _, _, _, _, _, _, _, _, _, _, _, _, _, _, _, _, _, _, _, _, _, _, _, _, _, _, _, _, _, _, _, HR.out, rfl⟩ | exact ⟨_, _, _, _, _, _, _, _, _, _, _, _, _, _, _, _, _, _, _, _, _, _, _, _, _, _, _, _, _, _, _, _, _, _, _, _, _, _, _, _, _, _, _, _, _, _, _, _, _, _, _, _, _, _, _, _, _, _, _, _, _, _, _, _, _, _, _, _, _, _, _, _, _, _, _, _, _, _, _, _, _, HR.out, rfl⟩ | exact ⟨_, _, _, _, _, _, _, _, _, _, _, _, _, _, _, _, _, _, _, _, _, _, _, _, _, _, _, _, _, _, _, _, _, _, _, _, _, _, _, _, _, _, _, _, _, _, _, _, _, _, _, _, _, _, _, _, _, _, _, _, _, _, _, _, _, _, _, _, _, _, _, _, _, _, _, _, _, _, _, _, HR.out, rfl⟩
            refine AllReadyH.cons rfl (fun K hK => ?_) AllReadyH.nil
            go_simp
            refine (below_any pb (n : Int) _ HC.out (by omega) (by omega)).mono ?_
            rintro e w5 ⟨zi, rfl, hz0, hz1, hc5, hg5⟩
            have hg5' : wr.grownBy w5 (some pb) := ⟨hg5.os, hg5.tape, hg5.output, hg5.size, hg5.block⟩
            have s5 := hg5'.size
            have t0 := (VarD.cur HV.out hg5' (by omega)).c0
            have t1 := (VarD.cur HV.out hg5' (by omega)).c1
            go_wp2_with fail
            refine hK.out _ _ t0 (fun hHeld => ?_)
            clear hK K
            try simp only [Act.put, List.setIfInBounds_toArray, List.set_cons_zero, List.set_cons_succ, List.getElem_toArray, List.getElem_cons_zero, List.getElem_cons_succ]
            refine wpAnyH_ready (rs := [1, 8]) (by kernel_rfl) (by simp) ?_
            refine AllReadyH.cons rfl (fun K hK => ?_) ?_
            · go_simp
              refine hK.out _ _ (by assumption) (fun hHeld => ?_)
              clear hK K
              try simp only [Act.put, List.setIfInBounds_toArray, List.set_cons_zero, List.set_cons_succ, List.getElem_toArray, List.getElem_cons_zero, List.getElem_cons_succ]
              refine wpAnyH_ready (rs := [8]) (by kernel_rfl) (by simp) ?_
              refine AllReadyH.cons rfl (fun K hK => ?_) AllReadyH.nil
              go_simp
              refine (sector_any pb w5 hc5).mono ?_
              rintro e w6 ⟨u, zs, rfl, ho6, hzb, hzl, hc6, hg6⟩
              obtain ⟨ua, un, uc, rfl⟩ := Owns.sliced ho6
              have s6 := hg6.size
              have hg56 := grown_trans hg5' hg6
              have r0 := (VarD.cur HV.out hg56 (by omega)).c0
              have r1 := (VarD.cur HV.out hg56 (by omega)).c1
              have n6 : ¬ vb = w6.heap.size := by omega
              go_wp2_with fail
              refine hK.out _ _ r0 (fun hHeld => ?_)
              clear hK K
              try simp only [Act.put, List.setIfInBounds_toArray, List.set_cons_zero, List.set_cons_succ, List.getElem_toArray, List.getElem_cons_zero, List.getElem_cons_succ]
              refine wpAnyH_take (i := 9) (v := ?_) rfl (by kernel_rfl) (by kernel_rfl) (by kernel_rfl) (fun _ _ _ h => h) (Or.inl ⟨by rfl, ?_⟩) (by assumption) ?_
              rotate_left
              · (intro w_ hSw_; (try dsimp only at hSw_); go_simp; try with_reducible rfl)
              try simp only [Act.put, List.setIfInBounds_toArray, List.set_cons_zero, List.set_cons_succ, List.getElem_toArray, List.getElem_cons_zero, List.getElem_cons_succ]
              refine wpAnyH_ready (rs := [10]) (by kernel_rfl) (by simp) ?_
              refine AllReadyH.cons rfl (fun K hK => ?_) AllReadyH.nil
              go_simp
              have b7 := Below.new (w := w6) (.cells #[.int .i64 zi, .slice ua un uc] 75)
              have V7 := (VarD.cur HV.out hg56 (by omega)).step b7
              have m0 := V7.c0
              have m1 := V7.c1
              have hsame : SameIn H wr.heap.size wr (w6.alloc (.cells #[.int .i64 zi, .slice ua un uc] 75)) := ⟨by simp; omega, fun q h1 h2 => (b7.block q (by omega)).trans (hg56.block q h2 (by simp; omega))⟩
              refine hK.out _ _ m0 (fun hHeld => ?_)
              clear hK K
              try simp only [Act.put, List.setIfInBounds_toArray, List.set_cons_zero, List.set_cons_succ, List.getElem_toArray, List.getElem_cons_zero, List.getElem_cons_succ]
              refine wpAnyH_ready (rs := [11]) (by kernel_rfl) (by simp) ?_
              refine AllReadyH.cons rfl (fun K hK => ?_) AllReadyH.nil
              refine step_appW rfl (.tmp 43) (.tmp 52) (by rfl) H _ m C (by rfl) (HRK.out _ hsame) w6.heap.size zi (.slice ua un uc) (by rfl) (heap_alloc_new _ _) rfl (by omega) (by simp; omega) ?_
              intro g8 c8 w8 ho8 hg8 ha8 hl8
              have hV8 : VarD w8 vb (.slice xa n xc) (.slice ya m yc) := (hg8.block vb (by simp; omega) (fun e => by have := HYL.out vb e.symm; omega)).trans V7
              have k0 := hV8.c0
              have k1 := hV8.c1
              have kf := hV8.f 1
              refine hK.out _ _ k0 (fun hHeld => ?_)
              clear hK K
              try simp only [Act.put, List.setIfInBounds_toArray, List.set_cons_zero, List.set_cons_succ, List.getElem_toArray, List.getElem_cons_zero, List.getElem_cons_succ]
              refine wpAnyH_take (i := 12) (v := ?_) rfl (by kernel_rfl) (by kernel_rfl) (by kernel_rfl) (fun _ _ _ h => h) (Or.inl ⟨by rfl, ?_⟩) (by assumption) ?_
              rotate_left
              · (intro w_ hSw_; (try dsimp only at hSw_); go_simp; try with_reducible rfl)
              try simp only [Act.put, List.setIfInBounds_toArray, List.set_cons_zero, List.set_cons_succ, List.getElem_toArray, List.getElem_cons_zero, List.getElem_cons_succ]
              refine wpAnyH_ready (rs := [13]) (by kernel_rfl) (by simp) ?_
              refine AllReadyH.cons rfl (fun K hK => ?_) AllReadyH.nil
              go_simp
              have hV9 : VarD (w8.setCell ⟨vb, 1, none⟩ (.slice (some ⟨g8, 0, none⟩) (m + 1) c8)) vb (.slice xa n xc) (.slice (some ⟨g8, 0, none⟩) (m + 1) c8) := by
                show _ = _
                rw [heap_setCell_same _ _ _ _ _ _ hV8]; rfl
              have l0 := hV9.c0
              refine hK.out _ _ l0 (fun hHeld => ?_)
              clear hK K
              try simp only [Act.put, List.setIfInBounds_toArray, List.set_cons_zero, List.set_cons_succ, List.getElem_toArray, List.getElem_cons_zero, List.getElem_cons_succ]
              refine wpAnyH_done (by kernel_rfl) (NoPanic.normal ?_) _
              have hs8 := hg8.size
              have hsz8 : w6.heap.size + 1 ≤ w8.heap.size := by simpa using hs8
              have hG := GrWs.next2 (w := wr) (wa := w6.alloc (.cells #[.int .i64 zi, .slice ua un uc] 75)) (w' := w8) (l := H) (ws := ws) (by rw [← HM.out]; exact HROW.out.1) (by rw [← HM.out]; exact HROW.out.2.1) (by rw [← HM.out]; exact HROW.out.2.2.1) (by rw [← HM.out]; exact HROW.out.2.2.2) hsame (by rw [← HM.out]; exact ho8) hg8 ha8 ((((OwB.of hzb ho6).rd).same (SameIn.ofBelow b7 (Nat.le_refl _))).wide (by omega) b7.size) (fun q hq => by have h9 : w5.heap.size ≤ q ∧ q < w6.heap.size := ho6.lt q hq; simp; omega) hHw
              rw [← HM.out] at hG
              have far : ∀ q, q < H → q ≠ pb → w8.heap[q]? = wr.heap[q]? := fun q hq hp => (hg8.block q (by simp; omega) (fun e => by have := HYL.out q e.symm; omega)).trans ((b7.block q (by omega)).trans (hg56.block q (by omega) (by simpa using hp)))
              have HR : Hid (D2Rel w pb vb n N H (.slice xa n xc) S (.int .i64 ((j : Int) + 1)) (w8.setCell ⟨vb, 1, none⟩ (.slice (some ⟨g8, 0, none⟩) (m + 1) c8))) := by
                refine ⟨j + 1, .slice (some ⟨g8, 0, none⟩) (m + 1) c8, ws ++ [(zi, zs)], by omega, by go_num, by simp; have := HM.out; omega, .inr hn0, Short.snoc HSH.out (by omega), ?_, ?_, hV9, ?_, ?_, ?_, by simp; omega⟩
                · exact KpE.keep HX.out (fun q h1 h2 h3 => (heap_setCell_other _ _ _ _ h3).trans (far q h2 (by omega)))
                · exact hG.same (SameIn.set (p := ⟨vb, 1, none⟩) (.inl (by show vb < H; omega)))
                · exact (heap_setCell_other _ _ _ _ (by show w.heap.size ≠ vb; omega)).trans ((far _ (by omega) (by omega)).trans HR0.out)
                · exact (((hc6.alloc _).grown hg8 (fun q hq => by have := HYL.out q hq; omega))).put (by omega)
                · exact grown_put (grown_new (grown_alloc (grown_trans HG.out hg56) _) hg8 (fun q hq => by have := HYL.out q hq; omega)) _ (by omega)
              clear hG far ho6 hzb hzl hc6 hg6 hg56 hg5 hg5' hc5 ho8 hg8 ha8 hV8 hV9 V7 b7 hsame hHeld HROW HRK HYL HX HV HR0 HG HC HSH HNE c0 c1 of1 k0 k1 kf l0 HM
              go_wp2
              refine ⟨?_, by simp [intOf]; omega⟩
              first | exact HR.out | exact ⟨_, _, _, _, _, _, _, _, _, _, _, _, _, _, _, _, _, _, _, _, _, _, _, _, _, _, _, _, _, _, _, _, _, _, _, _, _, _, _, _, _, _, _, _, _, _, _, _, _, _, _, _, _, _, _, _, _, _, _, _, _, _, _, _, _, _, _, _, _, _, _, _, _, _, _, _, _, _, _, _, _, _, _, _, _, _, HR.out, rfl⟩ | exact ⟨_, _, _, _, _, _, _, _, _, _, _, _, _, _, _, _, _, _, _, _, _, _, _, _, _, _, _, _, _, _, _, _, _, _, _, _, _, _, _, _, _, _, _, _, _, _, _, _, _, _, _, _, _, _, _, _, _, _, _, _, _, _, _, _, _, _, _, _, _, _, _, _, _, _, _, _, _, _, _, _, _, _, _, _, _, HR.out, rfl⟩ | exact ⟨_, _, _, _, _, _, _, _, _, _, _, _, _, _, _, _, _, _, _, _, _, _, _, _, _, _, _, _, _, _, _, _, _, _, _, _, _, _, _, _, _, _, _, _, _, _, _, _, _, _, _, _, _, _, _, _, _, _, _, _, _, _, _, _, _, _, _, _, _, _, _, _, _, _, _, _, _, _, _, _, _, _, _, _, HR.out, rfl⟩ | exact ⟨_, _, _, _, _, _, _, _, _, _, _, _, _, _, _, _, _, _, _, _, _, _, _, _, _, _, _, _, _, _, _, _, _, _, _, _, _, _, _, _, _, _, _, _, _, _, _, _, _, _, _, _, _, _, _, _, _, _, _, _, _, _, _, _, _, _, _, _, _, _, _, _, _, _, _, _, _, _, _, _, _, _, _, HR.out, rfl⟩ | exact ⟨_, _, _, _, _, _, _, _, _, _, _, _, _, _, _, _, _, _, _, _, _, _, _, _, _, _, _, _, _, _, _, _, _, _, _, _, _, _, _, _, _, _, _, _, _, _, _, _, _, _, _, _, _, _, _, _, _, _, _, _, _, _, _, _, _, _, _, _, _, _, _, _, _, _, _, _, _, _, _, _, _, _, _, _, _, _, _, HR.out, rfl⟩ | exact ⟨_, _, _, _, _, _, _, _, _, _, _, _, _, _, _, _, _, _, _, _, _, _, _, _, _, _, _, _, _, _, _, _, _, _, _, _, _, _, _, _, _, _, _, _, _, _, _, _, _, _, _, _, _, _, _, _, _, _, _, _, _, _, _, _, _, _, _, _, _, _, _, _, _, _, _, _, _, _, _, _, _, _, _, _, _, _, _, _, HR.out, rfl⟩ | exact ⟨_, _, _, _, _, _, _, _, _, _, _, _, _, _, _, _, _, _, _, _, _, _, _, _, _, _, _, _, _, _, _, _, _, _, _, _, _, _, _, _, _, _, _, _, _, _, _, _, _, _, _, _, _, _, _, _, _, _, _, _, _, _, _, _, _, _, _, _, _, _, _, _, _, _, _, _, _, _, _, _, _, _, _, _, _, _, _, _, _, HR.out, rfl⟩ | exact ⟨_, _, _, _, _, _, _, _, _, _, _, _, _, _, _, _, _, _, _, _, _, _, _, _, _, _, _, _, _, _, _, _, _, _, _, _, _, _, _, _, _, _, _, _, _, _, _, _, _, _, _, _, _, _, _, _, _, _, _, _, _, _, _, _, _, _, _, _, _, _, _, _, _, _, _, _, _, _, _, _, _, _, _, _, _, _, _, _, _, _, HR.out, rfl⟩ | exact ⟨_, _, _, _, _, _, _, _, _, _, _, _, _, _, _, _, _, _, _, _, _, _, _, _, _, _, _, _, _, _, _, _, _, _, _, _, _, _, _, _, _, _, _, _, _, _, _, _, _, _, _, _, _, _, _, _, _, _, _, _, _, _, _, _, _, _, _, _, _, _, _, _, _, _, _, _, _, _, _, _, _, _, HR.out, rfl⟩ | exact ⟨_, _, _, _, _, _, _, _, _, _, _, _, _, _, _, _, _, _, _, _, _, _, _, _, _, _, _, _, _, _, _, _, _, _, _, _, _, _, _, _, _, _, _, _, _, _, _, _, _, _, _, _, _, _, _, _, _, _, _, _, _, _, _, _, _, _, _, _, _, _, _, _, _, _, _, _, _, _, _, _, _, HR.out, rfl⟩ | exact ⟨_, _, _, _, _, _, _, _, _, _, _, _, _, _, _, _, _, _, _, _, _, _, _, _, _, _, _, _, _, _, _, _, _, _, _, _, _, _, _, _, _, _, _, _, _, _, _, _, _, _, _, _, _, _, _, _, _, _, _, _, _, _, _, _, _, _, _, _, _, _, _, _, _, _, _, _, _, _, _, _, HR.out, rfl⟩
            refine AllReadyH.cons rfl (fun K hK => ?_) AllReadyH.nil
            go_simp
            refine (sector_any pb w5 hc5).mono ?_
            rintro e w6 ⟨u, zs, rfl, ho6, hzb, hzl, hc6, hg6⟩
            obtain ⟨ua, un, uc, rfl⟩ := Owns.sliced ho6
            have s6 := hg6.size
            have hg56 := grown_trans hg5' hg6
            have r0 := (VarD.cur HV.out hg56 (by omega)).c0
            have r1 := (VarD.cur HV.out hg56 (by omega)).c1
            have n6 : ¬ vb = w6.heap.size := by omega
            go_wp2_with fail
            refine hK.out _ _ r0 (fun hHeld => ?_)
            clear hK K
            try simp only [Act.put, List.setIfInBounds_toArray, List.set_cons_zero, List.set_cons_succ, List.getElem_toArray, List.getElem_cons_zero, List.getElem_cons_succ]
            refine wpAnyH_take (i := 9) (v := ?_) rfl (by kernel_rfl) (by kernel_rfl) (by kernel_rfl) (fun _ _ _ h => h) (Or.inl ⟨by rfl, ?_⟩) (by assumption) ?_
            rotate_left
            · (intro w_ hSw_; (try dsimp only at hSw_); go_simp; try with_reducible rfl)
            try simp only [Act.put, List.setIfInBounds_toArray, List.set_cons_zero, List.set_cons_succ, List.getElem_toArray, List.getElem_cons_zero, List.getElem_cons_succ]
            refine wpAnyH_ready (rs := [1, 10]) (by kernel_rfl) (by simp) ?_
            refine AllReadyH.cons rfl (fun K hK => ?_) ?_
            · go_simp
              refine hK.out _ _ (by assumption) (fun hHeld => ?_)
              clear hK K
              try simp only [Act.put, List.setIfInBounds_toArray, List.set_cons_zero, List.set_cons_succ, List.getElem_toArray, List.getElem_cons_zero, List.getElem_cons_succ]
              refine wpAnyH_ready (rs := [10]) (by kernel_rfl) (by simp) ?_
              refine AllReadyH.cons rfl (fun K hK => ?_) AllReadyH.nil
              go_simp
              have b7 := Below.new (w := w6) (.cells #[.int .i64 zi, .slice ua un uc] 75)
              have V7 := (VarD.cur HV.out hg56 (by omega)).step b7
              have m0 := V7.c0
              have m1 := V7.c1
              have hsame : SameIn H wr.heap.size wr (w6.alloc (.cells #[.int .i64 zi, .slice ua un uc] 75)) := ⟨by simp; omega, fun q h1 h2 => (b7.block q (by omega)).trans (hg56.block q h2 (by simp; omega))⟩
              refine hK.out _ _ m0 (fun hHeld => ?_)
              clear hK K
              try simp only [Act.put, List.setIfInBounds_toArray, List.set_cons_zero, List.set_cons_succ, List.getElem_toArray, List.getElem_cons_zero, List.getElem_cons_succ]
              refine wpAnyH_ready (rs := [11]) (by kernel_rfl) (by simp) ?_
              refine AllReadyH.cons rfl (fun K hK => ?_) AllReadyH.nil
              refine step_appW rfl (.tmp 43) (.tmp 52) (by rfl) H _ m C (by rfl) (HRK.out _ hsame) w6.heap.size zi (.slice ua un uc) (by rfl) (heap_alloc_new _ _) rfl (by omega) (by simp; omega) ?_
              intro g8 c8 w8 ho8 hg8 ha8 hl8
              have hV8 : VarD w8 vb (.slice xa n xc) (.slice ya m yc) := (hg8.block vb (by simp; omega) (fun e => by have := HYL.out vb e.symm; omega)).trans V7
              have k0 := hV8.c0
              have k1 := hV8.c1
              have kf := hV8.f 1
              refine hK.out _ _ k0 (fun hHeld => ?_)
              clear hK K
              try simp only [Act.put, List.setIfInBounds_toArray, List.set_cons_zero, List.set_cons_succ, List.getElem_toArray, List.getElem_cons_zero, List.getElem_cons_succ]
              refine wpAnyH_take (i := 12) (v := ?_) rfl (by kernel_rfl) (by kernel_rfl) (by kernel_rfl) (fun _ _ _ h => h) (Or.inl ⟨by rfl, ?_⟩) (by assumption) ?_
              rotate_left
              · (intro w_ hSw_; (try dsimp only at hSw_); go_simp; try with_reducible rfl)
              try simp only [Act.put, List.setIfInBounds_toArray, List.set_cons_zero, List.set_cons_succ, List.getElem_toArray, List.getElem_cons_zero, List.getElem_cons_succ]
              refine wpAnyH_ready (rs := [13]) (by kernel_rfl) (by simp) ?_
              refine AllReadyH.cons rfl (fun K hK => ?_) AllReadyH.nil
              go_simp
              have hV9 : VarD (w8.setCell ⟨vb, 1, none⟩ (.slice (some ⟨g8, 0, none⟩) (m + 1) c8)) vb (.slice xa n xc) (.slice (some ⟨g8, 0, none⟩) (m + 1) c8) := by
                show _ = _
                rw [heap_setCell_same _ _ _ _ _ _ hV8]; rfl
              have l0 := hV9.c0
              refine hK.out _ _ l0 (fun hHeld => ?_)
              clear hK K
              try simp only [Act.put, List.setIfInBounds_toArray, List.set_cons_zero, List.set_cons_succ, List.getElem_toArray, List.getElem_cons_zero, List.getElem_cons_succ]
              refine wpAnyH_done (by kernel_rfl) (NoPanic.normal ?_) _
              have hs8 := hg8.size
              have hsz8 : w6.heap.size + 1 ≤ w8.heap.size := by simpa using hs8
              have hG := GrWs.next2 (w := wr) (wa := w6.alloc (.cells #[.int .i64 zi, .slice ua un uc] 75)) (w' := w8) (l := H) (ws := ws) (by rw [← HM.out]; exact HROW.out.1) (by rw [← HM.out]; exact HROW.out.2.1) (by rw [← HM.out]; exact HROW.out.2.2.1) (by rw [← HM.out]; exact HROW.out.2.2.2) hsame (by rw [← HM.out]; exact ho8) hg8 ha8 ((((OwB.of hzb ho6).rd).same (SameIn.ofBelow b7 (Nat.le_refl _))).wide (by omega) b7.size) (fun q hq => by have h9 : w5.heap.size ≤ q ∧ q < w6.heap.size := ho6.lt q hq; simp; omega) hHw
              rw [← HM.out] at hG
              have far : ∀ q, q < H → q ≠ pb → w8.heap[q]? = wr.heap[q]? := fun q hq hp => (hg8.block q (by simp; omega) (fun e => by have := HYL.out q e.symm; omega)).trans ((b7.block q (by omega)).trans (hg56.block q (by omega) (by simpa using hp)))
              have HR : Hid (D2Rel w pb vb n N H (.slice xa n xc) S (.int .i64 ((j : Int) + 1)) (w8.setCell ⟨vb, 1, none⟩ (.slice (some ⟨g8, 0, none⟩) (m + 1) c8))) := by
                refine ⟨j + 1, .slice (some ⟨g8, 0, none⟩) (m + 1) c8, ws ++ [(zi, zs)], by omega, by go_num, by simp; have := HM.out; omega, .inr hn0, Short.snoc HSH.out (by omega), ?_, ?_, hV9, ?_, ?_, ?_, by simp; omega⟩
                · exact KpE.keep HX.out (fun q h1 h2 h3 => (heap_setCell_other _ _ _ _ h3).trans (far q h2 (by omega)))
                · exact hG.same (SameIn.set (p := ⟨vb, 1, none⟩) (.inl (by show vb < H; omega)))
                · exact (heap_setCell_other _ _ _ _ (by show w.heap.size ≠ vb; omega)).trans ((far _ (by omega) (by omega)).trans HR0.out)
                · exact (((hc6.alloc _).grown hg8 (fun q hq => by have := HYL.out q hq; omega))).put (by omega)
                · exact grown_put (grown_new (grown_alloc (grown_trans HG.out hg56) _) hg8 (fun q hq => by have := HYL.out q hq; omega)) _ (by omega)
              clear hG far ho6 hzb hzl hc6 hg6 hg56 hg5 hg5' hc5 ho8 hg8 ha8 hV8 hV9 V7 b7 hsame hHeld HROW HRK HYL HX HV HR0 HG HC HSH HNE c0 c1 of1 k0 k1 kf l0 HM
              go_wp2
              refine ⟨?_, by simp [intOf]; omega⟩
              first | exact HR.out | exact ⟨_, _, _, _, _, _, _, _, _, _, _, _, _, _, _, _, _, _, _, _, _, _, _, _, _, _, _, _, _, _, _, _, _, _, _, _, _, _, _, _, _, _, _, _, _, _, _, _, _, _, _, _, _, _, _, _, _, _, _, _, _, _, _, _, _, _, _, _, _, _, _, _, _, _, _, _, _, _, _, _, _, _, _, _, _, _, HR.out, rfl⟩ | exact ⟨_, _, _, _, _, _, _, _, _, _, _, _, _, _, _, _, _, _, _, _, _, _, _, _, _, _, _, _, _, _, _, _, _, _, _, _, _, _, _, _, _, _, _, _, _, _, _, _, _, _, _, _, _, _, _, _, _, _, _, _, _, _, _, _, _, _, _, _, _, _, _, _, _, _, _, _, _, _, _, _, _, _, _, _, _, HR.out, rfl⟩ | exact ⟨_, _, _, _, _, _, _, _, _, _, _, _, _, _, _, _, _, _, _, _, _, _, _, _, _, _, _, _, _, _, _, _, _, _, _, _, _, _, _, _, _, _, _, _, _, _, _, _, _, _, _, _, _, _, _, _, _, _, _, _, _, _, _, _, _, _, _, _, _, _, _, _, _, _, _, _, _, _, _, _, _, _, _, _, HR.out, rfl⟩ | exact ⟨_, _, _, _, _, _, _, _, _, _, _, _, _, _, _, _, _, _, _, _, _, _, _, _, _, _, _, _, _, _, _, _, _, _, _, _, _, _, _, _, _, _, _, _, _, _, _, _, _, _, _, _, _, _, _, _, _, _, _, _, _, _, _, _, _, _, _, _, _, _, _, _, _, _, _, _, _, _, _, _, _, _, _, HR.out, rfl⟩ | exact ⟨_, _, _, _, _, _, _, _, _, _, _, _, _, _, _, _, _, _, _, _, _, _, _, _, _, _, _, _, _, _, _, _, _, _, _, _, _, _, _, _, _, _, _, _, _, _, _, _, _, _, _, _, _, _, _, _, _, _, _, _, _, _, _, _, _, _, _, _, _, _, _, _, _, _, _, _, _, _, _, _, _, _, _, _, _, _, _, HR.out, rfl⟩ | exact ⟨_, _, _, _, _, _, _, _, _, _, _, _, _, _, _, _, _, _, _, _, _, _, _, _, _, _, _, _, _, _, _, _, _, _, _, _, _, _, _, _, _, _, _, _, _, _, _, _, _, _, _, _, _, _, _, _, _, _, _, _, _, _, _, _, _, _, _, _, _, _, _, _, _, _, _, _, _, _, _, _, _, _, _, _, _, _, _, _, HR.out, rfl⟩ | exact ⟨_, _, _, _, _, _, _, _, _, _, _, _, _, _, _, _, _, _, _, _, _, _, _, _, _, _, _, _, _, _, _, _, _, _, _, _, _, _, _, _, _, _, _, _, _, _, _, _, _, _, _, _, _, _, _, _, _, _, _, _, _, _, _, _, _, _, _, _, _, _, _, _, _, _, _, _, _, _, _, _, _, _, _, _, _, _, _, _, _, HR.out, rfl⟩ | exact ⟨_, _, _, _, _, _, _, _, _, _, _, _, _, _, _, _, _, _, _, _, _, _, _, _, _, _, _, _, _, _, _, _, _, _, _, _, _, _, _, _, _, _, _, _, _, _, _, _, _, _, _, _, _, _, _, _, _, _, _, _, _, _, _, _, _, _, _, _, _, _, _, _, _, _, _, _, _, _, _, _, _, _, _, _, _, _, _, _, _, _, HR.out, rfl⟩ | exact ⟨_, _, _, _, _, _, _, _, _, _, _, _, _, _, _, _, _, _, _, _, _, _, _, _, _, _, _, _, _, _, _, _, _, _, _, _, _, _, _, _, _, _, _, _, _, _, _, _, _, _, _, _, _, _, _, _, _, _, _, _, _, _, _, _, _, _, _, _, _, _, _, _, _, _, _, _, _, _, _, _, _, _, HR.out, rfl⟩ | exact ⟨_, _, _, _, _, _, _, _, _, _, _, _, _, _, _, _, _, _, _, _, _, _, _, _, _, _, _, _, _, _, _, _, _, _, _, _, _, _, _, _, _, _, _, _, _, _, _, _, _, _, _, _, _, _, _, _, _, _, _, _, _, _, _, _, _, _, _, _, _, _, _, _, _, _, _, _, _, _, _, _, _, HR.out, rfl⟩ | exact ⟨_, _, _, _, _, _, _, _, _, _, _, _, _, _, _, _, _, _, _, _, _, _, _, _, _, _, _, _, _, _, _, _, _, _, _, _, _, _, _, _, _, _, _, _, _, _, _, _, _, _, _, _, _, _, _, _, _, _, _, _, _, _, _, _, _, _, _, _, _, _, _, _, _, _, _, _, _, _, _, _, HR.out, rfl⟩
            refine AllReadyH.cons rfl (fun K hK => ?_) AllReadyH.nil
            go_simp
            have b7 := Below.new (w := w6) (.cells #[.int .i64 zi, .slice ua un uc] 75)
            have V7 := (VarD.cur HV.out hg56 (by omega)).step b7
            have m0 := V7.c0
            have m1 := V7.c1
            have hsame : SameIn H wr.heap.size wr (w6.alloc (.cells #[.int .i64 zi, .slice ua un uc] 75)) := ⟨by simp; omega, fun q h1 h2 => (b7.block q (by omega)).trans (hg56.block q h2 (by simp; omega))⟩
            refine hK.out _ _ m0 (fun hHeld => ?_)
            clear hK K
            try simp only [Act.put, List.setIfInBounds_toArray, List.set_cons_zero, List.set_cons_succ, List.getElem_toArray, List.getElem_cons_zero, List.getElem_cons_succ]
            refine wpAnyH_ready (rs := [1]) (by kernel_rfl) (by simp) ?_
            refine AllReadyH.cons rfl (fun K hK => ?_) AllReadyH.nil
            go_simp
            refine hK.out _ _ (by assumption) (fun hHeld => ?_)
            clear hK K
            try simp only [Act.put, List.setIfInBounds_toArray, List.set_cons_zero, List.set_cons_succ, List.getElem_toArray, List.getElem_cons_zero, List.getElem_cons_succ]
            refine wpAnyH_ready (rs := [11]) (by kernel_rfl) (by simp) ?_
            refine AllReadyH.cons rfl (fun K hK => ?_) AllReadyH.nil
            refine step_appW rfl (.tmp 43) (.tmp 52) (by rfl) H _ m C (by rfl) (HRK.out _ hsame) w6.heap.size zi (.slice ua un uc) (by rfl) (heap_alloc_new _ _) rfl (by omega) (by simp; omega) ?_
            intro g8 c8 w8 ho8 hg8 ha8 hl8
            have hV8 : VarD w8 vb (.slice xa n xc) (.slice ya m yc) := (hg8.block vb (by simp; omega) (fun e => by have := HYL.out vb e.symm; omega)).trans V7
            have k0 := hV8.c0
            have k1 := hV8.c1
            have kf := hV8.f 1
            refine hK.out _ _ k0 (fun hHeld => ?_)
            clear hK K
            try simp only [Act.put, List.setIfInBounds_toArray, List.set_cons_zero, List.set_cons_succ, List.getElem_toArray, List.getElem_cons_zero, List.getElem_cons_succ]
            refine wpAnyH_take (i := 12) (v := ?_) rfl (by kernel_rfl) (by kernel_rfl) (by kernel_rfl) (fun _ _ _ h => h) (Or.inl ⟨by rfl, ?_⟩) (by assumption) ?_
            rotate_left
            · (intro w_ hSw_; (try dsimp only at hSw_); go_simp; try with_reducible rfl)
            try simp only [Act.put, List.setIfInBounds_toArray, List.set_cons_zero, List.set_cons_succ, List.getElem_toArray, List.getElem_cons_zero, List.getElem_cons_succ]
            refine wpAnyH_ready (rs := [13]) (by kernel_rfl) (by simp) ?_
            refine AllReadyH.cons rfl (fun K hK => ?_) AllReadyH.nil
            go_simp
            have hV9 : VarD (w8.setCell ⟨vb, 1, none⟩ (.slice (some ⟨g8, 0, none⟩) (m + 1) c8)) vb (.slice xa n xc) (.slice (some ⟨g8, 0, none⟩) (m + 1) c8) := by
              show _ = _
              rw [heap_setCell_same _ _ _ _ _ _ hV8]; rfl
            have l0 := hV9.c0
            refine hK.out _ _ l0 (fun hHeld => ?_)
            clear hK K
            try simp only [Act.put, List.setIfInBounds_toArray, List.set_cons_zero, List.set_cons_succ, List.getElem_toArray, List.getElem_cons_zero, List.getElem_cons_succ]
            refine wpAnyH_done (by kernel_rfl) (NoPanic.normal ?_) _
            have hs8 := hg8.size
            have hsz8 : w6.heap.size + 1 ≤ w8.heap.size := by simpa using hs8
            have hG := GrWs.next2 (w := wr) (wa := w6.alloc (.cells #[.int .i64 zi, .slice ua un uc] 75)) (w' := w8) (l := H) (ws := ws) (by rw [← HM.out]; exact HROW.out.1) (by rw [← HM.out]; exact HROW.out.2.1) (by rw [← HM.out]; exact HROW.out.2.2.1) (by rw [← HM.out]; exact HROW.out.2.2.2) hsame (by rw [← HM.out]; exact ho8) hg8 ha8 ((((OwB.of hzb ho6).rd).same (SameIn.ofBelow b7 (Nat.le_refl _))).wide (by omega) b7.size) (fun q hq => by have h9 : w5.heap.size ≤ q ∧ q < w6.heap.size := ho6.lt q hq; simp; omega) hHw
            rw [← HM.out] at hG
            have far : ∀ q, q < H → q ≠ pb → w8.heap[q]? = wr.heap[q]? := fun q hq hp => (hg8.block q (by simp; omega) (fun e => by have := HYL.out q e.symm; omega)).trans ((b7.block q (by omega)).trans (hg56.block q (by omega) (by simpa using hp)))
            have HR : Hid (D2Rel w pb vb n N H (.slice xa n xc) S (.int .i64 ((j : Int) + 1)) (w8.setCell ⟨vb, 1, none⟩ (.slice (some ⟨g8, 0, none⟩) (m + 1) c8))) := by
              refine ⟨j + 1, .slice (some ⟨g8, 0, none⟩) (m + 1) c8, ws ++ [(zi, zs)], by omega, by go_num, by simp; have := HM.out; omega, .inr hn0, Short.snoc HSH.out (by omega), ?_, ?_, hV9, ?_, ?_, ?_, by simp; omega⟩
              · exact KpE.keep HX.out (fun q h1 h2 h3 => (heap_setCell_other _ _ _ _ h3).trans (far q h2 (by omega)))
              · exact hG.same (SameIn.set (p := ⟨vb, 1, none⟩) (.inl (by show vb < H; omega)))
              · exact (heap_setCell_other _ _ _ _ (by show w.heap.size ≠ vb; omega)).trans ((far _ (by omega) (by omega)).trans HR0.out)
              · exact (((hc6.alloc _).grown hg8 (fun q hq => by have := HYL.out q hq; omega))).put (by omega)
              · exact grown_put (grown_new (grown_alloc (grown_trans HG.out hg56) _) hg8 (fun q hq => by have := HYL.out q hq; omega)) _ (by omega)
            clear hG far ho6 hzb hzl hc6 hg6 hg56 hg5 hg5' hc5 ho8 hg8 ha8 hV8 hV9 V7 b7 hsame hHeld HROW HRK HYL HX HV HR0 HG HC HSH HNE c0 c1 of1 k0 k1 kf l0 HM
            go_wp2
            refine ⟨?_, by simp [intOf]; omega⟩
            first | exact HR.out | exact ⟨_, _, _, _, _, _, _, _, _, _, _, _, _, _, _, _, _, _, _, _, _, _, _, _, _, _, _, _, _, _, _, _, _, _, _, _, _, _, _, _, _, _, _, _, _, _, _, _, _, _, _, _, _, _, _, _, _, _, _, _, _, _, _, _, _, _, _, _, _, _, _, _, _, _, _, _, _, _, _, _, _, _, _, _, _, _, HR.out, rfl⟩ | exact ⟨_, _, _, _, _, _, _, _, _, _, _, _, _, _, _, _, _, _, _, _, _, _, _, _, _, _, _, _, _, _, _, _, _, _, _, _, _, _, _, _, _, _, _, _, _, _, _, _, _, _, _, _, _, _, _, _, _, _, _, _, _, _, _, _, _, _, _, _, _, _, _, _, _, _, _, _, _, _, _, _, _, _, _, _, _, HR.out, rfl⟩ | exact ⟨_, _, _, _, _, _, _, _, _, _, _, _, _, _, _, _, _, _, _, _, _, _, _, _, _, _, _, _, _, _, _, _, _, _, _, _, _, _, _, _, _, _, _, _, _, _, _, _, _, _, _, _, _, _, _, _, _, _, _, _, _, _, _, _, _, _, _, _, _, _, _, _, _, _, _, _, _, _, _, _, _, _, _, _, HR.out, rfl⟩ | exact ⟨_, _, _, _, _, _, _, _, _, _, _, _, _, _, _, _, _, _, _, _, _, _, _, _, _, _, _, _, _, _, _, _, _, _, _, _, _, _, _, _, _, _, _, _, _, _, _, _, _, _, _, _, _, _, _, _, _, _, _, _, _, _, _, _, _, _, _, _, _, _, _, _, _, _, _, _, _, _, _, _, _, _, _, HR.out, rfl⟩ | exact ⟨_, _, _, _, _, _, _, _, _, _, _, _, _, _, _, _, _, _, _, _, _, _, _, _, _, _, _, _, _, _, _, _, _, _, _, _, _, _, _, _, _, _, _, _, _, _, _, _, _, _, _, _, _, _, _, _, _, _, _, _, _, _, _, _, _, _, _, _, _, _, _, _, _, _, _, _, _, _, _, _, _, _, _, _, _, _, _, HR.out, rfl⟩ | exact ⟨_, _, _, _, _, _, _, _, _, _, _, _, _, _, _, _, _, _, _, _, _, _, _, _, _, _, _, _, _, _, _, _, _, _, _, _, _, _, _, _, _, _, _, _, _, _, _, _, _, _, _, _, _, _, _, _, _, _, _, _, _, _, _, _, _, _, _, _, _, _, _, _, _, _, _, _, _, _, _, _, _, _, _, _, _, _, _, _, HR.out, rfl⟩ | exact ⟨_, _, _, _, _, _, _, _, _, _, _, _, _, _, _, _, _, _, _, _, _, _, _, _, _, _, _, _, _, _, _, _, _, _, _, _, _, _, _, _, _, _, _, _, _, _, _, _, _, _, _, _, _, _, _, _, _, _, _, _, _, _, _, _, _, _, _, _, _, _, _, _, _, _, _, _, _, _, _, _, _, _, _, _, _, _, _, _, _, HR.out, rfl⟩ | exact ⟨_, _, _, _, _, _, _, _, _, _, _, _, _, _, _, _, _, _, _, _, _, _, _, _, _, _, _, _, _, _, _, _, _, _, _, _, _, _, _, _, _, _, _, _, _, _, _, _, _, _, _, _, _, _, _, _, _, _, _, _, _, _, _, _, _, _, _, _, _, _, _, _, _, _, _, _, _, _, _, _, _, _, _, _, _, _, _, _, _, _, HR.out, rfl⟩ | exact ⟨_, _, _, _, _, _, _, _, _, _, _, _, _, _, _, _, _, _, _, _, _, _, _, _, _, _, _, _, _, _, _, _, _, _, _, _, _, _, _, _, _, _, _, _, _, _, _, _, _, _, _, _, _, _, _, _, _, _, _, _, _, _, _, _, _, _, _, _, _, _, _, _, _, _, _, _, _, _, _, _, _, _, HR.out, rfl⟩ | exact ⟨_, _, _, _, _, _, _, _, _, _, _, _, _, _, _, _, _, _, _, _, _, _, _, _, _, _, _, _, _, _, _, _, _, _, _, _, _, _, _, _, _, _, _, _, _, _, _, _, _, _, _, _, _, _, _, _, _, _, _, _, _, _, _, _, _, _, _, _, _, _, _, _, _, _, _, _, _, _, _, _, _, HR.out, rfl⟩ | exact ⟨_, _, _, _, _, _, _, _, _, _, _, _, _, _, _, _, _, _, _, _, _, _, _, _, _, _, _, _, _, _, _, _, _, _, _, _, _, _, _, _, _, _, _, _, _, _, _, _, _, _, _, _, _, _, _, _, _, _, _, _, _, _, _, _, _, _, _, _, _, _, _, _, _, _, _, _, _, _, _, _, HR.out, rfl⟩
          · have hg9 : ¬ (0 : Int) < (n : Int) := by omega
            have hlt9 : (j : Int) < (N : Int) := by omega
            have hlenm : (S.length = n) := HSL.out
            go_wp2_with fail
            refine (once_any pb 12 wr hcur (by omega) (by omega)).mono ?_
            rintro e w5 ⟨bo, rfl, hc5, hg5⟩
            have X5 := KpE.curH HX.out hg5 (by omega) hHw
            have V5 := VarD.cur HV.out hg5 (by omega)
            have R5 := VarD.cur HR0.out hg5 hpb
            have G5 := grown_trans HG.out hg5
            have Y5 := GrWs.cur HY.out hg5 (by omega)
            have s5 := hg5.size
            have p0 := V5.c0
            have p1 := V5.c1
            have e0 := R5.c0
            have e1 := R5.c1
            have f0 := R5.f 0
            have f1 := R5.f 1
            have HTY : Hid (Tiny (S, ws)) := ⟨by show S.length ≤ 5; omega, hws4, (Whole.most HWH.out), HSH.out⟩
            have HEND : Hid _ := drawn_end X5 Y5 hc5 G5 hpb (by omega) (by omega)
            cases bo with
            | false =>
              clear X5 V5 R5 G5 Y5 hc5 hg5 HX HV HR0 HG HY c0 c1 hcur
              go_wp2
              refine bodyPost_ret (v := .agg #[.slice xa n xc, .slice ya ws.length yc]) (by simp [results, Tryd.results44, go_sem, e0, e1]) rfl ?_
              first | exact ⟨_, _, rfl, HEND.out.1, HTY.out, HEND.out.2.1, HEND.out.2.2⟩ | exact ⟨_, rfl, _, HEND.out.1, HTY.out, HEND.out.2.1, HEND.out.2.2⟩ | exact ⟨_, _, rfl, HEND.out.1, HTY.out, HEND.out.2.1, grown_again HEND.out.2.2⟩
            | true =>
              by_cases hm0 : 0 < ws.length
              case neg =>
                have hz9 : ¬ (0 : Int) < (ws.length : Int) := by omega
                clear X5 V5 R5 G5 Y5 hc5 hg5 HX HV HR0 HG HY c0 c1 hcur
                go_wp2
                refine bodyPost_ret (v := .agg #[.slice xa n xc, .slice ya ws.length yc]) (by simp [results, Tryd.results44, go_sem, e0, e1]) rfl ?_
                first | exact ⟨_, _, rfl, HEND.out.1, HTY.out, HEND.out.2.1, HEND.out.2.2⟩ | exact ⟨_, rfl, _, HEND.out.1, HTY.out, HEND.out.2.1, HEND.out.2.2⟩ | exact ⟨_, _, rfl, HEND.out.1, HTY.out, HEND.out.2.1, grown_again HEND.out.2.2⟩
              have hz9 : (0 : Int) < (ws.length : Int) := by omega
              have hn0' : 0 < n := by
                rcases HNE.out with h9 | h9
                · rw [h9] at hm0; simp at hm0
                · exact h9
              omega
        · have hlt9 : ¬ (j : Int) < (N : Int) := by omega
          have hlenm : (S.length = n) := HSL.out
          go_wp2_with fail
          refine (once_any pb 12 wr hcur (by omega) (by omega)).mono ?_
          rintro e w5 ⟨bo, rfl, hc5, hg5⟩
          have X5 := KpE.curH HX.out hg5 (by omega) hHw
          have V5 := VarD.cur HV.out hg5 (by omega)
          have R5 := VarD.cur HR0.out hg5 hpb
          have G5 := grown_trans HG.out hg5
          have Y5 := GrWs.cur HY.out hg5 (by omega)
          have s5 := hg5.size
          have p0 := V5.c0
          have p1 := V5.c1
          have e0 := R5.c0
          have e1 := R5.c1
          have f0 := R5.f 0
          have f1 := R5.f 1
          have HTY : Hid (Tiny (S, ws)) := ⟨by show S.length ≤ 5; omega, hws4, (Whole.most HWH.out), HSH.out⟩
          have HEND : Hid _ := drawn_end X5 Y5 hc5 G5 hpb (by omega) (by omega)
          cases bo with
          | false =>
            clear X5 V5 R5 G5 Y5 hc5 hg5 HX HV HR0 HG HY c0 c1 hcur
            go_wp2
            refine bodyPost_ret (v := .agg #[.slice xa n xc, .slice ya ws.length yc]) (by simp [results, Tryd.results44, go_sem, e0, e1]) rfl ?_
            first | exact ⟨_, _, rfl, HEND.out.1, HTY.out, HEND.out.2.1, HEND.out.2.2⟩ | exact ⟨_, rfl, _, HEND.out.1, HTY.out, HEND.out.2.1, HEND.out.2.2⟩ | exact ⟨_, _, rfl, HEND.out.1, HTY.out, HEND.out.2.1, grown_again HEND.out.2.2⟩
          | true =>
            by_cases hm0 : 0 < ws.length
            case neg =>
              have hz9 : ¬ (0 : Int) < (ws.length : Int) := by omega
              clear X5 V5 R5 G5 Y5 hc5 hg5 HX HV HR0 HG HY c0 c1 hcur
              go_wp2
              refine bodyPost_ret (v := .agg #[.slice xa n xc, .slice ya ws.length yc]) (by simp [results, Tryd.results44, go_sem, e0, e1]) rfl ?_
              first | exact ⟨_, _, rfl, HEND.out.1, HTY.out, HEND.out.2.1, HEND.out.2.2⟩ | exact ⟨_, rfl, _, HEND.out.1, HTY.out, HEND.out.2.1, HEND.out.2.2⟩ | exact ⟨_, _, rfl, HEND.out.1, HTY.out, HEND.out.2.1, grown_again HEND.out.2.2⟩
            have hz9 : (0 : Int) < (ws.length : Int) := by omega
            have hn0' : 0 < n := by
              rcases HNE.out with h9 | h9
              · rw [h9] at hm0; simp at hm0
              · exact h9
            clear HEND HTY
            go_wp2_with fail
            refine (below_any pb 3 w5 hc5 (by omega) (by omega)).mono ?_
            rintro e w6 ⟨z, rfl, hz0, hz1, hc6, hg6⟩
            have X6 := X5.curH hg6 (by omega) (by omega)
            have V6 := V5.cur hg6 (by omega)
            have R6 := R5.cur hg6 hpb
            have G6 := grown_trans G5 hg6
            have Y6 := Y5.cur hg6 (by omega)
            have s6 := hg6.size
            have q0 := V6.c0
            have q1 := V6.c1
            have e0 := R6.c0
            have e1 := R6.c1
            have f0 := R6.f 0
            have f1 := R6.f 1
            obtain ⟨gy, rfl, hgyH⟩ : ∃ gy, ya = some ⟨gy, 0, none⟩ ∧ H ≤ gy ∧ gy < w6.heap.size := by
              obtain ⟨ys, C, hxl, hrow, hCC, hee⟩ := Y6
              rcases hrow.2 with ⟨_, hz0⟩ | ⟨gy, cy, cury, hye, hgy, _⟩
              · omega
              · simp only [Value.slice.injEq] at hye
                obtain ⟨rfl, _, _⟩ := hye
                exact ⟨gy, rfl, (hrow.lt gy rfl).1, (hrow.lt gy rfl).2⟩
            obtain ⟨gx, rfl, hgxH⟩ : ∃ gx, xa = some ⟨gx, 0, none⟩ ∧ w.heap.size + 1 ≤ gx ∧ gx < H ∧ gx ≠ vb := by
              obtain ⟨vs, hvl', hrow, hxb, hxe⟩ := X6
              rcases hrow.2 with ⟨_, hz0⟩ | ⟨gx, cx, curx, hxe', hgx, _⟩
              · omega
              · simp only [Value.slice.injEq] at hxe'
                obtain ⟨rfl, _, _⟩ := hxe'
                exact ⟨gx, rfl, (hrow.lt gx rfl).1, hxb gx rfl⟩
            have hgyv : ¬ gy = vb := by omega
            have hgyv' : ¬ vb = gy := by omega
            have hgyr : ¬ gy = w.heap.size := by omega
            have hgyr' : ¬ w.heap.size = gy := by omega
            have hgxv : ¬ gx = vb := hgxH.2.2
            have hgxv' : ¬ vb = gx := fun e => hgxH.2.2 e.symm
            have hgxr : ¬ gx = w.heap.size := by omega
            have hgxr' : ¬ w.heap.size = gx := by omega
            have hvr : ¬ vb = w.heap.size := by omega
            have hvr' : ¬ w.heap.size = vb := by omega
            clear X5 V5 R5 G5 Y5 hc5 hg5 HX HV HR0 HG HY c0 c1 hcur p0 p1 hg6
            by_cases hz : z = 0
            case pos =>
              subst hz
              obtain ⟨oy, hoy, hfy⟩ : ∃ v, w6.cell? ⟨gy, 0, none⟩ = some v ∧ w6.frozen? ⟨gy, 0, none⟩ = false := by
                obtain ⟨ys, C, hxl, hrow, hCC, hee⟩ := Y6
                have hCl : C.length = ws.length * 2 := hrow.1
                exact ⟨_, (hrow.cellAt 0 (by omega)).trans (List.getElem?_eq_getElem (by omega)), hrow.frozenAt 0⟩
              have HC6 : Hid (CurAt (w6.alloc (.cells #[.int .i64 (-1), .int .i64 (n : Int), .int .i64 4611686018427387904] 3)).drew pb) := (hc6.alloc _).below (Below.drew (Below.refl _ _))
              have B6 : Below w6.heap.size w6 (w6.alloc (.cells #[.int .i64 (-1), .int .i64 (n : Int), .int .i64 4611686018427387904] 3)).drew := ((Below.refl _ _).alloc (Nat.le_refl _) _).drew
              have HB6 : Hid _ := B6
              have HNEW : Hid ((w6.alloc (.cells #[.int .i64 (-1), .int .i64 (n : Int), .int .i64 4611686018427387904] 3)).drew.heap[w6.heap.size]? = some (.cells (([-1, (n : Int), 4611686018427387904].map (Value.int .i64)).toArray) 3 (0, 0))) := heap_alloc_new w6 _
              have hvw6 : vb < w6.heap.size := V6.lt
              have HX6 : Hid (KpE w6 (w.heap.size + 1) H vb _ S) := X6
              have HV6 : Hid (VarD w6 vb _ _) := V6
              have HR6 : Hid (VarD w6 w.heap.size _ _) := R6
              have HG6 : Hid (w.grownBy w6 (some pb)) := G6
              have HY6 : Hid (GrWs w6 H _ ws) := Y6
              clear X6 V6 R6 G6 Y6 hc6 B6
              go_wp2
              refine wp_region_noPanic ?_
              refine wp_region_held_drew (S := fun w' => w'.cell? ⟨vb, 0, none⟩ = some (.slice (some ⟨gx, 0, none⟩) n xc) ∧ w'.cell? ⟨vb, 1, none⟩ = some (.slice (some ⟨gy, 0, none⟩) ws.length yc)) (by kernel_rfl) ⟨q0, q1⟩ (fun hHeld => ?_)
              refine wpAnyH_take (i := 0) (v := ?_) rfl (by kernel_rfl) (by kernel_rfl) (by kernel_rfl) (fun _ _ _ h => h) (Or.inl ⟨by rfl, ?_⟩) (by assumption) ?_
              rotate_left
              · (intro w_ hSw_; (try dsimp only at hSw_); go_simp; try with_reducible rfl)
              try simp only [Act.put, List.setIfInBounds_toArray, List.set_cons_zero, List.set_cons_succ, List.getElem_toArray, List.getElem_cons_zero, List.getElem_cons_succ]
              refine wpAnyH_take (i := 1) (v := ?_) rfl (by kernel_rfl) (by kernel_rfl) (by kernel_rfl) (fun _ _ _ h => h) (Or.inl ⟨by rfl, ?_⟩) (by assumption) ?_
              rotate_left
              · (intro w_ hSw_; (try dsimp only at hSw_); go_simp; try with_reducible rfl)
              try simp only [Act.put, List.setIfInBounds_toArray, List.set_cons_zero, List.set_cons_succ, List.getElem_toArray, List.getElem_cons_zero, List.getElem_cons_succ]
              refine wpAnyH_take (i := 2) (v := ?_) rfl (by kernel_rfl) (by kernel_rfl) (by kernel_rfl) (fun _ _ _ h => h) (Or.inl ⟨by rfl, ?_⟩) (by assumption) ?_
              rotate_left
              · (intro w_ hSw_; (try dsimp only at hSw_); go_simp; try with_reducible rfl)
              try simp only [Act.put, List.setIfInBounds_toArray, List.set_cons_zero, List.set_cons_succ, List.getElem_toArray, List.getElem_cons_zero, List.getElem_cons_succ]
              refine wpAnyH_take (i := 3) (v := ?_) rfl (by kernel_rfl) (by kernel_rfl) (by kernel_rfl) (fun _ _ _ h => h) (Or.inl ⟨by rfl, ?_⟩) (by assumption) ?_
              rotate_left
              · (intro w_ hSw_; (try dsimp only at hSw_); go_simp; try with_reducible rfl)
              try simp only [Act.put, List.setIfInBounds_toArray, List.set_cons_zero, List.set_cons_succ, List.getElem_toArray, List.getElem_cons_zero, List.getElem_cons_succ]
              refine wpAnyH_take (i := 4) (v := ?_) rfl (by kernel_rfl) (by kernel_rfl) (by kernel_rfl) (fun _ _ _ h => h) (Or.inl ⟨by rfl, ?_⟩) (by assumption) ?_
              rotate_left
              · (intro w_ hSw_; (try dsimp only at hSw_); go_simp; try with_reducible rfl)
              try simp only [Act.put, List.setIfInBounds_toArray, List.set_cons_zero, List.set_cons_succ, List.getElem_toArray, List.getElem_cons_zero, List.getElem_cons_succ]
              refine wpAnyH_take (i := 5) (v := ?_) rfl (by kernel_rfl) (by kernel_rfl) (by kernel_rfl) (fun _ _ _ h => h) (Or.inl ⟨by rfl, ?_⟩) (by assumption) ?_
              rotate_left
              · (intro w_ hSw_; (try dsimp only at hSw_); go_simp; try with_reducible rfl)
              try simp only [Act.put, List.setIfInBounds_toArray, List.set_cons_zero, List.set_cons_succ, List.getElem_toArray, List.getElem_cons_zero, List.getElem_cons_succ]
              refine wpAnyH_ready (rs := [6]) (by kernel_rfl) (by simp) ?_
              refine AllReadyH.cons rfl (fun K hK => ?_) AllReadyH.nil
              go_simp
              have V7 := VarD.step HV6.out HB6.out
              have m0 := V7.c0
              have m1 := V7.c1
              refine hK.out _ _ ⟨m0, m1⟩ (fun hHeld => ?_)
              clear hK K
              try simp only [Act.put, List.setIfInBounds_toArray, List.set_cons_zero, List.set_cons_succ, List.getElem_toArray, List.getElem_cons_zero, List.getElem_cons_succ]
              refine wpAnyH_ready (rs := [7]) (by kernel_rfl) (by simp) ?_
              refine AllReadyH.cons rfl (fun K hK => ?_) AllReadyH.nil
              go_simp
              refine (pick_any pb w6.heap.size [-1, (n : Int), 4611686018427387904] _ HC6.out (by simp) (by simp) (by omega) HNEW.out).mono ?_
              rintro e w8 ⟨pz, rfl, hpm, hc8, hg8⟩
              have hg68 : w6.grownBy w8 (some pb) := grown_trans (grown_below HB6.out) hg8
              have s8 := hg68.size
              have V8 := VarD.cur HV6.out hg68 (by omega)
              have k0 := V8.c0
              have k1 := V8.c1
              have ky := hg68.cell hoy (by simp; omega)
              have kf := (World.frozen?_of_block (w := w6) (w' := w8) (a := ⟨gy, 0, none⟩) (hg68.block gy (by omega) (by simp; omega))).trans hfy
              go_wp2_with fail
              refine hK.out _ _ ⟨k0, k1⟩ (fun hHeld => ?_)
              clear hK K
              try simp only [Act.put, List.setIfInBounds_toArray, List.set_cons_zero, List.set_cons_succ, List.getElem_toArray, List.getElem_cons_zero, List.getElem_cons_succ]
              refine wpAnyH_take (i := 8) (v := ?_) rfl (by kernel_rfl) (by kernel_rfl) (by kernel_rfl) (fun _ _ _ h => h) (Or.inl ⟨by rfl, ?_⟩) (by assumption) ?_
              rotate_left
              · (intro w_ hSw_; (try dsimp only at hSw_); go_simp; try with_reducible rfl)
              try simp only [Act.put, List.setIfInBounds_toArray, List.set_cons_zero, List.set_cons_succ, List.getElem_toArray, List.getElem_cons_zero, List.getElem_cons_succ]
              refine wpAnyH_take (i := 9) (v := ?_) rfl (by kernel_rfl) (by kernel_rfl) (by kernel_rfl) (fun _ _ _ h => h) (Or.inl ⟨by rfl, ?_⟩) (by assumption) ?_
              rotate_left
              · (intro w_ hSw_; (try dsimp only at hSw_); go_simp; try with_reducible rfl)
              try simp only [Act.put, List.setIfInBounds_toArray, List.set_cons_zero, List.set_cons_succ, List.getElem_toArray, List.getElem_cons_zero, List.getElem_cons_succ]
              refine wpAnyH_ready (rs := [10]) (by kernel_rfl) (by simp) ?_
              refine AllReadyH.cons rfl (fun K hK => ?_) AllReadyH.nil
              go_simp
              have hset : ∀ q, q ≠ gy → (w8.setCell ⟨gy, 0, none⟩ (.int .i64 pz)).heap[q]? = w8.heap[q]? := fun q hq => heap_setCell_other _ _ _ _ hq
              have V9 : VarD (w8.setCell ⟨gy, 0, none⟩ (.int .i64 pz)) vb _ _ := (hset vb (by omega)).trans V8
              have l0 := V9.c0
              have l1 := V9.c1
              refine hK.out _ _ ⟨l0, l1⟩ (fun hHeld => ?_)
              clear hK K
              try simp only [Act.put, List.setIfInBounds_toArray, List.set_cons_zero, List.set_cons_succ, List.getElem_toArray, List.getElem_cons_zero, List.getElem_cons_succ]
              refine wpAnyH_done (by kernel_rfl) (NoPanic.normal ?_) _
              have R9 : VarD (w8.setCell ⟨gy, 0, none⟩ (.int .i64 pz)) w.heap.size _ _ := (hset w.heap.size (by omega)).trans (VarD.cur HR6.out hg68 hpb)
              have X9 := (KpE.curH HX6.out hg68 (by omega) (by omega)).keep (w' := w8.setCell ⟨gy, 0, none⟩ (.int .i64 pz)) (fun q _ h2 _ => hset q (by omega))
              have Y9 := GrWs.setAt (p := pz) (GrWs.cur HY6.out hg68 (by omega)) hm0
              have HTY : Hid (Tiny (S, ws.set 0 (pz, (ws[0]?.getD (0, [])).2))) := ⟨by show S.length ≤ 5; omega, by show (ws.set 0 _).length ≤ 4; rw [List.length_set]; exact hws4, (Whole.most HWH.out), Short.put HSH.out (HSH.out 0)⟩
              have HEND : Hid _ := drawn_end X9 Y9 (hc8.put (by omega)) (grown_put (grown_trans HG6.out hg68) _ (by omega)) hpb (by omega) (by simp; omega)
              generalize hw9 : w8.setCell ⟨gy, 0, none⟩ (.int .i64 pz) = w9 at V9 R9 HEND l0 l1 hHeld
              have HW9 : Hid _ := hw9
              have e0 := R9.c0
              have e1 := R9.c1
              have f0 := R9.f 0
              have f1 := R9.f 1
              clear hw9 X9 Y9 V9 R9 hset V8 V7 hg68 hg8 hc8 k0 k1 ky kf m0 m1 HX6 HV6 HR6 HG6 HY6 HC6 HNEW HB6 hoy hfy q0 q1 hHeld hpm
              go_wp2_with (rw [HW9.out])
              refine bodyPost_ret (v := .agg #[.slice (some ⟨gx, 0, none⟩) n xc, .slice (some ⟨gy, 0, none⟩) ws.length yc]) (by simp [results, Tryd.results44, go_sem, e0, e1]) rfl ?_
              first | exact ⟨_, _, rfl, HEND.out.1, HTY.out, HEND.out.2.1, HEND.out.2.2⟩ | exact ⟨_, rfl, _, HEND.out.1, HTY.out, HEND.out.2.1, HEND.out.2.2⟩ | exact ⟨_, _, rfl, HEND.out.1, HTY.out, HEND.out.2.1, grown_again HEND.out.2.2⟩
            by_cases hz1' : z = 1
            case pos =>
              subst hz1'
              obtain ⟨oy, hoy, hfy⟩ : ∃ v, w6.cell? ⟨gy, 1, none⟩ = some v ∧ w6.frozen? ⟨gy, 1, none⟩ = false := by
                obtain ⟨ys, C, hxl, hrow, hCC, hee⟩ := Y6
                have hCl : C.length = ws.length * 2 := hrow.1
                exact ⟨_, (hrow.cellAt 1 (by omega)).trans (List.getElem?_eq_getElem (by omega)), hrow.frozenAt 1⟩
              have same : ∀ q, q ≠ gy → (w6.setCell ⟨gy, 1, none⟩ (.slice none 0 0)).heap[q]? = w6.heap[q]? := fun q hq => heap_setCell_other _ _ _ _ hq
              have Y7 := GrWs.setNil Y6 hm0
              have X7 := X6.keep (w' := w6.setCell ⟨gy, 1, none⟩ (.slice none 0 0)) (fun q _ h2 _ => same q (by omega))
              have HTY : Hid (Tiny (S, ws.set 0 ((ws[0]?.getD (0, [])).1, []))) := ⟨by show S.length ≤ 5; omega, by show (ws.set 0 _).length ≤ 4; rw [List.length_set]; exact hws4, (Whole.most HWH.out), Short.put HSH.out (by simp)⟩
              have HEND : Hid _ := drawn_end X7 Y7 (hc6.put (by omega)) (grown_put G6 _ (by omega)) hpb (by omega) (by simp; omega)
              clear X6 V6 R6 G6 Y6 hc6 X7 Y7 same
              go_wp2
              refine bodyPost_ret (v := .agg #[.slice (some ⟨gx, 0, none⟩) n xc, .slice (some ⟨gy, 0, none⟩) ws.length yc]) (by simp [results, Tryd.results44, go_sem, e0, e1]) rfl ?_
              first | exact ⟨_, _, rfl, HEND.out.1, HTY.out, HEND.out.2.1, HEND.out.2.2⟩ | exact ⟨_, rfl, _, HEND.out.1, HTY.out, HEND.out.2.1, HEND.out.2.2⟩ | exact ⟨_, _, rfl, HEND.out.1, HTY.out, HEND.out.2.1, grown_again HEND.out.2.2⟩
            have hza : (z == 0) = false := by simpa using hz
            have hzb : (z == 1) = false := by simpa using hz1'
            obtain ⟨vs, hvl', hrow, hxb, hxe⟩ := X6
            have hrow' : w6.ownsRow (w.heap.size + 1) 22 1 (.slice (some ⟨gx, 0, none⟩) S.length xc) S.length vs := by rw [hlenm] at hrow ⊢; exact hrow
            obtain ⟨hs0, hsg⟩ := hxe 0 (by omega)
            have hov := hrow'.cellAt 0 (by omega)
            rw [List.getElem?_eq_getElem (by omega)] at hov
            have hvq : vs[0]?.getD undef = vs[0]'(by omega) := by simp [show 0 < vs.length by omega]
            rw [hvq] at hs0 hsg
            generalize vs[0]'(by omega) = sv at hs0 hsg hov
            have hof := hrow'.frozenAt 0
            have hl32 := HWH.out 0 (by omega)
            obtain ⟨hsb, sa, sn, sc, rfl, hsn, hsh, hsc⟩ := hs0
            obtain ⟨sb, so, rfl, hsl, hsH, hscell⟩ := hsc.resolve_left (fun e => by rw [e] at hl32; simp at hl32)
            have hsn32 : sn = 32 := by omega
            subst hsn32
            have hsc32 : 32 ≤ sc := hsh.1
            have hscm : sc ≤ 9223372036854775807 := by have := hsh.2.1; unfold maxLen at this; omega
            have hsc1 : ¬ sc = 1 := by omega
            have hu : RdB w6 (w.heap.size + 1) H (.slice (some ⟨sb, so + 1, none⟩) 31 (sc - 1)) ((S[0]?.getD []).drop 1) := by
              refine ⟨isBytes_drop hsb 1, _, _, _, rfl, by simp; omega, ⟨by omega, by have := hsh.2.1; omega, fun e => by cases e⟩, .inr ⟨sb, so + 1, rfl, hsl, hsH, fun i hi => ?_⟩⟩
              have hi' : i < 31 := by simp at hi; omega
              have := hscell (1 + i) (by omega)
              rw [Nat.add_assoc, this, List.getElem?_drop]
            have HX6 : Hid (KpE w6 (w.heap.size + 1) H vb (.slice (some ⟨gx, 0, none⟩) S.length xc) S) := ⟨vs, hvl', hrow', hxb, hxe⟩
            have HTY : Hid (Tiny (S.set 0 ((S[0]?.getD []).drop 1), ws)) := ⟨by show (S.set 0 _).length ≤ 5; rw [List.length_set]; omega, hws4, most_put (Whole.most HWH.out) (by simp; omega), HSH.out⟩
            have hsgg := hsg sb rfl
            have hX7 := HX6.out.put (q := 0) (by omega) hu (fun g hg => by have e : sb = g := (by have := slice_block hg; simpa using this); subst e; exact ⟨hsgg.1, hsgg.2.1, hsgg.2.2.1, fun e => hsgg.2.2.2 (by subst e; rfl)⟩)
            have same : ∀ q, q ≠ gx → (w6.setCell ⟨gx, 0, none⟩ (.slice (some ⟨sb, so + 1, none⟩) 31 (sc - 1))).heap[q]? = w6.heap[q]? := fun q hq => heap_setCell_other _ _ _ _ hq
            have HV6 : Hid (VarD (w6.setCell ⟨gx, 0, none⟩ (.slice (some ⟨sb, so + 1, none⟩) 31 (sc - 1))) vb _ _) := (same vb (by omega)).trans V6
            have HR6 : Hid (VarD (w6.setCell ⟨gx, 0, none⟩ (.slice (some ⟨sb, so + 1, none⟩) 31 (sc - 1))) w.heap.size _ _) := (same w.heap.size (by omega)).trans R6
            rw [hlenm] at hX7
            have HEND0 : Hid _ := drawn_end hX7 (Y6.same (SameIn.set (p := ⟨gx, 0, none⟩) (u := .slice (some ⟨sb, so + 1, none⟩) 31 (sc - 1)) (.inl (by show gx < H; omega)))) (hc6.put (by omega)) (grown_put G6 _ (by omega)) hpb (by omega) (by simp; omega)
            have HEND : Hid _ := HEND0.out
            clear V6 R6 G6 Y6 hc6 hX7 same hu hrow hrow' hxb hxe hscell hsc hsg hsgg hvl' hvq HX6 HEND0 hl32 hsn hsh hsb e0 e1 f0 f1
            go_wp2
            refine wp_region_noPanic ?_
            refine wp_region_held_drew (S := fun w' => w'.cell? ⟨vb, 0, none⟩ = some (.slice (some ⟨gx, 0, none⟩) n xc)) (by kernel_rfl) q0 (fun hHeld => ?_)
            refine wpAnyH_take (i := 0) (v := ?_) rfl (by kernel_rfl) (by kernel_rfl) (by kernel_rfl) (fun _ _ _ h => h) (Or.inl ⟨by rfl, ?_⟩) (by assumption) ?_
            rotate_left
            · (intro w_ hSw_; (try dsimp only at hSw_); go_simp; try with_reducible rfl)
            try simp only [Act.put, List.setIfInBounds_toArray, List.set_cons_zero, List.set_cons_succ, List.getElem_toArray, List.getElem_cons_zero, List.getElem_cons_succ]
            refine wpAnyH_take (i := 1) (v := ?_) rfl (by kernel_rfl) (by kernel_rfl) (by kernel_rfl) (fun _ _ _ h => h) (Or.inl ⟨by rfl, ?_⟩) (by assumption) ?_
            rotate_left
            · (intro w_ hSw_; (try dsimp only at hSw_); go_simp; try with_reducible rfl)
            try simp only [Act.put, List.setIfInBounds_toArray, List.set_cons_zero, List.set_cons_succ, List.getElem_toArray, List.getElem_cons_zero, List.getElem_cons_succ]
            refine wpAnyH_take (i := 2) (v := ?_) rfl (by kernel_rfl) (by kernel_rfl) (by kernel_rfl) (fun _ _ _ h => h) (Or.inl ⟨by rfl, ?_⟩) (by assumption) ?_
            rotate_left
            · (intro w_ hSw_; (try dsimp only at hSw_); go_simp; try with_reducible rfl)
            try simp only [Act.put, List.setIfInBounds_toArray, List.set_cons_zero, List.set_cons_succ, List.getElem_toArray, List.getElem_cons_zero, List.getElem_cons_succ]
            refine wpAnyH_take (i := 3) (v := ?_) rfl (by kernel_rfl) (by kernel_rfl) (by kernel_rfl) (fun _ _ _ h => h) (Or.inl ⟨by rfl, ?_⟩) (by assumption) ?_
            rotate_left
            · (intro w_ hSw_; (try dsimp only at hSw_); go_simp; try with_reducible rfl)
            try simp only [Act.put, List.setIfInBounds_toArray, List.set_cons_zero, List.set_cons_succ, List.getElem_toArray, List.getElem_cons_zero, List.getElem_cons_succ]
            refine wpAnyH_take (i := 4) (v := ?_) rfl (by kernel_rfl) (by kernel_rfl) (by kernel_rfl) (fun _ _ _ h => h) (Or.inl ⟨by rfl, ?_⟩) (by assumption) ?_
            rotate_left
            · (intro w_ hSw_; (try dsimp only at hSw_); go_simp; try with_reducible rfl)
            try simp only [Act.put, List.setIfInBounds_toArray, List.set_cons_zero, List.set_cons_succ, List.getElem_toArray, List.getElem_cons_zero, List.getElem_cons_succ]
            refine wpAnyH_ready (rs := [5]) (by kernel_rfl) (by simp) ?_
            refine AllReadyH.cons rfl (fun K hK => ?_) AllReadyH.nil
            go_simp
            refine hK.out _ _ (by assumption) (fun hHeld => ?_)
            clear hK K
            try simp only [Act.put, List.setIfInBounds_toArray, List.set_cons_zero, List.set_cons_succ, List.getElem_toArray, List.getElem_cons_zero, List.getElem_cons_succ]
            refine wpAnyH_take (i := 6) (v := ?_) rfl (by kernel_rfl) (by kernel_rfl) (by kernel_rfl) (fun _ _ _ h => h) (Or.inl ⟨by rfl, ?_⟩) (by assumption) ?_
            rotate_left
            · (intro w_ hSw_; (try dsimp only at hSw_); go_simp; try with_reducible rfl)
            try simp only [Act.put, List.setIfInBounds_toArray, List.set_cons_zero, List.set_cons_succ, List.getElem_toArray, List.getElem_cons_zero, List.getElem_cons_succ]
            refine wpAnyH_take (i := 7) (v := ?_) rfl (by kernel_rfl) (by kernel_rfl) (by kernel_rfl) (fun _ _ _ h => h) (Or.inl ⟨by rfl, ?_⟩) (by assumption) ?_
            rotate_left
            · (intro w_ hSw_; (try dsimp only at hSw_); go_simp; try with_reducible rfl)
            try simp only [Act.put, List.setIfInBounds_toArray, List.set_cons_zero, List.set_cons_succ, List.getElem_toArray, List.getElem_cons_zero, List.getElem_cons_succ]
            refine wpAnyH_ready (rs := [8]) (by kernel_rfl) (by simp) ?_
            refine AllReadyH.cons rfl (fun K hK => ?_) AllReadyH.nil
            go_simp
            have l0 := VarD.c0 HV6.out
            refine hK.out _ _ l0 (fun hHeld => ?_)
            clear hK K
            try simp only [Act.put, List.setIfInBounds_toArray, List.set_cons_zero, List.set_cons_succ, List.getElem_toArray, List.getElem_cons_zero, List.getElem_cons_succ]
            refine wpAnyH_done (by kernel_rfl) (NoPanic.normal ?_) _
            have l1 := VarD.c1 HV6.out
            have e0 := VarD.c0 HR6.out
            have e1 := VarD.c1 HR6.out
            have f0 := VarD.f HR6.out 0
            have f1 := VarD.f HR6.out 1
            generalize hw9 : w6.setCell ⟨gx, 0, none⟩ (.slice (some ⟨sb, so + 1, none⟩) 31 (sc - 1)) = w9 at HEND l0 l1 e0 e1 f0 f1 hHeld
            have HW9 : Hid _ := hw9
            clear hw9 HV6 HR6 hov hof q0 q1 hHeld
            go_wp2_with (rw [HW9.out])
            refine bodyPost_ret (v := .agg #[.slice (some ⟨gx, 0, none⟩) n xc, .slice (some ⟨gy, 0, none⟩) ws.length yc]) (by simp [results, Tryd.results44, go_sem, e0, e1]) rfl ?_
            first | exact ⟨_, _, rfl, HEND.out.1, HTY.out, HEND.out.2.1, HEND.out.2.2⟩ | exact ⟨_, rfl, _, HEND.out.1, HTY.out, HEND.out.2.1, HEND.out.2.2⟩ | exact ⟨_, _, rfl, HEND.out.1, HTY.out, HEND.out.2.1, grown_again HEND.out.2.2⟩
end Go.Proofs.YtjhaanenkeceiaaDoor
end
