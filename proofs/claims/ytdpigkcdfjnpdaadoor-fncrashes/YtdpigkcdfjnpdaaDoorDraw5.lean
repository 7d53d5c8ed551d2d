/- What is drawn for Crash: some disk, some flags, some number, in memory of their own. No condition. -/
import Derived.Test.YtdpigkcdfjnpdaaDoorDraw4
import Derived.Test.YtdpigkcdfjnpdaaDoorFlags2
namespace Go.Proofs.YtdpigkcdfjnpdaaDoor
open Go.RowKit
set_option linter.unusedVariables false
set_option linter.unusedSimpArgs false
attribute [local go_sem ↓] Go.wp_at_zero Go.wp_at_succ

theorem fcells_one (bs : List Bool) : ∀ v ∈ fcells bs, v.oneCell' = true := fun v hv => by
  simp only [fcells, List.mem_map] at hv
  obtain ⟨b, _, rfl⟩ := hv
  rfl
/-- append(v, q), v the call's own flags. -/
theorem wpList_appF {ops : Array Oper} {rest : List Oper} {o : Oper} {a : Act} {Q : Exit → Act → World → Prop} (w : World) (hgd : o.guard = none) (s x : Operand)
    (ho : o.op = .call { callee := .builtin .append, args := #[s, x], argTypes := #[38, 38] })
    (base : Nat) (v : Value) (bs : List Bool) (hs : a.eval s = v) (hown : w.ownsRow base 4 1 v bs.length (fcells bs)) (b : Nat) (q : Bool) (hx : a.eval x = .slice (some ⟨b, 0, none⟩) 1 1) (hb : w.cell? ⟨b, 0, none⟩ = some (.bool q))
    (hl : bs.length ≤ 4194304) (hbase : base ≤ w.heap.size)
    (h : ∀ v' w', w'.ownsRow base 4 1 v' (bs ++ [q]).length (fcells (bs ++ [q])) → w.grownBy w' v.ownBlock → wpList Tryd.prog ops Q rest (a.put o.dst v') w') : wpList Tryd.prog ops Q (o :: rest) a w := by
  obtain ⟨i0, hi, hz0, hz1, hz2⟩ := info_parts Tryd.infoF
  refine wpList_append_own w hgd s x 38 ho base 4 i0 (.bool false) 1 1 Tryd.underlying38 hi hz0 hz1 hz2 rfl (by decide) v bs.length (fcells bs) hs hown ⟨b, 0, none⟩ 1 1 (fcells [q]) hx rfl (fun j v hj => ?_) (fcells_one [q]) (by unfold maxLen; omega) (by omega) hbase ?_
  · match j, hj with
    | 0, hj =>
      have e : Value.bool q = v := by simpa [fcells] using hj
      rw [← e]
      simpa [Addr.add] using hb
    | j + 1, hj => simp [fcells] at hj
  intro v' w' ho' hg _
  refine h v' w' ?_ hg
  have e : fcells (bs ++ [q]) = fcells bs ++ fcells [q] := by simp [fcells]
  rw [List.length_append, e]
  exact ho'
def OwK (w : World) (l : Nat) (v : Value) (bs : List Bool) : Prop := w.ownsRow l 4 1 v bs.length (fcells bs)
theorem OwK.cur {w w' : World} {base pb : Nat} {v : Value} {bs : List Bool} (h : OwK w base v bs) (hg : w.grownBy w' (some pb)) (hb : pb < base) : OwK w' base v bs := by
  refine World.ownsRow.kept h hg ?_
  cases hk : v.ownBlock with
  | none => exact .inl rfl
  | some k => exact .inr (fun e => by simp only [Option.some.injEq] at e; have := (h.lt k hk).1; omega)
def KeepRel (w : World) (pb N : Nat) (o i : Value) (wr : World) : Prop :=
  ∃ (k : Nat) (bs : List Bool), k ≤ N ∧ i = .int .i64 k ∧ bs.length = k ∧ OwK wr w.heap.size o bs ∧ CurAt wr pb ∧ w.grownBy wr (some pb)

set_option maxRecDepth 100000 in
set_option maxHeartbeats 4000000 in
theorem drawCrash_any (a : Option Addr) (zs : List Int) (len cap : Nat) (w : World) (h : Reads w a zs) (hlen : len = zs.length) (hm : zs.length ≤ maxLen) :
    Calls Tryd.prog 19 #[.slice a len cap] w fun e w' => ∃ v d u bs t, e = .returned (.tuple #[v, u, .int .i64 t]) ∧ RdD w' w.heap.size w'.heap.size v d ∧ Tiny d ∧ RdF w' w.heap.size w'.heap.size u bs ∧ bs.length ≤ 5 ∧ Below w.heap.size w w' := by
  have b0 := Below.new (w := w) (.cells #[.slice none 0 0, .slice none 0 0] 26)
  have v0 := VarD.new w (.slice none 0 0) (.slice none 0 0)
  have r0 := h.below b0
  generalize hw0 : w.alloc (.cells #[.slice none 0 0, .slice none 0 0] 26) = w0 at b0 v0 r0
  have HW0 : Hid _ := hw0
  have s0 := v0.lt
  have HLEN : Hid _ := hlen
  clear hw0 h hlen
  go_enter Tryd.func19, Tryd.ntmps19
  go_wp2_with fail
  rw [HW0.out]
  refine (new_any a zs len cap w0 r0 HLEN.out hm).mono ?_
  rintro e w1 ⟨rfl, c1, b1⟩
  have B1 := b0.trans (b1.mono b0.size)
  have v1 := v0.step b1
  have s1 := b1.size
  obtain ⟨pb, hpb⟩ : ∃ pb, pb = w0.heap.size := ⟨_, rfl⟩
  rw [← hpb] at c1
  have hp1 := c1.lt
  have hwp : w.heap.size < pb := by omega
  have HPB : Hid _ := hpb
  clear b0 b1 v0 r0 hpb
  go_wp2_with fail
  rw [← HPB.out]
  refine (disk_any pb w1 c1).mono ?_
  rintro e w2 ⟨v, d, rfl, r2, ht, c2, g2⟩
  have B2 := below_grown B1 g2 (by omega) (by omega)
  have v2 : VarD w2 w.heap.size _ _ := (g2.block _ v1.lt (by simp; omega)).trans v1
  have s2 := g2.size
  obtain ⟨xa, xn, xc, ya, yn, yc, rfl⟩ := r2.open
  have HLN : Hid (xn = d.1.length) := r2.parts.1.len.1
  have hxm : xn ≤ 9223372036854775807 := r2.parts.1.len.2
  have b3 := Below.new (w := w2) (.cells #[.slice xa xn xc, .slice ya yn yc] 26)
  have vV := VarD.new w2 (.slice xa xn xc) (.slice ya yn yc)
  have c3 := c2.below b3
  have v3 := v2.step b3
  have r3 := r2.step (Nat.le_refl _) b3
  have B3 := B2.trans (b3.mono B2.size)
  obtain ⟨vb, hvb⟩ : ∃ vb, vb = w2.heap.size := ⟨_, rfl⟩
  rw [← hvb] at vV r3
  generalize hw3 : w2.alloc (.cells #[.slice xa xn xc, .slice ya yn yc] 26) = w3 at b3 vV c3 v3 r3 B3
  have HW3 : Hid _ := hw3
  have HVB : Hid _ := hvb
  have s3 := vV.lt
  have hvb1 : w1.heap.size ≤ vb := by omega
  clear hvb hw3 b3 c2 v2 r2 B2 B1 v1 g2 c1
  go_wp2_with fail
  rw [← HVB.out, HW3.out]
  refine (below_any pb 6 w3 c3 (by omega) (by omega)).mono ?_
  rintro e w4 ⟨xi, rfl, hx0, hx1, c4, g4⟩
  obtain ⟨N, rfl⟩ : ∃ N : Nat, xi = (N : Int) := ⟨xi.toNat, by omega⟩
  have hN : N ≤ 5 := by omega
  have B4 := below_grown B3 g4 (by omega) (by omega)
  have v4 := v3.cur4 g4 (by omega)
  have vV4 := vV.cur g4 (by omega)
  have r4 := r3.cur g4 (by omega) (by omega)
  have s4 := g4.size
  have HB4 : Hid (Below w.heap.size w w4) := B4
  have HV4 : Hid (VarD w4 w.heap.size _ _) := v4
  have HVV : Hid (VarD w4 vb _ _) := vV4
  have HR4 : Hid (RdD w4 w1.heap.size vb _ d) := r4
  have HST : Hid (KeepRel w4 pb N (.slice none 0 0) (.int .i64 0) w4) := ⟨0, [], Nat.zero_le _, rfl, rfl, World.ownsRow_nil _ _ _ _, c4, grown_refl _ _⟩
  have hp4 : pb < w4.heap.size := c4.lt
  have HTY : Hid (Tiny d) := ht
  clear B3 v3 vV r3 g4 c3 HW3 HVB HPB HW0 c4 B4 v4 vV4 r4 hx0 hx1 ht
  go_wp2
  go_loopw [7, 9] (fun o i wr => KeepRel w4 pb N o i wr) (fun _ i _ => N - (intOf i).toNat)
  case atStart => exact HST.out
  case round =>
    clear HST
    obtain ⟨k, bs, hk, rfl, hbl, hown, hcur, hgr⟩ := hrel
    have HO : Hid (OwK wr w4.heap.size u7 bs) := hown
    have HGR : Hid (w4.grownBy wr (some pb)) := hgr
    have HL : Hid _ := hbl
    clear hown hgr hbl
    by_cases hlt : k < N
    · go_wp2_with fail
      refine (once_any pb 2 wr hcur (by omega) (by omega)).mono ?_
      rintro e w5 ⟨q, rfl, hc5, hg5⟩
      have HO5 : Hid (OwK w5 w4.heap.size u7 bs) := OwK.cur HO.out hg5 hp4
      have HG5 : Hid _ := grown_trans HGR.out hg5
      have hs5 := HG5.out.size
      go_wp2_with (at_builtin; go_must (refine wpList_appF _ rfl (.tmp 21) (.tmp 24) rfl w4.heap.size _ bs rfl (World.ownsRow.alloc HO5.out _) w5.heap.size q rfl (World.cell?_alloc_at _ _ _ _ rfl) (by have := HL.out; omega) (by simp; omega) ?_; intro v6 w6 ho6 hg6))
      have HR : KeepRel w4 pb N v6 (.int .i64 ((k : Int) + 1)) w6 := by
        refine ⟨k + 1, bs ++ [q], by omega, by go_num, by simp [HL.out], ho6, ?_, ?_⟩
        · exact (hc5.alloc _).grown hg6 (fun q' hq => by have := (World.ownsRow.lt HO5.out q' hq).1; omega)
        · exact grown_new (grown_alloc HG5.out _) hg6 (fun q' hq => (World.ownsRow.lt HO5.out q' hq).1)
      refine ⟨?_, by simp [intOf]; omega⟩
      first | exact HR | exact ⟨_, _, HR, rfl, rfl⟩ | exact ⟨_, HR, rfl, rfl⟩ | exact ⟨_, _, HR, rfl, rfl⟩ | exact ⟨_, _, _, HR, rfl, rfl⟩ | exact ⟨_, _, _, _, HR, rfl, rfl⟩ | exact ⟨_, _, _, _, _, HR, rfl, rfl⟩ | exact ⟨_, _, _, _, _, _, HR, rfl, rfl⟩ | exact ⟨_, _, _, _, _, _, _, HR, rfl, rfl⟩ | exact ⟨_, _, _, _, _, _, _, _, HR, rfl, rfl⟩ | exact ⟨_, _, _, _, _, _, _, _, _, HR, rfl, rfl⟩ | exact ⟨_, _, _, _, _, _, _, _, _, _, HR, rfl, rfl⟩ | exact ⟨_, _, _, _, _, _, _, _, _, _, _, HR, rfl, rfl⟩ | exact ⟨_, _, _, _, _, _, _, _, _, _, _, _, HR, rfl, rfl⟩ | exact ⟨_, _, _, _, _, _, _, _, _, _, _, _, _, HR, rfl, rfl⟩ | exact ⟨_, _, _, _, _, _, _, _, _, _, _, _, _, _, HR, rfl, rfl⟩ | exact ⟨_, _, _, _, _, _, _, _, _, _, _, _, _, _, _, HR, rfl, rfl⟩ | exact ⟨_, _, _, _, _, _, _, _, _, _, _, _, _, _, _, _, HR, rfl, rfl⟩ | exact ⟨_, _, _, _, _, _, _, _, _, _, _, _, _, _, _, _, _, HR, rfl, rfl⟩ | exact ⟨_, _, _, _, _, _, _, _, _, _, _, _, _, _, _, _, _, _, HR, rfl, rfl⟩ | exact ⟨_, _, _, _, _, _, _, _, _, _, _, _, _, _, _, _, _, _, _, HR, rfl, rfl⟩ | exact ⟨_, _, _, _, _, _, _, _, _, _, _, _, _, _, _, _, _, _, _, _, HR, rfl, rfl⟩ | exact ⟨_, _, _, _, _, _, _, _, _, _, _, _, _, _, _, _, _, _, _, _, _, HR, rfl, rfl⟩ | exact ⟨_, _, _, _, _, _, _, _, _, _, _, _, _, _, _, _, _, _, _, _, _, _, HR, rfl, rfl⟩ | exact ⟨_, _, _, _, _, _, _, _, _, _, _, _, _, _, _, _, _, _, _, _, _, _, _, HR, rfl, rfl⟩ | exact ⟨_, _, _, _, _, _, _, _, _, _, _, _, _, _, _, _, _, _, _, _, _, _, _, _, HR, rfl, rfl⟩ | exact ⟨_, _, _, _, _, _, _, _, _, _, _, _, _, _, _, _, _, _, _, _, _, _, _, _, _, HR, rfl, rfl⟩ | exact ⟨_, _, _, _, _, _, _, _, _, _, _, _, _, _, _, _, _, _, _, _, _, _, _, _, _, _, HR, rfl, rfl⟩ | exact ⟨_, _, _, _, _, _, _, _, _, _, _, _, _, _, _, _, _, _, _, _, _, _, _, _, _, _, _, HR, rfl, rfl⟩ | exact ⟨_, _, _, _, _, _, _, _, _, _, _, _, _, _, _, _, _, _, _, _, _, _, _, _, _, _, _, _, HR, rfl, rfl⟩ | exact ⟨_, _, _, _, _, _, _, _, _, _, _, _, _, _, _, _, _, _, _, _, _, _, _, _, _, _, _, _, _, HR, rfl, rfl⟩
    · have hk9 : ¬ (k : Int) < (N : Int) := by omega
      have VV := VarD.cur HVV.out HGR.out (by omega)
      have R0 := VarD.cur4 HV4.out HGR.out (by omega)
      have d0 := VV.c0
      have d1 := VV.c1
      have sr := HGR.out.size
      have HVW : Hid (VarD wr vb _ _) := VV
      have HR0 : Hid (VarD wr w.heap.size _ _) := R0
      have HRD : Hid (RdD wr w1.heap.size vb _ d) := RdD.cur HR4.out HGR.out (by omega) (by omega)
      have hof : OwF wr w4.heap.size wr.heap.size u7 bs := ⟨HO.out, fun q hq => (World.ownsRow.lt HO.out q hq).2⟩
      have HKF : Hid (RdF wr w4.heap.size wr.heap.size u7 bs) := hof.rd
      have HBR : Hid (Below w.heap.size w wr) := below_grown HB4.out HGR.out (by omega) (by omega)
      obtain ⟨ka, kn, kc, rfl⟩ := hof.rd.sliced
      have HC : Hid (CurAt wr.drew pb) := hcur.below (Below.drew (Below.refl _ _))
      have HBL : Hid (bs.length ≤ 5) := by show _ ≤ _; have := HL.out; omega
      clear VV R0 hof HO HGR HL HB4 HV4 HVV HR4 hcur
      go_wp2
      refine wp_region_noPanic ?_
      refine wp_region_held_drew (S := fun w' => w'.cell? ⟨vb, 0, none⟩ = some (.slice xa xn xc) ∧ w'.cell? ⟨vb, 1, none⟩ = some (.slice ya yn yc)) (by kernel_rfl) ⟨d0, d1⟩ (fun hHeld => ?_)
      refine wpAnyH_take (i := 0) (v := ?_) rfl (by kernel_rfl) (by kernel_rfl) (by kernel_rfl) (fun _ _ _ h => h) (Or.inl ⟨by rfl, ?_⟩) (by assumption) ?_
      rotate_left
      · (intro w_ hSw_; (try dsimp only at hSw_); go_simp; try with_reducible rfl)
      try simp only [Act.put, List.setIfInBounds_toArray, List.set_cons_zero, List.set_cons_succ, List.getElem_toArray, List.getElem_cons_zero, List.getElem_cons_succ]
      refine wpAnyH_take (i := 1) (v := ?_) rfl (by kernel_rfl) (by kernel_rfl) (by kernel_rfl) (fun _ _ _ h => h) (Or.inl ⟨by rfl, ?_⟩) (by assumption) ?_
      rotate_left
      · (intro w_ hSw_; (try dsimp only at hSw_); go_simp; try with_reducible rfl)
      try simp only [Act.put, List.setIfInBounds_toArray, List.set_cons_zero, List.set_cons_succ, List.getElem_toArray, List.getElem_cons_zero, List.getElem_cons_succ]
      refine wpAnyH_take (i := 2) (v := ?_) rfl (by kernel_rfl) (by kernel_rfl) (by kernel_rfl) (fun _ _ _ h => h) (Or.inl ⟨by rfl, ?_⟩) (by assumption) ?_
      rotate_left
      · (intro w_ hSw_; (try dsimp only at hSw_); go_simp; try with_reducible rfl)
      try simp only [Act.put, List.setIfInBounds_toArray, List.set_cons_zero, List.set_cons_succ, List.getElem_toArray, List.getElem_cons_zero, List.getElem_cons_succ]
      refine wpAnyH_ready (rs := [3]) (by kernel_rfl) (by simp) ?_
      refine AllReadyH.cons rfl (fun K hK => ?_) AllReadyH.nil
      go_simp
      refine (below_any pb 7 _ HC.out (by omega) (by omega)).mono ?_
      rintro e w7 ⟨t, rfl, ht0, ht1, c7, g7⟩
      have g57 : wr.grownBy w7 (some pb) := ⟨g7.os, g7.tape, g7.output, g7.size, g7.block⟩
      have s7 := g57.size
      have V7 := VarD.cur HVW.out g57 (by omega)
      have k0 := V7.c0
      have k1 := V7.c1
      have R7 := VarD.cur4 HR0.out g57 (by omega)
      have e0 := R7.c0
      have e1 := R7.c1
      have f0 := R7.f 0
      have f1 := R7.f 1
      go_wp2_with fail
      refine hK.out _ _ ⟨k0, k1⟩ (fun hHeld => ?_)
      clear hK K
      try simp only [Act.put, List.setIfInBounds_toArray, List.set_cons_zero, List.set_cons_succ, List.getElem_toArray, List.getElem_cons_zero, List.getElem_cons_succ]
      refine wpAnyH_take (i := 4) (v := ?_) rfl (by kernel_rfl) (by kernel_rfl) (by kernel_rfl) (fun _ _ _ h => h) (Or.inl ⟨by rfl, ?_⟩) (by assumption) ?_
      rotate_left
      · (intro w_ hSw_; (try dsimp only at hSw_); go_simp; try with_reducible rfl)
      try simp only [Act.put, List.setIfInBounds_toArray, List.set_cons_zero, List.set_cons_succ, List.getElem_toArray, List.getElem_cons_zero, List.getElem_cons_succ]
      refine wpAnyH_ready (rs := [5]) (by kernel_rfl) (by simp) ?_
      refine AllReadyH.cons rfl (fun K hK => ?_) AllReadyH.nil
      go_simp
      have hset : ∀ q, q ≠ w.heap.size → ((w7.setCell ⟨w.heap.size, 0, none⟩ (.slice xa xn xc)).setCell ⟨w.heap.size, 1, none⟩ (.slice ya yn yc)).heap[q]? = w7.heap[q]? := fun q hq => (heap_setCell_other _ _ _ _ hq).trans (heap_setCell_other _ _ _ _ hq)
      have V8 : VarD ((w7.setCell ⟨w.heap.size, 0, none⟩ (.slice xa xn xc)).setCell ⟨w.heap.size, 1, none⟩ (.slice ya yn yc)) vb _ _ := (hset vb (by omega)).trans V7
      have l0 := V8.c0
      have l1 := V8.c1
      have R8 : VarD ((w7.setCell ⟨w.heap.size, 0, none⟩ (.slice xa xn xc)).setCell ⟨w.heap.size, 1, none⟩ (.slice ya yn yc)) w.heap.size (.slice xa xn xc) (.slice ya yn yc) := by
        show _ = _
        rw [heap_setCell_same _ _ _ _ _ _ (show (w7.setCell ⟨w.heap.size, 0, none⟩ (.slice xa xn xc)).heap[w.heap.size]? = some (.cells #[.slice xa xn xc, .slice none 0 0] 26 (0, 0)) by rw [heap_setCell_same _ _ _ _ _ _ R7]; rfl)]; rfl
      refine hK.out _ _ ⟨l0, l1⟩ (fun hHeld => ?_)
      clear hK K
      try simp only [Act.put, List.setIfInBounds_toArray, List.set_cons_zero, List.set_cons_succ, List.getElem_toArray, List.getElem_cons_zero, List.getElem_cons_succ]
      refine wpAnyH_ready (rs := [6]) (by kernel_rfl) (by simp) ?_
      refine AllReadyH.cons rfl (fun K hK => ?_) AllReadyH.nil
      go_simp
      refine hK.out _ _ (by assumption) (fun hHeld => ?_)
      clear hK K
      try simp only [Act.put, List.setIfInBounds_toArray, List.set_cons_zero, List.set_cons_succ, List.getElem_toArray, List.getElem_cons_zero, List.getElem_cons_succ]
      refine wpAnyH_ready (rs := [7]) (by kernel_rfl) (by simp) ?_
      refine AllReadyH.cons rfl (fun K hK => ?_) AllReadyH.nil
      go_simp
      refine hK.out _ _ (by assumption) (fun hHeld => ?_)
      clear hK K
      try simp only [Act.put, List.setIfInBounds_toArray, List.set_cons_zero, List.set_cons_succ, List.getElem_toArray, List.getElem_cons_zero, List.getElem_cons_succ]
      refine wpAnyH_done (by kernel_rfl) (NoPanic.normal ?_) _
      have q0 := R8.c0
      have q1 := R8.c1
      have rd9 := ((RdD.cur HRD.out g57 (by omega) (by omega)).same (w' := (w7.setCell ⟨w.heap.size, 0, none⟩ (.slice xa xn xc)).setCell ⟨w.heap.size, 1, none⟩ (.slice ya yn yc)) ⟨by simp, fun q h1 h2 => hset q (by omega)⟩).wide (l' := w.heap.size) (h' := w7.heap.size) (by omega) (by omega)
      have ru9 := ((RdF.same HKF.out ⟨g57.size, fun q h1 h2 => g57.block q (by omega) (by simp; omega)⟩).same (w' := (w7.setCell ⟨w.heap.size, 0, none⟩ (.slice xa xn xc)).setCell ⟨w.heap.size, 1, none⟩ (.slice ya yn yc)) ⟨by simp, fun q h1 h2 => hset q (by omega)⟩).wide (l' := w.heap.size) (h' := w7.heap.size) (by omega) (by omega)
      have B9 : Below w.heap.size w ((w7.setCell ⟨w.heap.size, 0, none⟩ (.slice xa xn xc)).setCell ⟨w.heap.size, 1, none⟩ (.slice ya yn yc)) := ((below_grown HBR.out g57 (by omega) (by omega)).setCell (by show w.heap.size ≤ w.heap.size; omega) _).setCell (by show w.heap.size ≤ w.heap.size; omega) _
      have s9 : ((w7.setCell ⟨w.heap.size, 0, none⟩ (.slice xa xn xc)).setCell ⟨w.heap.size, 1, none⟩ (.slice ya yn yc)).heap.size = w7.heap.size := by simp
      generalize (w7.setCell ⟨w.heap.size, 0, none⟩ (.slice xa xn xc)).setCell ⟨w.heap.size, 1, none⟩ (.slice ya yn yc) = w9 at q0 q1 rd9 ru9 B9 s9 l0 l1 hHeld ⊢
      rw [← s9] at rd9 ru9
      have HD : Hid _ := rd9
      have HUU : Hid _ := ru9
      have HB : Hid _ := B9
      clear rd9 ru9 B9 V8 R8 hset V7 R7 g57 g7 c7
      go_wp2
      refine bodyPost_ret (v := .tuple #[.agg #[.slice xa xn xc, .slice ya yn yc], .slice ka kn kc, .int .i64 (IntKind.i64.wrap (t - 2))]) (by simp [results, Tryd.results19, go_sem, q0, q1]) rfl ?_
      first | exact ⟨_, _, _, _, _, rfl, HD.out, HTY.out, HUU.out, HBL.out, HB.out⟩ | exact ⟨_, _, _, rfl, _, HD.out, HTY.out, _, HUU.out, HBL.out, HB.out⟩ | exact ⟨_, _, _, rfl, _, _, HD.out, HTY.out, HUU.out, HBL.out, HB.out⟩
end Go.Proofs.YtdpigkcdfjnpdaaDoor
