/- Joined: WBy2. -/
import Derived.Test.YtaaongjnpnanmaaJ04

section
/- The specification writes replies. Condition: at most 12 entries, no more than 2^20 bytes ahead of them. -/
namespace Go.Proofs.Ytaaongjnpnanmaa
open Go.RowKit
set_option linter.unusedVariables false
set_option linter.unusedSimpArgs false
set_option maxRecDepth 100000

theorem ensB_next (l : List En) (k : Nat) (h : k < l.length) : ensB (l.take (k + 1)) = ensB (l.take k) ++ enB (l[k]?.getD en0) := by
  unfold ensB
  rw [← List.take_append_getElem h, List.flatMap_append, List.getElem?_eq_getElem h]; simp
set_option maxHeartbeats 8000000 in
theorem specReplyR (v : Value) (xs : List Int) (o : RpD) (x : Value) (S S2 : Nat → Prop) (w : World) (r : RdV w S v (.bytes xs)) (hl : xs.length ≤ 1700000) (q1 : RdV w S2 x (ensDt o.list)) (hn : szEns o.list ≤ 1048576) (h12 : o.list.length ≤ 12) : Ap 106 #[v, rpV o x] w (xs ++ rpB o) := by
  obtain ⟨a, cap, rfl, _⟩ := RdV.sliced q1
  obtain ⟨kd, ⟨p, q, d⟩, vl, es⟩ := o
  dsimp only at q1 hn h12 ⊢
  have HR2 : Hid (∀ W, Below w.heap.size w W → RdV W S2 (.slice a es.length cap) (.rows 89 4 es.length (fun i j => enCell (es[i]?.getD en0) j))) := RdV.old q1
  have HL : Hid _ := hn
  have HN : Hid (∀ k, k < es.length → ensB (es.take (k + 1)) = ensB (es.take k) ++ enB (es[k]?.getD en0)) := fun k hk => ensB_next es k hk
  have HEL : Hid (∀ k, k ≤ es.length → (ensB (es.take k)).length ≤ 56 * 12) := fun k hk => by have := ensB_len (es.take k); rw [List.length_take] at this; omega
  have HEA : Hid (ensB (es.take es.length) = ensB es) := by show _ = _; rw [List.take_length]
  obtain ⟨m, hm⟩ : ∃ m, es.length = m := ⟨_, rfl⟩
  have HF : Hid (rpB ⟨kd, (p, q, d), vl, es⟩ = putB kd ++ (hdB (p, q, d) ++ (putB vl ++ (putB (m : Int) ++ ensB es)))) := by show _ = _; rw [← hm]; rfl
  rw [HF.out]
  rw [hm] at HR2 HN HEL HEA h12 ⊢
  clear q1 hn hm HF
  have h1 := putB_len kd
  have h2 := hdB_len (p, q, d)
  have h3 := putB_len vl
  have h4 := putB_len (m : Int)
  have HR : Hid (∀ W, Below w.heap.size w W → _) := r.old
  clear r
  go_enter Try.func106, Try.ntmps106
  go_wp2
  go_region_held3 (fun w' => w'.cell? ⟨w.heap.size, 0, none⟩ = some (.int .i64 kd) ∧ w'.cell? ⟨w.heap.size, 1, none⟩ = some (.int .i64 p) ∧ w'.cell? ⟨w.heap.size, 2, none⟩ = some (.int .i64 q) ∧ w'.cell? ⟨w.heap.size, 3, none⟩ = some (.bool d) ∧ w'.cell? ⟨w.heap.size, 4, none⟩ = some (.int .i64 vl) ∧ w'.cell? ⟨w.heap.size, 5, none⟩ = some (.slice a m cap)) (first | go_keep | (refine ⟨?_, ?_, ?_, ?_, ?_, ?_⟩ <;> assumption)) (first
    | (go_at_call 104; (with_reducible refine Calls.mono (specPutR v xs kd _ _ (HR.out _ (by repeat (first | exact Below.refl _ _ | refine Below.al2 ?_ _ | refine Below.drew ?_ | refine below_drewN2 ?_ _))) (by omega)) ?_); rintro e w2 ⟨v1, rfl, z1, o1, b_⟩; have HB1 : Hid (Below w.heap.size w w2) := Below.trans (by repeat (first | exact Below.refl _ _ | refine Below.al2 ?_ _ | refine Below.drew ?_ | refine below_drewN2 ?_ _)) (b_.mono (by simp [World.drew] <;> omega)); have vA1 : VarA w2 w.heap.size 59 #[.int .i64 kd, .int .i64 p, .int .i64 q, .bool d, .int .i64 vl, .slice a m cap] := VarA.step (VarA.dr (VarA.new w _ _)) b_; clear b_; obtain ⟨c1_0, c1_1, c1_2, c1_3, c1_4, c1_5⟩ := vA1.l6)
    | (go_at_call 109; (with_reducible refine Calls.mono (specHandX v1 (xs ++ putB kd) p q d _ _ ((Owns.step o1 (by repeat (first | exact Below.refl _ _ | refine Below.al2 ?_ _ | refine Below.drew ?_ | refine below_drewN2 ?_ _))).rdT z1) (by simp only [List.length_append]; omega)) ?_); rintro e w3 ⟨v2, rfl, z2, o2, b_⟩; have HB2 : Hid (Below w.heap.size w w3) := HB1.out.trans (Below.mono (Below.trans (by repeat (first | exact Below.refl _ _ | refine Below.al2 ?_ _ | refine Below.drew ?_ | refine below_drewN2 ?_ _)) b_) HB1.out.size); have vA2 : VarA w3 w.heap.size 59 #[.int .i64 kd, .int .i64 p, .int .i64 q, .bool d, .int .i64 vl, .slice a m cap] := VarA.step vA1 (Below.trans (by repeat (first | exact Below.refl _ _ | refine Below.al2 ?_ _ | refine Below.drew ?_ | refine below_drewN2 ?_ _)) b_); clear b_; obtain ⟨c2_0, c2_1, c2_2, c2_3, c2_4, c2_5⟩ := vA2.l6)
    | (go_at_call 104; (with_reducible refine Calls.mono (specPutR v2 (xs ++ putB kd ++ hdB (p, q, d)) vl _ _ ((Owns.step o2 (by repeat (first | exact Below.refl _ _ | refine Below.al2 ?_ _ | refine Below.drew ?_ | refine below_drewN2 ?_ _))).rdT z2) (by simp only [List.length_append]; omega)) ?_); rintro e w4 ⟨v3, rfl, z3, o3, b_⟩; have HB3 : Hid (Below w.heap.size w w4) := HB2.out.trans (Below.mono (Below.trans (by repeat (first | exact Below.refl _ _ | refine Below.al2 ?_ _ | refine Below.drew ?_ | refine below_drewN2 ?_ _)) b_) HB2.out.size); have vA3 : VarA w4 w.heap.size 59 #[.int .i64 kd, .int .i64 p, .int .i64 q, .bool d, .int .i64 vl, .slice a m cap] := VarA.step vA2 (Below.trans (by repeat (first | exact Below.refl _ _ | refine Below.al2 ?_ _ | refine Below.drew ?_ | refine below_drewN2 ?_ _)) b_); clear b_; obtain ⟨c3_0, c3_1, c3_2, c3_3, c3_4, c3_5⟩ := vA3.l6)
    | (go_at_call 104; (with_reducible refine Calls.mono (specPutR v3 (xs ++ putB kd ++ hdB (p, q, d) ++ putB vl) (m : Int) _ _ ((Owns.step o3 (by repeat (first | exact Below.refl _ _ | refine Below.al2 ?_ _ | refine Below.drew ?_ | refine below_drewN2 ?_ _))).rdT z3) (by simp only [List.length_append]; omega)) ?_); rintro e w5 ⟨v4, rfl, z4, o4, b_⟩; have HB4 : Hid (Below w.heap.size w w5) := HB3.out.trans (Below.mono (Below.trans (by repeat (first | exact Below.refl _ _ | refine Below.al2 ?_ _ | refine Below.drew ?_ | refine below_drewN2 ?_ _)) b_) HB3.out.size); have vA4 : VarA w5 w.heap.size 59 #[.int .i64 kd, .int .i64 p, .int .i64 q, .bool d, .int .i64 vl, .slice a m cap] := VarA.step vA3 (Below.trans (by repeat (first | exact Below.refl _ _ | refine Below.al2 ?_ _ | refine Below.drew ?_ | refine below_drewN2 ?_ _)) b_); clear b_; obtain ⟨c4_0, c4_1, c4_2, c4_3, c4_4, c4_5⟩ := vA4.l6))
  all_goals
    have hsz := HB3.out.size
    have HO0 : Hid (Owns w5 w.heap.size v4 (xs ++ putB kd ++ hdB (p, q, d) ++ putB vl ++ putB (m : Int))) := o4.base (b' := w.heap.size) hsz
    have HZ0 : Hid _ := z4
    have HBB := HB4
    have vA := vA4
    clear o1 o2 o3 o4 z1 z2 z3 z4 vA1 vA2 vA3 vA4 c1_0 c1_1 c1_2 c1_3 c1_4 c1_5 c2_0 c2_1 c2_2 c2_3 c2_4 c2_5 c3_0 c3_1 c3_2 c3_3 c3_4 c3_5 c4_0 c4_1 c4_2 c4_3 c4_4 c4_5 HB1 HB2 HB3 HB4
    obtain ⟨ys, hys⟩ : ∃ ys, xs ++ putB kd ++ hdB (p, q, d) ++ putB vl ++ putB (m : Int) = ys := ⟨_, rfl⟩
    have hyl : ys.length ≤ 1700100 := by rw [← hys]; simp only [List.length_append]; omega
    have HGO : Hid (xs ++ (putB kd ++ (hdB (p, q, d) ++ (putB vl ++ (putB (m : Int) ++ ensB es)))) = ys ++ ensB es) := by show _ = _; rw [← hys]; simp [List.append_assoc]
    rw [hys] at HO0 HZ0
    clear hys h1 h2 h3 h4 hsz hl HR
    obtain ⟨a0_, a1_, a2_, a3_, a4_, a5_⟩ := vA.l6
    go_wp2
    go_loopw [0, 5] (fun q' i wr => ∃ (k : Nat) (u : Value), k ≤ m ∧ i = .int .i64 k ∧ u = q' ∧ Hid (isBytes (ys ++ ensB (es.take k))) ∧ Hid (Owns wr w.heap.size u (ys ++ ensB (es.take k))) ∧ Hid (Below w.heap.size w wr) ∧ VarA wr w.heap.size 59 #[.int .i64 kd, .int .i64 p, .int .i64 q, .bool d, .int .i64 vl, .slice a m cap]) (fun _ i _ => m - (intOf i).toNat)
    case atStart => exact ⟨0, v4, Nat.zero_le _, rfl, rfl, by show isBytes _; rw [List.take_zero]; simp only [ensB, List.flatMap_nil, List.append_nil]; exact HZ0.out, by show Owns _ _ _ _; simpa [ensB] using HO0.out, HBB, vA⟩
    case round =>
      clear HO0 HZ0 HBB vA a0_ a1_ a2_ a3_ a4_ a5_
      obtain ⟨k, u, hk, rfl, rfl, HZ, HO, hbel, vA⟩ := hrel
      obtain ⟨a0_, a1_, a2_, a3_, a4_, a5_⟩ := vA.l6
      have hvl_ := vA.lt
      by_cases hlt : k < m
      case neg =>
        have he : k = m := by omega
        subst he
        go_wp2
        go_ret
        exact ⟨_, rfl, by rw [HGO.out, ← HEA.out]; exact HZ.out, by rw [HGO.out, ← HEA.out]; exact HO.out, hbel.out⟩
      obtain ⟨b, off, rfl, hbl, _, hx⟩ := RdV.at (HR2.out wr hbel.out) hlt
      obtain ⟨e, he⟩ : ∃ e, es[k]?.getD en0 = e := ⟨_, rfl⟩
      obtain ⟨x0, c0, r0⟩ := hx 0 (by omega)
      obtain ⟨x1, c1, r1⟩ := hx 1 (by omega)
      obtain ⟨x2, c2, r2⟩ := hx 2 (by omega)
      obtain ⟨x3, c3, r3⟩ := hx 3 (by omega)
      rw [he] at r0 r1 r2 r3
      have HNX : Hid (ensB (es.take (k + 1)) = ensB (es.take k) ++ enB e) := by rw [HN.out k hlt, he]; rfl
      have hnz : e.nm.length ≤ 1048576 := by have h1 := szEns_at es k; rw [he] at h1; have h2 := HL.out; omega
      clear hx he
      obtain ⟨nm, ⟨s, ino, dd⟩⟩ := e
      obtain rfl : x1 = .int .i64 s := r1
      obtain rfl : x2 = .int .i64 ino := r2
      obtain rfl : x3 = .bool dd := r3
      simp only [Nat.add_zero] at c0
      dsimp only at hnz HNX
      have RB : Hid (∀ W, Below wr.heap.size wr W → RdV W S2 x0 (.bytes nm)) := fun W hW => RdV.step (show RdV wr S2 x0 (.bytes nm) from r0) hW
      clear r0
      have hkl := HEL.out k hk
      have h5 := textB_len nm
      have hws := hbel.out.size
      go_wp2
      go_region_held3 (fun w' => w'.cell? ⟨w.heap.size, 5, none⟩ = some (.slice (some ⟨b, off, none⟩) m cap) ∧ w'.cell? ⟨b, off + k * 4, none⟩ = some x0 ∧ w'.cell? ⟨b, off + k * 4 + 1, none⟩ = some (.int .i64 s) ∧ w'.cell? ⟨b, off + k * 4 + 2, none⟩ = some (.int .i64 ino) ∧ w'.cell? ⟨b, off + k * 4 + 3, none⟩ = some (.bool dd)) (first | go_keep | (refine ⟨?_, ?_, ?_, ?_, ?_⟩ <;> assumption)) (first
        | (go_at_call 121; (with_reducible refine Calls.mono (specTextR u x0 (ys ++ ensB (es.take k)) nm _ S2 _ ((Owns.step HO.out (by repeat (first | exact Below.refl _ _ | refine Below.al2 ?_ _ | refine Below.drew ?_ | refine below_drewN2 ?_ _))).rdT HZ.out) (RB.out _ (by repeat (first | exact Below.refl _ _ | refine Below.al2 ?_ _ | refine Below.drew ?_ | refine below_drewN2 ?_ _))) (by simp only [List.length_append]; omega) (by omega)) ?_); rintro e w2 ⟨v1, rfl, z1, o1, b_⟩; have b1 : Below wr.heap.size wr w2 := Below.trans (by repeat (first | exact Below.refl _ _ | refine Below.al2 ?_ _ | refine Below.drew ?_ | refine below_drewN2 ?_ _)) b_; clear b_; have d5 := (b1.cell (p := ⟨w.heap.size, 5, none⟩) hvl_).trans a5_; have e0 := (b1.cell (p := ⟨b, off + k * 4, none⟩) hbl).trans c0; have e1 := (b1.cell (p := ⟨b, off + k * 4 + 1, none⟩) hbl).trans c1; have e2 := (b1.cell (p := ⟨b, off + k * 4 + 2, none⟩) hbl).trans c2; have e3 := (b1.cell (p := ⟨b, off + k * 4 + 3, none⟩) hbl).trans c3)
        | (go_at_call 109; (with_reducible refine Calls.mono (specHandX v1 (ys ++ ensB (es.take k) ++ textB nm) s ino dd _ _ ((Owns.step o1 (by repeat (first | exact Below.refl _ _ | refine Below.al2 ?_ _ | refine Below.drew ?_ | refine below_drewN2 ?_ _))).rdT z1) (by simp only [List.length_append]; omega)) ?_); rintro e w3 ⟨v2, rfl, z2, o2, b_⟩; have b2 : Below wr.heap.size wr w3 := b1.trans (b_.mono b1.size); clear b_; have f5 := (b2.cell (p := ⟨w.heap.size, 5, none⟩) hvl_).trans a5_; have g0 := (b2.cell (p := ⟨b, off + k * 4, none⟩) hbl).trans c0; have g1 := (b2.cell (p := ⟨b, off + k * 4 + 1, none⟩) hbl).trans c1; have g2 := (b2.cell (p := ⟨b, off + k * 4 + 2, none⟩) hbl).trans c2; have g3 := (b2.cell (p := ⟨b, off + k * 4 + 3, none⟩) hbl).trans c3))
      all_goals
        have HZ2 : Hid (isBytes (ys ++ ensB (es.take (k + 1)))) := by show isBytes _; rw [HNX.out]; simpa [enB, List.append_assoc] using z2
        have HO2 : Hid (Owns w3 w.heap.size v2 (ys ++ ensB (es.take (k + 1)))) := by
          have o_ := o2.base (b' := w.heap.size) (Nat.le_trans hws b1.size)
          show Owns _ _ _ _
          rw [HNX.out]; simpa [enB, List.append_assoc] using o_
        have HB2 : Hid (Below w.heap.size w w3) := hbel.out.trans (b2.mono hws)
        have vA2 := vA.step b2
        clear HZ HO hbel z1 z2 o1 o2
        go_wp2
        refine ⟨?_, ?_⟩
        · exact ⟨k + 1, v2, by omega, by go_num, rfl, HZ2, HO2, HB2, vA2⟩
        · simp [intOf]; omega
end Go.Proofs.Ytaaongjnpnanmaa
end
