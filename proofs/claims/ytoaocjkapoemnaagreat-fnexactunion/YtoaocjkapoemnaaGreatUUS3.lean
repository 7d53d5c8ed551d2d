/- The specification's insert into a tree that is empty; no condition. -/
import Derived.Test.YtoaocjkapoemnaaGreatUSpecD11
namespace Go.Proofs.YtoaocjkapoemnaaGreat
open Go.RowKit
set_option linter.unusedVariables false
set_option linter.unusedSimpArgs false
set_option maxRecDepth 100000

set_option maxHeartbeats 4000000 in
theorem specInsert0_any (tb : Nat) (x : Value) (l : List Nd) (n : Nd) (lo : Nat) (L : Nat → Prop) (w : World) (vT : VarA w tb 26 #[.slice none 0 0]) (hLt : ¬ L tb) (rx : RdV w (fun b => L b ∧ b < w.heap.size) x (ensO n.es)) (hlo : lo ≤ w.heap.size) (hl0 : l = []) :
    Calls Tryz.prog 15 #[.pointer (some ⟨tb, 0, none⟩), ndV n x] w fun e w' => e = .returned (.tuple #[]) ∧ ∃ v', VarA w' tb 26 #[v'] ∧ SG w' lo L v' (insN l n) ∧ v'.ownBlock ≠ some tb ∧ Turned (fun b => b = tb) w w' := by
  obtain ⟨VV, hVV⟩ : ∃ V : Nat → Value, V = fun _ => undef := ⟨_, rfl⟩
  clear hVV
  have hle : l.length = 0 := by rw [hl0]; rfl
  have vT : VarA w tb 26 #[.slice none l.length 0] := by rw [hle]; exact vT
  obtain ⟨xa, xc, rfl, _⟩ := RdV.sliced (RdV.en rx)
  obtain ⟨⟨p, q, d⟩, ⟨p2, q2, d2⟩, lk, vl, es⟩ := n
  have htb := vT.lt
  have HT : Hid (∀ W, Below w.heap.size w W → W.cell? ⟨tb, 0, none⟩ = some (.slice none l.length 0)) := fun W hW => (VarA.step vT hW).l1
  have HTF : Hid (∀ W, Below w.heap.size w W → W.frozen? ⟨tb, 0, none⟩ = false) := fun W hW => (VarA.step vT hW).f 0
  have HTV : Hid (∀ W, Below w.heap.size w W → VarA W tb 26 #[.slice none l.length 0]) := fun W hW => VarA.step vT hW
  have HV0 : Hid (∀ W, Below w.heap.size w W → ∀ i, i < l.length → RdV W (fun b => L b ∧ b < w.heap.size) (VV i) (ensO (l[i]?.getD nd0).es)) := fun W hW i hi => by omega
  have HV2 : Hid (∀ W, Below w.heap.size w W → ∀ k, k ≤ l.length → LiesN W none 0 (l.take k) VV ∧ LiesN W (if 0 = k then none else (none : Option Addr).map (·.add (k * 9))) (0 - k) (l.drop k) (fun i => VV (k + i))) := fun W hW k hk => ⟨.inl ⟨rfl, by rw [hl0]; simp, rfl⟩, .inl ⟨by split <;> rfl, by rw [hl0]; simp, by omega⟩⟩
  have HRX : Hid (∀ W, Below w.heap.size w W → RdV W (fun b => L b ∧ b < w.heap.size) (.slice xa es.length xc) (ensO es)) := fun W hW => RdV.step rx hW
  have HLE : Hid (∀ a W, _) := fun a W => specLess_any a (p, q, d) W
  have HLZ : Hid (l.length = 0) := hle
  clear rx hl0 hle vT
  go_enter Tryz.func15, Tryz.ntmps15
  go_wp2
  go_loopw [4] (fun i wr => ∃ k : Nat, k ≤ l.length ∧ i = .int .i64 k ∧ Below w.heap.size w wr ∧ VarA wr w.heap.size 54 #[.int .i64 p, .int .i64 q, .bool d, .int .i64 p2, .int .i64 q2, .bool d2, .int .i64 lk, .int .i64 vl, .slice xa es.length xc] ∧ Hid (∀ i, i < k → lessH (l[i]?.getD nd0).h (p, q, d) = true)) (fun i _ => l.length - (intOf i).toNat)
  case atStart => exact ⟨0, Nat.zero_le _, rfl, Below.newH _, VarA.new w _ _, fun i hi => absurd hi (Nat.not_lt_zero _)⟩
  case round =>
    obtain ⟨k, hk, rfl, bw, vN, HA⟩ := hrel
    have c0 := HT.out _ bw
    have htw : tb < wr.heap.size := Nat.lt_of_lt_of_le htb bw.size
    haveI : Nonempty (Cls wr) := Cls.ne wr
    have kc0 := Cls.cell htw c0
    by_cases hlt : k < l.length
    · have := HLZ.out; omega
    · have HP : Hid (plN l (p, q, d) = k) := plN_at l (p, q, d) k hk HA.out (fun h => absurd h hlt)
      have hlt9 : ¬ (k : Int) < (l.length : Int) := by omega
      go_wp2
      refine wp_region_cls (by kernel_rfl) (by kernel_rfl) ?_
      repeat (go_big_quiet_step (fail))
      refine wpQuiet_nil ?_
      rintro w' ⟨⟨w', hb'⟩, rfl⟩
      have B1 : Below w.heap.size w w' := bw.trans (hb'.mono bw.size)
      have HV1 : Hid (VarA w' w.heap.size 54 #[.int .i64 p, .int .i64 q, .bool d, .int .i64 p2, .int .i64 q2, .bool d2, .int .i64 lk, .int .i64 vl, .slice xa es.length xc]) := vN.step hb'
      have s1 := B1.size
      have hvl := HV1.out.lt
      have c11 := HT.out _ B1
      have htl : (l.take k).length = k := by rw [List.length_take]; omega
      have hdl : (l.drop k).length = l.length - k := List.length_drop
      have hl6 : (l.take k ++ [(⟨(p, q, d), (p2, q2, d2), lk, vl, es⟩ : Nd)]).length = k + 1 := by rw [List.length_append, htl]; rfl
      have H2 : Hid _ := (HV2.out _ B1 k hk).1
      have H1 : Hid (∀ i, i < (l.take k).length → RdV w' (EntL w' L (.slice none 0 0)) (VV i) (ensO ((l.take k)[i]?.getD nd0).es)) := fun i hi => by
        rw [getD_take _ _ _ _ hi]
        exact RdV.mono (fun b hb => ⟨hb.1, by have := hb.2; omega, fun e => by cases e⟩) (HV0.out _ B1 i (by rw [List.length_take] at hi; omega))
      have HB1 : Hid (Below w.heap.size w w') := B1
      have hkc : k ≤ 0 := by have := HLZ.out; omega
      clear B1 vN bw hb'
      go_wp2_with (first | ((with_reducible refine guardSlice ?_); refine wpList_sl _ (sliceHN _ _ _ k hkc _) ?_) | ((with_reducible refine guardSlice ?_); refine wpList_sl _ (sliceLN _ _ _ k hk _) ?_) | (at_builtin; refine wpList_appN _ rfl (.tmp 28) (.tmp 34) rfl (.slice none 0 0) rfl [] (l.take k) w.heap.size _ _ (by rw [htl]; rfl) VV H2.out H1.out (SG.nil _ _ _) s1 (by rw [htl]; simp; omega) ?_; intro v5 w5 se5 hg5 hgg5; rw [List.nil_append] at se5; obtain ⟨a5, c5, rfl⟩ := se5.shapeN htl; have HB5 : Hid (Below w.heap.size w w5) := Below.grown HB1.out hg5 s1 (fun q hq => by cases hq); have s5 := HB5.out.size; have HV5 : Hid (VarA w5 w.heap.size 54 #[.int .i64 p, .int .i64 q, .bool d, .int .i64 p2, .int .i64 q2, .bool d2, .int .i64 lk, .int .i64 vl, .slice xa es.length xc]) := (hg5.block _ hvl (fun e => by cases e)).trans HV1.out; have hvl5 := HV5.out.lt; have HSG5 : Hid (SG w5 w.heap.size L _ _) := se5; obtain ⟨n0, n1, n2, n3, n4, n5, n6, n7, n8⟩ := HV5.out.l9; clear se5 hg5 hgg5 c11 H1 H2 HB1 HV1) | (at_builtin; refine wpList_appN (w5.alloc (.cells #[.int .i64 p, .int .i64 q, .bool d, .int .i64 p2, .int .i64 q2, .bool d2, .int .i64 lk, .int .i64 vl, .slice xa es.length xc] 54)) rfl (.tmp 36) (.tmp 38) rfl (.slice a5 k c5) rfl (l.take k) [⟨(p, q, d), (p2, q2, d2), lk, vl, es⟩] w.heap.size 1 (some ⟨w5.heap.size, 0, none⟩) (by rfl) (fun _ => .slice xa es.length xc) (.inr ⟨_, rfl, fun t u ht => World.news_of_block (heap_alloc_new _ _) t u (by rw [ndRow_one] at ht; exact ht)⟩) (fun i hi => by obtain rfl : i = 0 := (by simpa using hi); exact RdV.mono (fun b hb => ⟨hb.1, by have := hb.2; simp; omega, fun e => by have := HSG5.out.lt b e; have := hb.2; omega⟩) (HRX.out _ (HB5.out.alloc s5 _))) (SG.step HSG5.out (Below.newH _)) (by simp; omega) (by rw [htl]; simp; omega) ?_; intro v6 w6 se6 hg6 hgg6; obtain ⟨a6, c6, rfl⟩ := se6.shapeN hl6; have HB6 : Hid (Below w.heap.size w w6) := Below.grown (HB5.out.alloc s5 _) hg6 (by simp; omega) (fun q hq => (HSG5.out.lt q hq).1); have s6 := HB6.out.size; have HSG6 : Hid (SG w6 w.heap.size L _ _) := se6; have c16 := HT.out _ HB6.out; clear se6 hg6 hgg6 n0 n1 n2 n3 n4 n5 n6 n7 n8) | (at_builtin; refine wpList_appN _ rfl (.tmp 41) (.tmp 47) rfl (.slice a6 (k + 1) c6) rfl _ (l.drop k) w.heap.size _ _ (by rw [hdl]; rfl) (fun i => VV (k + i)) (HV2.out _ HB6.out k hk).2 (fun i hi => by rw [getD_drop]; exact RdV.mono (fun b hb => ⟨hb.1, by have := hb.2; omega, fun e => by have := HSG6.out.lt b e; have := hb.2; omega⟩) (HV0.out _ HB6.out (k + i) (by omega))) HSG6.out s6 (by rw [hl6, hdl]; omega) ?_; intro v7 w7 se7 hg7 hgg7; obtain ⟨n7, hn7⟩ : ∃ n, (l.take k ++ [(⟨(p, q, d), (p2, q2, d2), lk, vl, es⟩ : Nd)] ++ l.drop k).length = n := ⟨_, rfl⟩; obtain ⟨a7, c7, rfl⟩ := se7.shapeN hn7; clear hn7; have HB7 : Hid (Below w.heap.size w w7) := Below.grown HB6.out hg7 s6 (fun q hq => (HSG6.out.lt q hq).1); have HSG7 : Hid (SG w7 w.heap.size L _ _) := se7; have c17 := HT.out _ HB7.out; have f17 := HTF.out _ HB7.out; clear se7 hg7 hgg7))
      all_goals (go_end0; refine ⟨rfl, _, VarA.set (HTV.out _ HB7.out) 0 _, ?_, fun e => ?_, ?_⟩)
      all_goals first | (have := (HSG7.out.lt _ e).1; omega) | (exact Turned.set (Turned.ofBelow HB7.out) ⟨tb, 0, none⟩ _ rfl) | (unfold insN; rw [HP.out]; exact (SG.keep HSG7.out ⟨by simp, fun b hb _ => heap_setCell_other _ _ _ _ (fun e => by have e2 : b = tb := e; subst e2; exact hb.2.elim hLt (fun h => by have := (HSG7.out.lt _ h).1; omega))⟩).low hlo)
end Go.Proofs.YtoaocjkapoemnaaGreat
