/- Nodes and trees, copied by the verifier's helpers. Condition: no more than 2^21 of all. -/
import Derived.Test.YtaaongjnpnanmaaEnts2
namespace Go.Proofs.Ytaaongjnpnanmaa
open Go.RowKit
set_option linter.unusedVariables false

set_option maxHeartbeats 2000000 in
theorem toNode_any (x : Value) (n : Nd) (S : Nat → Prop) (w : World) (r : RdV w S x (ensDt n.es)) (hl : szEns n.es ≤ 2097152) :
    Calls Try.prog 92 #[ndV n x] w fun q w' => ∃ a m c, q = .returned (ndV n (.slice a m c)) ∧ OwV w' (fun b => w.heap.size ≤ b ∧ b < w'.heap.size) (.slice a m c) (ensDt n.es) ∧ Below w.heap.size w w' := by
  obtain ⟨a, cap, rfl, _⟩ := RdV.sliced r
  obtain ⟨⟨p, q, d⟩, ⟨p2, q2, d2⟩, lk, vl, es⟩ := n
  have HR : Hid (∀ W, Below w.heap.size w W → _) := r.old
  have HH : Hid (∀ W, _) := fun W => toHandle_any (p, q, d) W
  have HH2 : Hid (∀ W, _) := fun W => toHandle_any (p2, q2, d2) W
  have HL : Hid (szEns es ≤ 2097152) := hl
  clear r hl
  dsimp only at HR ⊢
  generalize es.length = n0 at HR
  go_enter Try.func92, Try.ntmps92
  go_wp2_with fail
  refine Calls.mono (HH.out _) ?_
  rintro e w2 ⟨rfl, b_⟩
  have hs2 := b_.size
  simp at hs2
  have vA : VarA w2 w.heap.size 125 #[.int .i64 p, .int .i64 q, .bool d, .int .i64 p2, .int .i64 q2, .bool d2, .int .i64 lk, .int .i64 vl, .slice a n0 cap] := VarA.step (((VarA.new w _ _).alloc _).alloc _) b_
  have vR : VarA w2 (w.heap.size + 1) 83 #[.int .i64 0, .int .i64 0, .bool false, .int .i64 0, .int .i64 0, .bool false, .int .i64 0, .int .i64 0, .slice none 0 0] := by
    have := VarA.step ((VarA.new (w.alloc _) _ _).alloc _) b_
    simpa using this
  have vO : VarA w2 (w.heap.size + 1 + 1) 83 #[.int .i64 0, .int .i64 0, .bool false, .int .i64 0, .int .i64 0, .bool false, .int .i64 0, .int .i64 0, .slice none 0 0] := by
    have := VarA.step (VarA.new ((w.alloc _).alloc _) _ _) b_
    simpa using this
  have HB : Hid (Below w.heap.size w w2) := ((((Below.refl _ _).alloc (Nat.le_refl _) _).alloc (by simp) _).alloc (by simp; omega) _).trans (b_.mono (by simp; omega))
  have HT : Hid (Turned (fun b => w.heap.size ≤ b ∧ b < w.heap.size + 3) w2 w2) := Turned.refl _ _
  have hz : w.heap.size + 3 ≤ w2.heap.size := by omega
  clear hs2 b_
  obtain ⟨a0_, a1_, a2_, a3_, a4_, a5_, a6_, a7_, a8_⟩ := vA.l9
  obtain ⟨o0_, o1_, o2_, o3_, o4_, o5_, o6_, o7_, o8_⟩ := vO.l9
  have fo_ := vO.fz
  go_wp2_with fail
  refine Calls.mono (HH2.out _) ?_
  rintro e w3 ⟨rfl, b_⟩
  clear a0_ a1_ a2_ a3_ a4_ a5_ a6_ a7_ a8_ o0_ o1_ o2_ o3_ o4_ o5_ o6_ o7_ o8_ fo_
  have vA_ := (vA |>.aside (p := ⟨w.heap.size + 1 + 1, 0, none⟩) (by dsimp only; omega) _ |>.aside (p := ⟨w.heap.size + 1 + 1, 1, none⟩) (by dsimp only; omega) _ |>.aside (p := ⟨w.heap.size + 1 + 1, 2, none⟩) (by dsimp only; omega) _).step b_
  have vR_ := (vR |>.aside (p := ⟨w.heap.size + 1 + 1, 0, none⟩) (by dsimp only; omega) _ |>.aside (p := ⟨w.heap.size + 1 + 1, 1, none⟩) (by dsimp only; omega) _ |>.aside (p := ⟨w.heap.size + 1 + 1, 2, none⟩) (by dsimp only; omega) _).step b_
  have vO_ : VarA w3 (w.heap.size + 1 + 1) 83 #[.int .i64 p, .int .i64 q, .bool d, .int .i64 0, .int .i64 0, .bool false, .int .i64 0, .int .i64 0, .slice none 0 0] := (vO |>.set 0 _ |>.set 1 _ |>.set 2 _).step b_
  have t_ : Turned (fun b => w.heap.size ≤ b ∧ b < w.heap.size + 3) w2 w3 := (HT.out |>.set _ _ (by simp <;> omega) |>.set _ _ (by simp <;> omega) |>.set _ _ (by simp <;> omega)).andThen b_
  have HB_ : Hid (Below w.heap.size w w3) := Turned.below HB.out t_ HB.out.size (fun i hi => hi.1)
  have zs_ := t_.size
  clear vA vR vO HT HB b_ t_
  have HT : Hid (Turned (fun b => w.heap.size ≤ b ∧ b < w.heap.size + 3) w3 w3) := Turned.refl _ _
  have vA := vA_
  have vR := vR_
  have vO := vO_
  have HB := HB_
  clear vA_ vR_ vO_ HB_
  obtain ⟨a0_, a1_, a2_, a3_, a4_, a5_, a6_, a7_, a8_⟩ := vA.l9
  obtain ⟨o0_, o1_, o2_, o3_, o4_, o5_, o6_, o7_, o8_⟩ := vO.l9
  have fo_ := vO.fz
  go_wp2_with fail
  refine Calls.mono (toEntryS_any _ es S _ (HR.out _ (Turned.below HB.out (HT.out |>.set _ _ (by simp <;> omega) |>.set _ _ (by simp <;> omega) |>.set _ _ (by simp <;> omega) |>.set _ _ (by simp <;> omega) |>.set _ _ (by simp <;> omega)) HB.out.size (fun i hi => hi.1))) HL.out) ?_
  rintro e w4 ⟨ua, un, uc, rfl, o_, b_⟩
  clear a0_ a1_ a2_ a3_ a4_ a5_ a6_ a7_ a8_ o0_ o1_ o2_ o3_ o4_ o5_ o6_ o7_ o8_ fo_
  have vA_ := (vA |>.aside (p := ⟨w.heap.size + 1 + 1, 3, none⟩) (by dsimp only; omega) _ |>.aside (p := ⟨w.heap.size + 1 + 1, 4, none⟩) (by dsimp only; omega) _ |>.aside (p := ⟨w.heap.size + 1 + 1, 5, none⟩) (by dsimp only; omega) _ |>.aside (p := ⟨w.heap.size + 1 + 1, 6, none⟩) (by dsimp only; omega) _ |>.aside (p := ⟨w.heap.size + 1 + 1, 7, none⟩) (by dsimp only; omega) _).step b_
  have vR_ := (vR |>.aside (p := ⟨w.heap.size + 1 + 1, 3, none⟩) (by dsimp only; omega) _ |>.aside (p := ⟨w.heap.size + 1 + 1, 4, none⟩) (by dsimp only; omega) _ |>.aside (p := ⟨w.heap.size + 1 + 1, 5, none⟩) (by dsimp only; omega) _ |>.aside (p := ⟨w.heap.size + 1 + 1, 6, none⟩) (by dsimp only; omega) _ |>.aside (p := ⟨w.heap.size + 1 + 1, 7, none⟩) (by dsimp only; omega) _).step b_
  have vO_ : VarA w4 (w.heap.size + 1 + 1) 83 #[.int .i64 p, .int .i64 q, .bool d, .int .i64 p2, .int .i64 q2, .bool d2, .int .i64 lk, .int .i64 vl, .slice none 0 0] := (vO |>.set 3 _ |>.set 4 _ |>.set 5 _ |>.set 6 _ |>.set 7 _).step b_
  have t_ : Turned (fun b => w.heap.size ≤ b ∧ b < w.heap.size + 3) w3 w4 := (HT.out |>.set _ _ (by simp <;> omega) |>.set _ _ (by simp <;> omega) |>.set _ _ (by simp <;> omega) |>.set _ _ (by simp <;> omega) |>.set _ _ (by simp <;> omega)).andThen b_
  have HB_ : Hid (Below w.heap.size w w4) := Turned.below HB.out t_ HB.out.size (fun i hi => hi.1)
  have zs_ := t_.size
  have HO0 : Hid (OwV w4 (fun b => w3.heap.size ≤ b ∧ b < w4.heap.size) (.slice ua un uc) (ensDt es)) := o_.mono (fun b h => by simpa using h)
  clear vA vR vO HT HB b_ t_ o_
  have HT : Hid (Turned (fun b => w.heap.size ≤ b ∧ b < w.heap.size + 3) w4 w4) := Turned.refl _ _
  have vA := vA_
  have vR := vR_
  have vO := vO_
  have HB := HB_
  clear vA_ vR_ vO_ HB_
  obtain ⟨a0_, a1_, a2_, a3_, a4_, a5_, a6_, a7_, a8_⟩ := vA.l9
  obtain ⟨o0_, o1_, o2_, o3_, o4_, o5_, o6_, o7_, o8_⟩ := vO.l9
  have fo_ := vO.fz
  obtain ⟨r0_, r1_, r2_, r3_, r4_, r5_, r6_, r7_, r8_⟩ := vR.l9
  have fr_ := vR.fz
  clear vA vR vO
  go_wp2
  refine bodyPost_ret (v := .agg #[.int .i64 p, .int .i64 q, .bool d, .int .i64 p2, .int .i64 q2, .bool d2, .int .i64 lk, .int .i64 vl, .slice ua un uc]) (by simp [results, Try.results92, go_sem, r0_, r1_, r2_, r3_, r4_, r5_, r6_, r7_, r8_]) rfl ?_
  exact ⟨_, _, _, rfl, OwV.close HB.out (HO0.out.mono (fun b h => ⟨by omega, by omega⟩)) (by omega) (HT.out |>.set _ _ (by simp <;> omega) |>.set _ _ (by simp <;> omega) |>.set _ _ (by simp <;> omega) |>.set _ _ (by simp <;> omega) |>.set _ _ (by simp <;> omega) |>.set _ _ (by simp <;> omega) |>.set _ _ (by simp <;> omega) |>.set _ _ (by simp <;> omega) |>.set _ _ (by simp <;> omega) |>.set _ _ (by simp <;> omega))⟩
theorem Try.infoNd : (Try.prog.info? 83).map (fun i => (i.zero, i.size, i.bytes)) = some (some (.agg #[.int .i64 0, .int .i64 0, .bool false, .int .i64 0, .int .i64 0, .bool false, .int .i64 0, .int .i64 0, .slice none 0 0]), 9, 88) := by kernel_rfl
/-- The first k of n are copied. -/
def PrtNd (l : List Nd) (B n k : Nat) (w : World) : Prop := OwV w (fun b => B ≤ b ∧ b < w.heap.size) (.slice (some ⟨B, 0, none⟩) n n) (.rows 83 9 n (fun i j => if i < k then ndCell (l[i]?.getD nd0) j else ndCell nd0 j))
theorem PrtNd.next {l : List Nd} {B n k : Nat} {w w2 : World} {u : Value} {e : Nd} (h : PrtNd l B n k w) (hk : k < n) (hB : B ≤ w.heap.size) (hb : Below w.heap.size w w2) (he : l[k]?.getD nd0 = e)
    (o : OwV w2 (fun b => w.heap.size ≤ b ∧ b < w2.heap.size) u (ensDt e.es)) : PrtNd l B n (k + 1) (((((((((w2.setCell ⟨B, k * 9, none⟩ (.int .i64 e.h.sh)).setCell ⟨B, k * 9 + 1, none⟩ (.int .i64 e.h.ino)).setCell ⟨B, k * 9 + 2, none⟩ (.bool e.h.dir)).setCell ⟨B, k * 9 + 3, none⟩ (.int .i64 e.par.sh)).setCell ⟨B, k * 9 + 4, none⟩ (.int .i64 e.par.ino)).setCell ⟨B, k * 9 + 5, none⟩ (.bool e.par.dir)).setCell ⟨B, k * 9 + 6, none⟩ (.int .i64 e.links)).setCell ⟨B, k * 9 + 7, none⟩ (.int .i64 e.val)).setCell ⟨B, k * 9 + 8, none⟩ u) := by
  have hs := hb.size
  have h2 := OwV.step h hb
  have p0 := OwV.put0 h2 hk (j := 0) (by omega) (u := .int .i64 e.h.sh) (d := .int e.h.sh) rfl
  have p1 := OwV.put0 p0 hk (j := 1) (by omega) (u := .int .i64 e.h.ino) (d := .int e.h.ino) rfl
  have p2 := OwV.put0 p1 hk (j := 2) (by omega) (u := .bool e.h.dir) (d := .bool e.h.dir) rfl
  have p3 := OwV.put0 p2 hk (j := 3) (by omega) (u := .int .i64 e.par.sh) (d := .int e.par.sh) rfl
  have p4 := OwV.put0 p3 hk (j := 4) (by omega) (u := .int .i64 e.par.ino) (d := .int e.par.ino) rfl
  have p5 := OwV.put0 p4 hk (j := 5) (by omega) (u := .bool e.par.dir) (d := .bool e.par.dir) rfl
  have p6 := OwV.put0 p5 hk (j := 6) (by omega) (u := .int .i64 e.links) (d := .int e.links) rfl
  have p7 := OwV.put0 p6 hk (j := 7) (by omega) (u := .int .i64 e.val) (d := .int e.val) rfl
  have K_ : Keeps (fun b => w.heap.size ≤ b ∧ b < w2.heap.size) w2 _ := ((Turned.refl (fun b => b = B) w2) |>.set ⟨B, k * 9 + 0, none⟩ (.int .i64 e.h.sh) rfl |>.set ⟨B, k * 9 + 1, none⟩ (.int .i64 e.h.ino) rfl |>.set ⟨B, k * 9 + 2, none⟩ (.bool e.h.dir) rfl |>.set ⟨B, k * 9 + 3, none⟩ (.int .i64 e.par.sh) rfl |>.set ⟨B, k * 9 + 4, none⟩ (.int .i64 e.par.ino) rfl |>.set ⟨B, k * 9 + 5, none⟩ (.bool e.par.dir) rfl |>.set ⟨B, k * 9 + 6, none⟩ (.int .i64 e.links) rfl |>.set ⟨B, k * 9 + 7, none⟩ (.int .i64 e.val) rfl).keeps (fun b hb e => by subst e; have := OwV.lt0 h hk; omega)
  have p8 := OwV.put p7 hk (j := 8) (by omega) (o.keep K_) (fun b hb hs => by omega)
  refine OwV.mono (fun b hb => ?_) (OwV.congr p8 (fun i j hi hj => ?_))
  · have hz : (((((((((w2.setCell ⟨B, k * 9, none⟩ (.int .i64 e.h.sh)).setCell ⟨B, k * 9 + 1, none⟩ (.int .i64 e.h.ino)).setCell ⟨B, k * 9 + 2, none⟩ (.bool e.h.dir)).setCell ⟨B, k * 9 + 3, none⟩ (.int .i64 e.par.sh)).setCell ⟨B, k * 9 + 4, none⟩ (.int .i64 e.par.ino)).setCell ⟨B, k * 9 + 5, none⟩ (.bool e.par.dir)).setCell ⟨B, k * 9 + 6, none⟩ (.int .i64 e.links)).setCell ⟨B, k * 9 + 7, none⟩ (.int .i64 e.val)).setCell ⟨B, k * 9 + 8, none⟩ u).heap.size = w2.heap.size := by simp
    show B ≤ b ∧ b < (((((((((w2.setCell ⟨B, k * 9, none⟩ (.int .i64 e.h.sh)).setCell ⟨B, k * 9 + 1, none⟩ (.int .i64 e.h.ino)).setCell ⟨B, k * 9 + 2, none⟩ (.bool e.h.dir)).setCell ⟨B, k * 9 + 3, none⟩ (.int .i64 e.par.sh)).setCell ⟨B, k * 9 + 4, none⟩ (.int .i64 e.par.ino)).setCell ⟨B, k * 9 + 5, none⟩ (.bool e.par.dir)).setCell ⟨B, k * 9 + 6, none⟩ (.int .i64 e.links)).setCell ⟨B, k * 9 + 7, none⟩ (.int .i64 e.val)).setCell ⟨B, k * 9 + 8, none⟩ u).heap.size
    rw [hz]
    rcases hb with hb | hb <;> omega
  · by_cases hik : i = k
    · subst hik
      rw [if_pos (by omega), he]
      match j, hj with
      | 0, _ => simp [upd]; rfl
      | 1, _ => simp [upd]; rfl
      | 2, _ => simp [upd]; rfl
      | 3, _ => simp [upd]; rfl
      | 4, _ => simp [upd]; rfl
      | 5, _ => simp [upd]; rfl
      | 6, _ => simp [upd]; rfl
      | 7, _ => simp [upd]; rfl
      | 8, _ => simp [upd]; rfl
    · have e1 : (i < k + 1) = (i < k) := by simp; omega
      simp only [upd, hik, false_and, if_false, e1]

set_option maxHeartbeats 2000000 in
theorem toNodeS_any (v : Value) (l : List Nd) (S : Nat → Prop) (w : World) (r : RdV w S v (ndsDt l)) (hl : szNds l ≤ 2097152) :
    Calls Try.prog 45 #[v] w fun e w' => ∃ a n c, e = .returned (.slice a n c) ∧ OwV w' (fun b => w.heap.size ≤ b ∧ b < w'.heap.size) (.slice a n c) (ndsDt l) ∧ Below w.heap.size w w' := by
  obtain ⟨a, cap, rfl, _⟩ := RdV.sliced r
  have HR : Hid (∀ W, Below w.heap.size w W → RdV W S (.slice a l.length cap) (ndsDt l)) := r.old
  have HD : Hid (ndsDt l = .rows 83 9 l.length (fun i j => ndCell (l[i]?.getD nd0) j)) := rfl
  have hnn : l.length ≤ 2097152 := by unfold szNds at hl; omega
  have HL : Hid _ := hl
  clear r hl
  rw [HD.out] at HR ⊢
  clear HD
  generalize l.length = n at hnn HR ⊢
  obtain ⟨i0, hi, hz0, hz1, hz2⟩ := info_parts Try.infoNd
  go_enter Try.func45, Try.ntmps45
  go_wp2_with (at_make; refine wpList_make_full _ rfl _ _ 27 rfl w.heap.size 83 i0 (.agg #[.int .i64 0, .int .i64 0, .bool false, .int .i64 0, .int .i64 0, .bool false, .int .i64 0, .int .i64 0, .slice none 0 0]) 9 Try.underlying27 hi hz0 hz1 .i64 .i64 _ _ n rfl rfl rfl rfl (by rw [hz2]; omega) (by unfold maxLen; omega) (Nat.le_refl _) ?_; intro w1 hown hgrow)
  have hb1 : Below w.heap.size w w1 := (Below.refl _ _).grown hgrow (Nat.le_refl _) (fun k h => by cases h)
  have HP : Hid (PrtNd l w.heap.size n 0 w1) := (OwV.made rfl hown (fun j => ndCell nd0 j) (fun j hj => by
    match j, hj with
    | 0, _ => rfl
    | 1, _ => rfl
    | 2, _ => rfl
    | 3, _ => rfl
    | 4, _ => rfl
    | 5, _ => rfl
    | 6, _ => rfl
    | 7, _ => rfl
    | 8, _ => exact OwV.nilR _ _ _ _ _
    )).congr (fun i j _ _ => by simp)
  clear hgrow hown
  go_loopw [4] (fun i wr => ∃ k : Nat, k ≤ n ∧ i = .int .i64 k ∧ Hid (PrtNd l w.heap.size n k wr) ∧ Below w.heap.size w wr) (fun i _ => n - (intOf i).toNat)
  case atStart => exact ⟨0, Nat.zero_le _, rfl, HP, hb1⟩
  case round =>
    clear HP hb1
    obtain ⟨k, hk, rfl, HP, hbel⟩ := hrel
    by_cases hlt : k < n
    · obtain ⟨b, off, rfl, hbl, _, hx⟩ := RdV.at (HR.out wr hbel) hlt
      obtain ⟨e, he⟩ : ∃ e, l[k]?.getD nd0 = e := ⟨_, rfl⟩
      obtain ⟨x0, c0, r0⟩ := hx 0 (by omega)
      obtain ⟨x1, c1, r1⟩ := hx 1 (by omega)
      obtain ⟨x2, c2, r2⟩ := hx 2 (by omega)
      obtain ⟨x3, c3, r3⟩ := hx 3 (by omega)
      obtain ⟨x4, c4, r4⟩ := hx 4 (by omega)
      obtain ⟨x5, c5, r5⟩ := hx 5 (by omega)
      obtain ⟨x6, c6, r6⟩ := hx 6 (by omega)
      obtain ⟨x7, c7, r7⟩ := hx 7 (by omega)
      obtain ⟨x8, c8, r8⟩ := hx 8 (by omega)
      rw [he] at r0 r1 r2 r3 r4 r5 r6 r7 r8
      have HE : Hid _ := he
      have HZ : Hid (szEns e.es ≤ 2097152) := by have h1 := szNds_at l k; rw [he] at h1; have h2 := HL.out; show _ ≤ _; omega
      clear hx he
      obtain ⟨⟨p, q, d⟩, ⟨p2, q2, d2⟩, lk, vl, es⟩ := e
      obtain rfl : x0 = .int .i64 p := r0
      obtain rfl : x1 = .int .i64 q := r1
      obtain rfl : x2 = .bool d := r2
      obtain rfl : x3 = .int .i64 p2 := r3
      obtain rfl : x4 = .int .i64 q2 := r4
      obtain rfl : x5 = .bool d2 := r5
      obtain rfl : x6 = .int .i64 lk := r6
      obtain rfl : x7 = .int .i64 vl := r7
      simp only [Nat.add_zero] at c0
      have RS : Hid (RdV wr S x8 (ensDt es)) := r8
      clear r8
      obtain ⟨xa, xc, rfl, _⟩ := RdV.sliced RS.out
      generalize es.length = xn at RS c8
      go_wp2_with fail
      refine Calls.mono (toNode_any _ ⟨(p, q, d), (p2, q2, d2), lk, vl, es⟩ S wr RS.out HZ.out) ?_
      rintro e w2 ⟨ua, un, uc, rfl, o2, b2⟩
      have hsz := hbel.size
      have HN : Hid _ := PrtNd.next HP.out hlt hbel.size b2 HE.out o2
      obtain ⟨hbad, _⟩ | ⟨g, cp, hg, _, hgl, hfz, hcs⟩ := OwV.head (OwV.step HP.out b2)
      · cases hbad
      simp only [Value.slice.injEq, Option.some.injEq, Addr.mk.injEq, and_true, true_and] at hg
      obtain ⟨rfl, rfl⟩ := hg
      obtain ⟨y0, k0⟩ := hcs (k * 9) (by omega)
      obtain ⟨y1, k1⟩ := hcs (k * 9 + 1) (by omega)
      obtain ⟨y2, k2⟩ := hcs (k * 9 + 2) (by omega)
      obtain ⟨y3, k3⟩ := hcs (k * 9 + 3) (by omega)
      obtain ⟨y4, k4⟩ := hcs (k * 9 + 4) (by omega)
      obtain ⟨y5, k5⟩ := hcs (k * 9 + 5) (by omega)
      obtain ⟨y6, k6⟩ := hcs (k * 9 + 6) (by omega)
      obtain ⟨y7, k7⟩ := hcs (k * 9 + 7) (by omega)
      obtain ⟨y8, k8⟩ := hcs (k * 9 + 8) (by omega)
      have hbe2 := hbel.trans (b2.mono hbel.size)
      clear HP o2 RS hcs b2
      go_wp2
      go_roundw
      case rel => exact ⟨k + 1, by omega, by go_num, HN.out, (((((((((hbe2.setCell (Nat.le_refl _) _).setCell (Nat.le_refl _) _).setCell (Nat.le_refl _) _).setCell (Nat.le_refl _) _).setCell (Nat.le_refl _) _).setCell (Nat.le_refl _) _).setCell (Nat.le_refl _) _).setCell (Nat.le_refl _) _).setCell (Nat.le_refl _) _)⟩
      case measure => simp [intOf]; omega
    · have hkn : k = n := by omega
      subst hkn
      go_wp2
      go_ret
      exact ⟨_, _, _, rfl, OwV.congr HP.out (fun i j hi hj => by rw [if_pos hi]), hbel⟩

set_option maxHeartbeats 1000000 in
theorem toTree_any (x : Value) (l : List Nd) (S : Nat → Prop) (w : World) (r : RdV w S x (ndsDt l)) (hl : szNds l ≤ 2097152) :
    Calls Try.prog 11 #[.agg #[x]] w fun q w' => ∃ a n c, q = .returned (.agg #[.slice a n c]) ∧ OwV w' (fun b => w.heap.size ≤ b ∧ b < w'.heap.size) (.slice a n c) (ndsDt l) ∧ Below w.heap.size w w' := by
  obtain ⟨a, cap, rfl, _⟩ := RdV.sliced r
  have HR : Hid (∀ W, Below w.heap.size w W → _) := r.old
  have HL : Hid (szNds l ≤ 2097152) := hl
  clear r hl
  generalize l.length = n0 at HR
  go_enter Try.func11, Try.ntmps11
  go_wp2_with fail
  refine Calls.mono (toNodeS_any _ l S _ (HR.out _ ?_) HL.out) ?_
  · exact ((((Below.refl _ _).alloc (Nat.le_refl _) _).alloc (by simp) _).alloc (by simp; omega) _)
  rintro e w2 ⟨ua, un, uc, rfl, o_, b_⟩
  have hs2 := b_.size
  simp at hs2
  have vA : VarA w2 w.heap.size 24 #[.slice a n0 cap] := VarA.step (((VarA.new w _ _).alloc _).alloc _) b_
  have vR : VarA w2 (w.heap.size + 1) 29 #[.slice none 0 0] := by
    have := VarA.step ((VarA.new (w.alloc _) _ _).alloc _) b_
    simpa using this
  have vO : VarA w2 (w.heap.size + 1 + 1) 29 #[.slice none 0 0] := by
    have := VarA.step (VarA.new ((w.alloc _).alloc _) _ _) b_
    simpa using this
  have HB : Hid (Below w.heap.size w w2) := ((((Below.refl _ _).alloc (Nat.le_refl _) _).alloc (by simp) _).alloc (by simp; omega) _).trans (b_.mono (by simp; omega))
  have HT : Hid (Turned (fun b => w.heap.size ≤ b ∧ b < w.heap.size + 3) w2 w2) := Turned.refl _ _
  have hz : w.heap.size + 3 ≤ w2.heap.size := by omega
  have HO0 : Hid (OwV w2 (fun b => w.heap.size + 3 ≤ b ∧ b < w2.heap.size) (.slice ua un uc) (ndsDt l)) := o_.mono (fun b h => by simpa [Nat.add_assoc] using h)
  clear hs2 b_ o_
  have a0_ := vA.l1
  have o0_ := vO.l1
  have fo_ := vO.fz
  have r0_ := vR.l1
  have fr_ := vR.fz
  clear vA vR vO
  go_wp2
  refine bodyPost_ret (v := .agg #[.slice ua un uc]) (by simp [results, Try.results11, go_sem, r0_]) rfl ?_
  exact ⟨_, _, _, rfl, OwV.close HB.out (HO0.out.mono (fun b h => ⟨h.1, by omega⟩)) (by omega) (HT.out |>.set _ _ (by simp <;> omega) |>.set _ _ (by simp <;> omega))⟩
end Go.Proofs.Ytaaongjnpnanmaa
