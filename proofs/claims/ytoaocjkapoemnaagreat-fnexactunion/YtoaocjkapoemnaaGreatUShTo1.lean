/- What a shard has promised, copied by the verifier's helpers. Condition: no more than 2^21 of all. -/
import Derived.Test.YtoaocjkapoemnaaGreatUA00
namespace Go.Proofs.YtoaocjkapoemnaaGreat
open Go.RowKit
set_option linter.unusedVariables false
set_option linter.unusedSimpArgs false
set_option maxRecDepth 100000

set_option maxHeartbeats 4000000 in
theorem toIntent_any (x : Value) (e : ItD) (S : Nat → Prop) (w : World) (r : RdV w S x (.bytes e.pt.asn)) (hl : e.pt.asn.length ≤ 2097152) :
    Calls Tryz.prog 76 #[itV e x] w fun q w' => ∃ a n c, q = .returned (itV e (.slice a n c)) ∧ OwV w' (fun b => w.heap.size ≤ b ∧ b < w'.heap.size) (.slice a n c) (.bytes e.pt.asn) ∧ Below w.heap.size w w' := by
  obtain ⟨a, cap, rfl⟩ := r.sliceB
  obtain ⟨⟨xs, xb, xn⟩, ⟨pk, ⟨pp, pq, pd⟩, pas, ⟨sp, sq, sd⟩⟩, cd, ⟨fp, fq, fd⟩⟩ := e
  have HT_ : Hid (∀ W, _) := fun W => toTx_any (xs, xb, xn) W
  have HP_ : Hid (∀ W, Below w.heap.size w W → _) := fun W hW => toPart_any _ ⟨pk, (pp, pq, pd), pas, (sp, sq, sd)⟩ S W (r.step hW) hl
  have HF_ : Hid (∀ W, _) := fun W => toHandle_any (fp, fq, fd) W
  clear r hl
  dsimp only at HP_ ⊢
  generalize pas.length = n0 at HP_
  go_enter Tryz.func76, Tryz.ntmps76
  repeat (first | ((with_reducible refine guardLoad (ty := 125) ?_); refine wpList_loadF (vs := [.int .i64 xs, .int .i64 xb, .int .i64 xn]) (((VarA.new w _ _).alloc _).alloc _) rfl Tryz.underlying125 rfl (by kernel_rfl) rfl ?_) | go_values | go_skip | go_guarded | go_step)
  refine Calls.mono (HT_.out _) ?_
  rintro e w2 ⟨rfl, b_⟩
  have hs2 := b_.size
  simp at hs2
  have vA : VarA w2 w.heap.size 129 #[.int .i64 xs, .int .i64 xb, .int .i64 xn, .int .i64 pk, .int .i64 pp, .int .i64 pq, .bool pd, .slice a n0 cap, .int .i64 sp, .int .i64 sq, .bool sd, .int .i64 cd, .int .i64 fp, .int .i64 fq, .bool fd] := VarA.step (((VarA.new w _ _).alloc _).alloc _) b_
  have vR : VarA w2 (w.heap.size + 1) 111 #[.int .i64 0, .int .i64 0, .int .i64 0, .int .i64 0, .int .i64 0, .int .i64 0, .bool false, .slice none 0 0, .int .i64 0, .int .i64 0, .bool false, .int .i64 0, .int .i64 0, .int .i64 0, .bool false] := by
    have := VarA.step ((VarA.new (w.alloc _) _ _).alloc _) b_
    simpa using this
  have vO : VarA w2 (w.heap.size + 1 + 1) 111 #[.int .i64 0, .int .i64 0, .int .i64 0, .int .i64 0, .int .i64 0, .int .i64 0, .bool false, .slice none 0 0, .int .i64 0, .int .i64 0, .bool false, .int .i64 0, .int .i64 0, .int .i64 0, .bool false] := by
    have := VarA.step (VarA.new ((w.alloc _).alloc _) _ _) b_
    simpa using this
  have HB : Hid (Below w.heap.size w w2) := ((((Below.refl _ _).alloc (Nat.le_refl _) _).alloc (by simp) _).alloc (by simp; omega) _).trans (b_.mono (by simp; omega))
  have hz : w.heap.size + 3 ≤ w2.heap.size := by omega
  have hzF : w.heap.size + 3 ≤ w2.heap.size := by omega
  clear hs2 b_
  have HT : Hid (Turned (fun b => w.heap.size ≤ b ∧ b < w.heap.size + 3) w2 w2) := Turned.refl _ _
  dsimp only
  repeat (first | ((with_reducible refine guardStore (ty := 107) ?_); refine wpList_storeF vO rfl rfl (by kernel_rfl) rfl (of_decide_eq_true rfl) rfl ?_; intro w' vO_ t_; have vA_ := vA.turn t_ (by omega); have vR_ := vR.turn t_ (by omega); have HT_ : Hid _ := HT.out.trans (t_.one (S := fun b => w.heap.size ≤ b ∧ b < w.heap.size + 3) (by omega)); have hz_ := Nat.le_trans hz t_.size; clear vA vR vO HT hz t_; have vA := vA_; have vR := vR_; have vO := vO_; have HT := HT_; have hz := hz_; clear vA_ vR_ vO_ HT_ hz_) | ((with_reducible refine guardLoad (ty := 127) ?_); refine wpList_loadF (vs := [.int .i64 pk, .int .i64 pp, .int .i64 pq, .bool pd, .slice a n0 cap, .int .i64 sp, .int .i64 sq, .bool sd]) vA rfl Tryz.underlying127 rfl (by kernel_rfl) rfl ?_) | go_values | go_skip | go_guarded | go_step)
  refine Calls.mono (HP_.out _ (Turned.below HB.out (HT.out) HB.out.size (fun i hi => hi.1))) ?_
  rintro e w3 ⟨ua, un, uc, rfl, o_, b_⟩
  have vA_ := (vA).step b_
  have vR_ := (vR).step b_
  have vO_ : VarA w3 (w.heap.size + 1 + 1) 111 #[.int .i64 xs, .int .i64 xb, .int .i64 xn, .int .i64 0, .int .i64 0, .int .i64 0, .bool false, .slice none 0 0, .int .i64 0, .int .i64 0, .bool false, .int .i64 0, .int .i64 0, .int .i64 0, .bool false] := (vO).step b_
  have t_ : Turned (fun b => w.heap.size ≤ b ∧ b < w.heap.size + 3) w2 w3 := (HT.out).andThen b_
  have HB_ : Hid (Below w.heap.size w w3) := Turned.below HB.out t_ HB.out.size (fun i hi => hi.1)
  have zs_ := t_.size
  have HO0 : Hid (OwV w3 (fun b => w2.heap.size ≤ b ∧ b < w3.heap.size) (.slice ua un uc) (.bytes pas)) := o_.mono (fun b h => ⟨by have := HT.out.size; first | omega | (simp at h; omega), by omega⟩)
  have hz_ := Nat.le_trans hz (Nat.le_trans (Nat.le_of_eq (by simp)) b_.size)
  clear vA vR vO HT HB b_ t_ hz o_
  have vA := vA_
  have vR := vR_
  have vO := vO_
  have HB := HB_
  have hz := hz_
  clear vA_ vR_ vO_ HB_ hz_
  have HT : Hid (Turned (fun b => w.heap.size ≤ b ∧ b < w.heap.size + 3) w3 w3) := Turned.refl _ _
  dsimp only
  repeat (first | ((with_reducible refine guardStore (ty := 109) ?_); refine wpList_storeF vO rfl rfl (by kernel_rfl) rfl (of_decide_eq_true rfl) rfl ?_; intro w' vO_ t_; have vA_ := vA.turn t_ (by omega); have vR_ := vR.turn t_ (by omega); have HT_ : Hid _ := HT.out.trans (t_.one (S := fun b => w.heap.size ≤ b ∧ b < w.heap.size + 3) (by omega)); have hz_ := Nat.le_trans hz t_.size; clear vA vR vO HT hz t_; have vA := vA_; have vR := vR_; have vO := vO_; have HT := HT_; have hz := hz_; clear vA_ vR_ vO_ HT_ hz_; have a11_ := vA.c 11 rfl; have o11_ := vO.c 11 rfl; have fo_ := vO.fz) | ((with_reducible refine guardLoad (ty := 120) ?_); refine wpList_loadF (vs := [.int .i64 fp, .int .i64 fq, .bool fd]) (vA |>.aside (p := ⟨w.heap.size + 1 + 1, 11, none⟩) (by dsimp only; omega) _) rfl Tryz.underlying120 rfl (by kernel_rfl) rfl ?_) | go_values | go_skip | go_guarded | go_step)
  refine Calls.mono (HF_.out _) ?_
  rintro e w4 ⟨rfl, b_⟩
  clear a11_ o11_ fo_
  have vA_ := (vA |>.aside (p := ⟨w.heap.size + 1 + 1, 11, none⟩) (by dsimp only; omega) _).step b_
  have vR_ := (vR |>.aside (p := ⟨w.heap.size + 1 + 1, 11, none⟩) (by dsimp only; omega) _).step b_
  have vO_ : VarA w4 (w.heap.size + 1 + 1) 111 #[.int .i64 xs, .int .i64 xb, .int .i64 xn, .int .i64 pk, .int .i64 pp, .int .i64 pq, .bool pd, .slice ua un uc, .int .i64 sp, .int .i64 sq, .bool sd, .int .i64 cd, .int .i64 0, .int .i64 0, .bool false] := (vO |>.set 11 _).step b_
  have t_ : Turned (fun b => w.heap.size ≤ b ∧ b < w.heap.size + 3) w3 w4 := (HT.out |>.set _ _ (by simp <;> omega)).andThen b_
  have HB_ : Hid (Below w.heap.size w w4) := Turned.below HB.out t_ HB.out.size (fun i hi => hi.1)
  have zs_ := t_.size
  have HO0_ : Hid (OwV w4 (fun b => _ ∧ b < _) (.slice ua un uc) (.bytes pas)) := HO0.out.keep (t_.keeps (fun b hb hs => by omega))
  have hz_ := Nat.le_trans hz (Nat.le_trans (Nat.le_of_eq (by simp)) b_.size)
  clear vA vR vO HT HB b_ t_ hz HO0
  have vA := vA_
  have vR := vR_
  have vO := vO_
  have HB := HB_
  have hz := hz_
  have HO0 := HO0_
  clear vA_ vR_ vO_ HB_ hz_ HO0_
  have HT : Hid (Turned (fun b => w.heap.size ≤ b ∧ b < w.heap.size + 3) w4 w4) := Turned.refl _ _
  dsimp only
  repeat (first | ((with_reducible refine guardStore (ty := 51) ?_); refine wpList_storeF vO rfl rfl (by kernel_rfl) rfl (of_decide_eq_true rfl) rfl ?_; intro w' vO_ t_; have vA_ := vA.turn t_ (by omega); have vR_ := vR.turn t_ (by omega); have HT_ : Hid _ := HT.out.trans (t_.one (S := fun b => w.heap.size ≤ b ∧ b < w.heap.size + 3) (by omega)); have hz_ := Nat.le_trans hz t_.size; clear vA vR vO HT hz t_; have vA := vA_; have vR := vR_; have vO := vO_; have HT := HT_; have hz := hz_; clear vA_ vR_ vO_ HT_ hz_) | ((with_reducible refine guardLoad (ty := 111) ?_); refine wpList_loadA vO rfl Tryz.underlying111 rfl (by kernel_rfl) ?_) | ((with_reducible refine guardStore (ty := 111) ?_); refine wpList_storeF vR rfl rfl (by kernel_rfl) rfl (of_decide_eq_true rfl) rfl ?_; intro w' vR_ t_; have HT_ : Hid _ := HT.out.trans (t_.one (S := fun b => w.heap.size ≤ b ∧ b < w.heap.size + 3) (by omega)); clear vR HT t_; have vR := vR_; have HT := HT_; clear vR_ HT_) | go_values | go_skip | go_guarded | go_step)
  refine bodyPost_ret (results_cell_row Tryz.results76 _ _ _ _ _ _ _ rfl vR Tryz.underlying111 rfl (by kernel_rfl)) rfl ?_
  exact ⟨_, _, _, rfl, OwV.close HB.out (HO0.out.mono (fun b h => (⟨by omega, by omega⟩ : w.heap.size + 3 ≤ b ∧ _))) (by omega) HT.out⟩

theorem Tryz.infoItS : (Tryz.prog.info? 111).map (fun i => (i.zero, i.size, i.bytes)) = some (some (.agg #[.int .i64 0, .int .i64 0, .int .i64 0, .int .i64 0, .int .i64 0, .int .i64 0, .bool false, .slice none 0 0, .int .i64 0, .int .i64 0, .bool false, .int .i64 0, .int .i64 0, .int .i64 0, .bool false]), 15, 136) := by kernel_rfl
/-- The first k of n are copied. -/
def PrtIt (l : List ItD) (B n k : Nat) (w : World) : Prop := OwV w (fun b => B ≤ b ∧ b < w.heap.size) (.slice (some ⟨B, 0, none⟩) n n) (.rows 111 15 n (fun i j => if i < k then itCell (l[i]?.getD it0) j else itCell it0 j))
theorem PrtIt.next {l : List ItD} {B n k : Nat} {w w2 : World} {u7 : Value} {e : ItD} (h : PrtIt l B n k w) (hk : k < n) (hB : B ≤ w.heap.size) (hb : Below w.heap.size w w2) (he : l[k]?.getD it0 = e)
    (o7 : OwV w2 (fun b => w.heap.size ≤ b ∧ b < w2.heap.size) u7 (.bytes e.pt.asn))
    : PrtIt l B n (k + 1) (((((((((((((((w2.setCell ⟨B, k * 15, none⟩ (.int .i64 e.tx.1)).setCell ⟨B, k * 15 + 1, none⟩ (.int .i64 e.tx.2.1)).setCell ⟨B, k * 15 + 2, none⟩ (.int .i64 e.tx.2.2)).setCell ⟨B, k * 15 + 3, none⟩ (.int .i64 e.pt.kind)).setCell ⟨B, k * 15 + 4, none⟩ (.int .i64 e.pt.h.sh)).setCell ⟨B, k * 15 + 5, none⟩ (.int .i64 e.pt.h.ino)).setCell ⟨B, k * 15 + 6, none⟩ (.bool e.pt.h.dir)).setCell ⟨B, k * 15 + 7, none⟩ (u7)).setCell ⟨B, k * 15 + 8, none⟩ (.int .i64 e.pt.to.sh)).setCell ⟨B, k * 15 + 9, none⟩ (.int .i64 e.pt.to.ino)).setCell ⟨B, k * 15 + 10, none⟩ (.bool e.pt.to.dir)).setCell ⟨B, k * 15 + 11, none⟩ (.int .i64 e.code)).setCell ⟨B, k * 15 + 12, none⟩ (.int .i64 e.fr.sh)).setCell ⟨B, k * 15 + 13, none⟩ (.int .i64 e.fr.ino)).setCell ⟨B, k * 15 + 14, none⟩ (.bool e.fr.dir)) := by
  have hs := hb.size
  have h2 := OwV.step h hb
  have p0 := OwV.put0 h2 hk (j := 0) (by omega) (u := .int .i64 e.tx.1) (d := .int e.tx.1) rfl
  have p1 := OwV.put0 p0 hk (j := 1) (by omega) (u := .int .i64 e.tx.2.1) (d := .int e.tx.2.1) rfl
  have p2 := OwV.put0 p1 hk (j := 2) (by omega) (u := .int .i64 e.tx.2.2) (d := .int e.tx.2.2) rfl
  have p3 := OwV.put0 p2 hk (j := 3) (by omega) (u := .int .i64 e.pt.kind) (d := .int e.pt.kind) rfl
  have p4 := OwV.put0 p3 hk (j := 4) (by omega) (u := .int .i64 e.pt.h.sh) (d := .int e.pt.h.sh) rfl
  have p5 := OwV.put0 p4 hk (j := 5) (by omega) (u := .int .i64 e.pt.h.ino) (d := .int e.pt.h.ino) rfl
  have p6 := OwV.put0 p5 hk (j := 6) (by omega) (u := .bool e.pt.h.dir) (d := .bool e.pt.h.dir) rfl
  have K7 : Keeps (fun b => w.heap.size ≤ b ∧ b < w2.heap.size) w2 _ := ((Turned.refl (fun b => b = B) w2) |>.set ⟨B, k * 15 + 0, none⟩ (.int .i64 e.tx.1) rfl |>.set ⟨B, k * 15 + 1, none⟩ (.int .i64 e.tx.2.1) rfl |>.set ⟨B, k * 15 + 2, none⟩ (.int .i64 e.tx.2.2) rfl |>.set ⟨B, k * 15 + 3, none⟩ (.int .i64 e.pt.kind) rfl |>.set ⟨B, k * 15 + 4, none⟩ (.int .i64 e.pt.h.sh) rfl |>.set ⟨B, k * 15 + 5, none⟩ (.int .i64 e.pt.h.ino) rfl |>.set ⟨B, k * 15 + 6, none⟩ (.bool e.pt.h.dir) rfl).keeps (fun b hb e => by subst e; have := OwV.lt0 h hk; omega)
  have p7 := OwV.put p6 hk (j := 7) (by omega) (o7.keep K7) (fun b hb hs => by omega)
  have p8 := OwV.put0 p7 hk (j := 8) (by omega) (u := .int .i64 e.pt.to.sh) (d := .int e.pt.to.sh) rfl
  have p9 := OwV.put0 p8 hk (j := 9) (by omega) (u := .int .i64 e.pt.to.ino) (d := .int e.pt.to.ino) rfl
  have p10 := OwV.put0 p9 hk (j := 10) (by omega) (u := .bool e.pt.to.dir) (d := .bool e.pt.to.dir) rfl
  have p11 := OwV.put0 p10 hk (j := 11) (by omega) (u := .int .i64 e.code) (d := .int e.code) rfl
  have p12 := OwV.put0 p11 hk (j := 12) (by omega) (u := .int .i64 e.fr.sh) (d := .int e.fr.sh) rfl
  have p13 := OwV.put0 p12 hk (j := 13) (by omega) (u := .int .i64 e.fr.ino) (d := .int e.fr.ino) rfl
  have p14 := OwV.put0 p13 hk (j := 14) (by omega) (u := .bool e.fr.dir) (d := .bool e.fr.dir) rfl
  refine OwV.mono (fun b hb => ?_) (OwV.congr p14 (fun i j hi hj => ?_))
  · have hz : (((((((((((((((w2.setCell ⟨B, k * 15, none⟩ (.int .i64 e.tx.1)).setCell ⟨B, k * 15 + 1, none⟩ (.int .i64 e.tx.2.1)).setCell ⟨B, k * 15 + 2, none⟩ (.int .i64 e.tx.2.2)).setCell ⟨B, k * 15 + 3, none⟩ (.int .i64 e.pt.kind)).setCell ⟨B, k * 15 + 4, none⟩ (.int .i64 e.pt.h.sh)).setCell ⟨B, k * 15 + 5, none⟩ (.int .i64 e.pt.h.ino)).setCell ⟨B, k * 15 + 6, none⟩ (.bool e.pt.h.dir)).setCell ⟨B, k * 15 + 7, none⟩ (u7)).setCell ⟨B, k * 15 + 8, none⟩ (.int .i64 e.pt.to.sh)).setCell ⟨B, k * 15 + 9, none⟩ (.int .i64 e.pt.to.ino)).setCell ⟨B, k * 15 + 10, none⟩ (.bool e.pt.to.dir)).setCell ⟨B, k * 15 + 11, none⟩ (.int .i64 e.code)).setCell ⟨B, k * 15 + 12, none⟩ (.int .i64 e.fr.sh)).setCell ⟨B, k * 15 + 13, none⟩ (.int .i64 e.fr.ino)).setCell ⟨B, k * 15 + 14, none⟩ (.bool e.fr.dir)).heap.size = w2.heap.size := by simp
    show B ≤ b ∧ b < (((((((((((((((w2.setCell ⟨B, k * 15, none⟩ (.int .i64 e.tx.1)).setCell ⟨B, k * 15 + 1, none⟩ (.int .i64 e.tx.2.1)).setCell ⟨B, k * 15 + 2, none⟩ (.int .i64 e.tx.2.2)).setCell ⟨B, k * 15 + 3, none⟩ (.int .i64 e.pt.kind)).setCell ⟨B, k * 15 + 4, none⟩ (.int .i64 e.pt.h.sh)).setCell ⟨B, k * 15 + 5, none⟩ (.int .i64 e.pt.h.ino)).setCell ⟨B, k * 15 + 6, none⟩ (.bool e.pt.h.dir)).setCell ⟨B, k * 15 + 7, none⟩ (u7)).setCell ⟨B, k * 15 + 8, none⟩ (.int .i64 e.pt.to.sh)).setCell ⟨B, k * 15 + 9, none⟩ (.int .i64 e.pt.to.ino)).setCell ⟨B, k * 15 + 10, none⟩ (.bool e.pt.to.dir)).setCell ⟨B, k * 15 + 11, none⟩ (.int .i64 e.code)).setCell ⟨B, k * 15 + 12, none⟩ (.int .i64 e.fr.sh)).setCell ⟨B, k * 15 + 13, none⟩ (.int .i64 e.fr.ino)).setCell ⟨B, k * 15 + 14, none⟩ (.bool e.fr.dir)).heap.size
    rw [hz]
    rcases hb with hb | hb <;> omega
  · by_cases hik : i = k
    · subst hik
      rw [if_pos (by omega), he]
      match j, hj with
      | 0, _ => simp [upd]; rfl
      | 1, _ => simp [upd]; rfl
      | 2, _ => simp [upd]; rfl
      | 3, _ => simp [upd]; rfl
      | 4, _ => simp [upd]; rfl
      | 5, _ => simp [upd]; rfl
      | 6, _ => simp [upd]; rfl
      | 7, _ => simp [upd]; rfl
      | 8, _ => simp [upd]; rfl
      | 9, _ => simp [upd]; rfl
      | 10, _ => simp [upd]; rfl
      | 11, _ => simp [upd]; rfl
      | 12, _ => simp [upd]; rfl
      | 13, _ => simp [upd]; rfl
      | 14, _ => simp [upd]; rfl
    · have e1 : (i < k + 1) = (i < k) := by simp; omega
      simp only [upd, hik, false_and, if_false, e1]

set_option maxHeartbeats 4000000 in
theorem toIntentS_any (v : Value) (l : List ItD) (S : Nat → Prop) (w : World) (r : RdV w S v (itsDt l)) (hl : szIts l ≤ 2097152) :
    Calls Tryz.prog 45 #[v] w fun e w' => ∃ a n c, e = .returned (.slice a n c) ∧ OwV w' (fun b => w.heap.size ≤ b ∧ b < w'.heap.size) (.slice a n c) (itsDt l) ∧ Below w.heap.size w w' := by
  obtain ⟨a, cap, rfl, _⟩ := RdV.sliced r
  have HR : Hid (∀ W, Below w.heap.size w W → RdV W S (.slice a l.length cap) (itsDt l)) := r.old
  have HD : Hid (itsDt l = .rows 111 15 l.length (fun i j => itCell (l[i]?.getD it0) j)) := rfl
  have hnn : l.length ≤ 2097152 := by unfold szIts at hl; omega
  have HL : Hid _ := hl
  clear r hl
  rw [HD.out] at HR ⊢
  clear HD
  generalize l.length = n at hnn HR ⊢
  obtain ⟨i0, hi, hz0, hz1, hz2⟩ := info_parts Tryz.infoItS
  go_enter Tryz.func45, Tryz.ntmps45
  go_wp2_with (at_make; refine wpList_make_full _ rfl _ _ 44 rfl w.heap.size 111 i0 (.agg #[.int .i64 0, .int .i64 0, .int .i64 0, .int .i64 0, .int .i64 0, .int .i64 0, .bool false, .slice none 0 0, .int .i64 0, .int .i64 0, .bool false, .int .i64 0, .int .i64 0, .int .i64 0, .bool false]) 15 Tryz.underlying44 hi hz0 hz1 .i64 .i64 _ _ n rfl rfl rfl rfl (by rw [hz2]; omega) (by unfold maxLen; omega) (Nat.le_refl _) ?_; intro w1 hown hgrow)
  have hb1 : Below w.heap.size w w1 := (Below.refl _ _).grown hgrow (Nat.le_refl _) (fun k h => by cases h)
  have HP : Hid (PrtIt l w.heap.size n 0 w1) := (OwV.made rfl hown (fun j => itCell it0 j) (fun j hj => by
    match j, hj with
    | 0, _ => rfl
    | 1, _ => rfl
    | 2, _ => rfl
    | 3, _ => rfl
    | 4, _ => rfl
    | 5, _ => rfl
    | 6, _ => rfl
    | 7, _ => exact OwV.nilB _ _
    | 8, _ => rfl
    | 9, _ => rfl
    | 10, _ => rfl
    | 11, _ => rfl
    | 12, _ => rfl
    | 13, _ => rfl
    | 14, _ => rfl
    )).congr (fun i j _ _ => by simp)
  clear hgrow hown
  go_loopw [4] (fun i wr => ∃ k : Nat, k ≤ n ∧ i = .int .i64 k ∧ Hid (PrtIt l w.heap.size n k wr) ∧ Below w.heap.size w wr) (fun i _ => n - (intOf i).toNat)
  case atStart => exact ⟨0, Nat.zero_le _, rfl, HP, hb1⟩
  case round =>
    clear HP hb1
    obtain ⟨k, hk, rfl, HP, hbel⟩ := hrel
    by_cases hlt : k < n
    · obtain ⟨b, off, rfl, hbl, _, hx⟩ := RdV.at (HR.out wr hbel) hlt
      obtain ⟨e, he⟩ : ∃ e, l[k]?.getD it0 = e := ⟨_, rfl⟩
      obtain ⟨x0, c0, r0⟩ := hx 0 (by omega)
      obtain ⟨x1, c1, r1⟩ := hx 1 (by omega)
      obtain ⟨x2, c2, r2⟩ := hx 2 (by omega)
      obtain ⟨x3, c3, r3⟩ := hx 3 (by omega)
      obtain ⟨x4, c4, r4⟩ := hx 4 (by omega)
      obtain ⟨x5, c5, r5⟩ := hx 5 (by omega)
      obtain ⟨x6, c6, r6⟩ := hx 6 (by omega)
      obtain ⟨x7, c7, r7⟩ := hx 7 (by omega)
      obtain ⟨x8, c8, r8⟩ := hx 8 (by omega)
      obtain ⟨x9, c9, r9⟩ := hx 9 (by omega)
      obtain ⟨x10, c10, r10⟩ := hx 10 (by omega)
      obtain ⟨x11, c11, r11⟩ := hx 11 (by omega)
      obtain ⟨x12, c12, r12⟩ := hx 12 (by omega)
      obtain ⟨x13, c13, r13⟩ := hx 13 (by omega)
      obtain ⟨x14, c14, r14⟩ := hx 14 (by omega)
      rw [he] at r0 r1 r2 r3 r4 r5 r6 r7 r8 r9 r10 r11 r12 r13 r14
      have HE : Hid _ := he
      have HZ : Hid (e.pt.asn.length ≤ 2097152) := by have h1 := szIts_at l k; rw [he] at h1; have h2 := HL.out; show _ ≤ _; omega
      clear hx he
      obtain ⟨⟨xs, xb, xn⟩, ⟨pk, ⟨pp, pq, pd⟩, pas, ⟨sp, sq, sd⟩⟩, cd, ⟨fp, fq, fd⟩⟩ := e
      obtain rfl : x0 = .int .i64 xs := r0
      obtain rfl : x1 = .int .i64 xb := r1
      obtain rfl : x2 = .int .i64 xn := r2
      obtain rfl : x3 = .int .i64 pk := r3
      obtain rfl : x4 = .int .i64 pp := r4
      obtain rfl : x5 = .int .i64 pq := r5
      obtain rfl : x6 = .bool pd := r6
      obtain rfl : x8 = .int .i64 sp := r8
      obtain rfl : x9 = .int .i64 sq := r9
      obtain rfl : x10 = .bool sd := r10
      obtain rfl : x11 = .int .i64 cd := r11
      obtain rfl : x12 = .int .i64 fp := r12
      obtain rfl : x13 = .int .i64 fq := r13
      obtain rfl : x14 = .bool fd := r14
      simp only [Nat.add_zero] at c0
      have RS7 : Hid (RdV wr S x7 (.bytes pas)) := r7
      clear r7
      obtain ⟨xa7, xc7, rfl⟩ := RdV.sliceB RS7.out
      have HCO : Hid _ := toIntent_any _ ⟨(xs, xb, xn), ⟨pk, (pp, pq, pd), pas, (sp, sq, sd)⟩, cd, (fp, fq, fd)⟩ S wr RS7.out HZ.out
      generalize pas.length = xn7 at RS7 HCO c7
      go_wp2_with fail
      refine Calls.mono HCO.out ?_
      rintro e w2 ⟨ua, un, uc, rfl, o7, b2⟩
      have hsz := hbel.size
      have HN : Hid _ := PrtIt.next HP.out hlt hbel.size b2 HE.out o7
      obtain ⟨hbad, _⟩ | ⟨g, cp, hg, _, hgl, hfz, hcs⟩ := OwV.head (OwV.step HP.out b2)
      · cases hbad
      simp only [Value.slice.injEq, Option.some.injEq, Addr.mk.injEq, and_true, true_and] at hg
      obtain ⟨rfl, rfl⟩ := hg
      obtain ⟨y0, k0⟩ := hcs (k * 15) (by omega)
      obtain ⟨y1, k1⟩ := hcs (k * 15 + 1) (by omega)
      obtain ⟨y2, k2⟩ := hcs (k * 15 + 2) (by omega)
      obtain ⟨y3, k3⟩ := hcs (k * 15 + 3) (by omega)
      obtain ⟨y4, k4⟩ := hcs (k * 15 + 4) (by omega)
      obtain ⟨y5, k5⟩ := hcs (k * 15 + 5) (by omega)
      obtain ⟨y6, k6⟩ := hcs (k * 15 + 6) (by omega)
      obtain ⟨y7, k7⟩ := hcs (k * 15 + 7) (by omega)
      obtain ⟨y8, k8⟩ := hcs (k * 15 + 8) (by omega)
      obtain ⟨y9, k9⟩ := hcs (k * 15 + 9) (by omega)
      obtain ⟨y10, k10⟩ := hcs (k * 15 + 10) (by omega)
      obtain ⟨y11, k11⟩ := hcs (k * 15 + 11) (by omega)
      obtain ⟨y12, k12⟩ := hcs (k * 15 + 12) (by omega)
      obtain ⟨y13, k13⟩ := hcs (k * 15 + 13) (by omega)
      obtain ⟨y14, k14⟩ := hcs (k * 15 + 14) (by omega)
      have hbe2 := hbel.trans (b2.mono hbel.size)
      clear HP hcs b2 HCO o7 RS7
      go_wp2
      go_roundw
      case rel => exact ⟨k + 1, by omega, by go_num, HN.out, (((((((((((((((hbe2.setCell (Nat.le_refl _) _).setCell (Nat.le_refl _) _).setCell (Nat.le_refl _) _).setCell (Nat.le_refl _) _).setCell (Nat.le_refl _) _).setCell (Nat.le_refl _) _).setCell (Nat.le_refl _) _).setCell (Nat.le_refl _) _).setCell (Nat.le_refl _) _).setCell (Nat.le_refl _) _).setCell (Nat.le_refl _) _).setCell (Nat.le_refl _) _).setCell (Nat.le_refl _) _).setCell (Nat.le_refl _) _).setCell (Nat.le_refl _) _)⟩
      case measure => simp [intOf]; omega
    · have hkn : k = n := by omega
      subst hkn
      go_wp2
      go_ret
      exact ⟨_, _, _, rfl, OwV.congr HP.out (fun i j hi hj => by rw [if_pos hi]), hbel⟩

end Go.Proofs.YtoaocjkapoemnaaGreat
