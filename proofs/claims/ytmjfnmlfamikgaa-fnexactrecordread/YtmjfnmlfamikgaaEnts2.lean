/- Entries, copied by the verifier's helpers. Condition: at most 2^21 of them, of at most 2^21 bytes each. -/
import Derived.Test.YtmjfnmlfamikgaaEnts
namespace Go.Proofs.Ytmjfnmlfamikgaa
open Go.RowKit
set_option linter.unusedVariables false

theorem toByteS_d (v : Value) (zs : List Int) (S : Nat → Prop) (w : World) (r : RdV w S v (.bytes zs)) (hl : zs.length ≤ 2097152) :
    Calls Try.prog 18 #[v] w fun e w' => ∃ a n c, e = .returned (.slice a n c) ∧ OwV w' (fun b => w.heap.size ≤ b ∧ b < w'.heap.size) (.slice a n c) (.bytes zs) ∧ Below w.heap.size w w' := by
  obtain ⟨a, cap, rfl, hh, hr⟩ := r.b.reads
  refine (toByteS_v a zs zs.length cap w hr rfl hl).mono ?_
  rintro e w' ⟨u, rfl, ho, hb⟩
  obtain ⟨a', c', rfl, _, _⟩ := ho.shape
  exact ⟨_, _, _, rfl, OwV.ofOwns hr.1 ho, hb⟩

set_option maxHeartbeats 1000000 in
theorem toEntry_any (x : Value) (e : En) (S : Nat → Prop) (w : World) (r : RdV w S x (.bytes e.nm)) (hl : e.nm.length ≤ 2097152) :
    Calls Try.prog 101 #[enV x e.h] w fun q w' => ∃ a n c, q = .returned (enV (.slice a n c) e.h) ∧ OwV w' (fun b => w.heap.size ≤ b ∧ b < w'.heap.size) (.slice a n c) (.bytes e.nm) ∧ Below w.heap.size w w' := by
  obtain ⟨a, cap, rfl⟩ := r.sliceB
  obtain ⟨nm, ⟨p, q, d⟩⟩ := e
  have HR : Hid (∀ W, Below w.heap.size w W → _) := r.old
  have HH : Hid (∀ W, _) := fun W => toHandle_any (p, q, d) W
  have HL : Hid (nm.length ≤ 2097152) := hl
  clear r hl
  dsimp only at HR ⊢
  generalize nm.length = n0 at HR
  go_enter Try.func101, Try.ntmps101
  go_wp2_with fail
  refine Calls.mono (toByteS_d _ nm S _ (HR.out _ ?_) HL.out) ?_
  · exact ((((Below.refl _ _).alloc (Nat.le_refl _) _).alloc (by simp) _).alloc (by simp; omega) _)
  rintro e w2 ⟨ua, un, uc, rfl, o_, b_⟩
  have hs2 := b_.size
  simp at hs2
  have vA : VarA w2 w.heap.size 133 #[.slice a n0 cap, .int .i64 p, .int .i64 q, .bool d] := VarA.step (((VarA.new w _ _).alloc _).alloc _) b_
  have vR : VarA w2 (w.heap.size + 1) 107 #[.slice none 0 0, .int .i64 0, .int .i64 0, .bool false] := by
    have := VarA.step ((VarA.new (w.alloc _) _ _).alloc _) b_
    simpa using this
  have vO : VarA w2 (w.heap.size + 1 + 1) 107 #[.slice none 0 0, .int .i64 0, .int .i64 0, .bool false] := by
    have := VarA.step (VarA.new ((w.alloc _).alloc _) _ _) b_
    simpa using this
  have HB : Hid (Below w.heap.size w w2) := ((((Below.refl _ _).alloc (Nat.le_refl _) _).alloc (by simp) _).alloc (by simp; omega) _).trans (b_.mono (by simp; omega))
  have HT : Hid (Turned (fun b => w.heap.size ≤ b ∧ b < w.heap.size + 3) w2 w2) := Turned.refl _ _
  have hz : w.heap.size + 3 ≤ w2.heap.size := by omega
  have HO0 : Hid (OwV w2 (fun b => w.heap.size + 3 ≤ b ∧ b < w2.heap.size) (.slice ua un uc) (.bytes nm)) := o_.mono (fun b h => by simpa [Nat.add_assoc] using h)
  clear hs2 b_ o_
  obtain ⟨a0_, a1_, a2_, a3_⟩ := vA.l4
  obtain ⟨o0_, o1_, o2_, o3_⟩ := vO.l4
  have fo_ := vO.fz
  go_wp2_with fail
  refine Calls.mono (HH.out _) ?_
  rintro e w3 ⟨rfl, b_⟩
  clear a0_ a1_ a2_ a3_ o0_ o1_ o2_ o3_ fo_
  have vA_ := (vA |>.aside (p := ⟨w.heap.size + 1 + 1, 0, none⟩) (by dsimp only; omega) _).step b_
  have vR_ := (vR |>.aside (p := ⟨w.heap.size + 1 + 1, 0, none⟩) (by dsimp only; omega) _).step b_
  have vO_ : VarA w3 (w.heap.size + 1 + 1) 107 #[.slice ua un uc, .int .i64 0, .int .i64 0, .bool false] := (vO |>.set 0 _).step b_
  have t_ : Turned (fun b => w.heap.size ≤ b ∧ b < w.heap.size + 3) w2 w3 := (HT.out |>.set _ _ (by simp <;> omega)).andThen b_
  have HB_ : Hid (Below w.heap.size w w3) := Turned.below HB.out t_ HB.out.size (fun i hi => hi.1)
  have zs_ := t_.size
  have HO0_ : Hid (OwV w3 (fun b => _ ∧ b < _) (.slice ua un uc) (.bytes nm)) := HO0.out.keep (t_.keeps (fun b hb hs => by omega))
  clear vA vR vO HT HB b_ t_ HO0
  have HT : Hid (Turned (fun b => w.heap.size ≤ b ∧ b < w.heap.size + 3) w3 w3) := Turned.refl _ _
  have vA := vA_
  have vR := vR_
  have vO := vO_
  have HB := HB_
  have HO0 := HO0_
  clear vA_ vR_ vO_ HB_ HO0_
  obtain ⟨a0_, a1_, a2_, a3_⟩ := vA.l4
  obtain ⟨o0_, o1_, o2_, o3_⟩ := vO.l4
  have fo_ := vO.fz
  obtain ⟨r0_, r1_, r2_, r3_⟩ := vR.l4
  have fr_ := vR.fz
  clear vA vR vO
  go_wp2
  refine bodyPost_ret (v := .agg #[.slice ua un uc, .int .i64 p, .int .i64 q, .bool d]) (by simp [results, Try.results101, go_sem, r0_, r1_, r2_, r3_]) rfl ?_
  exact ⟨_, _, _, rfl, OwV.close HB.out (HO0.out.mono (fun b h => ⟨h.1, by omega⟩)) (by omega) (HT.out |>.set _ _ (by simp <;> omega) |>.set _ _ (by simp <;> omega) |>.set _ _ (by simp <;> omega) |>.set _ _ (by simp <;> omega) |>.set _ _ (by simp <;> omega) |>.set _ _ (by simp <;> omega) |>.set _ _ (by simp <;> omega))⟩
theorem Try.infoEn : (Try.prog.info? 107).map (fun i => (i.zero, i.size, i.bytes)) = some (some (.agg #[.slice none 0 0, .int .i64 0, .int .i64 0, .bool false]), 4, 48) := by kernel_rfl
/-- The first k of n are copied. -/
def PrtEn (l : List En) (B n k : Nat) (w : World) : Prop := OwV w (fun b => B ≤ b ∧ b < w.heap.size) (.slice (some ⟨B, 0, none⟩) n n) (.rows 107 4 n (fun i j => if i < k then enCell (l[i]?.getD en0) j else enCell en0 j))
theorem PrtEn.next {l : List En} {B n k : Nat} {w w2 : World} {u : Value} {e : En} (h : PrtEn l B n k w) (hk : k < n) (hB : B ≤ w.heap.size) (hb : Below w.heap.size w w2) (he : l[k]?.getD en0 = e)
    (o : OwV w2 (fun b => w.heap.size ≤ b ∧ b < w2.heap.size) u (.bytes e.nm)) : PrtEn l B n (k + 1) ((((w2.setCell ⟨B, k * 4, none⟩ u).setCell ⟨B, k * 4 + 1, none⟩ (.int .i64 e.h.sh)).setCell ⟨B, k * 4 + 2, none⟩ (.int .i64 e.h.ino)).setCell ⟨B, k * 4 + 3, none⟩ (.bool e.h.dir)) := by
  have hs := hb.size
  have h2 := OwV.step h hb
  have p0 := OwV.put h2 hk (j := 0) (by omega) o (fun b hb hs => by omega)
  have p1 := OwV.put0 p0 hk (j := 1) (by omega) (u := .int .i64 e.h.sh) (d := .int e.h.sh) rfl
  have p2 := OwV.put0 p1 hk (j := 2) (by omega) (u := .int .i64 e.h.ino) (d := .int e.h.ino) rfl
  have p3 := OwV.put0 p2 hk (j := 3) (by omega) (u := .bool e.h.dir) (d := .bool e.h.dir) rfl
  refine OwV.mono (fun b hb => ?_) (OwV.congr p3 (fun i j hi hj => ?_))
  · have hz : ((((w2.setCell ⟨B, k * 4, none⟩ u).setCell ⟨B, k * 4 + 1, none⟩ (.int .i64 e.h.sh)).setCell ⟨B, k * 4 + 2, none⟩ (.int .i64 e.h.ino)).setCell ⟨B, k * 4 + 3, none⟩ (.bool e.h.dir)).heap.size = w2.heap.size := by simp
    show B ≤ b ∧ b < ((((w2.setCell ⟨B, k * 4, none⟩ u).setCell ⟨B, k * 4 + 1, none⟩ (.int .i64 e.h.sh)).setCell ⟨B, k * 4 + 2, none⟩ (.int .i64 e.h.ino)).setCell ⟨B, k * 4 + 3, none⟩ (.bool e.h.dir)).heap.size
    rw [hz]
    rcases hb with hb | hb <;> omega
  · by_cases hik : i = k
    · subst hik
      rw [if_pos (by omega), he]
      match j, hj with
      | 0, _ => simp [upd]; rfl
      | 1, _ => simp [upd]; rfl
      | 2, _ => simp [upd]; rfl
      | 3, _ => simp [upd]; rfl
    · have e1 : (i < k + 1) = (i < k) := by simp; omega
      simp only [upd, hik, false_and, if_false, e1]

set_option maxHeartbeats 2000000 in
theorem toEntryS_any (v : Value) (l : List En) (S : Nat → Prop) (w : World) (r : RdV w S v (ensDt l)) (hl : szEns l ≤ 2097152) :
    Calls Try.prog 68 #[v] w fun e w' => ∃ a n c, e = .returned (.slice a n c) ∧ OwV w' (fun b => w.heap.size ≤ b ∧ b < w'.heap.size) (.slice a n c) (ensDt l) ∧ Below w.heap.size w w' := by
  obtain ⟨a, cap, rfl, _⟩ := RdV.sliced r
  have HR : Hid (∀ W, Below w.heap.size w W → RdV W S (.slice a l.length cap) (ensDt l)) := r.old
  have HD : Hid (ensDt l = .rows 107 4 l.length (fun i j => enCell (l[i]?.getD en0) j)) := rfl
  have hnn : l.length ≤ 2097152 := by unfold szEns at hl; omega
  have HL : Hid _ := hl
  clear r hl
  rw [HD.out] at HR ⊢
  clear HD
  generalize l.length = n at hnn HR ⊢
  obtain ⟨i0, hi, hz0, hz1, hz2⟩ := info_parts Try.infoEn
  go_enter Try.func68, Try.ntmps68
  go_wp2_with (at_make; refine wpList_make_full _ rfl _ _ 41 rfl w.heap.size 107 i0 (.agg #[.slice none 0 0, .int .i64 0, .int .i64 0, .bool false]) 4 Try.underlying41 hi hz0 hz1 .i64 .i64 _ _ n rfl rfl rfl rfl (by rw [hz2]; omega) (by unfold maxLen; omega) (Nat.le_refl _) ?_; intro w1 hown hgrow)
  have hb1 : Below w.heap.size w w1 := (Below.refl _ _).grown hgrow (Nat.le_refl _) (fun k h => by cases h)
  have HP : Hid (PrtEn l w.heap.size n 0 w1) := (OwV.made rfl hown (fun j => enCell en0 j) (fun j hj => by
    match j, hj with
    | 0, _ => exact OwV.nilB _ _
    | 1, _ => rfl
    | 2, _ => rfl
    | 3, _ => rfl
    )).congr (fun i j _ _ => by simp)
  clear hgrow hown
  go_loopw [4] (fun i wr => ∃ k : Nat, k ≤ n ∧ i = .int .i64 k ∧ Hid (PrtEn l w.heap.size n k wr) ∧ Below w.heap.size w wr) (fun i _ => n - (intOf i).toNat)
  case atStart => exact ⟨0, Nat.zero_le _, rfl, HP, hb1⟩
  case round =>
    clear HP hb1
    obtain ⟨k, hk, rfl, HP, hbel⟩ := hrel
    by_cases hlt : k < n
    · obtain ⟨b, off, rfl, hbl, _, hx⟩ := RdV.at (HR.out wr hbel) hlt
      obtain ⟨e, he⟩ : ∃ e, l[k]?.getD en0 = e := ⟨_, rfl⟩
      obtain ⟨x0, c0, r0⟩ := hx 0 (by omega)
      obtain ⟨x1, c1, r1⟩ := hx 1 (by omega)
      obtain ⟨x2, c2, r2⟩ := hx 2 (by omega)
      obtain ⟨x3, c3, r3⟩ := hx 3 (by omega)
      rw [he] at r0 r1 r2 r3
      have HE : Hid _ := he
      have HZ : Hid (e.nm.length ≤ 2097152) := by have h1 := szEns_at l k; rw [he] at h1; have h2 := HL.out; show _ ≤ _; omega
      clear hx he
      obtain ⟨nm, ⟨p, q, d⟩⟩ := e
      obtain rfl : x1 = .int .i64 p := r1
      obtain rfl : x2 = .int .i64 q := r2
      obtain rfl : x3 = .bool d := r3
      simp only [Nat.add_zero] at c0
      have RS : Hid (RdV wr S x0 (.bytes nm)) := r0
      clear r0
      obtain ⟨xa, xc, rfl⟩ := RdV.sliceB RS.out
      generalize nm.length = xn at RS c0
      go_wp2_with fail
      refine Calls.mono (toEntry_any _ ⟨nm, p, q, d⟩ S wr RS.out HZ.out) ?_
      rintro e w2 ⟨ua, un, uc, rfl, o2, b2⟩
      have hsz := hbel.size
      have HN : Hid _ := PrtEn.next HP.out hlt hbel.size b2 HE.out o2
      obtain ⟨hbad, _⟩ | ⟨g, cp, hg, _, hgl, hfz, hcs⟩ := OwV.head (OwV.step HP.out b2)
      · cases hbad
      simp only [Value.slice.injEq, Option.some.injEq, Addr.mk.injEq, and_true, true_and] at hg
      obtain ⟨rfl, rfl⟩ := hg
      obtain ⟨y0, k0⟩ := hcs (k * 4) (by omega)
      obtain ⟨y1, k1⟩ := hcs (k * 4 + 1) (by omega)
      obtain ⟨y2, k2⟩ := hcs (k * 4 + 2) (by omega)
      obtain ⟨y3, k3⟩ := hcs (k * 4 + 3) (by omega)
      have hbe2 := hbel.trans (b2.mono hbel.size)
      clear HP o2 RS hcs b2
      go_wp2
      go_roundw
      case rel => exact ⟨k + 1, by omega, by go_num, HN.out, ((((hbe2.setCell (Nat.le_refl _) _).setCell (Nat.le_refl _) _).setCell (Nat.le_refl _) _).setCell (Nat.le_refl _) _)⟩
      case measure => simp [intOf]; omega
    · have hkn : k = n := by omega
      subst hkn
      go_wp2
      go_ret
      exact ⟨_, _, _, rfl, OwV.congr HP.out (fun i j hi hj => by rw [if_pos hi]), hbel⟩

end Go.Proofs.Ytmjfnmlfamikgaa
