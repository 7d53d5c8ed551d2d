/- The specification's crash of a disk. Condition: the disk is of at most 2^21 bytes and writes. -/
import Derived.Test.YtdpigkcdfjnpdaaDoorFlushes
import Derived.Test.YtdpigkcdfjnpdaaDoorImplCrash2
import Derived.Test.YtdpigkcdfjnpdaaDoorFlags2
namespace Go.Proofs.YtdpigkcdfjnpdaaDoor
open Go.RowKit
set_option linter.unusedVariables false
set_option linter.unusedSimpArgs false
attribute [local go_sem ↓] Go.wp_at_zero Go.wp_at_succ

/-- A list of bytes of the call's own, its row below b, no element in b or in the row's block. -/
def KpC (w : World) (l b : Nat) (v : Value) (zss : List (List Int)) : Prop :=
  ∃ vs : List Value, vs.length = zss.length ∧ w.ownsRow l 22 1 v zss.length vs ∧ Before v b ∧ ∀ i, i < zss.length → RdB w l w.heap.size (vs[i]?.getD undef) (zss[i]?.getD []) ∧ ∀ g, (vs[i]?.getD undef).ownBlock = some g → g < w.heap.size ∧ g ≠ b ∧ v.ownBlock ≠ some g
theorem KpBB.kpc {w : World} {l H b : Nat} {v : Value} {zss : List (List Int)} (o : KpBB w l H v zss) (hH : H ≤ b) (hb : H ≤ w.heap.size) : KpC w l b v zss := by
  obtain ⟨vs, hl, ho, hbf, he⟩ := o
  exact ⟨vs, hl, ho, hbf.le hH, fun i hi => ⟨(he i hi).1.wide (Nat.le_refl _) hb, fun g hg => ⟨by have := ((he i hi).2 g hg).1; omega, by have := ((he i hi).2 g hg).1; omega, ((he i hi).2 g hg).2⟩⟩⟩
theorem KpC.below {w w' : World} {l b : Nat} {v : Value} {zss : List (List Int)} (o : KpC w l b v zss) (hb : Below w.heap.size w w') : KpC w' l b v zss := by
  obtain ⟨vs, hl, ho, hbf, he⟩ := o
  have hs := hb.size
  exact ⟨vs, hl, ownsRow_same ho (fun k hk => (ho.lt k hk).2) (SameIn.ofBelow hb (Nat.le_refl _)), hbf, fun i hi => ⟨((he i hi).1.same (SameIn.ofBelow hb (Nat.le_refl _))).wide (Nat.le_refl _) hs, fun g hg => ⟨by have := ((he i hi).2 g hg).1; omega, ((he i hi).2 g hg).2⟩⟩⟩
theorem KpC.setb {w : World} {l b j : Nat} {v u : Value} {zss : List (List Int)} (o : KpC w l b v zss) : KpC (w.setCell ⟨b, j, none⟩ u) l b v zss := by
  obtain ⟨vs, hl, ho, hbf, he⟩ := o
  have hgr : w.grownBy (w.setCell ⟨b, j, none⟩ u) (some b) := ⟨rfl, rfl, rfl, by simp, fun q _ hq => heap_setCell_other _ _ _ _ (fun e => hq (by rw [show q = b from e]))⟩
  refine ⟨vs, hl, ownsRow_same ho hbf (SameIn.set (p := ⟨b, j, none⟩) (.inr (Nat.le_refl _))), hbf, fun i hi => ⟨?_, fun g hg => ⟨by simpa using ((he i hi).2 g hg).1, ((he i hi).2 g hg).2⟩⟩⟩
  exact ((he i hi).1.keep hgr (Nat.le_refl _) (fun g hg e => ((he i hi).2 g hg).2.1 (by simpa using e.symm))).wide (Nat.le_refl _) (by simp)
/-- Another slice is laid into the list. -/
theorem KpC.put {w : World} {l b q gx c : Nat} {S : List (List Int)} {u : Value} {zs : List Int} (o : KpC w l b (.slice (some ⟨gx, 0, none⟩) S.length c) S) (hq : q < S.length) (hu : RdB w l w.heap.size u zs) (hg : ∀ g, u.ownBlock = some g → g < w.heap.size ∧ g ≠ b ∧ g ≠ gx) :
    KpC (w.setCell ⟨gx, q, none⟩ u) l b (.slice (some ⟨gx, 0, none⟩) S.length c) (S.set q zs) := by
  obtain ⟨vs, hl, ho, hb, he⟩ := o
  have hst := ho.stored q u
  have hgr : w.grownBy (w.setCell ⟨gx, q, none⟩ u) (some gx) := hst.2
  have hgx : ∀ {g : Nat}, g ≠ gx → (Value.slice (some ⟨gx, 0, none⟩) S.length c).ownBlock ≠ some g := fun hne e => by have := slice_block e; simp at this; omega
  refine ⟨vs.set q u, by simp [hl], by simpa using hst.1, hb, fun i hi => ?_⟩
  rw [List.length_set] at hi
  rw [List.getElem?_set, List.getElem?_set]
  by_cases e : q = i
  · subst e
    rw [if_pos rfl, if_pos (by omega), if_pos rfl, if_pos hq, Option.getD_some, Option.getD_some]
    exact ⟨(hu.keep hgr (Nat.le_refl _) (fun g hg' e' => (hg g hg').2.2 (by simpa using e'.symm))).wide (Nat.le_refl _) (by simp), fun g hg' => ⟨by simpa using (hg g hg').1, (hg g hg').2.1, hgx (hg g hg').2.2⟩⟩
  · rw [if_neg e, if_neg e]
    obtain ⟨h2, h3⟩ := he i hi
    refine ⟨(h2.keep hgr (Nat.le_refl _) (fun g hg' e' => (h3 g hg').2.2 ?_)).wide (Nat.le_refl _) (by simp), fun g hg' => ⟨by simpa using (h3 g hg').1, (h3 g hg').2⟩⟩
    have : gx = g := by simpa using e'
    subst this; rfl
theorem KpC.rd {w : World} {l b : Nat} {v : Value} {zss : List (List Int)} (o : KpC w l b v zss) : RdBB w l w.heap.size v zss := by
  obtain ⟨vs, hl, ho, hb, he⟩ := o
  exact KpBB.rd (h := w.heap.size) ⟨vs, hl, ho, fun k hk => (ho.lt k hk).2, fun i hi => ⟨(he i hi).1, fun g hg => ⟨((he i hi).2 g hg).1, ((he i hi).2 g hg).2.2⟩⟩⟩

theorem Reads.part {w : World} {b off : Nat} {zs : List Int} (h : Reads w (some ⟨b, off, none⟩) zs) (nx n : Nat) (hn : nx + n ≤ zs.length) : Reads w (some ⟨b, off + nx, none⟩) ((zs.drop nx).take n) := by
  refine ⟨isBytes_take (isBytes_drop h.1 _) _, ?_⟩
  rcases h.2 with h0 | ⟨b', off', ha, hb, hc⟩
  · left; subst h0; simp
  · simp only [Option.some.injEq, Addr.mk.injEq] at ha
    obtain ⟨rfl, rfl, _⟩ := ha
    refine .inr ⟨b, off + nx, rfl, hb, fun i hi => ?_⟩
    have hi' : i < n := by simp at hi; omega
    have := hc (nx + i) (by omega)
    rw [Nat.add_assoc, this, List.getElem?_take, if_pos hi', List.getElem?_drop]
/-- What holds at the head of each round. -/
def SCRel (w : World) (b : Nat) (x y : Value) (d : Dk) (bs : List Bool) (torn : Int) (l H h m : Nat) (i : Value) (wr : World) : Prop :=
  ∃ k : Nat, k ≤ m ∧ i = .int .i64 k ∧ KpC wr l b x (crashS d.1 d.2 bs torn k) ∧ KpWs wr H h y d.2 ∧ VarD wr b x y ∧ TurnsV [x] w wr
/-- A sector was laid. -/
theorem crash_leaf {w wr W2 : World} {b gx cx q l H h m k : Nat} {y u : Value} {d : Dk} {bs : List Bool} {torn : Int} {S0 : List (List Int)} {zs : List Int} (hX : KpC wr l b (.slice (some ⟨gx, 0, none⟩) S0.length cx) S0) (hY : KpWs wr H h y d.2) (vO : VarD wr b (.slice (some ⟨gx, 0, none⟩) S0.length cx) y) (ht : TurnsV [.slice (some ⟨gx, 0, none⟩) S0.length cx] w wr)
    (hB : Below wr.heap.size wr W2) (hgx : gx < H) (hHh : H ≤ h) (hhb : h ≤ b) (hq : q < S0.length) (hu : RdB W2 l W2.heap.size u zs) (hug : ∀ g, u.ownBlock = some g → g < W2.heap.size ∧ g ≠ b ∧ g ≠ gx) (hn : crashS d.1 d.2 bs torn (k + 1) = S0.set q zs) (hk : k + 1 ≤ m) :
    SCRel w b (.slice (some ⟨gx, 0, none⟩) S0.length cx) y d bs torn l H h m (.int .i64 ((k : Int) + 1)) (W2.setCell ⟨gx, q, none⟩ u) := by
  have hbw := vO.lt
  have hs := hB.size
  refine ⟨k + 1, hk, by go_num, ?_, ?_, ?_, ?_⟩
  · rw [hn]
    exact (hX.below hB).put hq hu hug
  · exact (hY.same (SameIn.ofBelow hB (by omega))).same (SameIn.set (p := ⟨gx, q, none⟩) (.inl (by show gx < H; omega)))
  · exact (heap_setCell_other _ _ _ _ (by show b ≠ gx; omega)).trans (vO.step hB)
  · refine ht.trans ((TurnsV.ofBelow hB).trans ⟨rfl, rfl, rfl, by simp, fun q' _ hq' => ?_⟩)
    refine heap_setCell_other _ _ _ _ (fun e => hq' ⟨0, by simp, ?_⟩)
    have e' : q' = gx := e
    subst e'; rfl

set_option maxHeartbeats 4000000 in
theorem specCrash_in (b : Nat) (x y : Value) (d : Dk) (kv : Value) (bs : List Bool) (lk hk' : Nat) (torn : Int) (l H h : Nat) (w : World) (hv : VarD w b x y) (o1 : KpBB w l H x d.1) (o2 : KpWs w H h y d.2) (hH : H ≤ h) (hlH : l ≤ H) (hh : h ≤ w.heap.size) (hhb : h ≤ b) (hok : okD d = true) (rk : RdF w lk hk' kv bs) (hkl : hk' ≤ l) :
    Calls Tryd.prog 64 #[.pointer (some ⟨b, 0, none⟩), kv, .int .i64 torn] w fun e w' => (∃ u, e = .returned u) ∧ KpC w' l b x (crashS d.1 d.2 bs torn d.2.length) ∧ VarD w' b x (.slice none 0 0) ∧ TurnsV [.slice (some ⟨b, 0, none⟩) 0 0, x] w w' := by
  obtain ⟨d1, d2⟩ := d
  obtain ⟨⟨hn2, hm2⟩, hwh0, hww0⟩ := okD_whole hok
  have HWH : Hid (Whole d1) := hwh0
  have HWW : Hid (∀ i, i < d2.length → 0 ≤ (d2[i]?.getD (0, [])).1 ∧ (d2[i]?.getD (0, [])).1 < (d1.length : Int) ∧ (d2[i]?.getD (0, [])).2.length = 32) := hww0
  replace hm2 : d2.length ≤ 2000 := hm2
  replace hn2 : d1.length ≤ 2000 := hn2
  obtain ⟨m, hm⟩ : ∃ m, m = d2.length := ⟨_, rfl⟩
  have hbw := hv.lt
  have HM : Hid _ := hm
  have hm3 : m ≤ 2000 := by omega
  obtain ⟨ka, kn, kc, rfl⟩ := rk.sliced
  have HKN : Hid (kn = bs.length) := rk.len
  have hkm : kn ≤ 9223372036854775807 := rk.most
  have hxl : ∀ q, x.ownBlock = some q → l ≤ q ∧ q < H := fun q hq => by obtain ⟨_, _, ho, hb', _⟩ := o1; exact ⟨(ho.lt q hq).1, hb' q hq⟩
  have HXH : Hid _ := hxl
  have HRK : Hid (∀ W, TurnsV [x] w W → RdF W lk hk' (.slice ka kn kc) bs) := fun W t => rk.same ⟨t.size, fun q _ hq => t.block q (by omega) (fun hb => by
    obtain ⟨i, hi, hx⟩ := hb
    match i, hi, hx with
    | 0, _, hx => have := (hxl q (by simpa using hx)).1; omega
    | i + 1, hi, _ => have h2 : i + 1 < 1 := hi; omega)⟩
  have HST : Hid (SCRel w b x y (d1, d2) bs torn l H h m (.int .i64 0) w) := ⟨0, Nat.zero_le _, rfl, o1.kpc (by omega) (by omega), o2, hv, TurnsV.refl _ _⟩
  clear hok hwh0 hww0 hm o1 o2 hv rk hxl
  go_enter Tryd.func64, Tryd.ntmps64
  go_wp2
  go_loopw [6] (fun i wr => SCRel w b x y (d1, d2) bs torn l H h m i wr) (fun i _ => m - (intOf i).toNat)
  case atStart => exact HST.out
  case round =>
    clear HST
    obtain ⟨k, hk, rfl, hX, hY, vO, ht⟩ := hrel
    have hsz := ht.size
    have hYr := hY
    obtain ⟨xs, C, hxl, hrow, hyb, hCC, hee⟩ := hYr
    obtain ⟨ya, yc, rfl⟩ : ∃ a c, y = .slice a m c := by
      rw [HM.out]
      rcases hrow.2 with ⟨h0, hz0⟩ | ⟨g, c, cur, h0, _⟩
      · refine ⟨none, 0, ?_⟩
        rw [h0]
        have hz1 : d2.length = 0 := hz0
        rw [hz1]
      · exact ⟨_, _, h0⟩
    by_cases hlt : k < m
    · have hk2 : k < d2.length := by rw [← HM.out]; exact hlt
      have hi0 : (0 : Int) ≤ (k : Int) := by omega
      have hi1 : (k : Int) < (m : Int) := by omega
      have c1 := vO.c1
      have rk := HRK.out wr ht
      by_cases hkeep : keepAt bs k = true
      · have hkn : k < kn := by
          rw [HKN.out]
          apply Classical.byContradiction
          intro h9
          unfold keepAt at hkeep
          rw [List.getElem?_eq_none (by omega)] at hkeep
          cases hkeep
        obtain ⟨ka', kn', kc', hke, hkl', _, hkc⟩ := rk
        simp only [Value.slice.injEq] at hke
        obtain ⟨rfl, rfl, rfl⟩ := hke
        obtain ⟨kb, ko, rfl, _, hkb, hkcell⟩ := hkc.resolve_left (fun e => by rw [e] at hkl'; simp at hkl'; omega)
        have hkc1 := hkcell k (by omega)
        rw [show bs[k]?.getD false = true from hkeep] at hkc1
        have hd0 : decide ((kn : Int) ≤ (k : Int)) = false := by simp; omega
        have hk1 : (k : Int) < (kn : Int) := by omega
        obtain ⟨hp0, hp1, hp2⟩ := HWW.out k hk2
        have hfl : (crashS d1 d2 bs torn k).length = d1.length := crashS_length _ _ _ _ _
        have hwh := Whole.crash (bs := bs) (torn := torn) HWH.out (fun i hi => (HWW.out i hi).2.2) k (by omega)
        have hnx : crashS d1 d2 bs torn (k + 1) = stepS (crashS d1 d2 bs torn k) (d2[k]?.getD (0, [])) (tornAt torn k) := by
          show (if keepAt bs k then _ else _) = _
          rw [if_pos hkeep]
        have hCl : C.length = d2.length * 2 := hrow.1
        rcases hrow.2 with ⟨_, hz0⟩ | ⟨gy, cy, cur, hye, hgy, _⟩
        · have hz1 : d2.length = 0 := hz0
          omega
        simp only [Value.slice.injEq] at hye
        obtain ⟨rfl, _, hyc⟩ := hye
        clear hyc
        replace hrow : wr.ownsRow H 43 2 (.slice (some ⟨gy, 0, none⟩) m yc) m C := by
          have h9 : wr.ownsRow H 43 2 (.slice (some ⟨gy, 0, none⟩) m yc) d2.length C := hrow
          rw [← HM.out] at h9
          exact h9
        have h1 := (World.ownsRow.cellAt hrow (k * 2) (by omega)).trans (hCC k hk2).1
        have h2 := (World.ownsRow.cellAt hrow (k * 2 + 1) (by omega)).trans (hCC k hk2).2
        have hgyw : gy < wr.heap.size := (hrow.lt gy rfl).2
        obtain ⟨hrd, hrg⟩ := hee k hk2
        obtain ⟨q, hq⟩ : ∃ q : Nat, (d2[k]?.getD (0, [])).1 = (q : Int) := ⟨(d2[k]?.getD (0, [])).1.toNat, by omega⟩
        rw [hq] at h1 hp0 hp1
        have hst : stepS (crashS d1 d2 bs torn k) (d2[k]?.getD (0, [])) (tornAt torn k) = (crashS d1 d2 bs torn k).set q (mixed ((crashS d1 d2 bs torn k)[q]?.getD []) (d2[k]?.getD (0, [])).2 (tornAt torn k)) := by unfold stepS; rw [hq, Int.toNat_natCast]
        rw [hst] at hnx
        replace hrd : RdB wr H h (xs[k]?.getD undef) (d2[k]?.getD (0, [])).2 := hrd
        generalize (d2[k]?.getD (0, [])).2 = zs at hrd hp2 hnx
        generalize xs[k]?.getD undef = u at h2 hrd hrg
        obtain ⟨sa, sn, sc, rfl⟩ := hrd.sliced
        replace hX : KpC wr l b x (crashS d1 d2 bs torn k) := hX
        generalize crashS d1 d2 bs torn k = S0 at hX hfl hnx hwh
        have hqs : q < S0.length := by omega
        have hXr := hX
        obtain ⟨vs, hvl, hxrow, hxb, hxe0⟩ := hXr
        rcases hxrow.2 with ⟨_, hz0⟩ | ⟨gx, cx, curx, hxe, hgx, _⟩
        · omega
        subst hxe
        have hgxH := (HXH.out gx rfl).2
        obtain ⟨o0, hov⟩ : ∃ v, wr.cell? ⟨gx, q, none⟩ = some v := by rw [hxrow.cellAt q (by omega)]; exact ⟨_, List.getElem?_eq_getElem (by omega)⟩
        have hof := hxrow.frozenAt q
        have hgxw : gx < wr.heap.size := (hxrow.lt gx rfl).2
        have c0 := vO.c0
        have hj0 : (0 : Int) ≤ (q : Int) := by omega
        have hj1 : (q : Int) < (S0.length : Int) := by omega
        have hbw' : b < wr.heap.size := vO.lt
        have hkbw : kb < wr.heap.size := by omega
        have b1 := Below.new (w := wr) (.cells #[.int .i64 (q : Int), .slice sa sn sc] 43)
        have w0 : (wr.alloc (.cells #[.int .i64 (q : Int), .slice sa sn sc] 43)).cell? ⟨wr.heap.size, 0, none⟩ = some (.int .i64 (q : Int)) := by rw [cell_of_row _ _ _ _ _ _ (heap_alloc_new wr _)]; rfl
        have w1 : (wr.alloc (.cells #[.int .i64 (q : Int), .slice sa sn sc] 43)).cell? ⟨wr.heap.size, 1, none⟩ = some (.slice sa sn sc) := by rw [cell_of_row _ _ _ _ _ _ (heap_alloc_new wr _)]; rfl
        have wf : (wr.alloc (.cells #[.int .i64 (q : Int), .slice sa sn sc] 43)).frozen? ⟨wr.heap.size, 1, none⟩ = false := by rw [frozen_of_row _ _ _ _ _ (heap_alloc_new wr _)]
        have hs1 : (wr.alloc (.cells #[.int .i64 (q : Int), .slice sa sn sc] 43)).heap.size = wr.heap.size + 1 := by simp
        have hW1 : (wr.alloc (.cells #[.int .i64 (q : Int), .slice sa sn sc] 43)).heap[wr.heap.size]? = some (.cells #[.int .i64 (q : Int), .slice sa sn sc] 43 (0, 0)) := heap_alloc_new wr _
        generalize hw1 : wr.alloc (.cells #[.int .i64 (q : Int), .slice sa sn sc] 43) = w1' at b1 w0 w1 wf hs1 hW1
        have HW1 : Hid _ := hw1
        have hs1l : wr.heap.size < w1'.heap.size := by omega
        clear hs1
        have HB1 : Hid (Below wr.heap.size wr w1') := b1
        have d0 := (vO.step b1).c0
        have dov := (b1.cell (p := ⟨gx, q, none⟩) hgxw).trans hov
        have dof : w1'.frozen? ⟨gx, q, none⟩ = false := (World.frozen?_of_block (w := wr) (a := ⟨gx, q, none⟩) (b1.block gx hgxw)).trans hof
        have n1 : ¬ gx = b := by omega
        have n2 : ¬ gx = gy := by omega
        have n1' : ¬ b = gx := by omega
        have n2' : ¬ gy = gx := by omega
        have n3 : ¬ gx = wr.heap.size := by omega
        have n3' : ¬ wr.heap.size = gx := by omega
        have n4 : ¬ b = wr.heap.size := by omega
        have n4' : ¬ wr.heap.size = b := by omega
        have HLEAF : Hid (∀ (W2 : World) (u : Value) (zs' : List Int), Below wr.heap.size wr W2 → RdB W2 l W2.heap.size u zs' → (∀ g, u.ownBlock = some g → g < W2.heap.size ∧ g ≠ b ∧ g ≠ gx) → mixed (S0[q]?.getD []) zs (tornAt torn k) = zs' → SCRel w b (.slice (some ⟨gx, 0, none⟩) S0.length cx) (.slice (some ⟨gy, 0, none⟩) m yc) (d1, d2) bs torn l H h m (.int .i64 ((k : Int) + 1)) (W2.setCell ⟨gx, q, none⟩ u)) :=
          fun W2 u zs' hB hu hug he => crash_leaf hX hY vO ht hB hgxH hH hhb hqs hu hug (by rw [← he]; exact hnx) (by omega)
        by_cases htorn : (k : Int) = torn
        · have he0 : ((k : Int) == torn) = true := by simpa using htorn
          have htn : tornAt torn k = 16 := by unfold tornAt; rw [if_pos htorn]
          obtain ⟨hold, hog⟩ := hxe0 q hqs
          have hov2 := hxrow.cellAt q (by omega)
          rw [List.getElem?_eq_getElem (by omega)] at hov2
          have hvq : vs[q]?.getD undef = vs[q]'(by omega) := by simp [show q < vs.length by omega]
          rw [hvq] at hold hog
          rw [hov] at hov2
          have ho0 : o0 = vs[q]'(by omega) := by simpa using hov2
          rw [← ho0] at hold hog
          have hol := hwh q hqs
          generalize hOLD : S0[q]?.getD [] = old at hold hol
          rw [hOLD] at HLEAF
          obtain ⟨hob, oa, on, oc, rfl, hon, hoh, hor⟩ := hold.reads
          obtain ⟨hzb, sa', sn', sc', hse, hsn, hsh, hsr⟩ := hrd.reads
          simp only [Value.slice.injEq] at hse
          obtain ⟨rfl, rfl, rfl⟩ := hse
          obtain ⟨ob, oo, rfl⟩ : ∃ ob oo, oa = some ⟨ob, oo, none⟩ := by
            obtain ⟨_, a9, n9, c9, he9, hl9, _, hc9⟩ := hold
            simp only [Value.slice.injEq] at he9
            obtain ⟨rfl, rfl, rfl⟩ := he9
            obtain ⟨ob, oo, h9, _⟩ := hc9.resolve_left (fun e => by rw [e] at hol; simp at hol)
            exact ⟨ob, oo, h9⟩
          obtain ⟨sb, so, rfl⟩ : ∃ ob oo, sa = some ⟨ob, oo, none⟩ := by
            obtain ⟨_, a9, n9, c9, he9, hl9, _, hc9⟩ := hrd
            simp only [Value.slice.injEq] at he9
            obtain ⟨rfl, rfl, rfl⟩ := he9
            obtain ⟨ob, oo, h9, _⟩ := hc9.resolve_left (fun e => by rw [e] at hp2; simp at hp2)
            exact ⟨ob, oo, h9⟩
          have hs32 : sn = 32 := by omega
          have ho32 : on = 32 := by omega
          subst hs32
          subst ho32
          have hsc : 32 ≤ sc := hsh.1
          have hoc : 32 ≤ oc := hoh.1
          have hscm : sc ≤ 9223372036854775807 := by have := hsh.2.1; unfold maxLen at this; omega
          have hocm : oc ≤ 9223372036854775807 := by have := hoh.2.1; unfold maxLen at this; omega
          have HZB : Hid (isBytes (zs.take 16 ++ old.drop 16)) := isBytes_append (isBytes_take hzb 16) (isBytes_drop hob 16)
          have p1 := hsr.part 0 16 (by omega)
          have p2 := hor.part 16 16 (by omega)
          rw [List.drop_zero] at p1
          rw [List.take_of_length_le (l := old.drop 16) (by simp; omega)] at p2
          have HB2 : Hid (Below wr.heap.size wr (w1'.alloc (.cells #[] 5)).drew) := (b1.alloc (by omega) _).drew
          have HP1 : Hid (Reads (w1'.alloc (.cells #[] 5)).drew (some ⟨sb, so, none⟩) (zs.take 16)) := by have := p1.below HB2.out; rwa [Nat.add_zero] at this
          have HP2 : Hid (∀ W, Below wr.heap.size wr W → Reads W (some ⟨ob, oo + 16, none⟩) (old.drop 16)) := fun W hW => p2.below hW
          have HOE : Hid (Owns (w1'.alloc (.cells #[] 5)).drew w1'.heap.size (.slice (some ⟨w1'.heap.size, 0, none⟩) 0 0) []) := (owns_empty w1').step (Below.drew (Below.refl _ _))
          have HSZ : Hid (w1'.heap.size ≤ (w1'.alloc (.cells #[] 5)).drew.heap.size) := by show _ ≤ _; simp
          have HB3 : Hid (Below w1'.heap.size w1' (w1'.alloc (.cells #[] 5)).drew) := ((Below.refl _ _).alloc (Nat.le_refl _) _).drew
          have HL1 : Hid ((zs.take 16).length = 16) := by show _ = _; simp; omega
          have HL2 : Hid ((old.drop 16).length = 16) := by show _ = _; simp; omega
          have HMX : Hid (mixed old zs (tornAt torn k) = zs.take 16 ++ old.drop 16) := by show _ = _; rw [htn]; rfl
          have m1 : ¬ b = w1'.heap.size := by omega
          have m2 : ¬ gx = w1'.heap.size := by omega
          have m3 : ¬ wr.heap.size = w1'.heap.size := by omega
          have HW1B : Hid _ := hW1
          have hz0 : (0 : Int) ≤ 16 := by omega
          have hz1 : (16 : Int) ≤ (sc : Int) := by omega
          have hz2 : ¬ oc = 16 := by omega
          clear hw1 b1 hX hY vO ht hnx hst hq hee hCC hrow hxrow hrd hrg hwh hfl hxl hvl hxb hyb hCl hold hog hov2 hvq ho0 hOLD hor hsr hob hzb p1 p2 hkcell hkc hkl' hxe0 htn hsn hon hsh hoh htorn hW1 hol hkeep
          go_wp2_with (rw [HW1.out])
          refine wp_region_noPanic ?_
          refine wp_region_held_drew (S := fun w' => w'.cell? ⟨b, 0, none⟩ = some (.slice (some ⟨gx, 0, none⟩) S0.length cx) ∧ w'.cell? ⟨wr.heap.size, 0, none⟩ = some (.int .i64 (q : Int)) ∧ w'.cell? ⟨gx, q, none⟩ = some (.slice (some ⟨ob, oo, none⟩) 32 oc)) (by kernel_rfl) ⟨d0, w0, dov⟩ (fun hHeld => ?_)
          refine wpAnyH_take (i := 1) (v := ?_) rfl (by kernel_rfl) (by kernel_rfl) (by kernel_rfl) (fun _ _ _ h => h) (Or.inl ⟨by rfl, ?_⟩) (by assumption) ?_
          rotate_left
          · (intro w_ hSw_; (try dsimp only at hSw_); go_simp; try with_reducible rfl)
          try simp only [Act.put, List.setIfInBounds_toArray, List.set_cons_zero, List.set_cons_succ, List.getElem_toArray, List.getElem_cons_zero, List.getElem_cons_succ]
          refine wpAnyH_take (i := 5) (v := ?_) rfl (by kernel_rfl) (by kernel_rfl) (by kernel_rfl) (fun _ _ _ h => h) (Or.inl ⟨by rfl, ?_⟩) (by assumption) ?_
          rotate_left
          · (intro w_ hSw_; (try dsimp only at hSw_); go_simp; try with_reducible rfl)
          try simp only [Act.put, List.setIfInBounds_toArray, List.set_cons_zero, List.set_cons_succ, List.getElem_toArray, List.getElem_cons_zero, List.getElem_cons_succ]
          refine wpAnyH_take (i := 6) (v := ?_) rfl (by kernel_rfl) (by kernel_rfl) (by kernel_rfl) (fun _ _ _ h => h) (Or.inl ⟨by rfl, ?_⟩) (by assumption) ?_
          rotate_left
          · (intro w_ hSw_; (try dsimp only at hSw_); go_simp; try with_reducible rfl)
          try simp only [Act.put, List.setIfInBounds_toArray, List.set_cons_zero, List.set_cons_succ, List.getElem_toArray, List.getElem_cons_zero, List.getElem_cons_succ]
          refine wpAnyH_take (i := 7) (v := ?_) rfl (by kernel_rfl) (by kernel_rfl) (by kernel_rfl) (fun _ _ _ h => h) (Or.inl ⟨by rfl, ?_⟩) (by assumption) ?_
          rotate_left
          · (intro w_ hSw_; (try dsimp only at hSw_); go_simp; try with_reducible rfl)
          try simp only [Act.put, List.setIfInBounds_toArray, List.set_cons_zero, List.set_cons_succ, List.getElem_toArray, List.getElem_cons_zero, List.getElem_cons_succ]
          refine wpAnyH_take (i := 8) (v := ?_) rfl (by kernel_rfl) (by kernel_rfl) (by kernel_rfl) (fun _ _ _ h => h) (Or.inl ⟨by rfl, ?_⟩) (by assumption) ?_
          rotate_left
          · (intro w_ hSw_; (try dsimp only at hSw_); go_simp; try with_reducible rfl)
          try simp only [Act.put, List.setIfInBounds_toArray, List.set_cons_zero, List.set_cons_succ, List.getElem_toArray, List.getElem_cons_zero, List.getElem_cons_succ]
          refine wpAnyH_take (i := 9) (v := ?_) rfl (by kernel_rfl) (by kernel_rfl) (by kernel_rfl) (fun _ _ _ h => h) (Or.inl ⟨by rfl, ?_⟩) (by assumption) ?_
          rotate_left
          · (intro w_ hSw_; (try dsimp only at hSw_); go_simp; try with_reducible rfl)
          try simp only [Act.put, List.setIfInBounds_toArray, List.set_cons_zero, List.set_cons_succ, List.getElem_toArray, List.getElem_cons_zero, List.getElem_cons_succ]
          refine wpAnyH_take (i := 10) (v := ?_) rfl (by kernel_rfl) (by kernel_rfl) (by kernel_rfl) (fun _ _ _ h => h) (Or.inl ⟨by rfl, ?_⟩) (by assumption) ?_
          rotate_left
          · (intro w_ hSw_; (try dsimp only at hSw_); go_simp; try with_reducible rfl)
          try simp only [Act.put, List.setIfInBounds_toArray, List.set_cons_zero, List.set_cons_succ, List.getElem_toArray, List.getElem_cons_zero, List.getElem_cons_succ]
          refine wpAnyH_take (i := 11) (v := ?_) rfl (by kernel_rfl) (by kernel_rfl) (by kernel_rfl) (fun _ _ _ h => h) (Or.inl ⟨by rfl, ?_⟩) (by assumption) ?_
          rotate_left
          · (intro w_ hSw_; (try dsimp only at hSw_); go_simp; try with_reducible rfl)
          try simp only [Act.put, List.setIfInBounds_toArray, List.set_cons_zero, List.set_cons_succ, List.getElem_toArray, List.getElem_cons_zero, List.getElem_cons_succ]
          refine wpAnyH_take (i := 12) (v := ?_) rfl (by kernel_rfl) (by kernel_rfl) (by kernel_rfl) (fun _ _ _ h => h) (Or.inl ⟨by rfl, ?_⟩) (by assumption) ?_
          rotate_left
          · (intro w_ hSw_; (try dsimp only at hSw_); go_simp; try with_reducible rfl)
          try simp only [Act.put, List.setIfInBounds_toArray, List.set_cons_zero, List.set_cons_succ, List.getElem_toArray, List.getElem_cons_zero, List.getElem_cons_succ]
          refine wpAnyH_take (i := 13) (v := ?_) rfl (by kernel_rfl) (by kernel_rfl) (by kernel_rfl) (fun _ _ _ h => h) (Or.inl ⟨by rfl, ?_⟩) (by assumption) ?_
          rotate_left
          · (intro w_ hSw_; (try dsimp only at hSw_); go_simp; try with_reducible rfl)
          try simp only [Act.put, List.setIfInBounds_toArray, List.set_cons_zero, List.set_cons_succ, List.getElem_toArray, List.getElem_cons_zero, List.getElem_cons_succ]
          refine wpAnyH_ready (rs := [0, 2]) (by kernel_rfl) (by simp) ?_
          refine AllReadyH.cons rfl (fun K hK => ?_) ?_
          · go_simp
            have t1 := (HB3.out.cell (p := ⟨b, 0, none⟩) (by show b < w1'.heap.size; omega)).trans d0
            have t2 := (HB3.out.cell (p := ⟨wr.heap.size, 0, none⟩) (by show wr.heap.size < w1'.heap.size; omega)).trans w0
            have t3 := (HB3.out.cell (p := ⟨gx, q, none⟩) (by show gx < w1'.heap.size; omega)).trans dov
            have tw := (HB3.out.cell (p := ⟨wr.heap.size, 1, none⟩) (by show wr.heap.size < w1'.heap.size; omega)).trans w1
            refine hK.out _ _ ⟨t1, t2, t3⟩ (fun hHeld => ?_)
            clear hK K
            try simp only [Act.put, List.setIfInBounds_toArray, List.set_cons_zero, List.set_cons_succ, List.getElem_toArray, List.getElem_cons_zero, List.getElem_cons_succ]
            refine wpAnyH_ready (rs := [2]) (by kernel_rfl) (by simp) ?_
            refine AllReadyH.cons rfl (fun K hK => ?_) AllReadyH.nil
            go_simp
            refine hK.out _ _ (by assumption) (fun hHeld => ?_)
            clear hK K
            try simp only [Act.put, List.setIfInBounds_toArray, List.set_cons_zero, List.set_cons_succ, List.getElem_toArray, List.getElem_cons_zero, List.getElem_cons_succ]
            refine wpAnyH_take (i := 3) (v := ?_) rfl (by kernel_rfl) (by kernel_rfl) (by kernel_rfl) (fun _ _ _ h => h) (Or.inl ⟨by rfl, ?_⟩) (by assumption) ?_
            rotate_left
            · (intro w_ hSw_; (try dsimp only at hSw_); go_simp; try with_reducible rfl)
            try simp only [Act.put, List.setIfInBounds_toArray, List.set_cons_zero, List.set_cons_succ, List.getElem_toArray, List.getElem_cons_zero, List.getElem_cons_succ]
            refine wpAnyH_ready (rs := [4]) (by kernel_rfl) (by simp) ?_
            refine AllReadyH.cons rfl (fun K hK => ?_) AllReadyH.nil
            refine step_app rfl (.tmp 38) (.tmp 41) (by rfl) w1'.heap.size _ [] (zs.take 16) (by rfl) HOE.out (some ⟨sb, so, none⟩) 16 sc (by rfl) HL1.out.symm HP1.out (Nat.zero_le _) (by rw [HL1.out]; omega) HSZ.out (fun h => by cases h) ?_
            intro v4 w4 ho4 hg4
            rw [List.nil_append] at ho4
            obtain ⟨a4, n4, c4, rfl⟩ := Owns.sliced ho4
            have hb4 : Below w1'.heap.size w1' w4 := below_mark HB3.out hg4 HSZ.out (fun q hq => by have := slice_block hq; simp at this; omega)
            have hs4 := hb4.size
            have u1 := (hb4.cell (p := ⟨b, 0, none⟩) (by show b < w1'.heap.size; omega)).trans d0
            have u2 := (hb4.cell (p := ⟨wr.heap.size, 0, none⟩) (by show wr.heap.size < w1'.heap.size; omega)).trans w0
            have u3 := (hb4.cell (p := ⟨gx, q, none⟩) (by show gx < w1'.heap.size; omega)).trans dov
            refine hK.out _ _ ⟨u1, u2, u3⟩ (fun hHeld => ?_)
            clear hK K
            try simp only [Act.put, List.setIfInBounds_toArray, List.set_cons_zero, List.set_cons_succ, List.getElem_toArray, List.getElem_cons_zero, List.getElem_cons_succ]
            refine wpAnyH_ready (rs := [14]) (by kernel_rfl) (by simp) ?_
            refine AllReadyH.cons rfl (fun K hK => ?_) AllReadyH.nil
            refine step_app rfl (.tmp 42) (.tmp 51) (by rfl) w1'.heap.size _ (zs.take 16) (old.drop 16) (by rfl) ho4 (some ⟨ob, oo + 16, none⟩) 16 (oc - 16) (by rfl) HL2.out.symm (HP2.out _ (HB1.out.trans (hb4.mono HB1.out.size))) (by rw [HL1.out]; omega) (by rw [HL2.out]; omega) hs4 (fun h => by cases h) ?_
            intro v5 w5 ho5 hg5
            obtain ⟨a5, n5, c5, rfl⟩ := Owns.sliced ho5
            have hb5 : Below w1'.heap.size w1' w5 := below_mark hb4 hg5 hs4 (fun q hq => (ho4.lt q hq).1)
            have hs5 := hb5.size
            have x1 := (hb5.cell (p := ⟨b, 0, none⟩) (by show b < w1'.heap.size; omega)).trans d0
            have x2 := (hb5.cell (p := ⟨wr.heap.size, 0, none⟩) (by show wr.heap.size < w1'.heap.size; omega)).trans w0
            have x3 := (hb5.cell (p := ⟨gx, q, none⟩) (by show gx < w1'.heap.size; omega)).trans dov
            have hW5 := (hb5.block wr.heap.size (by omega)).trans HW1B.out
            have xw : w5.cell? ⟨wr.heap.size, 1, none⟩ = some (.slice (some ⟨sb, so, none⟩) 32 sc) := by rw [cell_of_row _ _ _ _ _ _ hW5]; rfl
            have xf : w5.frozen? ⟨wr.heap.size, 1, none⟩ = false := by rw [frozen_of_row _ _ _ _ _ hW5]
            refine hK.out _ _ ⟨x1, x2, x3⟩ (fun hHeld => ?_)
            clear hK K
            try simp only [Act.put, List.setIfInBounds_toArray, List.set_cons_zero, List.set_cons_succ, List.getElem_toArray, List.getElem_cons_zero, List.getElem_cons_succ]
            refine wpAnyH_take (i := 15) (v := ?_) rfl (by kernel_rfl) (by kernel_rfl) (by kernel_rfl) (fun _ _ _ h => h) (Or.inl ⟨by rfl, ?_⟩) (by assumption) ?_
            rotate_left
            · (intro w_ hSw_; (try dsimp only at hSw_); go_simp; try with_reducible rfl)
            try simp only [Act.put, List.setIfInBounds_toArray, List.set_cons_zero, List.set_cons_succ, List.getElem_toArray, List.getElem_cons_zero, List.getElem_cons_succ]
            refine wpAnyH_ready (rs := [16]) (by kernel_rfl) (by simp) ?_
            refine AllReadyH.cons rfl (fun K hK => ?_) AllReadyH.nil
            go_simp
            have hW6 : (w5.setCell ⟨wr.heap.size, 1, none⟩ (.slice a5 n5 c5)).heap[wr.heap.size]? = some (.cells #[.int .i64 (q : Int), .slice a5 n5 c5] 43 (0, 0)) := by
              rw [heap_setCell_same _ _ _ _ _ _ hW5]; rfl
            have hset : ∀ q, q ≠ wr.heap.size → (w5.setCell ⟨wr.heap.size, 1, none⟩ (.slice a5 n5 c5)).heap[q]? = w5.heap[q]? := fun q hq => heap_setCell_other _ _ _ _ hq
            have y1 := (World.cell?_of_block (a := ⟨b, 0, none⟩) (hset b (by omega))).trans x1
            have y2 : (w5.setCell ⟨wr.heap.size, 1, none⟩ (.slice a5 n5 c5)).cell? ⟨wr.heap.size, 0, none⟩ = some (.int .i64 (q : Int)) := by rw [cell_of_row _ _ _ _ _ _ hW6]; rfl
            have y3 := (World.cell?_of_block (a := ⟨gx, q, none⟩) (hset gx (by omega))).trans x3
            have y4 : (w5.setCell ⟨wr.heap.size, 1, none⟩ (.slice a5 n5 c5)).cell? ⟨wr.heap.size, 1, none⟩ = some (.slice a5 n5 c5) := by rw [cell_of_row _ _ _ _ _ _ hW6]; rfl
            have y5 : (w5.setCell ⟨wr.heap.size, 1, none⟩ (.slice a5 n5 c5)).frozen? ⟨gx, q, none⟩ = false := (World.frozen?_of_block (w := w1') (a := ⟨gx, q, none⟩) ((hset gx (by omega)).trans (hb5.block gx (by omega)))).trans dof
            refine hK.out _ _ ⟨y1, y2, y3⟩ (fun hHeld => ?_)
            clear hK K
            try simp only [Act.put, List.setIfInBounds_toArray, List.set_cons_zero, List.set_cons_succ, List.getElem_toArray, List.getElem_cons_zero, List.getElem_cons_succ]
            refine wpAnyH_done (by kernel_rfl) (NoPanic.normal ?_) _
            have hb6 : Below wr.heap.size wr (w5.setCell ⟨wr.heap.size, 1, none⟩ (.slice a5 n5 c5)) := (HB1.out.trans (hb5.mono HB1.out.size)).setCell (Nat.le_refl _) _
            have hr6 : RdB (w5.setCell ⟨wr.heap.size, 1, none⟩ (.slice a5 n5 c5)) w1'.heap.size w5.heap.size (.slice a5 n5 c5) (zs.take 16 ++ old.drop 16) := (OwB.of HZB.out ho5).rd.same (SameIn.set (p := ⟨wr.heap.size, 1, none⟩) (.inl (by show wr.heap.size < _; omega)))
            have ho6 : ∀ g, (Value.slice a5 n5 c5).ownBlock = some g → w1'.heap.size ≤ g ∧ g < w5.heap.size := fun g hg => ho5.lt g hg
            have s6 : (w5.setCell ⟨wr.heap.size, 1, none⟩ (.slice a5 n5 c5)).heap.size = w5.heap.size := by simp
            generalize hw6 : w5.setCell ⟨wr.heap.size, 1, none⟩ (.slice a5 n5 c5) = w6 at hb6 hr6 y1 y2 y3 y4 y5 s6 hHeld
            have HW6 : Hid _ := hw6
            have HR : Hid (SCRel w b (.slice (some ⟨gx, 0, none⟩) S0.length cx) (.slice (some ⟨gy, 0, none⟩) m yc) (d1, d2) bs torn l H h m (.int .i64 ((k : Int) + 1)) ((w6.drewN 1).setCell ⟨gx, q, none⟩ (.slice a5 n5 c5))) := by
              refine HLEAF.out (w6.drewN 1) _ _ (below_drewN2 hb6 1) ((hr6.same (w' := w6.drewN 1) ⟨Nat.le_refl _, fun _ _ _ => rfl⟩).wide (by omega) (by show w5.heap.size ≤ w6.heap.size; omega)) (fun g hg => ?_) HMX.out
              have := ho6 g hg
              exact ⟨by show g < w6.heap.size; omega, by omega, by omega⟩
            clear hw6 HLEAF ho4 hg4 hb4 ho5 hg5 hb5 hb6 hr6 ho6 hW5 hW6 hset xw xf x1 x2 x3 u1 u2 u3 d0 w0 w1 dov dof hov hof c0 c1 hHeld
            go_wp2_with (rw [HW6.out])
            go_region_held3 (fun w' => w'.cell? ⟨b, 0, none⟩ = some (.slice (some ⟨gx, 0, none⟩) S0.length cx) ∧ w'.cell? ⟨wr.heap.size, 0, none⟩ = some (.int .i64 (q : Int)) ∧ w'.cell? ⟨wr.heap.size, 1, none⟩ = some (.slice a5 n5 c5)) (first | go_keep | (refine ⟨?_, ?_, ?_⟩ <;> assumption)) (fail)
            go_wp2
            refine ⟨?_, by simp [intOf]; omega⟩
            first | exact HR.out | exact ⟨_, _, _, _, _, _, _, _, _, _, _, _, _, _, _, _, _, _, _, _, _, _, _, _, _, _, _, _, _, _, _, _, _, _, _, _, _, _, _, _, _, _, _, _, _, _, _, _, _, _, _, _, _, _, _, _, _, _, _, _, _, _, _, _, _, _, _, _, _, _, _, _, _, _, _, _, _, _, HR.out, rfl⟩
          refine AllReadyH.cons rfl (fun K hK => ?_) AllReadyH.nil
          go_simp
          refine hK.out _ _ (by assumption) (fun hHeld => ?_)
          clear hK K
          try simp only [Act.put, List.setIfInBounds_toArray, List.set_cons_zero, List.set_cons_succ, List.getElem_toArray, List.getElem_cons_zero, List.getElem_cons_succ]
          refine wpAnyH_take (i := 3) (v := ?_) rfl (by kernel_rfl) (by kernel_rfl) (by kernel_rfl) (fun _ _ _ h => h) (Or.inl ⟨by rfl, ?_⟩) (by assumption) ?_
          rotate_left
          · (intro w_ hSw_; (try dsimp only at hSw_); go_simp; try with_reducible rfl)
          try simp only [Act.put, List.setIfInBounds_toArray, List.set_cons_zero, List.set_cons_succ, List.getElem_toArray, List.getElem_cons_zero, List.getElem_cons_succ]
          refine wpAnyH_ready (rs := [0]) (by kernel_rfl) (by simp) ?_
          refine AllReadyH.cons rfl (fun K hK => ?_) AllReadyH.nil
          go_simp
          have t1 := (HB3.out.cell (p := ⟨b, 0, none⟩) (by show b < w1'.heap.size; omega)).trans d0
          have t2 := (HB3.out.cell (p := ⟨wr.heap.size, 0, none⟩) (by show wr.heap.size < w1'.heap.size; omega)).trans w0
          have t3 := (HB3.out.cell (p := ⟨gx, q, none⟩) (by show gx < w1'.heap.size; omega)).trans dov
          have tw := (HB3.out.cell (p := ⟨wr.heap.size, 1, none⟩) (by show wr.heap.size < w1'.heap.size; omega)).trans w1
          refine hK.out _ _ ⟨t1, t2, t3⟩ (fun hHeld => ?_)
          clear hK K
          try simp only [Act.put, List.setIfInBounds_toArray, List.set_cons_zero, List.set_cons_succ, List.getElem_toArray, List.getElem_cons_zero, List.getElem_cons_succ]
          refine wpAnyH_ready (rs := [4]) (by kernel_rfl) (by simp) ?_
          refine AllReadyH.cons rfl (fun K hK => ?_) AllReadyH.nil
          refine step_app rfl (.tmp 38) (.tmp 41) (by rfl) w1'.heap.size _ [] (zs.take 16) (by rfl) HOE.out (some ⟨sb, so, none⟩) 16 sc (by rfl) HL1.out.symm HP1.out (Nat.zero_le _) (by rw [HL1.out]; omega) HSZ.out (fun h => by cases h) ?_
          intro v4 w4 ho4 hg4
          rw [List.nil_append] at ho4
          obtain ⟨a4, n4, c4, rfl⟩ := Owns.sliced ho4
          have hb4 : Below w1'.heap.size w1' w4 := below_mark HB3.out hg4 HSZ.out (fun q hq => by have := slice_block hq; simp at this; omega)
          have hs4 := hb4.size
          have u1 := (hb4.cell (p := ⟨b, 0, none⟩) (by show b < w1'.heap.size; omega)).trans d0
          have u2 := (hb4.cell (p := ⟨wr.heap.size, 0, none⟩) (by show wr.heap.size < w1'.heap.size; omega)).trans w0
          have u3 := (hb4.cell (p := ⟨gx, q, none⟩) (by show gx < w1'.heap.size; omega)).trans dov
          refine hK.out _ _ ⟨u1, u2, u3⟩ (fun hHeld => ?_)
          clear hK K
          try simp only [Act.put, List.setIfInBounds_toArray, List.set_cons_zero, List.set_cons_succ, List.getElem_toArray, List.getElem_cons_zero, List.getElem_cons_succ]
          refine wpAnyH_ready (rs := [14]) (by kernel_rfl) (by simp) ?_
          refine AllReadyH.cons rfl (fun K hK => ?_) AllReadyH.nil
          refine step_app rfl (.tmp 42) (.tmp 51) (by rfl) w1'.heap.size _ (zs.take 16) (old.drop 16) (by rfl) ho4 (some ⟨ob, oo + 16, none⟩) 16 (oc - 16) (by rfl) HL2.out.symm (HP2.out _ (HB1.out.trans (hb4.mono HB1.out.size))) (by rw [HL1.out]; omega) (by rw [HL2.out]; omega) hs4 (fun h => by cases h) ?_
          intro v5 w5 ho5 hg5
          obtain ⟨a5, n5, c5, rfl⟩ := Owns.sliced ho5
          have hb5 : Below w1'.heap.size w1' w5 := below_mark hb4 hg5 hs4 (fun q hq => (ho4.lt q hq).1)
          have hs5 := hb5.size
          have x1 := (hb5.cell (p := ⟨b, 0, none⟩) (by show b < w1'.heap.size; omega)).trans d0
          have x2 := (hb5.cell (p := ⟨wr.heap.size, 0, none⟩) (by show wr.heap.size < w1'.heap.size; omega)).trans w0
          have x3 := (hb5.cell (p := ⟨gx, q, none⟩) (by show gx < w1'.heap.size; omega)).trans dov
          have hW5 := (hb5.block wr.heap.size (by omega)).trans HW1B.out
          have xw : w5.cell? ⟨wr.heap.size, 1, none⟩ = some (.slice (some ⟨sb, so, none⟩) 32 sc) := by rw [cell_of_row _ _ _ _ _ _ hW5]; rfl
          have xf : w5.frozen? ⟨wr.heap.size, 1, none⟩ = false := by rw [frozen_of_row _ _ _ _ _ hW5]
          refine hK.out _ _ ⟨x1, x2, x3⟩ (fun hHeld => ?_)
          clear hK K
          try simp only [Act.put, List.setIfInBounds_toArray, List.set_cons_zero, List.set_cons_succ, List.getElem_toArray, List.getElem_cons_zero, List.getElem_cons_succ]
          refine wpAnyH_take (i := 15) (v := ?_) rfl (by kernel_rfl) (by kernel_rfl) (by kernel_rfl) (fun _ _ _ h => h) (Or.inl ⟨by rfl, ?_⟩) (by assumption) ?_
          rotate_left
          · (intro w_ hSw_; (try dsimp only at hSw_); go_simp; try with_reducible rfl)
          try simp only [Act.put, List.setIfInBounds_toArray, List.set_cons_zero, List.set_cons_succ, List.getElem_toArray, List.getElem_cons_zero, List.getElem_cons_succ]
          refine wpAnyH_ready (rs := [16]) (by kernel_rfl) (by simp) ?_
          refine AllReadyH.cons rfl (fun K hK => ?_) AllReadyH.nil
          go_simp
          have hW6 : (w5.setCell ⟨wr.heap.size, 1, none⟩ (.slice a5 n5 c5)).heap[wr.heap.size]? = some (.cells #[.int .i64 (q : Int), .slice a5 n5 c5] 43 (0, 0)) := by
            rw [heap_setCell_same _ _ _ _ _ _ hW5]; rfl
          have hset : ∀ q, q ≠ wr.heap.size → (w5.setCell ⟨wr.heap.size, 1, none⟩ (.slice a5 n5 c5)).heap[q]? = w5.heap[q]? := fun q hq => heap_setCell_other _ _ _ _ hq
          have y1 := (World.cell?_of_block (a := ⟨b, 0, none⟩) (hset b (by omega))).trans x1
          have y2 : (w5.setCell ⟨wr.heap.size, 1, none⟩ (.slice a5 n5 c5)).cell? ⟨wr.heap.size, 0, none⟩ = some (.int .i64 (q : Int)) := by rw [cell_of_row _ _ _ _ _ _ hW6]; rfl
          have y3 := (World.cell?_of_block (a := ⟨gx, q, none⟩) (hset gx (by omega))).trans x3
          have y4 : (w5.setCell ⟨wr.heap.size, 1, none⟩ (.slice a5 n5 c5)).cell? ⟨wr.heap.size, 1, none⟩ = some (.slice a5 n5 c5) := by rw [cell_of_row _ _ _ _ _ _ hW6]; rfl
          have y5 : (w5.setCell ⟨wr.heap.size, 1, none⟩ (.slice a5 n5 c5)).frozen? ⟨gx, q, none⟩ = false := (World.frozen?_of_block (w := w1') (a := ⟨gx, q, none⟩) ((hset gx (by omega)).trans (hb5.block gx (by omega)))).trans dof
          refine hK.out _ _ ⟨y1, y2, y3⟩ (fun hHeld => ?_)
          clear hK K
          try simp only [Act.put, List.setIfInBounds_toArray, List.set_cons_zero, List.set_cons_succ, List.getElem_toArray, List.getElem_cons_zero, List.getElem_cons_succ]
          refine wpAnyH_done (by kernel_rfl) (NoPanic.normal ?_) _
          have hb6 : Below wr.heap.size wr (w5.setCell ⟨wr.heap.size, 1, none⟩ (.slice a5 n5 c5)) := (HB1.out.trans (hb5.mono HB1.out.size)).setCell (Nat.le_refl _) _
          have hr6 : RdB (w5.setCell ⟨wr.heap.size, 1, none⟩ (.slice a5 n5 c5)) w1'.heap.size w5.heap.size (.slice a5 n5 c5) (zs.take 16 ++ old.drop 16) := (OwB.of HZB.out ho5).rd.same (SameIn.set (p := ⟨wr.heap.size, 1, none⟩) (.inl (by show wr.heap.size < _; omega)))
          have ho6 : ∀ g, (Value.slice a5 n5 c5).ownBlock = some g → w1'.heap.size ≤ g ∧ g < w5.heap.size := fun g hg => ho5.lt g hg
          have s6 : (w5.setCell ⟨wr.heap.size, 1, none⟩ (.slice a5 n5 c5)).heap.size = w5.heap.size := by simp
          generalize hw6 : w5.setCell ⟨wr.heap.size, 1, none⟩ (.slice a5 n5 c5) = w6 at hb6 hr6 y1 y2 y3 y4 y5 s6 hHeld
          have HW6 : Hid _ := hw6
          have HR : Hid (SCRel w b (.slice (some ⟨gx, 0, none⟩) S0.length cx) (.slice (some ⟨gy, 0, none⟩) m yc) (d1, d2) bs torn l H h m (.int .i64 ((k : Int) + 1)) ((w6.drewN 1).setCell ⟨gx, q, none⟩ (.slice a5 n5 c5))) := by
            refine HLEAF.out (w6.drewN 1) _ _ (below_drewN2 hb6 1) ((hr6.same (w' := w6.drewN 1) ⟨Nat.le_refl _, fun _ _ _ => rfl⟩).wide (by omega) (by show w5.heap.size ≤ w6.heap.size; omega)) (fun g hg => ?_) HMX.out
            have := ho6 g hg
            exact ⟨by show g < w6.heap.size; omega, by omega, by omega⟩
          clear hw6 HLEAF ho4 hg4 hb4 ho5 hg5 hb5 hb6 hr6 ho6 hW5 hW6 hset xw xf x1 x2 x3 u1 u2 u3 d0 w0 w1 dov dof hov hof c0 c1 hHeld
          go_wp2_with (rw [HW6.out])
          go_region_held3 (fun w' => w'.cell? ⟨b, 0, none⟩ = some (.slice (some ⟨gx, 0, none⟩) S0.length cx) ∧ w'.cell? ⟨wr.heap.size, 0, none⟩ = some (.int .i64 (q : Int)) ∧ w'.cell? ⟨wr.heap.size, 1, none⟩ = some (.slice a5 n5 c5)) (first | go_keep | (refine ⟨?_, ?_, ?_⟩ <;> assumption)) (fail)
          go_wp2
          refine ⟨?_, by simp [intOf]; omega⟩
          first | exact HR.out | exact ⟨_, _, _, _, _, _, _, _, _, _, _, _, _, _, _, _, _, _, _, _, _, _, _, _, _, _, _, _, _, _, _, _, _, _, _, _, _, _, _, _, _, _, _, _, _, _, _, _, _, _, _, _, _, _, _, _, _, _, _, _, _, _, _, _, _, _, _, _, _, _, _, _, _, _, _, _, _, _, HR.out, rfl⟩
        · have he0 : ((k : Int) == torn) = false := by simpa using htorn
          have htn : tornAt torn k = 32 := by unfold tornAt; rw [if_neg htorn]
          have HR : Hid (SCRel w b (.slice (some ⟨gx, 0, none⟩) S0.length cx) (.slice (some ⟨gy, 0, none⟩) m yc) (d1, d2) bs torn l H h m (.int .i64 ((k : Int) + 1)) ((w1'.drewN 1).setCell ⟨gx, q, none⟩ (.slice sa sn sc))) := by
            have hBB : Below wr.heap.size wr (w1'.drewN 1) := below_drewN2 b1 1
            refine HLEAF.out (w1'.drewN 1) _ zs hBB ((hrd.same (SameIn.ofBelow hBB (by omega))).wide hlH (by show h ≤ w1'.heap.size; omega)) (fun g hg => ?_) ?_
            · have := hrg g hg
              exact ⟨by show g < w1'.heap.size; omega, by omega, by omega⟩
            · rw [htn]; exact mixed_all (hwh q hqs) hp2
          clear hw1 b1 hX hY vO ht hnx hst hq hee hCC hrow hxrow hrd hrg hwh hfl hxl hvl hxb hyb hCl hkcell hkc hkl' hxe0 htn htorn hW1 hkeep HLEAF
          go_wp2_with (rw [HW1.out])
          go_region_held3 (fun w' => w'.cell? ⟨b, 0, none⟩ = some (.slice (some ⟨gx, 0, none⟩) S0.length cx) ∧ w'.cell? ⟨wr.heap.size, 0, none⟩ = some (.int .i64 (q : Int)) ∧ w'.cell? ⟨wr.heap.size, 1, none⟩ = some (.slice sa sn sc)) (first | go_keep | (refine ⟨?_, ?_, ?_⟩ <;> assumption)) (fail)
          go_wp2
          refine ⟨?_, by simp [intOf]; omega⟩
          first | exact HR.out | exact ⟨_, _, _, _, _, _, _, _, _, _, _, _, _, _, _, _, _, _, _, _, _, _, _, _, _, _, _, _, _, _, _, _, _, _, _, _, _, _, _, _, _, _, _, _, _, _, _, _, _, _, _, _, _, _, _, _, _, _, _, _, _, _, _, _, _, _, _, _, _, _, _, _, _, _, _, _, _, _, HR.out, rfl⟩
      · have hnx : crashS d1 d2 bs torn (k + 1) = crashS d1 d2 bs torn k := by
          show (if keepAt bs k then _ else _) = _
          rw [if_neg hkeep]
        have HR : Hid (SCRel w b x (.slice ya m yc) (d1, d2) bs torn l H h m (.int .i64 ((k : Int) + 1)) wr) := ⟨k + 1, by omega, by go_num, by rw [hnx]; exact hX, hY, vO, ht⟩
        by_cases hkn : k < kn
        · obtain ⟨ka', kn', kc', hke, hkl', _, hkc⟩ := rk
          simp only [Value.slice.injEq] at hke
          obtain ⟨rfl, rfl, rfl⟩ := hke
          obtain ⟨kb, ko, rfl, _, hkb, hkcell⟩ := hkc.resolve_left (fun e => by rw [e] at hkl'; simp at hkl'; omega)
          have hkc1 := hkcell k (by omega)
          have hf9 : bs[k]?.getD false = false := by simpa [keepAt] using hkeep
          rw [hf9] at hkc1
          have hd0 : decide ((kn : Int) ≤ (k : Int)) = false := by simp; omega
          have hk1 : (k : Int) < (kn : Int) := by omega
          clear hX hY vO ht hnx hrow hCC hee hyb hxl hkeep hkcell hkc hkl' hf9
          go_wp2
          refine ⟨?_, by simp [intOf]; omega⟩
          first | exact HR.out | exact ⟨_, _, _, _, _, _, _, _, _, _, _, _, _, _, _, _, _, _, _, _, _, _, _, _, _, _, _, _, _, _, _, _, _, _, _, _, _, _, _, _, _, _, _, _, _, _, _, _, _, _, _, _, _, _, _, _, _, _, _, _, _, _, _, _, _, _, _, _, _, _, _, _, _, _, _, _, _, _, HR.out, rfl⟩
        · have hd0 : decide ((kn : Int) ≤ (k : Int)) = true := by simp; omega
          clear hX hY vO ht hnx hrow hCC hee hyb hxl hkeep rk
          go_wp2
          refine ⟨?_, by simp [intOf]; omega⟩
          first | exact HR.out | exact ⟨_, _, _, _, _, _, _, _, _, _, _, _, _, _, _, _, _, _, _, _, _, _, _, _, _, _, _, _, _, _, _, _, _, _, _, _, _, _, _, _, _, _, _, _, _, _, _, _, _, _, _, _, _, _, _, _, _, _, _, _, _, _, _, _, _, _, _, _, _, _, _, _, _, _, _, _, _, _, HR.out, rfl⟩
    · have hkm : k = m := by omega
      subst hkm
      have c1 := vO.c1
      have f1 := vO.f 1
      have HX : Hid (KpC wr l b x (crashS d1 d2 bs torn d2.length)) := by rw [← HM.out]; exact hX
      have HVO : Hid (VarD wr b _ _) := vO
      have HT : Hid (TurnsV [x] w wr) := ht
      clear hX vO ht hY hrow hCC hee hxl hyb
      go_wp2
      refine bodyPost_end (v := .tuple #[]) (by simp [results, Tryd.results64, go_sem]) rfl ⟨⟨_, rfl⟩, ?_, ?_, ?_⟩
      · exact KpC.setb HX.out
      · show _ = _
        rw [heap_setCell_same _ _ _ _ _ _ HVO.out]; rfl
      · refine HT.out.more.trans ⟨rfl, rfl, rfl, by simp, fun q _ hq => heap_setCell_other _ _ _ _ (fun e => hq ⟨0, by simp, ?_⟩)⟩
        have e' : q = b := e
        rw [e']; rfl
end Go.Proofs.YtdpigkcdfjnpdaaDoor
