/- Of what waits, what is kept is made safe, of the torn one the first half: the program's crash, over a disk of the call's own that is DiskOk. -/
import Derived.Test.YtdpigkcdfjnpdaaDoorImplFlush2
import Derived.Test.YtdpigkcdfjnpdaaDoorBools
namespace Go.Proofs.YtdpigkcdfjnpdaaDoor
open Go.RowKit
set_option linter.unusedVariables false

def keepAt (bs : List Bool) (k : Nat) : Bool := bs[k]?.getD false
def tornAt (torn : Int) (k : Nat) : Nat := if (k : Int) = torn then 16 else 32
/-- The sectors behind the first k writes of a crash. -/
def crashS (s : List (List Int)) (ws : List Wt) (bs : List Bool) (torn : Int) : Nat → List (List Int)
  | 0 => s
  | k + 1 => if keepAt bs k then stepS (crashS s ws bs torn k) (ws[k]?.getD (0, [])) (tornAt torn k) else crashS s ws bs torn k
def crashD (d : Dk) (bs : List Bool) (torn : Int) : Dk := if okD d then (crashS d.1 d.2 bs torn d.2.length, []) else ([], [])
theorem tornAt_le (torn : Int) (k : Nat) : tornAt torn k ≤ 32 := by unfold tornAt; split <;> omega
theorem crashS_length (s : List (List Int)) (ws : List Wt) (bs : List Bool) (torn : Int) (k : Nat) : (crashS s ws bs torn k).length = s.length := by
  induction k with
  | zero => rfl
  | succ k ih => unfold crashS; split <;> simp [ih]
theorem Whole.crash {s : List (List Int)} {ws : List Wt} {bs : List Bool} {torn : Int} (h : Whole s) (hp : ∀ i, i < ws.length → (ws[i]?.getD (0, [])).2.length = 32) : ∀ k, k ≤ ws.length → Whole (crashS s ws bs torn k) := by
  intro k
  induction k with
  | zero => intro _; exact h
  | succ k ih =>
    intro hk
    unfold crashS
    split
    · exact (ih (by omega)).step (hp k (by omega)) (tornAt_le _ _)
    · exact ih (by omega)

/-- What holds at the head of each round. -/
def CrRel (w : World) (b : Nat) (x y : Value) (d : Dk) (bs : List Bool) (torn : Int) (vs xs : List Value) (l h m : Nat) (i : Value) (wr : World) : Prop :=
  ∃ k : Nat, k ≤ m ∧ i = .int .i64 k ∧ OwX wr l h x (crashS d.1 d.2 bs torn k) vs ∧ OwY wr l h y d.2 xs ∧ VarD wr b x y ∧ TurnsV vs w wr

set_option maxHeartbeats 2000000 in
theorem crash_any (b : Nat) (x y : Value) (d : Dk) (kv : Value) (bs : List Bool) (lk hk' : Nat) (torn : Int) (vs xs : List Value) (l h : Nat) (w : World) (hv : VarD w b x y) (o1 : OwX w l h x d.1 vs) (o2 : OwY w l h y d.2 xs) (ha : ∀ q, Blk vs q → ¬ Blk xs q) (hb : ¬ Blk vs b) (hh : h ≤ w.heap.size) (hok : okD d = true) (rk : RdF w lk hk' kv bs) (hkl : hk' ≤ l) (hkm : bs.length ≤ 9223372036854775807) :
    Calls Tryd.prog 51 #[.pointer (some ⟨b, 0, none⟩), kv, .int .i64 torn] w fun e w' => (∃ u, e = .returned u) ∧ OwX w' l h x (crashS d.1 d.2 bs torn d.2.length) vs ∧ VarD w' b x (.slice none 0 0) ∧ TurnsV (.slice (some ⟨b, 0, none⟩) 0 0 :: vs) w w' := by
  obtain ⟨d1, d2⟩ := d
  have hok' := hok
  unfold okD at hok'
  simp only [Bool.and_eq_true, decide_eq_true_eq, List.all_eq_true] at hok'
  obtain ⟨⟨⟨hn2, hm2⟩, hs⟩, hw⟩ := hok'
  have HWH : Hid (Whole d1) := fun i hi => by
    have := hs _ (List.getElem_mem hi)
    simp [secOk] at this
    simp [hi, this]
  have HWW : Hid (∀ i, i < d2.length → 0 ≤ (d2[i]?.getD (0, [])).1 ∧ (d2[i]?.getD (0, [])).1 < (d1.length : Int) ∧ (d2[i]?.getD (0, [])).2.length = 32) := fun i hi => by
    have := hw _ (List.getElem_mem hi)
    simp [waitOk, secOk] at this
    simp [hi]
    omega
  obtain ⟨ka, kn, kc, rfl, hkn, _, hkc⟩ := rk
  have HKN : Hid _ := hkn
  have hknm : kn ≤ 9223372036854775807 := by omega
  have HKC : Hid _ := hkc
  obtain ⟨ya, m, yc, us, rfl, hm, hhd, hc, he⟩ := o2.ww.rd
  replace hm : m = d2.length := hm
  have hbw := hv.lt
  have HM : Hid _ := hm
  have hm3 : m ≤ 2000 := by omega
  have c1 := hv.c1
  have HA : Hid _ := ha
  have HBN : Hid _ := hb
  have HST : Hid (CrRel w b x (.slice ya m yc) (d1, d2) bs torn vs xs l h m (.int .i64 0) w) := ⟨0, Nat.zero_le _, rfl, o1, o2, hv, TurnsV.refl _ _⟩
  have HOX0 : Hid (OwX w l h x d1 vs) := o1
  clear hok hs hw hm hc he hhd o1 o2 hv ha hb us hkn hkc
  go_enter Tryd.func51, Tryd.ntmps51
  go_wp2
  go_loopw [13] (fun i wr => CrRel w b x (.slice ya m yc) (d1, d2) bs torn vs xs l h m i wr) (fun i _ => m - (intOf i).toNat)
  case atStart => exact HST.out
  case round =>
    clear HST c1
    obtain ⟨k, hk, rfl, hX, hY, vO, ht⟩ := hrel
    have hsz := ht.size
    by_cases hlt : k < m
    · obtain ⟨hp0, hp1, hp2⟩ := HWW.out k (by rw [← HM.out]; exact hlt)
      have hfl : (crashS d1 d2 bs torn k).length = d1.length := crashS_length _ _ _ _ _
      have hwh := Whole.crash (bs := bs) (torn := torn) HWH.out (fun i hi => (HWW.out i hi).2.2) k (by rw [← HM.out]; omega)
      have hnx : crashS d1 d2 bs torn (k + 1) = if keepAt bs k then stepS (crashS d1 d2 bs torn k) (d2[k]?.getD (0, [])) (tornAt torn k) else crashS d1 d2 bs torn k := rfl
      obtain ⟨a2, m2, c2, us, hye, hm2', _, hcc, hee⟩ := hY.ww.rd
      simp only [Value.slice.injEq] at hye
      obtain ⟨rfl, rfl, rfl⟩ := hye
      obtain ⟨g, off, rfl, hg0, hgh, hcell⟩ := hcc.resolve_left (by omega)
      have h1 := (hcell k hlt).1
      have h2 := (hcell k hlt).2
      have hrd := hee k hlt
      have hws : g < wr.heap.size := by omega
      obtain ⟨q, hq⟩ : ∃ q : Nat, (d2[k]?.getD (0, [])).1 = (q : Int) := ⟨(d2[k]?.getD (0, [])).1.toNat, by omega⟩
      have hst : ∀ c, stepS (crashS d1 d2 bs torn k) (d2[k]?.getD (0, [])) c = (crashS d1 d2 bs torn k).set q (mixed ((crashS d1 d2 bs torn k)[q]?.getD []) (d2[k]?.getD (0, [])).2 c) := fun c => by unfold stepS; rw [hq, Int.toNat_natCast]
      rw [hq] at h1 hp0 hp1
      rw [hst] at hnx
      generalize (d2[k]?.getD (0, [])).2 = zs at hrd hp2 hnx
      generalize us k = sl at h2 hrd
      generalize crashS d1 d2 bs torn k = S0 at hX hfl hwh hnx
      have hqs : q < S0.length := by omega
      obtain ⟨sa, sn, sc, rfl⟩ := hrd.sliced
      have hi0 : (0 : Int) ≤ (k : Int) := by omega
      have hi1 : (k : Int) < (m : Int) := by omega
      have b4 := Below.new (w := wr) (.cells #[.int .i64 (q : Int), .slice sa sn sc] 43)
      have HMS : Hid (∀ c, c ≤ 32 → _) := fun c hc => makeSafe_any b q c x (.slice (some ⟨g, off, none⟩) m yc) S0 vs l h (.slice sa sn sc) zs l h _ (vO.step b4) (hX.same (SameIn.ofBelow b4 (by omega))) hqs (hwh q hqs) (hrd.same (SameIn.ofBelow b4 (by omega))) hp2 hc (by simp; omega) (by simp; omega) (by omega)
      have HX : Hid (OwX wr l h x S0 vs) := hX
      have HY : Hid (OwY wr l h _ d2 xs) := hY
      have HVO : Hid (VarD wr b _ _) := vO
      have HNX : Hid _ := hnx
      have HT : Hid (TurnsV vs w wr) := ht
      have HB4 : Hid _ := b4
      have HQV : Hid (q < vs.length) := by show q < _; have := hX.1; omega
      have HKEEP : Hid (∀ W, TurnsV vs wr W → OwX W l h x (crashS d1 d2 bs torn (k + 1)) vs → CrRel w b x (.slice (some ⟨g, off, none⟩) m yc) (d1, d2) bs torn vs xs l h m (.int .i64 ((k : Int) + 1)) W) := fun W hgv hX5 => by
        refine ⟨k + 1, by omega, by go_num, hX5, ?_, ?_, HT.out.trans hgv⟩
        · refine OwY.keep HY.out (fun q' hq' => hgv.block q' (by have := OwY.lt HY.out q' hq'; omega) (fun hbv => ?_))
          obtain ⟨i, hi, hk'⟩ := hq'
          cases i with
          | zero =>
            obtain ⟨C, _, h2, _⟩ := HY.out
            obtain ⟨j, hj, hjk⟩ := hbv
            exact tag_ne h2 ((OwX.same HX.out (SameIn.refl _ _ _)).2.2.2.1 j hj).2.1 (by decide) q' (by simpa using hk') hjk
          | succ i => exact HA.out q' hbv ⟨i, by simpa using hi, by simpa using hk'⟩
        · exact (hgv.block b (VarD.lt HVO.out) HBN.out).trans HVO.out
      have HKC2 : Hid (∀ i, i < kn → ∃ bk ok, ka = some ⟨bk, ok, none⟩ ∧ (wr.alloc (.cells #[.int .i64 (q : Int), .slice sa sn sc] 43)).cell? ⟨bk, ok + i, none⟩ = some (.bool (keepAt bs i))) := fun i hi => by
        rcases HKC.out with h0 | ⟨bk, ok, hka, _, hbk, hck⟩
        · have := HKN.out; rw [h0] at this; simp at this; omega
        · refine ⟨bk, ok, hka, ?_⟩
          have hlt1 := OwX.lt HX.out
          have hbkw : bk < w.heap.size := block_lt_of_cell (a := ⟨bk, ok + i, none⟩) (hck i (by rw [← HKN.out]; exact hi))
          have e1 : wr.heap[bk]? = w.heap[bk]? := HT.out.block bk hbkw (fun hb => by have := hlt1 bk hb; omega)
          have e2 := HB4.out.block bk (by omega)
          have := (World.cell?_of_block (a := ⟨bk, ok + i, none⟩) (e2.trans e1)).trans (hck i (by rw [← HKN.out]; exact hi))
          exact this
      clear hm2' hX hY vO ht hnx hst hq hcc hcell hee hrd hwh hfl b4
      by_cases hin : k < kn
      case neg =>
        have hd0 : decide ((kn : Int) ≤ (k : Int)) = true := by simp; omega
        have hka : keepAt bs k = false := by unfold keepAt; rw [List.getElem?_eq_none (by rw [← HKN.out]; omega)]; rfl
        have HR : Hid _ := HKEEP.out _ (TurnsV.ofBelow HB4.out) (by rw [HNX.out, hka]; exact OwX.same HX.out (SameIn.ofBelow HB4.out (by omega)))
        clear hka HX HY HVO HMS HNX HT HB4 HKEEP HKC2
        go_wp2
        refine ⟨?_, by simp [intOf]; omega⟩
        first | exact HR.out | exact ⟨_, _, _, _, _, _, _, _, _, _, _, _, _, _, _, _, _, _, _, _, _, _, _, _, _, _, _, _, _, _, HR.out, rfl⟩ | exact ⟨_, _, _, _, _, _, _, _, _, _, _, _, _, _, _, _, _, _, _, _, _, _, _, _, _, _, _, _, _, _, _, HR.out, rfl⟩ | exact ⟨_, _, _, _, _, _, _, _, _, _, _, _, _, _, _, _, _, _, _, _, _, _, _, _, _, _, _, _, _, HR.out, rfl⟩ | exact ⟨_, _, _, _, _, _, _, _, _, _, _, _, _, _, _, _, _, _, _, _, _, _, _, _, _, _, _, _, HR.out, rfl⟩ | exact ⟨_, _, _, _, _, _, _, _, _, _, _, _, _, _, _, _, _, _, _, _, _, _, _, _, _, _, _, _, _, _, _, _, HR.out, rfl⟩ | exact ⟨_, _, _, _, _, _, _, _, _, _, _, _, _, _, _, _, _, _, _, _, _, _, _, _, _, _, _, HR.out, rfl⟩ | exact ⟨_, _, _, _, _, _, _, _, _, _, _, _, _, _, _, _, _, _, _, _, _, _, _, _, _, _, HR.out, rfl⟩ | exact ⟨_, _, _, _, _, _, _, _, _, _, _, _, _, _, _, _, _, _, _, _, _, _, _, _, _, HR.out, rfl⟩
      obtain ⟨bk, ok, rfl, hck⟩ := HKC2.out k hin
      have hd0 : decide ((kn : Int) ≤ (k : Int)) = false := by simp; omega
      have hj1 : (k : Int) < (kn : Int) := by omega
      cases hkb : keepAt bs k with
      | false =>
        rw [hkb] at hck
        have HR : Hid _ := HKEEP.out _ (TurnsV.ofBelow HB4.out) (by rw [HNX.out, hkb]; exact OwX.same HX.out (SameIn.ofBelow HB4.out (by omega)))
        clear hkb HX HY HVO HMS HNX HT HB4 HKEEP HKC2
        go_wp2
        refine ⟨?_, by simp [intOf]; omega⟩
        first | exact HR.out | exact ⟨_, _, _, _, _, _, _, _, _, _, _, _, _, _, _, _, _, _, _, _, _, _, _, _, _, _, _, _, _, _, HR.out, rfl⟩ | exact ⟨_, _, _, _, _, _, _, _, _, _, _, _, _, _, _, _, _, _, _, _, _, _, _, _, _, _, _, _, _, _, _, HR.out, rfl⟩ | exact ⟨_, _, _, _, _, _, _, _, _, _, _, _, _, _, _, _, _, _, _, _, _, _, _, _, _, _, _, _, _, HR.out, rfl⟩ | exact ⟨_, _, _, _, _, _, _, _, _, _, _, _, _, _, _, _, _, _, _, _, _, _, _, _, _, _, _, _, HR.out, rfl⟩ | exact ⟨_, _, _, _, _, _, _, _, _, _, _, _, _, _, _, _, _, _, _, _, _, _, _, _, _, _, _, _, _, _, _, _, HR.out, rfl⟩ | exact ⟨_, _, _, _, _, _, _, _, _, _, _, _, _, _, _, _, _, _, _, _, _, _, _, _, _, _, _, HR.out, rfl⟩ | exact ⟨_, _, _, _, _, _, _, _, _, _, _, _, _, _, _, _, _, _, _, _, _, _, _, _, _, _, HR.out, rfl⟩ | exact ⟨_, _, _, _, _, _, _, _, _, _, _, _, _, _, _, _, _, _, _, _, _, _, _, _, _, HR.out, rfl⟩
      | true =>
        rw [hkb] at hck
        have HN2 : Hid (crashS d1 d2 bs torn (k + 1) = S0.set q (mixed (S0[q]?.getD []) zs (tornAt torn k))) := by show _ = _; rw [HNX.out, hkb]; rfl
        clear hkb HNX HKC2
        by_cases htk : (k : Int) = torn
        · have hc16 : tornAt torn k = 16 := by unfold tornAt; rw [if_pos htk]
          have hde : ((k : Int) == torn) = true := by simpa using htk
          have HN3 : Hid _ := HN2.out
          rw [hc16] at HN3
          clear htk hc16 HN2
          go_wp2_with fail
          refine Calls.mono (HMS.out 16 (by omega)) ?_
          rintro e w5 ⟨⟨u, rfl⟩, hX5, hg5⟩
          have hgv : TurnsV vs wr w5 := (TurnsV.ofBelow HB4.out).trans (TurnsV.ofGrown hg5 (fun q' hq' => ⟨q, HQV.out, hq'⟩))
          have HR : Hid _ := HKEEP.out w5 hgv (by rw [HN3.out]; exact hX5)
          clear HX HY HVO HMS hX5 hg5 hgv HN3 HT HB4 HKEEP h1 h2 hck
          go_wp2
          refine ⟨?_, by simp [intOf]; omega⟩
          first | exact HR.out | exact ⟨_, _, _, _, _, _, _, _, _, _, _, _, _, _, _, _, _, _, _, _, _, _, _, _, _, _, _, _, _, _, HR.out, rfl⟩ | exact ⟨_, _, _, _, _, _, _, _, _, _, _, _, _, _, _, _, _, _, _, _, _, _, _, _, _, _, _, _, _, _, _, HR.out, rfl⟩ | exact ⟨_, _, _, _, _, _, _, _, _, _, _, _, _, _, _, _, _, _, _, _, _, _, _, _, _, _, _, _, _, HR.out, rfl⟩ | exact ⟨_, _, _, _, _, _, _, _, _, _, _, _, _, _, _, _, _, _, _, _, _, _, _, _, _, _, _, _, HR.out, rfl⟩ | exact ⟨_, _, _, _, _, _, _, _, _, _, _, _, _, _, _, _, _, _, _, _, _, _, _, _, _, _, _, _, _, _, _, _, HR.out, rfl⟩ | exact ⟨_, _, _, _, _, _, _, _, _, _, _, _, _, _, _, _, _, _, _, _, _, _, _, _, _, _, _, HR.out, rfl⟩ | exact ⟨_, _, _, _, _, _, _, _, _, _, _, _, _, _, _, _, _, _, _, _, _, _, _, _, _, _, HR.out, rfl⟩ | exact ⟨_, _, _, _, _, _, _, _, _, _, _, _, _, _, _, _, _, _, _, _, _, _, _, _, _, HR.out, rfl⟩
        · have hc32 : tornAt torn k = 32 := by unfold tornAt; rw [if_neg htk]
          have hde : ((k : Int) == torn) = false := by simpa using htk
          have HN3 : Hid _ := HN2.out
          rw [hc32] at HN3
          clear htk hc32 HN2
          go_wp2_with fail
          refine Calls.mono (HMS.out 32 (by omega)) ?_
          rintro e w5 ⟨⟨u, rfl⟩, hX5, hg5⟩
          have hgv : TurnsV vs wr w5 := (TurnsV.ofBelow HB4.out).trans (TurnsV.ofGrown hg5 (fun q' hq' => ⟨q, HQV.out, hq'⟩))
          have HR : Hid _ := HKEEP.out w5 hgv (by rw [HN3.out]; exact hX5)
          clear HX HY HVO HMS hX5 hg5 hgv HN3 HT HB4 HKEEP h1 h2 hck
          go_wp2
          refine ⟨?_, by simp [intOf]; omega⟩
          first | exact HR.out | exact ⟨_, _, _, _, _, _, _, _, _, _, _, _, _, _, _, _, _, _, _, _, _, _, _, _, _, _, _, _, _, _, HR.out, rfl⟩ | exact ⟨_, _, _, _, _, _, _, _, _, _, _, _, _, _, _, _, _, _, _, _, _, _, _, _, _, _, _, _, _, _, _, HR.out, rfl⟩ | exact ⟨_, _, _, _, _, _, _, _, _, _, _, _, _, _, _, _, _, _, _, _, _, _, _, _, _, _, _, _, _, HR.out, rfl⟩ | exact ⟨_, _, _, _, _, _, _, _, _, _, _, _, _, _, _, _, _, _, _, _, _, _, _, _, _, _, _, _, HR.out, rfl⟩ | exact ⟨_, _, _, _, _, _, _, _, _, _, _, _, _, _, _, _, _, _, _, _, _, _, _, _, _, _, _, _, _, _, _, _, HR.out, rfl⟩ | exact ⟨_, _, _, _, _, _, _, _, _, _, _, _, _, _, _, _, _, _, _, _, _, _, _, _, _, _, _, HR.out, rfl⟩ | exact ⟨_, _, _, _, _, _, _, _, _, _, _, _, _, _, _, _, _, _, _, _, _, _, _, _, _, _, HR.out, rfl⟩ | exact ⟨_, _, _, _, _, _, _, _, _, _, _, _, _, _, _, _, _, _, _, _, _, _, _, _, _, HR.out, rfl⟩
    · have hkm : k = m := by omega
      subst hkm
      have c1 := vO.c1
      have f1 := vO.f 1
      have e1 : k = d2.length := HM.out
      replace hX : OwX wr l h x (crashS d1 d2 bs torn d2.length) vs := by rw [← e1]; exact hX
      have HX : Hid (OwX wr l h x (crashS d1 d2 bs torn d2.length) vs) := hX
      have HVO : Hid (VarD wr b _ _) := vO
      have HT : Hid (TurnsV vs w wr) := ht
      have hxb : ∀ q, x.ownBlock = some q → q ≠ b := fun q hq e => by
        subst e
        rcases hX.2.1.2 with ⟨h0, _⟩ | ⟨g, c, cur, h0, _, hh1, _⟩
        · rw [h0] at hq; cases hq
        · rw [h0] at hq; cases hq
          have := vO; unfold VarD at this
          rw [hh1] at this; simp at this
      have HXB : Hid _ := hxb
      clear hX vO ht hY e1 hxb
      go_wp2
      refine bodyPost_end (v := .tuple #[]) (by simp [results, Tryd.results51, go_sem]) rfl ⟨⟨_, rfl⟩, ?_, ?_, ?_⟩
      · refine OwX.keep HX.out (fun q hq => heap_setCell_other _ _ _ _ (HXB.out q hq)) (fun q hq => heap_setCell_other _ _ _ _ (fun e => HBN.out (by rw [← show q = b from e]; exact hq)))
      · show _ = _
        rw [heap_setCell_same _ _ _ _ _ _ HVO.out]; rfl
      · refine HT.out.more.trans ⟨rfl, rfl, rfl, by simp, fun q _ hq => heap_setCell_other _ _ _ _ (fun e => hq ⟨0, by simp, ?_⟩)⟩
        have e' : q = b := e
        rw [e']; rfl
end Go.Proofs.YtdpigkcdfjnpdaaDoor
