/- Joined: SpecT2 OpOks OpOks2 ImplT1 IC1 IC2 WOk WOk2 WOk3 WMsg0 WSame SortL WSz Eqs WEq ShEq2 ShEq3 OpenT OpenT2 OpenW. -/
import Derived.Test.YtoaocjkapoemnaaGreatUA00
import Derived.Deep.RegionHeld3
import Derived.Deep.QuietTactic
import Derived.BigQuiet
import Derived.Shelf.SlSortCmp.WholeK
import Derived.Shelf.SlSortCmp.NoneTotal
import Derived.Test.YtoaocjkapoemnaaGreatProg
import Derived.ProofKit
import Derived.OpenShut
import Derived.Lib.SmallJoins
import Derived.Deep.Slices
import Derived.Deep.Strs

namespace Go.Proofs.YtoaocjkapoemnaaGreat
open Go.RowKit
set_option linter.unusedVariables false
set_option linter.unusedSimpArgs false
set_option maxRecDepth 100000
section
theorem psum_len {α : Type} (f g : α → Nat) (h : ∀ a, f a ≤ g a) (l : List α) (j : Nat) : psum f l j ≤ (l.map g).sum := by
  have h1 := psum_mono0 f g h (l.take j)
  have h2 := psum_le g l j
  unfold psum at *
  omega

set_option maxHeartbeats 4000000 in
theorem specCount_any (x : Value) (l : List Nd) (h : Hd) (S : Nat → Prop) (w : World) (r : RdV w S x (ndsDt l)) (hl : szNds l ≤ 2097152) :
    Calls Tryz.prog 41 #[.agg #[x], h.v] w fun e w' => e = .returned (.int .i64 (cntH l h : Int)) ∧ Below w.heap.size w w' := by
  obtain ⟨a, cap, rfl, _⟩ := RdV.sliced r
  obtain ⟨s, ino, d⟩ := h
  have HR : Hid (∀ W, Below w.heap.size w W → RdV W S (.slice a l.length cap) (.rows 54 9 l.length (fun i j => ndCell (l[i]?.getD nd0) j))) := RdV.old r
  have HP : Hid (∀ j, psum (fun n => cntE n.es (s, ino, d)) l j ≤ 2097152) := fun j => Nat.le_trans (psum_len _ (fun n : Nd => szEns n.es) (fun n => by unfold cntE szEns; exact Nat.le_trans List.countP_le_length (by omega)) l j) (by unfold szNds at hl; omega)
  have HX : Hid (cntH l (s, ino, d) = psum (fun n => cntE n.es (s, ino, d)) l l.length) := rfl
  have HU : Hid (∀ j, j < l.length → psum (fun n => cntE n.es (s, ino, d)) l (j + 1) = psum (fun n => cntE n.es (s, ino, d)) l j + cntE (l[j]?.getD nd0).es (s, ino, d)) := fun j hj => psum_next _ l _ j hj
  have HU0 : Hid (psum (fun n => cntE n.es (s, ino, d)) l 0 = 0) := psum_zero _ _
  have HE : Hid (∀ j : Nat, (l[j]?.getD nd0).es.length ≤ 2097152) := fun j => Nat.le_trans (Nat.le_trans (show (l[j]?.getD nd0).es.length ≤ szEns (l[j]?.getD nd0).es by unfold szEns; omega) (szNds_at l j)) hl
  generalize psum (fun n => cntE n.es (s, ino, d)) l = P at HP HX HU HU0
  have hnn : l.length ≤ 2097152 := by unfold szNds at hl; omega
  rw [HX.out]
  clear r hl HX
  generalize l.length = n at *
  go_enter Tryz.func41, Tryz.ntmps41
  go_wp2
  go_loopw [5, 6] (fun c i wr => ∃ k : Nat, k ≤ n ∧ i = .int .i64 k ∧ c = .int .i64 (P k : Int) ∧ Below w.heap.size w wr ∧ VarA wr w.heap.size 26 #[.slice a n cap] ∧ VarA wr (w.heap.size + 1) 51 #[.int .i64 s, .int .i64 ino, .bool d]) (fun _ i _ => n - (intOf i).toNat)
  case atStart => exact ⟨0, Nat.zero_le _, rfl, by rw [HU0.out]; rfl, Below.newH2 _ _, (VarA.new w _ _).alloc _, by have := VarA.new (w.alloc (.cells #[.slice a n cap] 26)) 51 #[.int .i64 s, .int .i64 ino, .bool d]; simpa using this⟩
  case round =>
    obtain ⟨k, hk, rfl, rfl, hbel, v0, v1⟩ := hrel
    have c0 := v0.l1
    by_cases hlt : k < n
    · obtain ⟨b, off, rfl, hbl, _, hx⟩ := RdV.at (HR.out wr hbel) hlt
      obtain ⟨e, he⟩ : ∃ e, l[k]?.getD nd0 = e := ⟨_, rfl⟩
      obtain ⟨x8, c8, r8⟩ := hx 8 (by omega)
      have hu := HU.out k hlt
      have he2 := HE.out k
      have hp := HP.out k
      have hp1 := HP.out (k + 1)
      rw [he] at r8 hu he2
      clear hx he
      obtain ⟨hh, par, lk, vl, es⟩ := e
      dsimp only at hu he2
      have RE : Hid (RdV wr S x8 (ensDt es)) := r8
      clear r8
      obtain ⟨ea, ec, rfl, _⟩ := RdV.sliced RE.out
      have HRE : Hid (∀ W, Below wr.heap.size wr W → RdV W S (.slice ea es.length ec) (.rows 83 4 es.length (fun i j => enCell (es[i]?.getD en0) j))) := RdV.old RE.out
      obtain ⟨m0, hm0⟩ : ∃ m0, es.length = m0 := ⟨_, rfl⟩
      rw [hm0] at HRE c8 he2
      have HM0 : Hid _ := hm0
      have HFIN : Hid (P k + cntE (es.take m0) (s, ino, d) = P (k + 1)) := by show _ = _; rw [hu, ← hm0, List.take_length]
      have HLE : Hid (∀ m, P k + cntE (es.take m) (s, ino, d) ≤ 4194304) := fun m => by have := cntE_le es (s, ino, d) m; omega
      clear RE hm0 hu hp1
      generalize P k = pk at *
      have hc8 : ∀ W, Below wr.heap.size wr W → W.cell? ⟨b, off + k * 9 + 8, none⟩ = some (.slice ea m0 ec) := fun W hW => (hW.cell (p := ⟨b, off + k * 9 + 8, none⟩) hbl).trans c8
      have HC8 : Hid _ := hc8
      clear hc8
      go_wp2
      go_loopw [5, 7] (fun c i wq => ∃ m : Nat, m ≤ m0 ∧ i = .int .i64 m ∧ ∃ z : Nat, c = .int .i64 (z : Int) ∧ Hid (z = pk + cntE (es.take m) (s, ino, d)) ∧ Below wr.heap.size wr wq ∧ VarA wq w.heap.size 26 #[.slice (some ⟨b, off, none⟩) n cap] ∧ VarA wq (w.heap.size + 1) 51 #[.int .i64 s, .int .i64 ino, .bool d]) (fun _ i _ => m0 - (intOf i).toNat)
      case atStart => exact ⟨0, Nat.zero_le _, rfl, pk, rfl, by show _ = _; simp [cntE], Below.refl _ _, v0, v1⟩
      case round =>
        clear c0 v0 v1 c8
        obtain ⟨m, hm, rfl, z, rfl, HZ0, hbel2, v0, v1⟩ := hrel
        have c0 := v0.l1
        obtain ⟨f0, f1, f2⟩ := v1.l3
        have c8 := HC8.out _ hbel2
        by_cases hlt2 : m < m0
        · obtain ⟨b2, off2, rfl, hbl2, _, hy⟩ := RdV.at (HRE.out _ hbel2) hlt2
          obtain ⟨e, he⟩ : ∃ e, es[m]?.getD en0 = e := ⟨_, rfl⟩
          obtain ⟨x1, g1, r1⟩ := hy 1 (by omega)
          obtain ⟨x2, g2, r2⟩ := hy 2 (by omega)
          obtain ⟨x3, g3, r3⟩ := hy 3 (by omega)
          rw [he] at r1 r2 r3
          have hcn := cntE_next es (s, ino, d) m (by rw [HM0.out]; exact hlt2)
          rw [he] at hcn
          have hle := HLE.out (m + 1)
          clear hy he
          obtain ⟨nm, ⟨p, q, dd⟩⟩ := e
          obtain rfl : x1 = .int .i64 p := r1
          obtain rfl : x2 = .int .i64 q := r2
          obtain rfl : x3 = .bool dd := r3
          have HNX : Hid (((p = s ∧ q = ino ∧ dd = d) → z + 1 = pk + cntE (es.take (m + 1)) (s, ino, d)) ∧ (¬ (p = s ∧ q = ino ∧ dd = d) → z = pk + cntE (es.take (m + 1)) (s, ino, d))) := by
            have hz := HZ0.out
            refine ⟨?_, ?_⟩
            · rintro ⟨rfl, rfl, rfl⟩
              rw [hcn, if_pos rfl]; omega
            · intro hne
              rw [hcn, if_neg (fun e => hne (by simpa using e))]; omega
          have hzb : z ≤ 4194304 := by have := HZ0.out; have := HLE.out m; omega
          clear hcn hle HZ0
          by_cases h1 : p = s
          case neg =>
            have k1 : (p == s) = false := by simpa using h1
            have HF : Hid _ := HNX.out.2 (fun e => h1 e.1)
            clear HNX
            go_wp2
            go_quiet (fail)
            go_wp2
            go_roundw
            case rel => exact ⟨m + 1, by omega, by go_num, z, rfl, HF.out, below_drewN2 hbel2 _, v0, v1⟩
            case measure => simp [intOf]; omega
          subst h1
          by_cases h2 : q = ino
          case neg =>
            have k1 : (q == ino) = false := by simpa using h2
            have HF : Hid _ := HNX.out.2 (fun e => h2 e.2.1)
            clear HNX
            go_wp2
            go_quiet (fail)
            go_wp2
            go_roundw
            case rel => exact ⟨m + 1, by omega, by go_num, z, rfl, HF.out, below_drewN2 hbel2 _, v0, v1⟩
            case measure => simp [intOf]; omega
          subst h2
          by_cases h3 : dd = d
          case neg =>
            have k1 : (dd == d) = false := by simpa using h3
            have HF : Hid _ := HNX.out.2 (fun e => h3 e.2.2)
            clear HNX
            go_wp2
            go_quiet (fail)
            go_wp2
            go_roundw
            case rel => exact ⟨m + 1, by omega, by go_num, z, rfl, HF.out, below_drewN2 hbel2 _, v0, v1⟩
            case measure => simp [intOf]; omega
          subst h3
          have HF : Hid _ := HNX.out.1 ⟨rfl, rfl, rfl⟩
          clear HNX
          go_wp2
          go_quiet (fail)
          go_wp2
          go_roundw
          case rel => exact ⟨m + 1, by omega, by go_num, z + 1, by go_num, HF.out, below_drewN2 hbel2 _, v0, v1⟩
          case measure => simp [intOf]; omega
        · have hmm : m = m0 := by omega
          subst hmm
          have HF : Hid (z = P (k + 1)) := by show _ = _; rw [HZ0.out]; exact HFIN.out
          have hb3 := hbel.trans (hbel2.mono hbel.size)
          go_wp2
          go_roundw
          case rel => exact ⟨k + 1, by omega, by go_num, by rw [← HF.out], hb3, v0, v1⟩
          case measure => simp [intOf]; omega
    · have hkn : k = n := by omega
      subst hkn
      go_wp2
      go_ret
      exact ⟨rfl, hbel⟩
end
section
def nmP (k : Int) : Bool := k == 0 || k == 5 || k == 4 || k == 6 || k == 7
def toP (k : Int) : Bool := k == 4 || k == 6 || k == 7
def asP (k : Int) : Bool := k == 7
/-- May the operation be? -/
def nmB (o : OpD) : Bool := if nmP o.kind then isNm o.nm else decide (o.nm.length = 0)
def toB (o : OpD) : Bool := if o.kind = 4 then (decide (0 ≤ o.to.sh) && decide (o.to.sh < 4)) && decide (o.to.ino = 0) else if toP o.kind then HOk o.to else decide (o.to = hd0)
def asB (o : OpD) : Bool := if asP o.kind then isNm o.asn else decide (o.asn.length = 0)
def vlB (o : OpD) : Bool := if o.kind = 3 then decide (0 ≤ o.val) && decide (o.val ≤ 2147483647) else decide (o.val = 0)
def OOk (o : OpD) : Bool := ((decide (0 ≤ o.kind) && decide (o.kind ≤ 7)) && HOk o.dir) && (nmB o && (toB o && (asB o && vlB o)))
end
section
theorem isShard_any (k : Int) (w : World) : Calls Tryz.prog 118 #[.int .i64 k] w fun e w' => e = .returned (.bool (decide (0 ≤ k) && decide (k < 4))) ∧ w' = w := by
  go_enter Tryz.func118, Tryz.ntmps118
  go_wp2
  all_goals (go_ret; exact ⟨by first | rfl | (simp_all <;> omega), rfl⟩)
theorem isNumber_any (k : Int) (w : World) : Calls Tryz.prog 95 #[.int .i64 k] w fun e w' => e = .returned (.bool (decide (0 ≤ k) && decide (k ≤ 2147483647))) ∧ w' = w := by
  go_enter Tryz.func95, Tryz.ntmps95
  go_wp2
  all_goals (go_ret; exact ⟨by first | rfl | (simp_all <;> omega), rfl⟩)
end
section
def cmpI (a b : Int) : Int := if a < b then -1 else if b < a then 1 else 0
theorem isNaN_any (a : Int) (w : World) : Calls Tryz.prog 117 #[.int .i64 a] w fun e w' => e = .returned (.bool false) ∧ w' = w := by
  go_enter Tryz.func117, Tryz.ntmps117
  go_wp2
  go_ret
  exact ⟨by simp, rfl⟩
theorem compare_any (a b : Int) (w : World) : Calls Tryz.prog 93 #[.int .i64 a, .int .i64 b] w fun e w' => e = .returned (.int .i64 (cmpI a b)) ∧ w' = w := by
  have H1 : Hid (∀ W, _) := fun W => isNaN_any a W
  have H2 : Hid (∀ W, _) := fun W => isNaN_any b W
  go_enter Tryz.func93, Tryz.ntmps93
  go_wp2_with fail
  refine Calls.mono (H1.out _) ?_
  rintro e w2 ⟨rfl, rfl⟩
  go_wp2_with fail
  refine Calls.mono (H2.out _) ?_
  rintro e w2 ⟨rfl, rfl⟩
  go_wp2
  all_goals (go_ret; exact ⟨by unfold cmpI; first | (rw [if_pos (by omega)]; rfl) | (rw [if_neg (by omega), if_pos (by omega)]; rfl) | (rw [if_neg (by omega), if_neg (by omega)]; rfl), rfl⟩)
def orI (x y : Int) : Int := if x = 0 then y else x
theorem or_any (B : Nat) (x y : Int) (w : World) (h0 : w.cell? ⟨B, 0, none⟩ = some (.int .i64 x)) (h1 : w.cell? ⟨B, 1, none⟩ = some (.int .i64 y)) :
    Calls Tryz.prog 92 #[.slice (some ⟨B, 0, none⟩) 2 2] w fun e w' => e = .returned (.int .i64 (orI x y)) ∧ w' = w := by
  unfold orI
  by_cases hx : x = 0
  · subst hx
    by_cases hy : y = 0
    · subst hy
      go_enter Tryz.func92, Tryz.ntmps92
      go_wp2
      refine wp_loop_rounds 3 ?_
      rw [rounds_succ]
      go_wp2
      rw [rounds_succ]
      go_wp2
      rw [rounds_succ]
      go_wp2
      go_ret
      exact ⟨rfl, rfl⟩
    · have hd : (y != 0) = true := by simpa using hy
      go_enter Tryz.func92, Tryz.ntmps92
      go_wp2
      refine wp_loop_rounds 2 ?_
      rw [rounds_succ]
      go_wp2
      rw [rounds_succ]
      go_wp2
      go_ret
      exact ⟨rfl, rfl⟩
  · have hd : (x != 0) = true := by simpa using hx
    rw [if_neg hx]
    go_enter Tryz.func92, Tryz.ntmps92
    go_wp2
    refine wp_loop_rounds 1 ?_
    rw [rounds_succ]
    go_wp2
    go_ret
    exact ⟨rfl, rfl⟩
def byP (a b : Hd) : Int := if cmpI a.sh b.sh = 0 then cmpI a.ino b.ino else cmpI a.sh b.sh
theorem byP_less (a b : Hd) : decide (byP a b ≥ 0) = !lessH a b := by
  obtain ⟨s, i, d⟩ := a
  obtain ⟨s2, i2, d2⟩ := b
  simp only [byP, cmpI, lessH, Hd.sh, Hd.ino]
  by_cases h1 : s < s2
  · simp [h1]
  · by_cases h2 : s2 < s
    · have h3 : s ≠ s2 := by omega
      simp [h1, h2, h3]
    · have h3 : s = s2 := by omega
      subst h3
      by_cases h4 : i < i2
      · simp [h4]
      · by_cases h5 : i2 < i
        · simp [h4, h5]
        · simp [h4, h5]

set_option maxHeartbeats 400000 in
theorem byPlace_any (a b : Hd) (w : World) : Calls Tryz.prog 54 #[a.v, b.v] w fun e w' => e = .returned (.int .i64 (byP a b)) ∧ Below w.heap.size w w' := by
  obtain ⟨s, i, d⟩ := a
  obtain ⟨s2, i2, d2⟩ := b
  have HB : Hid (byP (s, i, d) (s2, i2, d2) = orI (cmpI s s2) (cmpI i i2)) := rfl
  rw [HB.out]
  clear HB
  go_enter Tryz.func54, Tryz.ntmps54
  go_wp2
  go_region_held3 (fun w' => w'.cell? ⟨w.heap.size, 0, none⟩ = some (.int .i64 s) ∧ w'.cell? ⟨w.heap.size, 1, none⟩ = some (.int .i64 i) ∧ w'.cell? ⟨w.heap.size + 1, 0, none⟩ = some (.int .i64 s2) ∧ w'.cell? ⟨w.heap.size + 1, 1, none⟩ = some (.int .i64 i2)) (first | go_keep) (first
    | (go_at_call 93; refine Calls.mono (compare_any _ _ _) ?_; rintro e w' ⟨rfl, rfl⟩)
    | (go_at_call 92; refine Calls.mono (or_any _ (cmpI s s2) (cmpI i i2) _ (by simp [go_sem]) (by simp [go_sem])) ?_; rintro e w' ⟨rfl, rfl⟩))
  all_goals go_wp2
  all_goals go_ret
  all_goals exact ⟨rfl, ((Below.newH2 (w := w) _ _).alloc (by simp; omega) _).drew⟩

def ascAt (l : List Nd) (i : Nat) : Bool := decide (i = 0) || lessH (l[i - 1]?.getD nd0).h (l[i]?.getD nd0).h
theorem range_all_nextT (f : Nat → Bool) (k : Nat) (h : (List.range k).all f = true) (hk : f k = true) : (List.range (k + 1)).all f = true := by rw [List.range_succ, List.all_append, h]; simp [hk]
theorem range_all_falseT (f : Nat → Bool) (n k : Nat) (hk : k < n) (h : f k = false) : (List.range n).all f = false := by
  rw [List.all_eq_false]
  exact ⟨k, by simpa using hk, by simp [h]⟩
def ascL (l : List Nd) : Bool := (List.range l.length).all (ascAt l)

set_option maxRecDepth 100000 in
set_option maxHeartbeats 2000000 in
theorem ascending_any (x : Value) (l : List Nd) (S : Nat → Prop) (w : World) (r : RdV w S x (ndsDt l)) (hl : l.length ≤ 2097152) :
    Calls Tryz.prog 55 #[x] w fun e w' => e = .returned (.bool (ascL l)) ∧ Below w.heap.size w w' := by
  obtain ⟨a, cap, rfl, _⟩ := RdV.sliced r
  have HR : Hid (∀ W, Below w.heap.size w W → RdV W S (.slice a l.length cap) (.rows 54 9 l.length (fun i j => ndCell (l[i]?.getD nd0) j))) := RdV.old r
  obtain ⟨n, hn⟩ : ∃ n, l.length = n := ⟨_, rfl⟩
  have HN : Hid _ := hn
  have HAS : Hid (ascL l = (List.range n).all (ascAt l)) := by show _ = _; unfold ascL; rw [hn]
  rw [hn] at hl HR ⊢
  rw [HAS.out]
  clear r hn HAS
  go_enter Tryz.func55, Tryz.ntmps55
  go_wp2
  go_loopw [3] (fun i wr => ∃ k : Nat, 1 ≤ k ∧ i = .int .i64 k ∧ k ≤ n + 1 ∧ Below w.heap.size w wr ∧ Hid ((List.range k).all (ascAt l) = true)) (fun i _ => n - (intOf i).toNat)
  case atStart => exact ⟨1, Nat.le_refl _, rfl, by omega, Below.refl _ _, by show _ = _; simp [ascAt]⟩
  case round =>
    obtain ⟨k, hk1, rfl, hk, hbel, HA⟩ := hrel
    by_cases hlt : k < n
    · obtain ⟨j, rfl⟩ : ∃ j, k = j + 1 := ⟨k - 1, by omega⟩
      obtain ⟨b, off, rfl, hbl, _, hx⟩ := RdV.at (HR.out wr hbel) hlt
      obtain ⟨b9, off9, hbb, hbl9, _, hz⟩ := RdV.at (HR.out wr hbel) (show j < n by omega)
      simp only [Option.some.injEq, Addr.mk.injEq, and_true] at hbb
      obtain ⟨rfl, rfl⟩ := hbb
      obtain ⟨x0, g0, s0⟩ := hx 0 (by omega)
      obtain ⟨x1, g1, s1⟩ := hx 1 (by omega)
      obtain ⟨x2, g2, s2⟩ := hx 2 (by omega)
      obtain ⟨z0, u0, r0⟩ := hz 0 (by omega)
      obtain ⟨z1, u1, r1⟩ := hz 1 (by omega)
      obtain ⟨z2, u2, r2⟩ := hz 2 (by omega)
      have HAT : Hid (ascAt l (j + 1) = lessH (l[j]?.getD nd0).h (l[j + 1]?.getD nd0).h) := by show _ = _; simp [ascAt]
      generalize l[j]?.getD nd0 = ef at r0 r1 r2 HAT
      generalize l[j + 1]?.getD nd0 = eg at s0 s1 s2 HAT
      obtain ⟨⟨pp, qq, dp⟩, parf, lkf, vlf, esf⟩ := ef
      obtain ⟨⟨p, q, d⟩, parg, lkg, vlg, esg⟩ := eg
      obtain rfl : z0 = .int .i64 pp := r0
      obtain rfl : z1 = .int .i64 qq := r1
      obtain rfl : z2 = .bool dp := r2
      obtain rfl : x0 = .int .i64 p := s0
      obtain rfl : x1 = .int .i64 q := s1
      obtain rfl : x2 = .bool d := s2
      simp only [Nat.add_zero] at u0 g0
      dsimp only at HAT
      have HBP : Hid (∀ W, _) := fun W => byPlace_any (pp, qq, dp) (p, q, d) W
      have hbp := byP_less (pp, qq, dp) (p, q, d)
      generalize byP (pp, qq, dp) (p, q, d) = bp at HBP hbp
      haveI : Nonempty (Cls wr) := Cls.ne wr
      have k0 := Cls.cell hbl g0
      have k1 := Cls.cell hbl g1
      have k2 := Cls.cell hbl g2
      have j0 := Cls.cell hbl u0
      have j1 := Cls.cell hbl u1
      have j2 := Cls.cell hbl u2
      clear hx hz g0 g1 g2 u0 u1 u2 hbl9
      have i1 : (0 : Int) ≤ (j : Int) := by omega
      have i2 : (j : Int) < (n : Int) := by omega
      cases hbl : lessH (pp, qq, dp) (p, q, d) with
      | false =>
        rw [hbl] at HAT hbp
        have HF : Hid ((List.range n).all (ascAt l) = false) := range_all_falseT _ _ (j + 1) hlt HAT.out
        have hge : (0 : Int) ≤ bp := by simpa using hbp
        have hge2 : decide ((0 : Int) ≤ bp) = true := by simpa using hge
        clear hbp HAT HA
        go_wp2
        refine wp_region_cls (by kernel_rfl) (by kernel_rfl) ?_
        repeat (go_big_quiet_step (first | (go_at_call 54; exact Calls.cls (HBP.out _))))
        refine wpQuiet_nil ?_
        rintro w' ⟨⟨w', hb'⟩, rfl⟩
        go_wp2
        go_ret
        exact ⟨by rw [HF.out]; rfl, hbel.trans (hb'.mono hbel.size)⟩
      | true =>
        rw [hbl] at HAT hbp
        have HF : Hid ((List.range (j + 1 + 1)).all (ascAt l) = true) := range_all_nextT _ _ HA.out HAT.out
        have hge : bp < 0 := by simpa using hbp
        have hge2 : decide ((0 : Int) ≤ bp) = false := by simpa using hge
        clear hbp HAT HA
        go_wp2
        refine wp_region_cls (by kernel_rfl) (by kernel_rfl) ?_
        repeat (go_big_quiet_step (first | (go_at_call 54; exact Calls.cls (HBP.out _))))
        refine wpQuiet_nil ?_
        rintro w' ⟨⟨w', hb'⟩, rfl⟩
        go_wp2
        go_roundw
        case rel => exact ⟨j + 1 + 1, by omega, by go_num, by omega, hbel.trans (hb'.mono hbel.size), HF.out⟩
        case measure => simp [intOf]; omega
    · have HF : Hid ((List.range n).all (ascAt l) = true) := by
        have := HA.out
        rw [List.all_eq_true] at this
        show _ = _
        rw [List.all_eq_true]
        exact fun i hi => this i (by simp at hi ⊢; omega)
      go_wp2
      go_ret
      exact ⟨by rw [HF.out]; rfl, hbel⟩
end
section
theorem step_appEnU {ops : Array Oper} {o : Oper} {a : Act} {K : Act → World → Prop} {Q : Exit → Act → World → Prop} {E : Prop} (w : World) (hgd : o.guard = none) (s x : Operand)
    (ho : o.op = .call { callee := .builtin .append, args := #[s, x], argTypes := #[52, 52] })
    (v : Value) (hs : a.eval s = v) (l : List En) (e : En) (u : Value) (lo hi hi2 q : Nat) (hx : a.eval x = .slice (some ⟨q, 0, none⟩) 1 1) (hone : u.oneCell' = true) (fr : Nat × Nat) (hq : w.heap[q]? = some (.cells #[u, .int .i64 e.h.sh, .int .i64 e.h.ino, .bool e.h.dir] 83 fr))
    (hown : OwV w (fun b => lo ≤ b ∧ b < hi) v (ensDt l)) (hu : OwV w (fun b => hi ≤ b ∧ b < hi2) u (.bytes e.nm)) (h2 : hi2 ≤ w.heap.size) (hh2 : hi ≤ hi2) (hlh : lo ≤ hi) (hl : l.length ≤ 2097152)
    (h : ∀ g n cap w', OwV w' (fun b => lo ≤ b ∧ b < w'.heap.size) (.slice g n cap) (ensDt (l ++ [e])) → Turned (fun b => lo ≤ b ∧ b < hi) w w' → K (a.put o.dst (.slice g n cap)) w') : if Region.wanted o (yielded ops a.tmps) = true then Oper.wp Tryz.prog o a w K Q else E := by
  obtain ⟨i0, hi0, hz0, hz1, hz2⟩ := info_parts Tryz.infoEn
  have hown' := hown
  unfold ensDt at hown'
  obtain ⟨V, C, Qs, h1, hS, h3, h4, h5, h6⟩ := OwV.inv hown'
  refine step_append_lies w hgd s x 52 ho 0 83 i0 (.agg #[.slice none 0 0, .int .i64 0, .int .i64 0, .bool false]) 4 48 Tryz.underlying52 hi0 hz0 hz1 hz2 rfl (by decide) v l.length C hs h1 ⟨q, 0, none⟩ 1 1 [u, .int .i64 e.h.sh, .int .i64 e.h.ino, .bool e.h.dir] hx rfl (World.news_of_block hq) (fun y hy => ?_) (by decide) (by unfold maxLen; omega) (by omega) (Nat.zero_le _) w.heap.size rfl ?_
  · simp only [List.mem_cons, List.not_mem_nil, or_false] at hy
    rcases hy with rfl | rfl | rfl | rfl
    · exact hone
    · rfl
    · rfl
    · rfl
  intro g cap w' ho' hg hgg hgl
  exact h _ _ _ w' (OwV.snocEn hown hu h2 hh2 hlh C h1 V Qs hS h3 h4 h5 h6 ho' hg hgg hgl) (Turned.ofGrown hg (fun k hk => hS k hk))

set_option maxHeartbeats 4000000 in
theorem implCopyEn_any (v : Value) (l : List En) (S : Nat → Prop) (w : World) (r : RdV w S v (ensDt l)) (hl : szEns l ≤ 2097152) (hn : l.length ≤ 2097152) :
    Calls Tryz.prog 51 #[v] w fun e w' => ∃ a n c, e = .returned (.slice a n c) ∧ OwV w' (fun b => w.heap.size ≤ b ∧ b < w'.heap.size) (.slice a n c) (ensDt l) ∧ Below w.heap.size w w' := by
  obtain ⟨a, cap, rfl, _⟩ := RdV.sliced r
  have HR : Hid (∀ W, Below w.heap.size w W → RdV W S (.slice a l.length cap) (ensDt l)) := fun W hW => r.step hW
  have HLN : Hid (∀ k, k < l.length → (l[k]?.getD en0).nm.length ≤ 2097152) := fun k hk => Nat.le_trans (szEns_at l k) hl
  clear r hl
  go_enter Tryz.func51, Tryz.ntmps51
  go_wp2
  go_loopw [3, 8] (fun o i wr => ∃ (k : Nat) (ga : Option Addr) (gn gc : Nat), k ≤ l.length ∧ i = .int .i64 k ∧ o = .slice ga gn gc ∧ Hid (OwV wr (fun b => w.heap.size ≤ b ∧ b < wr.heap.size) (.slice ga gn gc) (ensDt (l.take k))) ∧ Hid (Below w.heap.size w wr)) (fun _ i _ => l.length - (intOf i).toNat)
  case atStart => exact ⟨0, none, 0, 0, Nat.zero_le _, rfl, rfl, OwV.nilR _ _ _ _ _, Below.refl _ _⟩
  case round =>
    obtain ⟨k, ga, gn, gc, hk, rfl, rfl, HO, HB⟩ := hrel
    by_cases hlt : k < l.length
    · obtain ⟨b, off, rfl, hbl, hSb, hc⟩ := (HR.out w (Below.refl _ _)).at hlt
      obtain ⟨x0, q0, r0⟩ := hc 0 (by omega)
      obtain ⟨x1, q1, r1⟩ := hc 1 (by omega)
      obtain ⟨x2, q2, r2⟩ := hc 2 (by omega)
      obtain ⟨x3, q3, r3⟩ := hc 3 (by omega)
      have htk : l.take (k + 1) = l.take k ++ [l[k]?.getD en0] := by rw [List.take_succ_eq_append_getElem hlt]; simp [hlt]
      have hnm := HLN.out k hlt
      generalize l[k]?.getD en0 = e at r0 r1 r2 r3 htk hnm
      obtain ⟨nm, ⟨sh, ino, dr⟩⟩ := e
      obtain rfl : x1 = .int .i64 sh := r1
      obtain rfl : x2 = .int .i64 ino := r2
      obtain rfl : x3 = .bool dr := r3
      have r0' : RdV w S x0 (.bytes nm) := r0
      obtain ⟨a0, c0, rfl⟩ := r0'.sliceB
      have p0 := (HB.out.cell (p := ⟨b, off + k * 4 + 0, none⟩) hbl).trans q0
      have p1 := (HB.out.cell (p := ⟨b, off + k * 4 + 1, none⟩) hbl).trans q1
      have p2 := (HB.out.cell (p := ⟨b, off + k * 4 + 2, none⟩) hbl).trans q2
      have p3 := (HB.out.cell (p := ⟨b, off + k * 4 + 3, none⟩) hbl).trans q3
      rw [Nat.add_zero] at p0
      have HRB : Hid (∀ W, Below w.heap.size w W → Reads W a0 nm ∧ Headed a0 nm.length c0) := fun W hW => by
        obtain ⟨a', cap', he, hh, hr⟩ := (r0'.step hW).b.reads
        simp only [Value.slice.injEq, true_and] at he
        obtain ⟨rfl, rfl⟩ := he
        exact ⟨hr, hh⟩
      have HZ : Hid (isBytes nm) := r0'.b.1
      have hix : (k : Int) < (l.length : Int) := by omega
      have HTK : Hid _ := htk
      have hsw := HB.out.size
      clear r0 r0' hc htk q0 q1 q2 q3
      go_wp2
      obtain ⟨w4, hw4⟩ : ∃ W, W = wr.alloc (.cells #[.slice a0 nm.length c0, .int .i64 sh, .int .i64 ino, .bool dr] 83) := ⟨_, rfl⟩
      have b4 : Below wr.heap.size wr w4 := by rw [hw4]; exact Below.newH _
      have V4 : VarA w4 wr.heap.size 83 #[.slice a0 nm.length c0, .int .i64 sh, .int .i64 ino, .bool dr] := by rw [hw4]; exact VarA.new _ _ _
      rw [← hw4]
      clear hw4 p0 p1 p2 p3
      have HS : Hid (∀ W, Below w4.heap.size w4 W → W.cell? ⟨wr.heap.size, 0, none⟩ = some (.slice a0 nm.length c0) ∧ W.cell? ⟨wr.heap.size, 1, none⟩ = some (.int .i64 sh) ∧ W.cell? ⟨wr.heap.size, 2, none⟩ = some (.int .i64 ino) ∧ W.cell? ⟨wr.heap.size, 3, none⟩ = some (.bool dr)) := fun W hW => by
        have V := V4.step hW
        exact ⟨V.c 0 rfl, V.c 1 rfl, V.c 2 rfl, V.c 3 rfl⟩
      refine wp_region_noPanic ?_
      refine wp_region_held_drew (S := fun w' => w'.cell? ⟨wr.heap.size, 0, none⟩ = some (.slice a0 nm.length c0) ∧ w'.cell? ⟨wr.heap.size, 1, none⟩ = some (.int .i64 sh) ∧ w'.cell? ⟨wr.heap.size, 2, none⟩ = some (.int .i64 ino) ∧ w'.cell? ⟨wr.heap.size, 3, none⟩ = some (.bool dr)) (by kernel_rfl) (HS.out _ (Below.drew (Below.refl w4.heap.size w4))) (fun hHeld => ?_)
      refine wpAnyH_take (i := 0) (v := ?_) rfl (by kernel_rfl) (by kernel_rfl) (by kernel_rfl) (fun _ _ _ h => h) (Or.inl ⟨by rfl, ?_⟩) (by assumption) ?_
      rotate_left
      · (intro w_ hSw_; (try dsimp only at hSw_); go_simp; try with_reducible rfl)
      try simp only [Act.put, List.setIfInBounds_toArray, List.set_cons_zero, List.set_cons_succ, List.getElem_toArray, List.getElem_cons_zero, List.getElem_cons_succ]
      refine wpAnyH_take (i := 1) (v := ?_) rfl (by kernel_rfl) (by kernel_rfl) (by kernel_rfl) (fun _ _ _ h => h) (Or.inl ⟨by rfl, ?_⟩) (by assumption) ?_
      rotate_left
      · (intro w_ hSw_; (try dsimp only at hSw_); go_simp; try with_reducible rfl)
      try simp only [Act.put, List.setIfInBounds_toArray, List.set_cons_zero, List.set_cons_succ, List.getElem_toArray, List.getElem_cons_zero, List.getElem_cons_succ]
      refine wpAnyH_take (i := 2) (v := ?_) rfl (by kernel_rfl) (by kernel_rfl) (by kernel_rfl) (fun _ _ _ h => h) (Or.inl ⟨by rfl, ?_⟩) (by assumption) ?_
      rotate_left
      · (intro w_ hSw_; (try dsimp only at hSw_); go_simp; try with_reducible rfl)
      try simp only [Act.put, List.setIfInBounds_toArray, List.set_cons_zero, List.set_cons_succ, List.getElem_toArray, List.getElem_cons_zero, List.getElem_cons_succ]
      refine wpAnyH_take (i := 4) (v := ?_) rfl (by kernel_rfl) (by kernel_rfl) (by kernel_rfl) (fun _ _ _ h => h) (Or.inl ⟨by rfl, ?_⟩) (by assumption) ?_
      rotate_left
      · (intro w_ hSw_; (try dsimp only at hSw_); go_simp; try with_reducible rfl)
      try simp only [Act.put, List.setIfInBounds_toArray, List.set_cons_zero, List.set_cons_succ, List.getElem_toArray, List.getElem_cons_zero, List.getElem_cons_succ]
      refine wpAnyH_take (i := 5) (v := ?_) rfl (by kernel_rfl) (by kernel_rfl) (by kernel_rfl) (fun _ _ _ h => h) (Or.inl ⟨by rfl, ?_⟩) (by assumption) ?_
      rotate_left
      · (intro w_ hSw_; (try dsimp only at hSw_); go_simp; try with_reducible rfl)
      try simp only [Act.put, List.setIfInBounds_toArray, List.set_cons_zero, List.set_cons_succ, List.getElem_toArray, List.getElem_cons_zero, List.getElem_cons_succ]
      refine wpAnyH_ready (rs := [3]) (by kernel_rfl) (by simp) ?_
      refine AllReadyH.cons rfl (fun K hK => ?_) AllReadyH.nil
      go_simp
      refine Calls.mono (joined_any none a0 [] nm 0 c0 w4.drew (reads_none _ _) (HRB.out _ (HB.out.trans ((b4.trans (Below.mono (Below.drew (Below.refl w4.heap.size w4)) b4.size)).mono HB.out.size))).1 (by simp) hnm) ?_
      rintro e6 w6 ⟨rfl, ho6, bb6, z6⟩
      rw [List.nil_append] at ho6
      dsimp only
      simp only [List.nil_append]
      have b46 : Below w4.heap.size w4 w6 := Below.trans (Below.drew (Below.refl w4.heap.size w4)) bb6
      have b6 : Below wr.heap.size wr w6 := b4.trans (b46.mono b4.size)
      have s6 := b46.size
      refine hK.out _ _ (HS.out _ b46) (fun hHeld => ?_)
      clear hK K
      try simp only [Act.put, List.setIfInBounds_toArray, List.set_cons_zero, List.set_cons_succ, List.getElem_toArray, List.getElem_cons_zero, List.getElem_cons_succ]
      refine wpAnyH_take (i := 6) (v := ?_) rfl (by kernel_rfl) (by kernel_rfl) (by kernel_rfl) (fun _ _ _ h => h) (Or.inl ⟨by rfl, ?_⟩) (by assumption) ?_
      rotate_left
      · (intro w_ hSw_; (try dsimp only at hSw_); go_simp; try with_reducible rfl)
      try simp only [Act.put, List.setIfInBounds_toArray, List.set_cons_zero, List.set_cons_succ, List.getElem_toArray, List.getElem_cons_zero, List.getElem_cons_succ]
      refine wpAnyH_ready (rs := [7]) (by kernel_rfl) (by simp) ?_
      refine AllReadyH.cons rfl (fun K hK => ?_) AllReadyH.nil
      go_simp
      have b47 : Below w4.heap.size w4 (w6.alloc (.cells #[.slice (some ⟨w4.heap.size, 0, none⟩) nm.length nm.length, .int .i64 sh, .int .i64 ino, .bool dr] 83)) := Below.alloc b46 b46.size _
      have b7 : Below wr.heap.size wr (w6.alloc (.cells #[.slice (some ⟨w4.heap.size, 0, none⟩) nm.length nm.length, .int .i64 sh, .int .i64 ino, .bool dr] 83)) := b4.trans (b47.mono b4.size)
      refine hK.out _ _ (HS.out _ b47) (fun hHeld => ?_)
      clear hK K
      try simp only [Act.put, List.setIfInBounds_toArray, List.set_cons_zero, List.set_cons_succ, List.getElem_toArray, List.getElem_cons_zero, List.getElem_cons_succ]
      refine wpAnyH_ready (rs := [8]) (by kernel_rfl) (by simp) ?_
      refine AllReadyH.cons rfl (fun K hK => ?_) AllReadyH.nil
      refine step_appEnU (w6.alloc (.cells #[.slice (some ⟨w4.heap.size, 0, none⟩) nm.length nm.length, .int .i64 sh, .int .i64 ino, .bool dr] 83)) rfl (.tmp 12) (.tmp 19) (by rfl) _ (by rfl) (l.take k) ⟨nm, (sh, ino, dr)⟩ (.slice (some ⟨w4.heap.size, 0, none⟩) nm.length nm.length) w.heap.size wr.heap.size w6.heap.size w6.heap.size (by rfl) rfl (0, 0) (heap_alloc_new _ _) (OwV.step HO.out b7) (OwV.step (OwV.mono (fun q hq => ⟨by have := b4.size; have := hq.1; simp at this; omega, hq.2⟩) (OwV.ofOwns HZ.out ho6)) (Below.newH _)) (by simp) (by have := b6.size; omega) (by omega) (by rw [List.length_take]; omega) ?_
      intro g8 n8 c8 w8 ho8 t8
      have s8 := t8.size
      rw [World.size_alloc] at s8
      have HB8 : Below w.heap.size w w8 := Turned.below (HB.out.trans (b7.mono HB.out.size)) t8 (by have := HB.out.size; have := b6.size; simp; omega) (fun i hi => hi.1)
      have V8 := (V4.step b47).turn t8 (fun e => by have e2 : wr.heap.size < wr.heap.size := e.2; omega)
      refine hK.out _ _ ⟨V8.c 0 rfl, V8.c 1 rfl, V8.c 2 rfl, V8.c 3 rfl⟩ (fun hHeld => ?_)
      clear hK K
      try simp only [Act.put, List.setIfInBounds_toArray, List.set_cons_zero, List.set_cons_succ, List.getElem_toArray, List.getElem_cons_zero, List.getElem_cons_succ]
      refine wpAnyH_take (i := 9) (v := ?_) rfl (by kernel_rfl) (by kernel_rfl) (by kernel_rfl) (fun _ _ _ h => h) (Or.inl ⟨by rfl, ?_⟩) (by assumption) ?_
      rotate_left
      · (intro w_ hSw_; (try dsimp only at hSw_); go_simp; try with_reducible rfl)
      try simp only [Act.put, List.setIfInBounds_toArray, List.set_cons_zero, List.set_cons_succ, List.getElem_toArray, List.getElem_cons_zero, List.getElem_cons_succ]
      refine wpAnyH_done (by kernel_rfl) (NoPanic.normal ?_) _
      clear hHeld
      rw [← HTK.out] at ho8
      have HO8 : Hid (OwV w8 (fun b => w.heap.size ≤ b ∧ b < w8.heap.size) (.slice g8 n8 c8) (ensDt (l.take (k + 1)))) := ho8
      have HB9 : Hid (Below w.heap.size w w8) := HB8
      clear ho8 HB8 t8 b4 b6 b7 ho6 bb6 V4
      go_wp2
      first
      | exact ⟨⟨k + 1, g8, n8, c8, by omega, by go_num, rfl, HO8, HB9⟩, by simp [intOf]; omega⟩
      | (go_roundw
         case rel => exact ⟨k + 1, g8, n8, c8, by omega, by go_num, rfl, HO8, HB9⟩
         case measure => simp [intOf]; omega)
    · have he : k = l.length := by omega
      subst he
      rw [List.take_length] at HO
      go_wp2
      go_ret
      exact ⟨_, _, _, rfl, HO.out, HB.out⟩
end
section
theorem OwV.snocNd {w w' : World} {lo hi hi2 g cap : Nat} {v u : Value} {l : List Nd} {e : Nd} (hown : OwV w (fun b => lo ≤ b ∧ b < hi) v (ndsDt l)) (hu : OwV w (fun b => hi ≤ b ∧ b < hi2) u (ensDt e.es)) (h2 : hi2 ≤ w.heap.size) (hh2 : hi ≤ hi2) (hlh : lo ≤ hi)
    (C : List Value) (hC : w.ownsRow 0 54 9 v l.length C) (V : Nat → Nat → Value) (Q : Nat → Nat → Nat → Prop) (hS : ∀ b, v.ownBlock = some b → lo ≤ b ∧ b < hi) (hV : ∀ i j, i < l.length → j < 9 → C[i * 9 + j]? = some (V i j)) (hQ : ∀ i j, i < l.length → j < 9 → OwV w (Q i j) (V i j) (ndCell (l[i]?.getD nd0) j))
    (hq1 : ∀ i j b, i < l.length → j < 9 → Q i j b → (lo ≤ b ∧ b < hi) ∧ v.ownBlock ≠ some b) (hq2 : ∀ i j i' j' b, i < l.length → j < 9 → i' < l.length → j' < 9 → Q i j b → Q i' j' b → i = i' ∧ j = j')
    (ho : w'.ownsRow 0 54 9 (.slice (some ⟨g, 0, none⟩) (l.length + 1) cap) (l.length + 1) (C ++ [.int .i64 e.h.sh, .int .i64 e.h.ino, .bool e.h.dir, .int .i64 e.par.sh, .int .i64 e.par.ino, .bool e.par.dir, .int .i64 e.links, .int .i64 e.val, u])) (hg : w.grownBy w' v.ownBlock) (hgg : v.ownBlock = some g ∨ g = w.heap.size) (hgl : g < w'.heap.size) :
    OwV w' (fun b => lo ≤ b ∧ b < w'.heap.size) (.slice (some ⟨g, 0, none⟩) (l.length + 1) cap) (ndsDt (l ++ [e])) := by
  have hsz := hg.size
  have hCl : C.length = l.length * 9 := hC.1
  have hkeep : ∀ (R : Nat → Prop), (∀ b, R b → v.ownBlock ≠ some b) → Keeps R w w' := fun R hR => ⟨hsz, fun b hb hlt => hg.block b hlt (fun h => hR b hb h.symm)⟩
  have hln : (l ++ [e]).length = l.length + 1 := by simp
  unfold ndsDt
  rw [hln]
  refine OwV.mkRows ⟨fun i j => if i < l.length then V i j else ndVal e u j, _, fun i j => if i < l.length then Q i j else if j = 8 then (fun b => hi ≤ b ∧ b < hi2) else (fun _ => False), ho, ?_, ?_, ?_, ?_, ?_⟩
  · intro b hb
    obtain rfl : g = b := by simpa [Value.ownBlock] using hb
    rcases hgg with h | h
    · exact ⟨(hS _ h).1, hgl⟩
    · exact ⟨by omega, hgl⟩
  · intro i j hi' hj
    by_cases hlt : i < l.length
    · simp only [hlt, if_true]
      rw [List.getElem?_append_left (by rw [hCl]; exact place_lt hlt hj)]
      exact hV i j hlt hj
    · obtain rfl : i = l.length := by omega
      simp only [Nat.lt_irrefl, if_false]
      rw [List.getElem?_append_right (by omega), hCl, show l.length * 9 + j - l.length * 9 = j by omega]
      match j, hj with
      | 0, _ => rfl
      | 1, _ => rfl
      | 2, _ => rfl
      | 3, _ => rfl
      | 4, _ => rfl
      | 5, _ => rfl
      | 6, _ => rfl
      | 7, _ => rfl
      | 8, _ => rfl
  · intro i j hi' hj
    by_cases hlt : i < l.length
    · simp only [hlt, if_true]
      rw [show (l ++ [e])[i]?.getD nd0 = l[i]?.getD nd0 by rw [List.getElem?_append_left hlt]]
      exact OwV.keep (hkeep _ (fun b hb => (hq1 i j b hlt hj hb).2)) (hQ i j hlt hj)
    · obtain rfl : i = l.length := by omega
      simp only [Nat.lt_irrefl, if_false]
      rw [show (l ++ [e])[l.length]?.getD nd0 = e by simp]
      match j, hj with
      | 0, _ => rfl
      | 1, _ => rfl
      | 2, _ => rfl
      | 3, _ => rfl
      | 4, _ => rfl
      | 5, _ => rfl
      | 6, _ => rfl
      | 7, _ => rfl
      | 8, _ => exact OwV.keep (hkeep (fun b => hi ≤ b ∧ b < hi2) (fun b hb h => by have := hS b h; omega)) hu
  · intro i j b hi' hj hb
    by_cases hlt : i < l.length
    · simp only [hlt, if_true] at hb
      have h1 := hq1 i j b hlt hj hb
      refine ⟨⟨h1.1.1, by omega⟩, ?_⟩
      intro h
      obtain rfl : g = b := by simpa [Value.ownBlock] using h
      rcases hgg with h3 | h3
      · exact h1.2 h3
      · omega
    · simp only [hlt, if_false] at hb
      by_cases hj0 : j = 8
      · simp only [hj0, if_true] at hb
        refine ⟨⟨by omega, by omega⟩, ?_⟩
        intro h
        obtain rfl : g = b := by simpa [Value.ownBlock] using h
        rcases hgg with h3 | h3
        · have := hS _ h3; omega
        · omega
      · simp only [hj0, if_false] at hb
  · intro i j i' j' b hi' hj hi2' hj' hb hb'
    by_cases hlt : i < l.length <;> by_cases hlt' : i' < l.length
    · simp only [hlt, hlt', if_true] at hb hb'
      exact hq2 i j i' j' b hlt hj hlt' hj' hb hb'
    · simp only [hlt, hlt', if_true, if_false] at hb hb'
      have h1 := hq1 i j b hlt hj hb
      by_cases hj0 : j' = 8
      · simp only [hj0, if_true] at hb'; omega
      · simp only [hj0, if_false] at hb'
    · simp only [hlt, hlt', if_true, if_false] at hb hb'
      have h1 := hq1 i' j' b hlt' hj' hb'
      by_cases hj0 : j = 8
      · simp only [hj0, if_true] at hb; omega
      · simp only [hj0, if_false] at hb
    · simp only [hlt, hlt', if_false] at hb hb'
      by_cases hj0 : j = 8 <;> by_cases hj0' : j' = 8
      · exact ⟨by omega, by omega⟩
      · simp only [hj0', if_false] at hb'
      · simp only [hj0, if_false] at hb
      · simp only [hj0, if_false] at hb
theorem wpList_appNdO {ops : Array Oper} {rest : List Oper} {o : Oper} {a : Act} {Q : Exit → Act → World → Prop} (w : World) (hgd : o.guard = none) (s x : Operand)
    (ho : o.op = .call { callee := .builtin .append, args := #[s, x], argTypes := #[24, 24] })
    (v : Value) (hs : a.eval s = v) (l : List Nd) (e : Nd) (u : Value) (lo hi hi2 q : Nat) (hx : a.eval x = .slice (some ⟨q, 0, none⟩) 1 1) (hone : u.oneCell' = true) (fr : Nat × Nat) (hq : w.heap[q]? = some (.cells #[.int .i64 e.h.sh, .int .i64 e.h.ino, .bool e.h.dir, .int .i64 e.par.sh, .int .i64 e.par.ino, .bool e.par.dir, .int .i64 e.links, .int .i64 e.val, u] 54 fr))
    (hown : OwV w (fun b => lo ≤ b ∧ b < hi) v (ndsDt l)) (hu : OwV w (fun b => hi ≤ b ∧ b < hi2) u (ensDt e.es)) (h2 : hi2 ≤ w.heap.size) (hh2 : hi ≤ hi2) (hlh : lo ≤ hi) (hl : l.length ≤ 4000)
    (h : ∀ g n cap w', OwV w' (fun b => lo ≤ b ∧ b < w'.heap.size) (.slice g n cap) (ndsDt (l ++ [e])) → Turned (fun b => lo ≤ b ∧ b < hi) w w' → wpList Tryz.prog ops Q rest (a.put o.dst (.slice g n cap)) w') : wpList Tryz.prog ops Q (o :: rest) a w := by
  obtain ⟨i0, hi0, hz0, hz1, hz2⟩ := info_parts Tryz.infoNd
  have hown' := hown
  unfold ndsDt at hown'
  obtain ⟨V, C, Qs, h1, hS, h3, h4, h5, h6⟩ := OwV.inv hown'
  refine wpList_append_lies w hgd s x 24 ho 0 54 i0 (.agg #[.int .i64 0, .int .i64 0, .bool false, .int .i64 0, .int .i64 0, .bool false, .int .i64 0, .int .i64 0, .slice none 0 0]) 9 88 Tryz.underlying24 hi0 hz0 hz1 hz2 rfl (by decide) v l.length C hs h1 ⟨q, 0, none⟩ 1 1 [.int .i64 e.h.sh, .int .i64 e.h.ino, .bool e.h.dir, .int .i64 e.par.sh, .int .i64 e.par.ino, .bool e.par.dir, .int .i64 e.links, .int .i64 e.val, u] hx rfl (World.news_of_block hq) (fun y hy => ?_) (by decide) (by unfold maxLen; omega) (by omega) (Nat.zero_le _) w.heap.size rfl ?_
  · simp only [List.mem_cons, List.not_mem_nil, or_false] at hy
    rcases hy with rfl | rfl | rfl | rfl | rfl | rfl | rfl | rfl | rfl
    · rfl
    · rfl
    · rfl
    · rfl
    · rfl
    · rfl
    · rfl
    · rfl
    · exact hone
  intro g cap w' ho' hg hgg hgl
  exact h _ _ _ w' (OwV.snocNd hown hu h2 hh2 hlh C h1 V Qs hS h3 h4 h5 h6 ho' hg hgg hgl) (Turned.ofGrown hg (fun k hk => hS k hk))
set_option maxHeartbeats 4000000 in
theorem implCopyNd_any (v : Value) (l : List Nd) (S : Nat → Prop) (w : World) (r : RdV w S v (ndsDt l)) (hl : szNds l ≤ 2097152) (hn : l.length ≤ 4000) (hes : ∀ i : Nat, (l[i]?.getD nd0).es.length ≤ 2097152) :
    Calls Tryz.prog 20 #[v] w fun e w' => ∃ a n c, e = .returned (.slice a n c) ∧ OwV w' (fun b => w.heap.size ≤ b ∧ b < w'.heap.size) (.slice a n c) (ndsDt l) ∧ Below w.heap.size w w' := by
  obtain ⟨a, cap, rfl, _⟩ := RdV.sliced r
  have HR : Hid (∀ W, Below w.heap.size w W → RdV W S (.slice a l.length cap) (ndsDt l)) := fun W hW => r.step hW
  clear r
  go_enter Tryz.func20, Tryz.ntmps20
  go_wp2
  go_loopw [3, 8] (fun o i wr => ∃ (k : Nat) (ga : Option Addr) (gn gc : Nat), k ≤ l.length ∧ i = .int .i64 k ∧ o = .slice ga gn gc ∧ Hid (OwV wr (fun b => w.heap.size ≤ b ∧ b < wr.heap.size) (.slice ga gn gc) (ndsDt (l.take k))) ∧ Hid (Below w.heap.size w wr)) (fun _ i _ => l.length - (intOf i).toNat)
  case atStart => exact ⟨0, none, 0, 0, Nat.zero_le _, rfl, rfl, OwV.nilR _ _ _ _ _, Below.refl _ _⟩
  case round =>
    obtain ⟨k, ga, gn, gc, hk, rfl, rfl, HO, HB⟩ := hrel
    by_cases hlt : k < l.length
    · obtain ⟨b, off, rfl, hbl, hSb, hc⟩ := (HR.out w (Below.refl _ _)).at hlt
      have htk : l.take (k + 1) = l.take k ++ [l[k]?.getD nd0] := by rw [List.take_succ_eq_append_getElem hlt]; simp [hlt]
      have hel := hes k
      have hzn : szEns (l[k]?.getD nd0).es ≤ 2097152 := Nat.le_trans (szNds_at l k) hl
      obtain ⟨x0, cq0, r0⟩ := hc 0 (by omega)
      obtain ⟨x1, cq1, r1⟩ := hc 1 (by omega)
      obtain ⟨x2, cq2, r2⟩ := hc 2 (by omega)
      obtain ⟨x3, cq3, r3⟩ := hc 3 (by omega)
      obtain ⟨x4, cq4, r4⟩ := hc 4 (by omega)
      obtain ⟨x5, cq5, r5⟩ := hc 5 (by omega)
      obtain ⟨x6, cq6, r6⟩ := hc 6 (by omega)
      obtain ⟨x7, cq7, r7⟩ := hc 7 (by omega)
      obtain ⟨x8, cq8, r8⟩ := hc 8 (by omega)
      generalize l[k]?.getD nd0 = nd at r0 r1 r2 r3 r4 r5 r6 r7 r8 htk hel hzn
      obtain ⟨⟨p, q, d⟩, ⟨p2, q2, d2⟩, lk, vl, es⟩ := nd
      dsimp only at hel hzn
      obtain rfl : x0 = .int .i64 p := r0
      obtain rfl : x1 = .int .i64 q := r1
      obtain rfl : x2 = .bool d := r2
      obtain rfl : x3 = .int .i64 p2 := r3
      obtain rfl : x4 = .int .i64 q2 := r4
      obtain rfl : x5 = .bool d2 := r5
      obtain rfl : x6 = .int .i64 lk := r6
      obtain rfl : x7 = .int .i64 vl := r7
      have r8' : RdV w S x8 (ensDt es) := r8
      obtain ⟨xa, xc, rfl, _⟩ := RdV.sliced r8'
      have HCE : Hid (∀ W, Below w.heap.size w W → _) := fun W hW => implCopyEn_any _ es S W (r8'.step hW) hzn hel
      have p0_ := (HB.out.cell (p := ⟨b, off + k * 9 + 0, none⟩) hbl).trans cq0
      have p1_ := (HB.out.cell (p := ⟨b, off + k * 9 + 1, none⟩) hbl).trans cq1
      have p2_ := (HB.out.cell (p := ⟨b, off + k * 9 + 2, none⟩) hbl).trans cq2
      have p3_ := (HB.out.cell (p := ⟨b, off + k * 9 + 3, none⟩) hbl).trans cq3
      have p4_ := (HB.out.cell (p := ⟨b, off + k * 9 + 4, none⟩) hbl).trans cq4
      have p5_ := (HB.out.cell (p := ⟨b, off + k * 9 + 5, none⟩) hbl).trans cq5
      have p6_ := (HB.out.cell (p := ⟨b, off + k * 9 + 6, none⟩) hbl).trans cq6
      have p7_ := (HB.out.cell (p := ⟨b, off + k * 9 + 7, none⟩) hbl).trans cq7
      have p8_ := (HB.out.cell (p := ⟨b, off + k * 9 + 8, none⟩) hbl).trans cq8
      rw [Nat.add_zero] at p0_
      have HTK : Hid _ := htk
      have hix : (k : Int) < (l.length : Int) := by omega
      have hsw := HB.out.size
      clear r8 r8' hc htk
      generalize es.length = xn at *
      go_wp2_with fail
      obtain ⟨w4, hw4⟩ : ∃ W, W = wr.alloc (.cells #[.int .i64 p, .int .i64 q, .bool d, .int .i64 p2, .int .i64 q2, .bool d2, .int .i64 lk, .int .i64 vl, .slice xa xn xc] 54) := ⟨_, rfl⟩
      have b4 : Below wr.heap.size wr w4 := by rw [hw4]; exact Below.newH _
      have V4 : VarA w4 wr.heap.size 54 #[.int .i64 p, .int .i64 q, .bool d, .int .i64 p2, .int .i64 q2, .bool d2, .int .i64 lk, .int .i64 vl, .slice xa xn xc] := by rw [hw4]; exact VarA.new _ _ _
      rw [← hw4]
      have z4 : w4.heap.size = wr.heap.size + 1 := by rw [hw4]; simp
      clear hw4
      refine Calls.mono (HCE.out _ (HB.out.trans (b4.mono HB.out.size))) ?_
      rintro e5 w5 ⟨ea, en, ec, rfl, oe, b5⟩
      have V5 := V4.step b5
      have z5 := b5.size
      have HV5 : Hid (VarA w5 wr.heap.size 54 #[.int .i64 p, .int .i64 q, .bool d, .int .i64 p2, .int .i64 q2, .bool d2, .int .i64 lk, .int .i64 vl, .slice xa xn xc]) := V5
      have HE5 : Hid (OwV w5 (fun b => w4.heap.size ≤ b ∧ b < w5.heap.size) (.slice ea en ec) (ensDt es)) := oe
      have HB5 : Hid (Below wr.heap.size wr w5) := b4.trans (b5.mono b4.size)
      clear V4 V5 oe b5 b4 p0_ p1_ p2_ p3_ p4_ p5_ p6_ p7_ p8_ HCE
      go_wp2_with (first | ((with_reducible refine guardStore (ty := 52) ?_); refine wpList_storeG HV5.out rfl rfl rfl (by kernel_rfl) rfl (of_decide_eq_true rfl) rfl ?_; intro w6 v6 t6; have HV6 : Hid (VarA w6 wr.heap.size 54 #[.int .i64 p, .int .i64 q, .bool d, .int .i64 p2, .int .i64 q2, .bool d2, .int .i64 lk, .int .i64 vl, .slice ea en ec]) := v6; have HU6 : Hid (OwV w6 (fun b => wr.heap.size ≤ b ∧ b < w6.heap.size) (.slice ea en ec) (ensDt es)) := OwV.mono (fun x hx => ⟨by omega, Nat.lt_of_lt_of_le hx.2 t6.size⟩) (OwV.keep (t6.keeps (fun x hx e => by omega)) HE5.out); have HO6 : Hid (OwV w6 (fun b => w.heap.size ≤ b ∧ b < wr.heap.size) (.slice ga gn gc) (ndsDt (l.take k))) := OwV.keep (t6.keeps (fun x hx e => by omega)) (OwV.step HO.out HB5.out); obtain ⟨o0, o1, o2, o3, o4, o5, o6, o7, o8⟩ := v6.l9) | (at_builtin; go_must (refine wpList_appNdO (w6.alloc (.cells #[.int .i64 p, .int .i64 q, .bool d, .int .i64 p2, .int .i64 q2, .bool d2, .int .i64 lk, .int .i64 vl, .slice ea en ec] 54)) rfl (.tmp 16) (.tmp 18) rfl _ rfl (l.take k) ⟨(p, q, d), (p2, q2, d2), lk, vl, es⟩ (.slice ea en ec) w.heap.size wr.heap.size w6.heap.size w6.heap.size rfl rfl (0, 0) (heap_alloc_new _ _) (OwV.step HO6.out (Below.newH _)) (OwV.step HU6.out (Below.newH _)) (by simp) (by have := t6.size; omega) hsw (by rw [List.length_take]; omega) ?_; intro g8 n8 c8 w8 ho8 t8)))
      rw [← HTK.out] at ho8
      have HO8 : Hid (OwV w8 (fun b => w.heap.size ≤ b ∧ b < w8.heap.size) (.slice g8 n8 c8) (ndsDt (l.take (k + 1)))) := ho8
      have HB9 : Hid (Below w.heap.size w w8) := by
        have z6 := t6.size
        have z8 := t8.size
        have hb6 : Below w.heap.size w w6 := Turned.below (HB.out.trans (HB5.out.mono HB.out.size)) t6 (by have := HB5.out.size; omega) (fun i hi => by omega)
        exact Turned.below (hb6.alloc hb6.size _) t8 (by have := hb6.size; simp; omega) (fun i hi => hi.1)
      clear ho8 t8 t6 HO HO6 HU6 HE5 HB5 HV5 HV6 o0 o1 o2 o3 o4 o5 o6 o7 o8
      go_wp2
      first
      | exact ⟨⟨k + 1, g8, n8, c8, by omega, by go_num, rfl, HO8, HB9⟩, by simp [intOf]; omega⟩
      | (go_roundw
         case rel => exact ⟨k + 1, g8, n8, c8, by omega, by go_num, rfl, HO8, HB9⟩
         case measure => simp [intOf]; omega)
    · have he : k = l.length := by omega
      subst he
      rw [List.take_length] at HO
      go_wp2
      go_ret
      exact ⟨_, _, _, rfl, HO.out, HB.out⟩
end
section
def num (n : Int) : Bool := decide (0 ≤ n) && decide (n ≤ 2147483647)
def TOk (t : TxD) : Bool := (decide (0 ≤ t.1) && decide (t.1 < 4)) && (num t.2.1 && num t.2.2)
end
section
def POk (p : PtD) : Bool :=
  if p.kind = 0 then HOk p.h && (decide (p.asn.length = 0) && decide (p.to = hd0))
  else if p.kind = 1 then (HOk p.h && !p.h.dir) && (decide (p.asn.length = 0) && decide (p.to = hd0))
  else if p.kind = 2 then ((decide (0 ≤ p.h.sh) && decide (p.h.sh < 4)) && decide (p.h.ino = 0)) && (decide (p.asn.length = 0) && (HOk p.to && p.to.dir))
  else if p.kind = 3 then (HOk p.h && p.h.dir) && (isNm p.asn && HOk p.to)
  else if p.kind = 4 then (HOk p.h && p.h.dir) && (decide (p.asn.length = 0) && (HOk p.to && p.to.dir))
  else if p.kind = 5 then decide (p.h = hd0) && (decide (p.asn.length = 0) && decide (p.to = hd0))
  else false
end
section
def enOk (e : En) : Bool := isNm e.nm && HOk e.h
def enOkAt (l : List En) (i : Nat) : Bool := enOk (l[i]?.getD en0)
def noneOk (h : Hd) : Bool := decide (h = hd0) || HOk h
def ROk (r : RpD) : Bool := ((decide (0 ≤ r.code) && decide (r.code ≤ 11)) && (num r.val && (noneOk r.h && decide (r.list.length ≤ 12)))) && (List.range r.list.length).all (enOkAt r.list)
end
section
def isEndB (n : Int) : Bool := decide (0 ≤ n) && decide (n < 8)
def isCd (n : Int) : Bool := decide (0 ≤ n) && decide (n ≤ 11)
def zOp (o : OpD) : Bool := decide (o.kind = 0) && (decide (o.dir = hd0) && (decide (o.nm.length = 0) && (decide (o.to = hd0) && (decide (o.asn.length = 0) && decide (o.val = 0)))))
def zRp (r : RpD) : Bool := decide (r.code = 0) && (decide (r.h = hd0) && (decide (r.val = 0) && decide (r.list.length = 0)))
def zPt (p : PtD) : Bool := decide (p.kind = 0) && (decide (p.h = hd0) && (decide (p.asn.length = 0) && decide (p.to = hd0)))
def zTx (t : TxD) : Bool := decide (t = tx0)
def MBody (m : MsD) : Bool :=
  if m.kind = 0 then (num m.req && OOk m.op) && (zRp m.rp && (zTx m.tx && (zPt m.pt && (decide (m.code = 0) && decide (m.h = hd0)))))
  else if m.kind = 1 then (num m.req && ROk m.rp) && (zOp m.op && (zTx m.tx && (zPt m.pt && (decide (m.code = 0) && decide (m.h = hd0)))))
  else if m.kind = 2 then (TOk m.tx && POk m.pt) && (decide (m.req = 0) && (zOp m.op && (zRp m.rp && (decide (m.code = 0) && decide (m.h = hd0)))))
  else if m.kind = 3 then (TOk m.tx && (POk m.pt && (isCd m.code && noneOk m.h))) && (decide (m.req = 0) && (zOp m.op && zRp m.rp))
  else if m.kind = 4 then TOk m.tx && (decide (m.req = 0) && (zOp m.op && (zRp m.rp && (zPt m.pt && (decide (m.code = 0) && decide (m.h = hd0))))))
  else if m.kind = 5 then (TOk m.tx && (decide (m.code = 0) || decide (m.code = 1))) && (decide (m.req = 0) && (zOp m.op && (zRp m.rp && (zPt m.pt && decide (m.h = hd0)))))
  else if m.kind = 6 then (TOk m.tx && (num m.req && (HOk m.h && m.h.dir))) && (zOp m.op && (zRp m.rp && (zPt m.pt && decide (m.code = 0))))
  else (TOk m.tx && (num m.req && (isCd m.code && noneOk m.h))) && (zOp m.op && (zRp m.rp && zPt m.pt))
def MOk (m : MsD) : Bool := (decide (0 ≤ m.kind) && decide (m.kind ≤ 7)) && ((isEndB m.fr && isEndB m.to) && MBody m)
end
section
theorem nilB (w : World) (S : Nat → Prop) : RdV w S (.slice none 0 0) (.bytes []) := ⟨isBytes_nil, none, 0, 0, rfl, rfl, ⟨Nat.le_refl _, Nat.zero_le _, fun _ => ⟨rfl, rfl⟩⟩, .inl rfl⟩
end
section
open Go.Shelf
def sortNd_ren : Go.Shelf.Ren := ⟨fun | 6 => 21 | 15 => 53 | 14 => 52 | 28 => 90 | 29 => 91 | 20 => 82 | 21 => 83 | 22 => 84 | 23 => 85 | 24 => 86 | 25 => 87 | 26 => 88 | 27 => 89 | 46 => 112 | 47 => 113 | 48 => 114 | 49 => 115 | 50 => 116 | 57 => 128 | n => n, fun | 22 => 24 | 24 => 54 | 25 => 65 | 3 => 3 | 39 => 94 | 0 => 0 | 53 => 156 | 55 => 158 | 4 => 4 | 46 => 149 | 45 => 148 | 50 => 153 | 5 => 5 | 9 => 9 | 66 => 177 | 70 => 181 | 76 => 193 | 77 => 194 | n => n, fun | n => n⟩
theorem sortNd : Go.Proofs.SlLaysF0.n6 Tryz.prog sortNd_ren := {
  mixed := by kernel_rfl
  f6 := ⟨Tryz.f21.name, by decide, Tryz.func21.trans (congrArg some (by kernel_rfl))⟩
  f14 := ⟨Tryz.f52.name, by decide, Tryz.func52.trans (congrArg some (by kernel_rfl))⟩
  f15 := Tryz.func53.trans (congrArg some (by kernel_rfl))
  f20 := ⟨Tryz.f82.name, by decide, Tryz.func82.trans (congrArg some (by kernel_rfl))⟩
  f21 := ⟨Tryz.f83.name, by decide, Tryz.func83.trans (congrArg some (by kernel_rfl))⟩
  f22 := ⟨Tryz.f84.name, by decide, Tryz.func84.trans (congrArg some (by kernel_rfl))⟩
  f23 := ⟨Tryz.f85.name, by decide, Tryz.func85.trans (congrArg some (by kernel_rfl))⟩
  f24 := ⟨Tryz.f86.name, by decide, Tryz.func86.trans (congrArg some (by kernel_rfl))⟩
  f25 := ⟨Tryz.f87.name, by decide, Tryz.func87.trans (congrArg some (by kernel_rfl))⟩
  f26 := ⟨Tryz.f88.name, by decide, Tryz.func88.trans (congrArg some (by kernel_rfl))⟩
  f27 := ⟨Tryz.f89.name, by decide, Tryz.func89.trans (congrArg some (by kernel_rfl))⟩
  f28 := Tryz.func90.trans (congrArg some (by kernel_rfl))
  f29 := Tryz.func91.trans (congrArg some (by kernel_rfl))
  f46 := ⟨Tryz.f112.name, by decide, Tryz.func112.trans (congrArg some (by kernel_rfl))⟩
  f47 := Tryz.func113.trans (congrArg some (by kernel_rfl))
  f48 := Tryz.func114.trans (congrArg some (by kernel_rfl))
  f49 := ⟨Tryz.f115.name, by decide, Tryz.func115.trans (congrArg some (by kernel_rfl))⟩
  f50 := ⟨Tryz.f116.name, by decide, Tryz.func116.trans (congrArg some (by kernel_rfl))⟩
  f57 := ⟨Tryz.f128.name, by decide, Tryz.func128.trans (congrArg some (by kernel_rfl))⟩
  t0 := Tryz.underlying0
  a0 := Tryz.isAgg0
  z0 := Tryz.sizeOf0
  v0 := Tryz.zeroValue0
  t3 := Tryz.underlying3
  a3 := Tryz.isAgg3
  z3 := Tryz.sizeOf3
  v3 := Tryz.zeroValue3
  t4 := Tryz.underlying4
  a4 := Tryz.isAgg4
  z4 := Tryz.sizeOf4
  v4 := Tryz.zeroValue4
  t5 := Tryz.underlying5
  a5 := Tryz.isAgg5
  z5 := Tryz.sizeOf5
  v5 := Tryz.zeroValue5
  t9 := Tryz.underlying9
  a9 := Tryz.isAgg9
  z9 := Tryz.sizeOf9
  v9 := Tryz.zeroValue9
  t22 := Tryz.underlying24
  a22 := Tryz.isAgg24
  z22 := Tryz.sizeOf24
  v22 := Tryz.zeroValue24
  t25 := Tryz.underlying65
  a25 := Tryz.isAgg65
  z25 := Tryz.sizeOf65
  v25 := Tryz.zeroValue65
  t39 := Tryz.underlying94
  a39 := Tryz.isAgg94
  z39 := Tryz.sizeOf94
  v39 := Tryz.zeroValue94
  t45 := Tryz.underlying148
  a45 := Tryz.isAgg148
  z45 := Tryz.sizeOf148
  v45 := Tryz.zeroValue148
  t46 := Tryz.underlying149
  a46 := Tryz.isAgg149
  z46 := Tryz.sizeOf149
  v46 := Tryz.zeroValue149
  t50 := Tryz.underlying153
  a50 := Tryz.isAgg153
  z50 := Tryz.sizeOf153
  v50 := Tryz.zeroValue153
  t53 := Tryz.underlying156
  a53 := Tryz.isAgg156
  z53 := Tryz.sizeOf156
  v53 := Tryz.zeroValue156
  t55 := Tryz.underlying158
  a55 := Tryz.isAgg158
  z55 := Tryz.sizeOf158
  v55 := Tryz.zeroValue158
  t66 := Tryz.underlying177
  a66 := Tryz.isAgg177
  z66 := Tryz.sizeOf177
  v66 := Tryz.zeroValue177
  t70 := Tryz.underlying181
  a70 := Tryz.isAgg181
  z70 := Tryz.sizeOf181
  v70 := Tryz.zeroValue181
  t76 := Tryz.underlying193
  a76 := Tryz.isAgg193
  z76 := Tryz.sizeOf193
  v76 := Tryz.zeroValue193
  t77 := Tryz.underlying194
  a77 := Tryz.isAgg194
  z77 := Tryz.sizeOf194
  v77 := Tryz.zeroValue194 }
end
section
set_option maxHeartbeats 1000000 in
theorem szPart_d (x : Value) (o : PtD) (S : Nat → Prop) (s : Nat) (w : World) (hs : s ≤ 1048576) (r : RdV w S x (.bytes o.asn)) :
    Calls Tryz.prog 106 #[ptV o x, .int .i64 s] w fun ret w' => ret = .returned (.int .i64 (leftT (o.asn.length) s)) ∧ Below w.heap.size w w' := by
  obtain ⟨a, cap, rfl⟩ := r.sliceB
  obtain ⟨kd, ⟨p, q, d⟩, nm, ⟨p2, q2, d2⟩⟩ := o
  dsimp only at r ⊢
  have HS : Hid (∀ W, Below w.heap.size w W → _) := fun W hW => szByteS_d _ nm S s W (r.step hW) hs
  clear r
  generalize nm.length = m at HS ⊢
  by_cases hle : m ≤ s
  · have hl : leftT m s = (s : Int) - m := by unfold leftT; rw [if_pos hle]
    rw [hl] at HS ⊢
    clear hl
    go_enter Tryz.func106, Tryz.ntmps106
    go_wp2_with fail
    refine Calls.mono (HS.out _ (Below.newH _)) ?_
    rintro e w2 ⟨rfl, b_⟩
    go_wp2
    go_ret
    exact ⟨rfl, (Below.newH (w := w) _).trans (b_.mono (by simp))⟩
  · have hl : leftT m s = -1 := by unfold leftT; rw [if_neg hle]
    rw [hl] at HS ⊢
    clear hl
    go_enter Tryz.func106, Tryz.ntmps106
    go_wp2_with fail
    refine Calls.mono (HS.out _ (Below.newH _)) ?_
    rintro e w2 ⟨rfl, b_⟩
    go_wp2
    go_ret
    exact ⟨rfl, (Below.newH (w := w) _).trans (b_.mono (by simp))⟩

set_option maxHeartbeats 1000000 in
theorem szReply_d (x : Value) (o : RpD) (S : Nat → Prop) (s : Nat) (w : World) (hs : s ≤ 1048576) (r : RdV w S x (ensDt o.list)) :
    Calls Tryz.prog 107 #[rpV o x, .int .i64 s] w fun ret w' => ret = .returned (.int .i64 (leftT (szEns o.list) s)) ∧ Below w.heap.size w w' := by
  obtain ⟨a, cap, rfl, _⟩ := RdV.sliced r
  obtain ⟨kd, ⟨p, q, d⟩, vl, es⟩ := o
  dsimp only at r ⊢
  generalize hq : es.length = n0 at r
  have HQ : Hid _ := hq
  clear hq
  have HS : Hid (∀ W, Below w.heap.size w W → _) := fun W hW => szEntryS_d _ es S s W hs (r.step hW)
  clear r
  generalize szEns es = m at HS ⊢
  by_cases hle : m ≤ s
  · have hl : leftT m s = (s : Int) - m := by unfold leftT; rw [if_pos hle]
    rw [hl] at HS ⊢
    clear hl
    go_enter Tryz.func107, Tryz.ntmps107
    go_wp2_with fail
    refine Calls.mono (HS.out _ (Below.newH _)) ?_
    rintro e w2 ⟨rfl, b_⟩
    go_wp2
    go_ret
    exact ⟨rfl, (Below.newH (w := w) _).trans (b_.mono (by simp))⟩
  · have hl : leftT m s = -1 := by unfold leftT; rw [if_neg hle]
    rw [hl] at HS ⊢
    clear hl
    go_enter Tryz.func107, Tryz.ntmps107
    go_wp2_with fail
    refine Calls.mono (HS.out _ (Below.newH _)) ?_
    rintro e w2 ⟨rfl, b_⟩
    go_wp2
    go_ret
    exact ⟨rfl, (Below.newH (w := w) _).trans (b_.mono (by simp))⟩
end
section
theorem eqByteS_same (v u : Value) (zs : List Int) (S S2 : Nat → Prop) (w : World) (r : RdV w S v (.bytes zs)) (r2 : RdV w S2 u (.bytes zs)) (hl : zs.length ≤ 2097152) :
    Calls Tryz.prog 130 #[v, u] w fun e w' => e = .returned (.bool true) ∧ Below w.heap.size w w' := by
  obtain ⟨a, cap, rfl, hh, hr⟩ := r.b.reads
  obtain ⟨a2, cap2, rfl, hh2, hr2⟩ := r2.b.reads
  refine (eqByteS_any a a2 zs zs cap cap2 w hr hr2 hl hl).mono ?_
  rintro e w' ⟨rfl, n, rfl⟩
  exact ⟨by rw [beq_self_eq_true], below_drewN2 (Below.refl _ _) n⟩

set_option maxHeartbeats 1000000 in
theorem eqEntry_same (x y : Value) (e : En) (S S2 : Nat → Prop) (w : World) (r : RdV w S x (.bytes e.nm)) (r2 : RdV w S2 y (.bytes e.nm)) (hl : e.nm.length ≤ 2097152) :
    Calls Tryz.prog 121 #[enV x e.h, enV y e.h] w fun q w' => q = .returned (.bool true) ∧ Below w.heap.size w w' := by
  obtain ⟨a, cap, rfl⟩ := r.sliceB
  obtain ⟨a2, cap2, rfl⟩ := r2.sliceB
  obtain ⟨nm, ⟨p, q, d⟩⟩ := e
  have HR : Hid (∀ W, Below w.heap.size w W → _) := r.old
  have HR2 : Hid (∀ W, Below w.heap.size w W → _) := r2.old
  have HH : Hid (∀ W, _) := fun W => eqHandle_same (p, q, d) W
  have HL : Hid (nm.length ≤ 2097152) := hl
  clear r r2 hl
  dsimp only at HR HR2 ⊢
  generalize nm.length = n0 at HR HR2
  go_enter Tryz.func121, Tryz.ntmps121
  go_wp2_with fail
  refine Calls.mono (eqByteS_same _ _ nm S S2 _ (HR.out _ (Below.newH2 _ _)) (HR2.out _ (Below.newH2 _ _)) HL.out) ?_
  rintro e w2 ⟨rfl, b_⟩
  have vA : VarA w2 w.heap.size 83 #[.slice a n0 cap, .int .i64 p, .int .i64 q, .bool d] := VarA.step ((VarA.new w _ _).alloc _) b_
  have vB : VarA w2 (w.heap.size + 1) 83 #[.slice a2 n0 cap2, .int .i64 p, .int .i64 q, .bool d] := by
    have := VarA.step (VarA.new (w.alloc _) _ _) b_
    simpa using this
  have HB : Hid _ := (Below.newH2 (w := w) _ _).trans (b_.mono (by simp; omega))
  clear b_
  obtain ⟨a0_, a1_, a2_, a3_⟩ := vA.l4
  obtain ⟨b0_, b1_, b2_, b3_⟩ := vB.l4
  go_wp2_with fail
  refine Calls.mono (HH.out _) ?_
  rintro e w3 ⟨rfl, b_⟩
  have vA_ := vA.step b_
  have vB_ := vB.step b_
  have HB_ : Hid _ := HB.out.trans (b_.mono HB.out.size)
  clear vA vB HB b_ a0_ a1_ a2_ a3_ b0_ b1_ b2_ b3_
  have vA := vA_
  have vB := vB_
  have HB := HB_
  clear vA_ vB_ HB_
  obtain ⟨a0_, a1_, a2_, a3_⟩ := vA.l4
  obtain ⟨b0_, b1_, b2_, b3_⟩ := vB.l4
  go_wp2
  go_ret
  exact ⟨rfl, HB.out⟩

set_option maxHeartbeats 2000000 in
theorem eqEntryS_same (v u : Value) (l : List En) (S S2 : Nat → Prop) (w : World) (r : RdV w S v (ensDt l)) (r2 : RdV w S2 u (ensDt l)) (hl : szEns l ≤ 2097152) :
    Calls Tryz.prog 99 #[v, u] w fun e w' => e = .returned (.bool true) ∧ Below w.heap.size w w' := by
  obtain ⟨a, cap, rfl, _⟩ := RdV.sliced r
  obtain ⟨a2, cap2, rfl, _⟩ := RdV.sliced r2
  have HR : Hid (∀ W, Below w.heap.size w W → RdV W S (.slice a l.length cap) (ensDt l)) := r.old
  have HR2 : Hid (∀ W, Below w.heap.size w W → RdV W S2 (.slice a2 l.length cap2) (ensDt l)) := r2.old
  have HD : Hid (ensDt l = .rows 83 4 l.length (fun i j => enCell (l[i]?.getD en0) j)) := rfl
  have hnn : l.length ≤ 2097152 := by unfold szEns at hl; omega
  have HL : Hid _ := hl
  clear r r2 hl
  rw [HD.out] at HR HR2
  clear HD
  generalize l.length = n at hnn HR HR2 ⊢
  go_enter Tryz.func99, Tryz.ntmps99
  go_wp2
  go_loopw [5] (fun i wr => ∃ k : Nat, k ≤ n ∧ i = .int .i64 k ∧ Below w.heap.size w wr) (fun i _ => n - (intOf i).toNat)
  case atStart => exact ⟨0, Nat.zero_le _, rfl, Below.refl _ _⟩
  case round =>
    obtain ⟨k, hk, rfl, hbel⟩ := hrel
    by_cases hlt : k < n
    · obtain ⟨b, off, rfl, hbl, _, hx⟩ := RdV.at (HR.out wr hbel) hlt
      obtain ⟨b2, off2, rfl, hbl2, _, hy⟩ := RdV.at (HR2.out wr hbel) hlt
      obtain ⟨e, he⟩ : ∃ e, l[k]?.getD en0 = e := ⟨_, rfl⟩
      obtain ⟨x0, c0, r0⟩ := hx 0 (by omega)
      obtain ⟨y0, dd0, s0⟩ := hy 0 (by omega)
      obtain ⟨x1, c1, r1⟩ := hx 1 (by omega)
      obtain ⟨y1, dd1, s1⟩ := hy 1 (by omega)
      obtain ⟨x2, c2, r2⟩ := hx 2 (by omega)
      obtain ⟨y2, dd2, s2⟩ := hy 2 (by omega)
      obtain ⟨x3, c3, r3⟩ := hx 3 (by omega)
      obtain ⟨y3, dd3, s3⟩ := hy 3 (by omega)
      rw [he] at r0 s0 r1 s1 r2 s2 r3 s3
      have HZ : Hid (e.nm.length ≤ 2097152) := by have h1 := szEns_at l k; rw [he] at h1; have h2 := HL.out; show _ ≤ _; omega
      clear hx hy he
      obtain ⟨nm, ⟨p, q, d⟩⟩ := e
      obtain rfl : x1 = .int .i64 p := r1
      obtain rfl : y1 = .int .i64 p := s1
      obtain rfl : x2 = .int .i64 q := r2
      obtain rfl : y2 = .int .i64 q := s2
      obtain rfl : x3 = .bool d := r3
      obtain rfl : y3 = .bool d := s3
      simp only [Nat.add_zero] at c0 dd0
      have RS : Hid (RdV wr S x0 (.bytes nm)) := r0
      have RS2 : Hid (RdV wr S2 y0 (.bytes nm)) := s0
      clear r0 s0
      obtain ⟨xa, xc, rfl⟩ := RdV.sliceB RS.out
      obtain ⟨ya, yc, rfl⟩ := RdV.sliceB RS2.out
      have RC : Hid _ := eqEntry_same _ _ ⟨nm, p, q, d⟩ S S2 wr.drew (RS.out.step (Below.drew (Below.refl _ _))) (RS2.out.step (Below.drew (Below.refl _ _))) HZ.out
      generalize nm.length = xn at RC c0 dd0
      have hws := hbel.size
      clear HZ RS RS2
      go_wp2
      go_region_held3 (fun w' => w'.cell? ⟨b, off + k * 4, none⟩ = some (.slice xa xn xc) ∧ w'.cell? ⟨b, off + k * 4 + 1, none⟩ = some (.int .i64 p) ∧ w'.cell? ⟨b, off + k * 4 + 2, none⟩ = some (.int .i64 q) ∧ w'.cell? ⟨b, off + k * 4 + 3, none⟩ = some (.bool d) ∧ w'.cell? ⟨b2, off2 + k * 4, none⟩ = some (.slice ya xn yc) ∧ w'.cell? ⟨b2, off2 + k * 4 + 1, none⟩ = some (.int .i64 p) ∧ w'.cell? ⟨b2, off2 + k * 4 + 2, none⟩ = some (.int .i64 q) ∧ w'.cell? ⟨b2, off2 + k * 4 + 3, none⟩ = some (.bool d)) (first | go_keep | (refine ⟨?_, ?_, ?_, ?_, ?_, ?_, ?_, ?_⟩ <;> assumption)) (first | (go_at_call 121; refine Calls.mono RC.out ?_; rintro e w' ⟨rfl, hbw⟩; have q0 := (hbw.cell (p := ⟨b, off + k * 4, none⟩) hbl).trans c0; have q1 := (hbw.cell (p := ⟨b, off + k * 4 + 1, none⟩) hbl).trans c1; have q2 := (hbw.cell (p := ⟨b, off + k * 4 + 2, none⟩) hbl).trans c2; have q3 := (hbw.cell (p := ⟨b, off + k * 4 + 3, none⟩) hbl).trans c3; have q4 := (hbw.cell (p := ⟨b2, off2 + k * 4, none⟩) hbl2).trans dd0; have q5 := (hbw.cell (p := ⟨b2, off2 + k * 4 + 1, none⟩) hbl2).trans dd1; have q6 := (hbw.cell (p := ⟨b2, off2 + k * 4 + 2, none⟩) hbl2).trans dd2; have q7 := (hbw.cell (p := ⟨b2, off2 + k * 4 + 3, none⟩) hbl2).trans dd3))
      go_wp2
      go_roundw
      case rel => exact ⟨k + 1, by omega, by go_num, hbel.drew.trans (hbw.mono hws)⟩
      case measure => simp [intOf]; omega
    · have hkn : k = n := by omega
      subst hkn
      go_wp2
      go_ret
      exact ⟨rfl, hbel⟩

set_option maxHeartbeats 2000000 in
theorem eqNode_same (x y : Value) (n : Nd) (S S2 : Nat → Prop) (w : World) (r : RdV w S x (ensDt n.es)) (r2 : RdV w S2 y (ensDt n.es)) (hl : szEns n.es ≤ 2097152) :
    Calls Tryz.prog 61 #[ndV n x, ndV n y] w fun q w' => q = .returned (.bool true) ∧ Below w.heap.size w w' := by
  obtain ⟨a, cap, rfl, _⟩ := RdV.sliced r
  obtain ⟨a2, cap2, rfl, _⟩ := RdV.sliced r2
  obtain ⟨⟨p, q, d⟩, ⟨p2, q2, d2⟩, lk, vl, es⟩ := n
  have HR : Hid (∀ W, Below w.heap.size w W → _) := r.old
  have HR2 : Hid (∀ W, Below w.heap.size w W → _) := r2.old
  have HH : Hid (∀ W, _) := fun W => eqHandle_same (p, q, d) W
  have HH2 : Hid (∀ W, _) := fun W => eqHandle_same (p2, q2, d2) W
  have HL : Hid (szEns es ≤ 2097152) := hl
  clear r r2 hl
  dsimp only at HR HR2 ⊢
  generalize es.length = n0 at HR HR2
  go_enter Tryz.func61, Tryz.ntmps61
  go_wp2_with fail
  refine Calls.mono (HH.out _) ?_
  rintro e w2 ⟨rfl, b_⟩
  have vA : VarA w2 w.heap.size 54 #[.int .i64 p, .int .i64 q, .bool d, .int .i64 p2, .int .i64 q2, .bool d2, .int .i64 lk, .int .i64 vl, .slice a n0 cap] := VarA.step ((VarA.new w _ _).alloc _) b_
  have vB : VarA w2 (w.heap.size + 1) 54 #[.int .i64 p, .int .i64 q, .bool d, .int .i64 p2, .int .i64 q2, .bool d2, .int .i64 lk, .int .i64 vl, .slice a2 n0 cap2] := by
    have := VarA.step (VarA.new (w.alloc _) _ _) b_
    simpa using this
  have HB : Hid _ := (Below.newH2 (w := w) _ _).trans (b_.mono (by simp; omega))
  clear b_
  obtain ⟨a0_, a1_, a2_, a3_, a4_, a5_, a6_, a7_, a8_⟩ := vA.l9
  obtain ⟨b0_, b1_, b2_, b3_, b4_, b5_, b6_, b7_, b8_⟩ := vB.l9
  go_wp2_with fail
  refine Calls.mono (HH2.out _) ?_
  rintro e w3 ⟨rfl, b_⟩
  have vA_ := vA.step b_
  have vB_ := vB.step b_
  have HB_ : Hid _ := HB.out.trans (b_.mono HB.out.size)
  clear vA vB HB b_ a0_ a1_ a2_ a3_ a4_ a5_ a6_ a7_ a8_ b0_ b1_ b2_ b3_ b4_ b5_ b6_ b7_ b8_
  have vA := vA_
  have vB := vB_
  have HB := HB_
  clear vA_ vB_ HB_
  obtain ⟨a0_, a1_, a2_, a3_, a4_, a5_, a6_, a7_, a8_⟩ := vA.l9
  obtain ⟨b0_, b1_, b2_, b3_, b4_, b5_, b6_, b7_, b8_⟩ := vB.l9
  go_wp2_with fail
  refine Calls.mono (eqEntryS_same _ _ es S S2 _ (HR.out _ HB.out) (HR2.out _ HB.out) HL.out) ?_
  rintro e w4 ⟨rfl, b_⟩
  have vA_ := vA.step b_
  have vB_ := vB.step b_
  have HB_ : Hid _ := HB.out.trans (b_.mono HB.out.size)
  clear vA vB HB b_ a0_ a1_ a2_ a3_ a4_ a5_ a6_ a7_ a8_ b0_ b1_ b2_ b3_ b4_ b5_ b6_ b7_ b8_
  have vA := vA_
  have vB := vB_
  have HB := HB_
  clear vA_ vB_ HB_
  obtain ⟨a0_, a1_, a2_, a3_, a4_, a5_, a6_, a7_, a8_⟩ := vA.l9
  obtain ⟨b0_, b1_, b2_, b3_, b4_, b5_, b6_, b7_, b8_⟩ := vB.l9
  go_wp2
  go_ret
  exact ⟨rfl, HB.out⟩

set_option maxHeartbeats 2000000 in
theorem eqNodeS_same (v u : Value) (l : List Nd) (S S2 : Nat → Prop) (w : World) (r : RdV w S v (ndsDt l)) (r2 : RdV w S2 u (ndsDt l)) (hl : szNds l ≤ 2097152) :
    Calls Tryz.prog 25 #[v, u] w fun e w' => e = .returned (.bool true) ∧ Below w.heap.size w w' := by
  obtain ⟨a, cap, rfl, _⟩ := RdV.sliced r
  obtain ⟨a2, cap2, rfl, _⟩ := RdV.sliced r2
  have HR : Hid (∀ W, Below w.heap.size w W → RdV W S (.slice a l.length cap) (ndsDt l)) := r.old
  have HR2 : Hid (∀ W, Below w.heap.size w W → RdV W S2 (.slice a2 l.length cap2) (ndsDt l)) := r2.old
  have HD : Hid (ndsDt l = .rows 54 9 l.length (fun i j => ndCell (l[i]?.getD nd0) j)) := rfl
  have hnn : l.length ≤ 2097152 := by unfold szNds at hl; omega
  have HL : Hid _ := hl
  clear r r2 hl
  rw [HD.out] at HR HR2
  clear HD
  generalize l.length = n at hnn HR HR2 ⊢
  go_enter Tryz.func25, Tryz.ntmps25
  go_wp2
  go_loopw [5] (fun i wr => ∃ k : Nat, k ≤ n ∧ i = .int .i64 k ∧ Below w.heap.size w wr) (fun i _ => n - (intOf i).toNat)
  case atStart => exact ⟨0, Nat.zero_le _, rfl, Below.refl _ _⟩
  case round =>
    obtain ⟨k, hk, rfl, hbel⟩ := hrel
    by_cases hlt : k < n
    · obtain ⟨b, off, rfl, hbl, _, hx⟩ := RdV.at (HR.out wr hbel) hlt
      obtain ⟨b2, off2, rfl, hbl2, _, hy⟩ := RdV.at (HR2.out wr hbel) hlt
      obtain ⟨e, he⟩ : ∃ e, l[k]?.getD nd0 = e := ⟨_, rfl⟩
      obtain ⟨x0, c0, r0⟩ := hx 0 (by omega)
      obtain ⟨y0, dd0, s0⟩ := hy 0 (by omega)
      obtain ⟨x1, c1, r1⟩ := hx 1 (by omega)
      obtain ⟨y1, dd1, s1⟩ := hy 1 (by omega)
      obtain ⟨x2, c2, r2⟩ := hx 2 (by omega)
      obtain ⟨y2, dd2, s2⟩ := hy 2 (by omega)
      obtain ⟨x3, c3, r3⟩ := hx 3 (by omega)
      obtain ⟨y3, dd3, s3⟩ := hy 3 (by omega)
      obtain ⟨x4, c4, r4⟩ := hx 4 (by omega)
      obtain ⟨y4, dd4, s4⟩ := hy 4 (by omega)
      obtain ⟨x5, c5, r5⟩ := hx 5 (by omega)
      obtain ⟨y5, dd5, s5⟩ := hy 5 (by omega)
      obtain ⟨x6, c6, r6⟩ := hx 6 (by omega)
      obtain ⟨y6, dd6, s6⟩ := hy 6 (by omega)
      obtain ⟨x7, c7, r7⟩ := hx 7 (by omega)
      obtain ⟨y7, dd7, s7⟩ := hy 7 (by omega)
      obtain ⟨x8, c8, r8⟩ := hx 8 (by omega)
      obtain ⟨y8, dd8, s8⟩ := hy 8 (by omega)
      rw [he] at r0 s0 r1 s1 r2 s2 r3 s3 r4 s4 r5 s5 r6 s6 r7 s7 r8 s8
      have HZ : Hid (szEns e.es ≤ 2097152) := by have h1 := szNds_at l k; rw [he] at h1; have h2 := HL.out; show _ ≤ _; omega
      clear hx hy he
      obtain ⟨⟨p, q, d⟩, ⟨p2, q2, d2⟩, lk, vl, es⟩ := e
      obtain rfl : x0 = .int .i64 p := r0
      obtain rfl : y0 = .int .i64 p := s0
      obtain rfl : x1 = .int .i64 q := r1
      obtain rfl : y1 = .int .i64 q := s1
      obtain rfl : x2 = .bool d := r2
      obtain rfl : y2 = .bool d := s2
      obtain rfl : x3 = .int .i64 p2 := r3
      obtain rfl : y3 = .int .i64 p2 := s3
      obtain rfl : x4 = .int .i64 q2 := r4
      obtain rfl : y4 = .int .i64 q2 := s4
      obtain rfl : x5 = .bool d2 := r5
      obtain rfl : y5 = .bool d2 := s5
      obtain rfl : x6 = .int .i64 lk := r6
      obtain rfl : y6 = .int .i64 lk := s6
      obtain rfl : x7 = .int .i64 vl := r7
      obtain rfl : y7 = .int .i64 vl := s7
      simp only [Nat.add_zero] at c0 dd0
      have RS : Hid (RdV wr S x8 (ensDt es)) := r8
      have RS2 : Hid (RdV wr S2 y8 (ensDt es)) := s8
      clear r8 s8
      obtain ⟨xa, xc, rfl, _⟩ := RdV.sliced RS.out
      obtain ⟨ya, yc, rfl, _⟩ := RdV.sliced RS2.out
      have RC : Hid _ := eqNode_same _ _ ⟨(p, q, d), (p2, q2, d2), lk, vl, es⟩ S S2 wr.drew (RS.out.step (Below.drew (Below.refl _ _))) (RS2.out.step (Below.drew (Below.refl _ _))) HZ.out
      generalize es.length = xn at RC c8 dd8
      have hws := hbel.size
      clear HZ RS RS2
      go_wp2
      go_region_held3 (fun w' => w'.cell? ⟨b, off + k * 9, none⟩ = some (.int .i64 p) ∧ w'.cell? ⟨b, off + k * 9 + 1, none⟩ = some (.int .i64 q) ∧ w'.cell? ⟨b, off + k * 9 + 2, none⟩ = some (.bool d) ∧ w'.cell? ⟨b, off + k * 9 + 3, none⟩ = some (.int .i64 p2) ∧ w'.cell? ⟨b, off + k * 9 + 4, none⟩ = some (.int .i64 q2) ∧ w'.cell? ⟨b, off + k * 9 + 5, none⟩ = some (.bool d2) ∧ w'.cell? ⟨b, off + k * 9 + 6, none⟩ = some (.int .i64 lk) ∧ w'.cell? ⟨b, off + k * 9 + 7, none⟩ = some (.int .i64 vl) ∧ w'.cell? ⟨b, off + k * 9 + 8, none⟩ = some (.slice xa xn xc) ∧ w'.cell? ⟨b2, off2 + k * 9, none⟩ = some (.int .i64 p) ∧ w'.cell? ⟨b2, off2 + k * 9 + 1, none⟩ = some (.int .i64 q) ∧ w'.cell? ⟨b2, off2 + k * 9 + 2, none⟩ = some (.bool d) ∧ w'.cell? ⟨b2, off2 + k * 9 + 3, none⟩ = some (.int .i64 p2) ∧ w'.cell? ⟨b2, off2 + k * 9 + 4, none⟩ = some (.int .i64 q2) ∧ w'.cell? ⟨b2, off2 + k * 9 + 5, none⟩ = some (.bool d2) ∧ w'.cell? ⟨b2, off2 + k * 9 + 6, none⟩ = some (.int .i64 lk) ∧ w'.cell? ⟨b2, off2 + k * 9 + 7, none⟩ = some (.int .i64 vl) ∧ w'.cell? ⟨b2, off2 + k * 9 + 8, none⟩ = some (.slice ya xn yc)) (first | go_keep | (refine ⟨?_, ?_, ?_, ?_, ?_, ?_, ?_, ?_, ?_, ?_, ?_, ?_, ?_, ?_, ?_, ?_, ?_, ?_⟩ <;> assumption)) (first | (go_at_call 61; refine Calls.mono RC.out ?_; rintro e w' ⟨rfl, hbw⟩; have q0 := (hbw.cell (p := ⟨b, off + k * 9, none⟩) hbl).trans c0; have q1 := (hbw.cell (p := ⟨b, off + k * 9 + 1, none⟩) hbl).trans c1; have q2 := (hbw.cell (p := ⟨b, off + k * 9 + 2, none⟩) hbl).trans c2; have q3 := (hbw.cell (p := ⟨b, off + k * 9 + 3, none⟩) hbl).trans c3; have q4 := (hbw.cell (p := ⟨b, off + k * 9 + 4, none⟩) hbl).trans c4; have q5 := (hbw.cell (p := ⟨b, off + k * 9 + 5, none⟩) hbl).trans c5; have q6 := (hbw.cell (p := ⟨b, off + k * 9 + 6, none⟩) hbl).trans c6; have q7 := (hbw.cell (p := ⟨b, off + k * 9 + 7, none⟩) hbl).trans c7; have q8 := (hbw.cell (p := ⟨b, off + k * 9 + 8, none⟩) hbl).trans c8; have q9 := (hbw.cell (p := ⟨b2, off2 + k * 9, none⟩) hbl2).trans dd0; have q10 := (hbw.cell (p := ⟨b2, off2 + k * 9 + 1, none⟩) hbl2).trans dd1; have q11 := (hbw.cell (p := ⟨b2, off2 + k * 9 + 2, none⟩) hbl2).trans dd2; have q12 := (hbw.cell (p := ⟨b2, off2 + k * 9 + 3, none⟩) hbl2).trans dd3; have q13 := (hbw.cell (p := ⟨b2, off2 + k * 9 + 4, none⟩) hbl2).trans dd4; have q14 := (hbw.cell (p := ⟨b2, off2 + k * 9 + 5, none⟩) hbl2).trans dd5; have q15 := (hbw.cell (p := ⟨b2, off2 + k * 9 + 6, none⟩) hbl2).trans dd6; have q16 := (hbw.cell (p := ⟨b2, off2 + k * 9 + 7, none⟩) hbl2).trans dd7; have q17 := (hbw.cell (p := ⟨b2, off2 + k * 9 + 8, none⟩) hbl2).trans dd8))
      go_wp2
      go_roundw
      case rel => exact ⟨k + 1, by omega, by go_num, hbel.drew.trans (hbw.mono hws)⟩
      case measure => simp [intOf]; omega
    · have hkn : k = n := by omega
      subst hkn
      go_wp2
      go_ret
      exact ⟨rfl, hbel⟩

set_option maxHeartbeats 1000000 in
theorem eqTree_same (x y : Value) (l : List Nd) (S S2 : Nat → Prop) (w : World) (r : RdV w S x (ndsDt l)) (r2 : RdV w S2 y (ndsDt l)) (hl : szNds l ≤ 2097152) :
    Calls Tryz.prog 8 #[.agg #[x], .agg #[y]] w fun q w' => q = .returned (.bool true) ∧ Below w.heap.size w w' := by
  obtain ⟨a, cap, rfl, _⟩ := RdV.sliced r
  obtain ⟨a2, cap2, rfl, _⟩ := RdV.sliced r2
  have HR : Hid (∀ W, Below w.heap.size w W → _) := r.old
  have HR2 : Hid (∀ W, Below w.heap.size w W → _) := r2.old
  have HL : Hid (szNds l ≤ 2097152) := hl
  clear r r2 hl
  generalize l.length = n0 at HR HR2
  go_enter Tryz.func8, Tryz.ntmps8
  go_wp2_with fail
  refine Calls.mono (eqNodeS_same _ _ l S S2 _ (HR.out _ (Below.newH2 _ _)) (HR2.out _ (Below.newH2 _ _)) HL.out) ?_
  rintro e w2 ⟨rfl, b_⟩
  have vA : VarA w2 w.heap.size 26 #[.slice a n0 cap] := VarA.step ((VarA.new w _ _).alloc _) b_
  have vB : VarA w2 (w.heap.size + 1) 26 #[.slice a2 n0 cap2] := by
    have := VarA.step (VarA.new (w.alloc _) _ _) b_
    simpa using this
  have HB : Hid _ := (Below.newH2 (w := w) _ _).trans (b_.mono (by simp; omega))
  clear b_
  have a0_ := vA.l1
  have b0_ := vB.l1
  go_wp2
  go_ret
  exact ⟨rfl, HB.out⟩
end
section
theorem eqTx_same (t : TxD) (w : World) : Calls Tryz.prog 102 #[txV t, txV t] w fun e w' => e = .returned (.bool true) ∧ Below w.heap.size w w' := by
  obtain ⟨s, i, d⟩ := t
  go_enter Tryz.func102, Tryz.ntmps102
  go_wp2
  all_goals (go_ret; exact ⟨by first | rfl | (simp_all <;> omega), by first | exact Below.refl _ _ | exact Below.newH _ | exact Below.newH2 _ _⟩)

set_option maxHeartbeats 2000000 in
theorem eqPart_same (x y : Value) (o : PtD) (S S2 : Nat → Prop) (w : World) (r : RdV w S x (.bytes o.asn)) (r2 : RdV w S2 y (.bytes o.asn)) (hl : o.asn.length ≤ 2097152) :
    Calls Tryz.prog 122 #[ptV o x, ptV o y] w fun q w' => q = .returned (.bool true) ∧ Below w.heap.size w w' := by
  obtain ⟨a, cap, rfl⟩ := r.sliceB
  obtain ⟨a2, cap2, rfl⟩ := r2.sliceB
  obtain ⟨kd, ⟨p, q, d⟩, nm, ⟨p2, q2, d2⟩⟩ := o
  have HR : Hid (∀ W, Below w.heap.size w W → _) := r.old
  have HR2 : Hid (∀ W, Below w.heap.size w W → _) := r2.old
  have HH : Hid (∀ W, _) := fun W => eqHandle_same (p, q, d) W
  have HH2 : Hid (∀ W, _) := fun W => eqHandle_same (p2, q2, d2) W
  have HL : Hid (nm.length ≤ 2097152) := hl
  clear r r2 hl
  dsimp only at HR HR2 ⊢
  generalize nm.length = n0 at HR HR2
  go_enter Tryz.func122, Tryz.ntmps122
  go_wp2_with fail
  refine Calls.mono (HH.out _) ?_
  rintro e w2 ⟨rfl, b_⟩
  have vA : VarA w2 w.heap.size 109 #[.int .i64 kd, .int .i64 p, .int .i64 q, .bool d, .slice a n0 cap, .int .i64 p2, .int .i64 q2, .bool d2] := VarA.step ((VarA.new w _ _).alloc _) b_
  have vB : VarA w2 (w.heap.size + 1) 109 #[.int .i64 kd, .int .i64 p, .int .i64 q, .bool d, .slice a2 n0 cap2, .int .i64 p2, .int .i64 q2, .bool d2] := by
    have := VarA.step (VarA.new (w.alloc _) _ _) b_
    simpa using this
  have HB : Hid _ := (Below.newH2 (w := w) _ _).trans (b_.mono (by simp; omega))
  clear b_
  obtain ⟨a0_, a1_, a2_, a3_, a4_, a5_, a6_, a7_⟩ := vA.l8
  obtain ⟨b0_, b1_, b2_, b3_, b4_, b5_, b6_, b7_⟩ := vB.l8
  go_wp2_with fail
  refine Calls.mono (eqByteS_same _ _ nm S S2 _ (HR.out _ HB.out) (HR2.out _ HB.out) HL.out) ?_
  rintro e w3 ⟨rfl, b_⟩
  have vA_ := vA.step b_
  have vB_ := vB.step b_
  have HB_ : Hid _ := HB.out.trans (b_.mono HB.out.size)
  clear vA vB HB b_ a0_ a1_ a2_ a3_ a4_ a5_ a6_ a7_ b0_ b1_ b2_ b3_ b4_ b5_ b6_ b7_
  have vA := vA_
  have vB := vB_
  have HB := HB_
  clear vA_ vB_ HB_
  obtain ⟨a0_, a1_, a2_, a3_, a4_, a5_, a6_, a7_⟩ := vA.l8
  obtain ⟨b0_, b1_, b2_, b3_, b4_, b5_, b6_, b7_⟩ := vB.l8
  go_wp2_with fail
  refine Calls.mono (HH2.out _) ?_
  rintro e w4 ⟨rfl, b_⟩
  have vA_ := vA.step b_
  have vB_ := vB.step b_
  have HB_ : Hid _ := HB.out.trans (b_.mono HB.out.size)
  clear vA vB HB b_ a0_ a1_ a2_ a3_ a4_ a5_ a6_ a7_ b0_ b1_ b2_ b3_ b4_ b5_ b6_ b7_
  have vA := vA_
  have vB := vB_
  have HB := HB_
  clear vA_ vB_ HB_
  obtain ⟨a0_, a1_, a2_, a3_, a4_, a5_, a6_, a7_⟩ := vA.l8
  obtain ⟨b0_, b1_, b2_, b3_, b4_, b5_, b6_, b7_⟩ := vB.l8
  go_wp2
  go_ret
  exact ⟨rfl, HB.out⟩

set_option maxHeartbeats 2000000 in
theorem eqReply_same (x y : Value) (o : RpD) (S S2 : Nat → Prop) (w : World) (r : RdV w S x (ensDt o.list)) (r2 : RdV w S2 y (ensDt o.list)) (hl : szEns o.list ≤ 2097152) :
    Calls Tryz.prog 123 #[rpV o x, rpV o y] w fun q w' => q = .returned (.bool true) ∧ Below w.heap.size w w' := by
  obtain ⟨a, cap, rfl, _⟩ := RdV.sliced r
  obtain ⟨a2, cap2, rfl, _⟩ := RdV.sliced r2
  obtain ⟨kd, ⟨p, q, d⟩, vl, es⟩ := o
  have HR : Hid (∀ W, Below w.heap.size w W → _) := r.old
  have HR2 : Hid (∀ W, Below w.heap.size w W → _) := r2.old
  have HH : Hid (∀ W, _) := fun W => eqHandle_same (p, q, d) W
  have HL : Hid (szEns es ≤ 2097152) := hl
  clear r r2 hl
  dsimp only at HR HR2 ⊢
  generalize es.length = n0 at HR HR2
  go_enter Tryz.func123, Tryz.ntmps123
  go_wp2_with fail
  refine Calls.mono (HH.out _) ?_
  rintro e w2 ⟨rfl, b_⟩
  have vA : VarA w2 w.heap.size 116 #[.int .i64 kd, .int .i64 p, .int .i64 q, .bool d, .int .i64 vl, .slice a n0 cap] := VarA.step ((VarA.new w _ _).alloc _) b_
  have vB : VarA w2 (w.heap.size + 1) 116 #[.int .i64 kd, .int .i64 p, .int .i64 q, .bool d, .int .i64 vl, .slice a2 n0 cap2] := by
    have := VarA.step (VarA.new (w.alloc _) _ _) b_
    simpa using this
  have HB : Hid _ := (Below.newH2 (w := w) _ _).trans (b_.mono (by simp; omega))
  clear b_
  obtain ⟨a0_, a1_, a2_, a3_, a4_, a5_⟩ := vA.l6
  obtain ⟨b0_, b1_, b2_, b3_, b4_, b5_⟩ := vB.l6
  go_wp2_with fail
  refine Calls.mono (eqEntryS_same _ _ es S S2 _ (HR.out _ HB.out) (HR2.out _ HB.out) HL.out) ?_
  rintro e w3 ⟨rfl, b_⟩
  have vA_ := vA.step b_
  have vB_ := vB.step b_
  have HB_ : Hid _ := HB.out.trans (b_.mono HB.out.size)
  clear vA vB HB b_ a0_ a1_ a2_ a3_ a4_ a5_ b0_ b1_ b2_ b3_ b4_ b5_
  have vA := vA_
  have vB := vB_
  have HB := HB_
  clear vA_ vB_ HB_
  obtain ⟨a0_, a1_, a2_, a3_, a4_, a5_⟩ := vA.l6
  obtain ⟨b0_, b1_, b2_, b3_, b4_, b5_⟩ := vB.l6
  go_wp2
  go_ret
  exact ⟨rfl, HB.out⟩
end
section
set_option maxHeartbeats 2000000 in
theorem eqVerdict_same (e : VdD) (w : World) :
    Calls Tryz.prog 101 #[vdV e, vdV e] w fun q w' => q = .returned (.bool true) ∧ Below w.heap.size w w' := by
  obtain ⟨⟨xs, xb, xn⟩, vo⟩ := e
  have HT_ : Hid (∀ W, _) := fun W => eqTx_same (xs, xb, xn) W
  try dsimp only
  have hvv : (vo != vo) = false := by simp
  go_enter Tryz.func101, Tryz.ntmps101
  go_wp2_with fail
  refine Calls.mono (HT_.out _) ?_
  rintro e w2 ⟨rfl, b_⟩
  have vA : VarA w2 w.heap.size 114 #[.int .i64 xs, .int .i64 xb, .int .i64 xn, .bool vo] := VarA.step ((VarA.new w _ _).alloc _) b_
  have vB : VarA w2 (w.heap.size + 1) 114 #[.int .i64 xs, .int .i64 xb, .int .i64 xn, .bool vo] := by
    have := VarA.step (VarA.new (w.alloc _) _ _) b_
    simpa using this
  have HB : Hid _ := (Below.newH2 (w := w) _ _).trans (b_.mono (by simp; omega))
  clear b_
  obtain ⟨a0_, a1_, a2_, a3_⟩ := vA.l4
  obtain ⟨b0_, b1_, b2_, b3_⟩ := vB.l4
  go_wp2
  go_ret
  exact ⟨rfl, HB.out⟩

set_option maxHeartbeats 4000000 in
theorem eqVerdictS_same (v u : Value) (l : List VdD) (S S2 : Nat → Prop) (w : World) (r : RdV w S v (vdsDt l)) (r2 : RdV w S2 u (vdsDt l)) (hl : szVds l ≤ 2097152) :
    Calls Tryz.prog 63 #[v, u] w fun e w' => e = .returned (.bool true) ∧ Below w.heap.size w w' := by
  obtain ⟨a, cap, rfl, _⟩ := RdV.sliced r
  obtain ⟨a2, cap2, rfl, _⟩ := RdV.sliced r2
  have HR : Hid (∀ W, Below w.heap.size w W → RdV W S (.slice a l.length cap) (vdsDt l)) := r.old
  have HR2 : Hid (∀ W, Below w.heap.size w W → RdV W S2 (.slice a2 l.length cap2) (vdsDt l)) := r2.old
  have HD : Hid (vdsDt l = .rows 114 4 l.length (fun i j => vdCell (l[i]?.getD vd0) j)) := rfl
  have hnn : l.length ≤ 2097152 := by unfold szVds at hl; omega
  have HL : Hid _ := hl
  clear r r2 hl
  rw [HD.out] at HR HR2
  clear HD
  generalize l.length = n at hnn HR HR2 ⊢
  go_enter Tryz.func63, Tryz.ntmps63
  go_wp2
  go_loopw [5] (fun i wr => ∃ k : Nat, k ≤ n ∧ i = .int .i64 k ∧ Below w.heap.size w wr) (fun i _ => n - (intOf i).toNat)
  case atStart => exact ⟨0, Nat.zero_le _, rfl, Below.refl _ _⟩
  case round =>
    obtain ⟨k, hk, rfl, hbel⟩ := hrel
    by_cases hlt : k < n
    · obtain ⟨b, off, rfl, hbl, _, hx⟩ := RdV.at (HR.out wr hbel) hlt
      obtain ⟨b2, off2, rfl, hbl2, _, hy⟩ := RdV.at (HR2.out wr hbel) hlt
      obtain ⟨e, he⟩ : ∃ e, l[k]?.getD vd0 = e := ⟨_, rfl⟩
      obtain ⟨x0, c0, r0⟩ := hx 0 (by omega)
      obtain ⟨y0, dd0, s0⟩ := hy 0 (by omega)
      obtain ⟨x1, c1, r1⟩ := hx 1 (by omega)
      obtain ⟨y1, dd1, s1⟩ := hy 1 (by omega)
      obtain ⟨x2, c2, r2⟩ := hx 2 (by omega)
      obtain ⟨y2, dd2, s2⟩ := hy 2 (by omega)
      obtain ⟨x3, c3, r3⟩ := hx 3 (by omega)
      obtain ⟨y3, dd3, s3⟩ := hy 3 (by omega)
      rw [he] at r0 s0 r1 s1 r2 s2 r3 s3
      clear hx hy he
      obtain ⟨⟨xs, xb, xn⟩, vo⟩ := e
      obtain rfl : x0 = .int .i64 xs := r0
      obtain rfl : y0 = .int .i64 xs := s0
      obtain rfl : x1 = .int .i64 xb := r1
      obtain rfl : y1 = .int .i64 xb := s1
      obtain rfl : x2 = .int .i64 xn := r2
      obtain rfl : y2 = .int .i64 xn := s2
      obtain rfl : x3 = .bool vo := r3
      obtain rfl : y3 = .bool vo := s3
      simp only [Nat.add_zero] at c0 dd0
      have RC : Hid _ := eqVerdict_same ⟨(xs, xb, xn), vo⟩ wr.drew
      have hws := hbel.size
      go_wp2
      go_region_held3 (fun w' => w'.cell? ⟨b, off + k * 4, none⟩ = some (.int .i64 xs) ∧ w'.cell? ⟨b, off + k * 4 + 1, none⟩ = some (.int .i64 xb) ∧ w'.cell? ⟨b, off + k * 4 + 2, none⟩ = some (.int .i64 xn) ∧ w'.cell? ⟨b, off + k * 4 + 3, none⟩ = some (.bool vo) ∧ w'.cell? ⟨b2, off2 + k * 4, none⟩ = some (.int .i64 xs) ∧ w'.cell? ⟨b2, off2 + k * 4 + 1, none⟩ = some (.int .i64 xb) ∧ w'.cell? ⟨b2, off2 + k * 4 + 2, none⟩ = some (.int .i64 xn) ∧ w'.cell? ⟨b2, off2 + k * 4 + 3, none⟩ = some (.bool vo)) (first | go_keep | (refine ⟨?_, ?_, ?_, ?_, ?_, ?_, ?_, ?_⟩ <;> assumption)) (first | (go_at_call 101; refine Calls.mono RC.out ?_; rintro e w' ⟨rfl, hbw⟩; have q0 := (hbw.cell (p := ⟨b, off + k * 4, none⟩) hbl).trans c0; have q1 := (hbw.cell (p := ⟨b, off + k * 4 + 1, none⟩) hbl).trans c1; have q2 := (hbw.cell (p := ⟨b, off + k * 4 + 2, none⟩) hbl).trans c2; have q3 := (hbw.cell (p := ⟨b, off + k * 4 + 3, none⟩) hbl).trans c3; have q4 := (hbw.cell (p := ⟨b2, off2 + k * 4, none⟩) hbl2).trans dd0; have q5 := (hbw.cell (p := ⟨b2, off2 + k * 4 + 1, none⟩) hbl2).trans dd1; have q6 := (hbw.cell (p := ⟨b2, off2 + k * 4 + 2, none⟩) hbl2).trans dd2; have q7 := (hbw.cell (p := ⟨b2, off2 + k * 4 + 3, none⟩) hbl2).trans dd3))
      go_wp2
      go_roundw
      case rel => exact ⟨k + 1, by omega, by go_num, hbel.drew.trans (hbw.mono hws)⟩
      case measure => simp [intOf]; omega
    · have hkn : k = n := by omega
      subst hkn
      go_wp2
      go_ret
      exact ⟨rfl, hbel⟩

set_option maxHeartbeats 4000000 in
theorem eqTxS_same (v u : Value) (l : List TxD) (S S2 : Nat → Prop) (w : World) (r : RdV w S v (txsDt l)) (r2 : RdV w S2 u (txsDt l)) (hl : szTxs l ≤ 2097152) :
    Calls Tryz.prog 64 #[v, u] w fun e w' => e = .returned (.bool true) ∧ Below w.heap.size w w' := by
  obtain ⟨a, cap, rfl, _⟩ := RdV.sliced r
  obtain ⟨a2, cap2, rfl, _⟩ := RdV.sliced r2
  have HR : Hid (∀ W, Below w.heap.size w W → RdV W S (.slice a l.length cap) (txsDt l)) := r.old
  have HR2 : Hid (∀ W, Below w.heap.size w W → RdV W S2 (.slice a2 l.length cap2) (txsDt l)) := r2.old
  have HD : Hid (txsDt l = .rows 107 3 l.length (fun i j => txCell (l[i]?.getD tx0) j)) := rfl
  have hnn : l.length ≤ 2097152 := by unfold szTxs at hl; omega
  have HL : Hid _ := hl
  clear r r2 hl
  rw [HD.out] at HR HR2
  clear HD
  generalize l.length = n at hnn HR HR2 ⊢
  go_enter Tryz.func64, Tryz.ntmps64
  go_wp2
  go_loopw [5] (fun i wr => ∃ k : Nat, k ≤ n ∧ i = .int .i64 k ∧ Below w.heap.size w wr) (fun i _ => n - (intOf i).toNat)
  case atStart => exact ⟨0, Nat.zero_le _, rfl, Below.refl _ _⟩
  case round =>
    obtain ⟨k, hk, rfl, hbel⟩ := hrel
    by_cases hlt : k < n
    · obtain ⟨b, off, rfl, hbl, _, hx⟩ := RdV.at (HR.out wr hbel) hlt
      obtain ⟨b2, off2, rfl, hbl2, _, hy⟩ := RdV.at (HR2.out wr hbel) hlt
      obtain ⟨e, he⟩ : ∃ e, l[k]?.getD tx0 = e := ⟨_, rfl⟩
      obtain ⟨x0, c0, r0⟩ := hx 0 (by omega)
      obtain ⟨y0, dd0, s0⟩ := hy 0 (by omega)
      obtain ⟨x1, c1, r1⟩ := hx 1 (by omega)
      obtain ⟨y1, dd1, s1⟩ := hy 1 (by omega)
      obtain ⟨x2, c2, r2⟩ := hx 2 (by omega)
      obtain ⟨y2, dd2, s2⟩ := hy 2 (by omega)
      rw [he] at r0 s0 r1 s1 r2 s2
      clear hx hy he
      obtain ⟨xs, xb, xn⟩ := e
      obtain rfl : x0 = .int .i64 xs := r0
      obtain rfl : y0 = .int .i64 xs := s0
      obtain rfl : x1 = .int .i64 xb := r1
      obtain rfl : y1 = .int .i64 xb := s1
      obtain rfl : x2 = .int .i64 xn := r2
      obtain rfl : y2 = .int .i64 xn := s2
      simp only [Nat.add_zero] at c0 dd0
      have RC : Hid _ := eqTx_same (xs, xb, xn) wr.drew
      have hws := hbel.size
      go_wp2
      go_region_held3 (fun w' => w'.cell? ⟨b, off + k * 3, none⟩ = some (.int .i64 xs) ∧ w'.cell? ⟨b, off + k * 3 + 1, none⟩ = some (.int .i64 xb) ∧ w'.cell? ⟨b, off + k * 3 + 2, none⟩ = some (.int .i64 xn) ∧ w'.cell? ⟨b2, off2 + k * 3, none⟩ = some (.int .i64 xs) ∧ w'.cell? ⟨b2, off2 + k * 3 + 1, none⟩ = some (.int .i64 xb) ∧ w'.cell? ⟨b2, off2 + k * 3 + 2, none⟩ = some (.int .i64 xn)) (first | go_keep | (refine ⟨?_, ?_, ?_, ?_, ?_, ?_⟩ <;> assumption)) (first | (go_at_call 102; refine Calls.mono RC.out ?_; rintro e w' ⟨rfl, hbw⟩; have q0 := (hbw.cell (p := ⟨b, off + k * 3, none⟩) hbl).trans c0; have q1 := (hbw.cell (p := ⟨b, off + k * 3 + 1, none⟩) hbl).trans c1; have q2 := (hbw.cell (p := ⟨b, off + k * 3 + 2, none⟩) hbl).trans c2; have q3 := (hbw.cell (p := ⟨b2, off2 + k * 3, none⟩) hbl2).trans dd0; have q4 := (hbw.cell (p := ⟨b2, off2 + k * 3 + 1, none⟩) hbl2).trans dd1; have q5 := (hbw.cell (p := ⟨b2, off2 + k * 3 + 2, none⟩) hbl2).trans dd2))
      go_wp2
      go_roundw
      case rel => exact ⟨k + 1, by omega, by go_num, hbel.drew.trans (hbw.mono hws)⟩
      case measure => simp [intOf]; omega
    · have hkn : k = n := by omega
      subst hkn
      go_wp2
      go_ret
      exact ⟨rfl, hbel⟩
end
section
set_option maxHeartbeats 4000000 in
theorem eqLast_same (x y : Value) (e : LsD) (S S2 : Nat → Prop) (w : World) (r : RdV w S x (ensDt e.rp.list)) (r2 : RdV w S2 y (ensDt e.rp.list)) (hl : szEns e.rp.list ≤ 2097152) :
    Calls Tryz.prog 103 #[lsV e x, lsV e y] w fun q w' => q = .returned (.bool true) ∧ Below w.heap.size w w' := by
  obtain ⟨a, cap, rfl, _⟩ := RdV.sliced r
  obtain ⟨a2, cap2, rfl, _⟩ := RdV.sliced r2
  obtain ⟨cl, rq, ⟨rc, ⟨rp_, rq_, rd⟩, rv, es⟩⟩ := e
  have HP_ : Hid (∀ W, Below w.heap.size w W → _) := fun W hW => eqReply_same _ _ ⟨rc, (rp_, rq_, rd), rv, es⟩ S S2 W (r.step hW) (r2.step hW) hl
  clear r r2 hl
  dsimp only at HP_ ⊢
  generalize es.length = n0 at HP_
  go_enter Tryz.func103, Tryz.ntmps103
  go_wp2_with fail
  refine Calls.mono (HP_.out _ (Below.newH2 _ _)) ?_
  rintro e w2 ⟨rfl, b_⟩
  have vA : VarA w2 w.heap.size 118 #[.int .i64 cl, .int .i64 rq, .int .i64 rc, .int .i64 rp_, .int .i64 rq_, .bool rd, .int .i64 rv, .slice a n0 cap] := VarA.step ((VarA.new w _ _).alloc _) b_
  have vB : VarA w2 (w.heap.size + 1) 118 #[.int .i64 cl, .int .i64 rq, .int .i64 rc, .int .i64 rp_, .int .i64 rq_, .bool rd, .int .i64 rv, .slice a2 n0 cap2] := by
    have := VarA.step (VarA.new (w.alloc _) _ _) b_
    simpa using this
  have HB : Hid _ := (Below.newH2 (w := w) _ _).trans (b_.mono (by simp; omega))
  clear b_
  obtain ⟨a0_, a1_, a2_, a3_, a4_, a5_, a6_, a7_⟩ := vA.k8
  obtain ⟨b0_, b1_, b2_, b3_, b4_, b5_, b6_, b7_⟩ := vB.k8
  go_wp2
  go_ret
  exact ⟨rfl, HB.out⟩

set_option maxHeartbeats 4000000 in
theorem eqLastS_same (v u : Value) (l : List LsD) (S S2 : Nat → Prop) (w : World) (r : RdV w S v (lssDt l)) (r2 : RdV w S2 u (lssDt l)) (hl : szLss l ≤ 2097152) :
    Calls Tryz.prog 65 #[v, u] w fun e w' => e = .returned (.bool true) ∧ Below w.heap.size w w' := by
  obtain ⟨a, cap, rfl, _⟩ := RdV.sliced r
  obtain ⟨a2, cap2, rfl, _⟩ := RdV.sliced r2
  have HR : Hid (∀ W, Below w.heap.size w W → RdV W S (.slice a l.length cap) (lssDt l)) := r.old
  have HR2 : Hid (∀ W, Below w.heap.size w W → RdV W S2 (.slice a2 l.length cap2) (lssDt l)) := r2.old
  have HD : Hid (lssDt l = .rows 118 8 l.length (fun i j => lsCell (l[i]?.getD ls0) j)) := rfl
  have hnn : l.length ≤ 2097152 := by unfold szLss at hl; omega
  have HL : Hid _ := hl
  clear r r2 hl
  rw [HD.out] at HR HR2
  clear HD
  generalize l.length = n at hnn HR HR2 ⊢
  go_enter Tryz.func65, Tryz.ntmps65
  go_wp2
  go_loopw [5] (fun i wr => ∃ k : Nat, k ≤ n ∧ i = .int .i64 k ∧ Below w.heap.size w wr) (fun i _ => n - (intOf i).toNat)
  case atStart => exact ⟨0, Nat.zero_le _, rfl, Below.refl _ _⟩
  case round =>
    obtain ⟨k, hk, rfl, hbel⟩ := hrel
    by_cases hlt : k < n
    · obtain ⟨b, off, rfl, hbl, _, hx⟩ := RdV.at (HR.out wr hbel) hlt
      obtain ⟨b2, off2, rfl, hbl2, _, hy⟩ := RdV.at (HR2.out wr hbel) hlt
      obtain ⟨e, he⟩ : ∃ e, l[k]?.getD ls0 = e := ⟨_, rfl⟩
      obtain ⟨x0, c0, r0⟩ := hx 0 (by omega)
      obtain ⟨y0, dd0, s0⟩ := hy 0 (by omega)
      obtain ⟨x1, c1, r1⟩ := hx 1 (by omega)
      obtain ⟨y1, dd1, s1⟩ := hy 1 (by omega)
      obtain ⟨x2, c2, r2⟩ := hx 2 (by omega)
      obtain ⟨y2, dd2, s2⟩ := hy 2 (by omega)
      obtain ⟨x3, c3, r3⟩ := hx 3 (by omega)
      obtain ⟨y3, dd3, s3⟩ := hy 3 (by omega)
      obtain ⟨x4, c4, r4⟩ := hx 4 (by omega)
      obtain ⟨y4, dd4, s4⟩ := hy 4 (by omega)
      obtain ⟨x5, c5, r5⟩ := hx 5 (by omega)
      obtain ⟨y5, dd5, s5⟩ := hy 5 (by omega)
      obtain ⟨x6, c6, r6⟩ := hx 6 (by omega)
      obtain ⟨y6, dd6, s6⟩ := hy 6 (by omega)
      obtain ⟨x7, c7, r7⟩ := hx 7 (by omega)
      obtain ⟨y7, dd7, s7⟩ := hy 7 (by omega)
      rw [he] at r0 s0 r1 s1 r2 s2 r3 s3 r4 s4 r5 s5 r6 s6 r7 s7
      have HZ : Hid (szEns e.rp.list ≤ 2097152) := by have h1 := szLss_at l k; rw [he] at h1; have h2 := HL.out; show _ ≤ _; omega
      clear hx hy he
      obtain ⟨cl, rq, ⟨rc, ⟨rp_, rq_, rd⟩, rv, es⟩⟩ := e
      obtain rfl : x0 = .int .i64 cl := r0
      obtain rfl : y0 = .int .i64 cl := s0
      obtain rfl : x1 = .int .i64 rq := r1
      obtain rfl : y1 = .int .i64 rq := s1
      obtain rfl : x2 = .int .i64 rc := r2
      obtain rfl : y2 = .int .i64 rc := s2
      obtain rfl : x3 = .int .i64 rp_ := r3
      obtain rfl : y3 = .int .i64 rp_ := s3
      obtain rfl : x4 = .int .i64 rq_ := r4
      obtain rfl : y4 = .int .i64 rq_ := s4
      obtain rfl : x5 = .bool rd := r5
      obtain rfl : y5 = .bool rd := s5
      obtain rfl : x6 = .int .i64 rv := r6
      obtain rfl : y6 = .int .i64 rv := s6
      simp only [Nat.add_zero] at c0 dd0
      have RS7 : Hid (RdV wr S x7 (ensDt es)) := r7
      have RT7 : Hid (RdV wr S2 y7 (ensDt es)) := s7
      clear r7 s7
      obtain ⟨xa7, xc7, rfl, _⟩ := RdV.sliced RS7.out
      obtain ⟨ya7, yc7, rfl, _⟩ := RdV.sliced RT7.out
      have RC : Hid _ := eqLast_same _ _ ⟨cl, rq, ⟨rc, (rp_, rq_, rd), rv, es⟩⟩ S S2 wr.drew (RS7.out.step (Below.drew (Below.refl _ _))) (RT7.out.step (Below.drew (Below.refl _ _))) HZ.out
      generalize es.length = xn7 at RC c7 dd7
      have hws := hbel.size
      clear HZ RS7 RT7
      go_wp2
      go_region_held3 (fun w' => w'.cell? ⟨b, off + k * 8, none⟩ = some (.int .i64 cl) ∧ w'.cell? ⟨b, off + k * 8 + 1, none⟩ = some (.int .i64 rq) ∧ w'.cell? ⟨b, off + k * 8 + 2, none⟩ = some (.int .i64 rc) ∧ w'.cell? ⟨b, off + k * 8 + 3, none⟩ = some (.int .i64 rp_) ∧ w'.cell? ⟨b, off + k * 8 + 4, none⟩ = some (.int .i64 rq_) ∧ w'.cell? ⟨b, off + k * 8 + 5, none⟩ = some (.bool rd) ∧ w'.cell? ⟨b, off + k * 8 + 6, none⟩ = some (.int .i64 rv) ∧ w'.cell? ⟨b, off + k * 8 + 7, none⟩ = some (.slice xa7 xn7 xc7) ∧ w'.cell? ⟨b2, off2 + k * 8, none⟩ = some (.int .i64 cl) ∧ w'.cell? ⟨b2, off2 + k * 8 + 1, none⟩ = some (.int .i64 rq) ∧ w'.cell? ⟨b2, off2 + k * 8 + 2, none⟩ = some (.int .i64 rc) ∧ w'.cell? ⟨b2, off2 + k * 8 + 3, none⟩ = some (.int .i64 rp_) ∧ w'.cell? ⟨b2, off2 + k * 8 + 4, none⟩ = some (.int .i64 rq_) ∧ w'.cell? ⟨b2, off2 + k * 8 + 5, none⟩ = some (.bool rd) ∧ w'.cell? ⟨b2, off2 + k * 8 + 6, none⟩ = some (.int .i64 rv) ∧ w'.cell? ⟨b2, off2 + k * 8 + 7, none⟩ = some (.slice ya7 xn7 yc7)) (first | go_keep | (refine ⟨?_, ?_, ?_, ?_, ?_, ?_, ?_, ?_, ?_, ?_, ?_, ?_, ?_, ?_, ?_, ?_⟩ <;> assumption)) (first | (go_at_call 103; refine Calls.mono RC.out ?_; rintro e w' ⟨rfl, hbw⟩; have q0 := (hbw.cell (p := ⟨b, off + k * 8, none⟩) hbl).trans c0; have q1 := (hbw.cell (p := ⟨b, off + k * 8 + 1, none⟩) hbl).trans c1; have q2 := (hbw.cell (p := ⟨b, off + k * 8 + 2, none⟩) hbl).trans c2; have q3 := (hbw.cell (p := ⟨b, off + k * 8 + 3, none⟩) hbl).trans c3; have q4 := (hbw.cell (p := ⟨b, off + k * 8 + 4, none⟩) hbl).trans c4; have q5 := (hbw.cell (p := ⟨b, off + k * 8 + 5, none⟩) hbl).trans c5; have q6 := (hbw.cell (p := ⟨b, off + k * 8 + 6, none⟩) hbl).trans c6; have q7 := (hbw.cell (p := ⟨b, off + k * 8 + 7, none⟩) hbl).trans c7; have q8 := (hbw.cell (p := ⟨b2, off2 + k * 8, none⟩) hbl2).trans dd0; have q9 := (hbw.cell (p := ⟨b2, off2 + k * 8 + 1, none⟩) hbl2).trans dd1; have q10 := (hbw.cell (p := ⟨b2, off2 + k * 8 + 2, none⟩) hbl2).trans dd2; have q11 := (hbw.cell (p := ⟨b2, off2 + k * 8 + 3, none⟩) hbl2).trans dd3; have q12 := (hbw.cell (p := ⟨b2, off2 + k * 8 + 4, none⟩) hbl2).trans dd4; have q13 := (hbw.cell (p := ⟨b2, off2 + k * 8 + 5, none⟩) hbl2).trans dd5; have q14 := (hbw.cell (p := ⟨b2, off2 + k * 8 + 6, none⟩) hbl2).trans dd6; have q15 := (hbw.cell (p := ⟨b2, off2 + k * 8 + 7, none⟩) hbl2).trans dd7))
      go_wp2
      go_roundw
      case rel => exact ⟨k + 1, by omega, by go_num, hbel.drew.trans (hbw.mono hws)⟩
      case measure => simp [intOf]; omega
    · have hkn : k = n := by omega
      subst hkn
      go_wp2
      go_ret
      exact ⟨rfl, hbel⟩
end
section
open Go.RowKit Go.Deep Go.ChangeShapes Go.WideShapes
section
variable {H : Type} {enc : TypeId × Value → H} {w : World} {held : Bool}

theorem spot_noneT {a : Addr} {v : Value} (h : w.cell? a = some v) : ∃ b off, a = ⟨b, off, none⟩ := by
  obtain ⟨b, off, spot⟩ := a
  have : spot = none := by simpa using World.cell?_spot h
  exact ⟨b, off, by rw [this]⟩
abbrev Old (w : World) : Nat → Prop := fun b => b < w.heap.size

theorem open_bytesT {fuel : Nat} {v : Value} {x : DataW H × List MemPlace} (h : DataW.trod enc Tryz.prog w 0 (fun _ => true) held fuel 81 [v] = some x) : ∃ zs, RdS w (Old w) v zs := by
  rcases open_ints Tryz.underlying81 Tryz.underlying5 (by kernel_rfl) h with ⟨hcs, _⟩ | ⟨a, len, cap, zs, hcs, _, hl, hm, hz, _, hcell, hwz⟩
  · simp only [List.cons.injEq, and_true] at hcs
    exact ⟨[], isBytes_nil, none, 0, 0, hcs, rfl, ⟨Nat.le_refl _, Nat.zero_le _, fun _ => ⟨rfl, rfl⟩⟩, .inl rfl⟩
  · simp only [List.cons.injEq, and_true] at hcs
    simp only [if_true] at hz
    refine ⟨zs.take len, ?_, some a, len, cap, hcs, by simp; omega, ⟨hl, hm, fun e => by cases e⟩, ?_⟩
    · intro j
      by_cases hj : j < len
      · rw [List.getElem?_take, if_pos hj]; exact range_u8 hwz j
      · rw [List.getElem?_take, if_neg hj]; simp
    · by_cases h0 : len = 0
      · exact .inl (by simp [h0])
      · obtain ⟨b, off, rfl⟩ := spot_noneT (w := w) (a := a) (v := .int .u8 (zs.getD 0 0)) (by have := hcell 0 (by omega); simpa [Addr.add] using this)
        have hlt : b < w.heap.size := by have := hcell 0 (by omega); rw [add_plainT] at this; exact block_lt_of_cell this
        refine .inr ⟨b, off, rfl, hlt, hlt, fun i hi => ?_⟩
        have hi' : i < len := by simp at hi; omega
        have := hcell i (by omega)
        rw [add_plainT] at this
        rw [this, List.getElem?_take, if_pos hi']
        simp

/-- A slice of rows, if each row reads. -/
theorem open_rowsT {α : Type} (a0 : α) {T E t : TypeId} {k : Nat} (hT : Tryz.prog.underlying T = some (.slice E)) (hk : Tryz.prog.cellsOf E = k) (hk0 : 0 < k) (cell : α → Nat → Dt)
    (hel : ∀ fuel cs x, DataW.trod enc Tryz.prog w 0 (fun _ => true) held fuel E cs = some x → ∃ a : α, ∀ j, j < k → RdV w (Old w) (cs[j]?.getD undef) (cell a j))
    {fuel : Nat} {v : Value} {x : DataW H × List MemPlace} (h : DataW.trod enc Tryz.prog w 0 (fun _ => true) held fuel T [v] = some x) : ∃ l : List α, RdV w (Old w) v (.rows t k l.length (fun i j => cell (l[i]?.getD a0) j)) := by
  rcases open_slice hT h with ⟨hcs, _⟩ | ⟨a, len, cap, m, n, D, Pl, hcs, _, hl, hm, hmm, _, hx⟩
  · simp only [List.cons.injEq, and_true] at hcs
    subst hcs
    exact ⟨[], none, 0, fun _ _ => undef, rfl, ⟨Nat.le_refl _, Nat.zero_le _, fun _ => ⟨rfl, rfl⟩⟩, .inl rfl, fun i j hi => absurd hi (Nat.not_lt_zero _)⟩
  · simp only [List.cons.injEq, and_true] at hcs
    subst hcs
    simp only [if_true] at hmm
    subst hmm
    rw [hk] at hx
    haveI : Inhabited α := ⟨a0⟩
    obtain ⟨f, hf⟩ := choose_lt (n := len) (p := fun i (y : α × (Nat → Value)) => ∀ j, j < k → w.cell? (a.add (i * k + j)) = some (y.2 j) ∧ RdV w (Old w) (y.2 j) (cell y.1 j)) (fun i hi => by
      obtain ⟨cs, hc, ht⟩ := hx i (by omega)
      obtain ⟨_, hlen, hcell⟩ := World.cells?_some hc
      obtain ⟨y, hy⟩ := hel n cs _ ht
      refine ⟨(y, fun j => cs[j]?.getD undef), fun j hj => ⟨?_, hy j hj⟩⟩
      have := hcell j (by omega)
      rw [Go.Deep.add_add] at this
      rw [this]
      simp [show j < cs.length by omega])
    refine ⟨(List.range len).map (fun i => (f i).1), ?_⟩
    have hlen : ((List.range len).map (fun i => (f i).1)).length = len := by simp
    rw [hlen]
    refine RdV.mkRows t ⟨some a, _, fun i j => (f i).2 j, rfl, ⟨hl, hm, fun e => by cases e⟩, ?_, fun i j hi hj => by simpa [hi] using (hf i hi j hj).2⟩
    by_cases h0 : len = 0
    · exact .inl h0
    · obtain ⟨b, off, rfl⟩ := spot_noneT (w := w) (a := a) (v := (f 0).2 0) (by have := (hf 0 (by omega) 0 hk0).1; simpa [Addr.add] using this)
      have hlt : b < w.heap.size := by have := (hf 0 (by omega) 0 hk0).1; rw [add_plainT] at this; exact block_lt_of_cell this
      refine .inr ⟨b, off, rfl, hlt, hlt, fun i j hi hj => ?_⟩
      have := (hf i hi j hj).1
      rw [add_plainT] at this
      exact this

set_option maxRecDepth 100000 in
theorem open_handleT {fuel : Nat} {cs : List Value} {x : DataW H × List MemPlace} (h : DataW.trod enc Tryz.prog w 0 (fun _ => true) held fuel 120 cs = some x) : ∃ h : Hd, cs = [.int .i64 h.sh, .int .i64 h.ino, .bool h.dir] := by
  obtain ⟨y0, y1, y2, n, _, hl, h0, h1, h2⟩ := trod_struct3 Tryz.underlying120 h
  have k0 : Tryz.prog.cellsOf 3 = 1 := by kernel_rfl
  have k1 : Tryz.prog.cellsOf 4 = 1 := by kernel_rfl
  have k2 : Tryz.prog.cellsOf 120 = 3 := by kernel_rfl
  rw [k2] at hl
  match cs, hl with
  | [c0, c1, c2], _ =>
    simp only [k0, k1, List.drop_zero, List.take_succ_cons, List.take_zero, List.drop_succ_cons] at h0 h1 h2
    obtain ⟨p, e0, _, _⟩ := DataW.trod_int Tryz.underlying3 h0
    obtain ⟨q, e1, _, _⟩ := DataW.trod_int Tryz.underlying3 h1
    obtain ⟨b, e2, _⟩ := DataW.trod_bool Tryz.underlying4 h2
    simp only [List.cons.injEq, and_true] at e0 e1 e2
    subst e0
    subst e1
    subst e2
    exact ⟨⟨p, q, b⟩, rfl⟩
theorem trod_fields2 {t : TypeId} {f0 f1 : Field} {fuel : Nat} {cs : List Value} {x : DataW H × List MemPlace} (ht : Tryz.prog.underlying t = some (.struct #[f0, f1])) (h : DataW.trod enc Tryz.prog w 0 (fun _ => true) held fuel t cs = some x) :
    cs.length = Tryz.prog.cellsOf t ∧ ∃ n, (∃ y, DataW.trod enc Tryz.prog w 0 (fun _ => true) held n f0.type ((cs.drop f0.offset).take (Tryz.prog.cellsOf f0.type)) = some y) ∧ (∃ y, DataW.trod enc Tryz.prog w 0 (fun _ => true) held n f1.type ((cs.drop f1.offset).take (Tryz.prog.cellsOf f1.type)) = some y) := by
  obtain ⟨xs, n, _, rfl, hl, hlen, hf⟩ := DataW.trod_struct ht h
  match xs, hlen with
  | [y0, y1], _ => exact ⟨hl, n, ⟨y0, by simpa using hf 0 f0 rfl⟩, ⟨y1, by simpa using hf 1 f1 rfl⟩⟩
theorem trod_fields5 {t : TypeId} {f0 f1 f2 f3 f4 : Field} {fuel : Nat} {cs : List Value} {x : DataW H × List MemPlace} (ht : Tryz.prog.underlying t = some (.struct #[f0, f1, f2, f3, f4])) (h : DataW.trod enc Tryz.prog w 0 (fun _ => true) held fuel t cs = some x) :
    cs.length = Tryz.prog.cellsOf t ∧ ∃ n, (∃ y, DataW.trod enc Tryz.prog w 0 (fun _ => true) held n f0.type ((cs.drop f0.offset).take (Tryz.prog.cellsOf f0.type)) = some y) ∧ (∃ y, DataW.trod enc Tryz.prog w 0 (fun _ => true) held n f1.type ((cs.drop f1.offset).take (Tryz.prog.cellsOf f1.type)) = some y) ∧ (∃ y, DataW.trod enc Tryz.prog w 0 (fun _ => true) held n f2.type ((cs.drop f2.offset).take (Tryz.prog.cellsOf f2.type)) = some y) ∧ (∃ y, DataW.trod enc Tryz.prog w 0 (fun _ => true) held n f3.type ((cs.drop f3.offset).take (Tryz.prog.cellsOf f3.type)) = some y) ∧ (∃ y, DataW.trod enc Tryz.prog w 0 (fun _ => true) held n f4.type ((cs.drop f4.offset).take (Tryz.prog.cellsOf f4.type)) = some y) := by
  obtain ⟨xs, n, _, rfl, hl, hlen, hf⟩ := DataW.trod_struct ht h
  match xs, hlen with
  | [y0, y1, y2, y3, y4], _ => exact ⟨hl, n, ⟨y0, by simpa using hf 0 f0 rfl⟩, ⟨y1, by simpa using hf 1 f1 rfl⟩, ⟨y2, by simpa using hf 2 f2 rfl⟩, ⟨y3, by simpa using hf 3 f3 rfl⟩, ⟨y4, by simpa using hf 4 f4 rfl⟩⟩
end
end
section
open Go.RowKit Go.Deep Go.ChangeShapes Go.WideShapes
section
variable {H : Type} {enc : TypeId × Value → H} {w : World} {held : Bool}

set_option maxRecDepth 100000 in
theorem open_entT (fuel : Nat) (cs : List Value) (x : DataW H × List MemPlace) (h : DataW.trod enc Tryz.prog w 0 (fun _ => true) held fuel 190 cs = some x) : ∃ e : En, ∀ j, j < 4 → RdV w (Old w) (cs[j]?.getD undef) (enCell e j) := by
  obtain ⟨hl, n, ⟨y0, h0⟩, ⟨y1, h1⟩⟩ := trod_fields2 Tryz.underlying190 h
  have k1 : Tryz.prog.cellsOf 120 = 3 := by kernel_rfl
  have k2 : Tryz.prog.cellsOf 81 = 1 := by kernel_rfl
  have k3 : Tryz.prog.cellsOf 190 = 4 := by kernel_rfl
  rw [k3] at hl
  match cs, hl with
  | [c0, c1, c2, c3], _ =>
    simp only [k1, k2, List.drop_zero, List.take_succ_cons, List.take_zero, List.drop_succ_cons] at h0 h1
    obtain ⟨zs, r0⟩ := open_bytesT h0
    obtain ⟨d, e1⟩ := open_handleT h1
    simp only [List.cons.injEq, and_true] at e1
    obtain ⟨rfl, rfl, rfl⟩ := e1
    refine ⟨⟨zs, d⟩, fun j hj => ?_⟩
    match j, hj with
    | 0, _ => exact r0
    | 1, _ => exact rfl
    | 2, _ => exact rfl
    | 3, _ => exact rfl
theorem open_ensT {fuel : Nat} {v : Value} {x : DataW H × List MemPlace} (h : DataW.trod enc Tryz.prog w 0 (fun _ => true) held fuel 121 [v] = some x) : ∃ l : List En, RdV w (Old w) v (ensDt l) :=
  open_rowsT (t := 83) (k := 4) en0 Tryz.underlying121 (by kernel_rfl) (by omega) enCell open_entT h
set_option maxRecDepth 100000 in
theorem open_ndT (fuel : Nat) (cs : List Value) (x : DataW H × List MemPlace) (h : DataW.trod enc Tryz.prog w 0 (fun _ => true) held fuel 123 cs = some x) : ∃ e : Nd, ∀ j, j < 9 → RdV w (Old w) (cs[j]?.getD undef) (ndCell e j) := by
  obtain ⟨hl, n, ⟨y0, h0⟩, ⟨y1, h1⟩, ⟨y2, h2⟩, ⟨y3, h3⟩, ⟨y4, h4⟩⟩ := trod_fields5 Tryz.underlying123 h
  have k0 : Tryz.prog.cellsOf 3 = 1 := by kernel_rfl
  have k1 : Tryz.prog.cellsOf 120 = 3 := by kernel_rfl
  have k2 : Tryz.prog.cellsOf 121 = 1 := by kernel_rfl
  have k3 : Tryz.prog.cellsOf 123 = 9 := by kernel_rfl
  rw [k3] at hl
  match cs, hl with
  | [c0, c1, c2, c3, c4, c5, c6, c7, c8], _ =>
    simp only [k0, k1, k2, List.drop_zero, List.take_succ_cons, List.take_zero, List.drop_succ_cons] at h0 h1 h2 h3 h4
    obtain ⟨d, e0⟩ := open_handleT h0
    obtain ⟨t, e1⟩ := open_handleT h1
    obtain ⟨p, e2, _, _⟩ := DataW.trod_int Tryz.underlying3 h2
    obtain ⟨q, e3, _, _⟩ := DataW.trod_int Tryz.underlying3 h3
    obtain ⟨es, r4⟩ := open_ensT h4
    simp only [List.cons.injEq, and_true] at e0 e1 e2 e3
    obtain ⟨rfl, rfl, rfl⟩ := e0
    obtain ⟨rfl, rfl, rfl⟩ := e1
    subst e2
    subst e3
    refine ⟨⟨d, t, p, q, es⟩, fun j hj => ?_⟩
    match j, hj with
    | 0, _ => exact rfl
    | 1, _ => exact rfl
    | 2, _ => exact rfl
    | 3, _ => exact rfl
    | 4, _ => exact rfl
    | 5, _ => exact rfl
    | 6, _ => exact rfl
    | 7, _ => exact rfl
    | 8, _ => exact r4
theorem open_ndsT {fuel : Nat} {v : Value} {x : DataW H × List MemPlace} (h : DataW.trod enc Tryz.prog w 0 (fun _ => true) held fuel 37 [v] = some x) : ∃ l : List Nd, RdV w (Old w) v (ndsDt l) :=
  open_rowsT (t := 54) (k := 9) nd0 Tryz.underlying37 (by kernel_rfl) (by omega) ndCell open_ndT h
end
end
section
open Go.RowKit Go.Deep Go.ChangeShapes Go.WideShapes
section
variable {H : Type} {enc : TypeId × Value → H} {w : World} {held : Bool}

theorem trod_fieldsW3 {t : TypeId} {f0 f1 f2 : Field} {fuel : Nat} {cs : List Value} {x : DataW H × List MemPlace} (ht : Tryz.prog.underlying t = some (.struct #[f0, f1, f2])) (h : DataW.trod enc Tryz.prog w 0 (fun _ => true) held fuel t cs = some x) :
    cs.length = Tryz.prog.cellsOf t ∧ ∃ n, (∃ y, DataW.trod enc Tryz.prog w 0 (fun _ => true) held n f0.type ((cs.drop f0.offset).take (Tryz.prog.cellsOf f0.type)) = some y) ∧ (∃ y, DataW.trod enc Tryz.prog w 0 (fun _ => true) held n f1.type ((cs.drop f1.offset).take (Tryz.prog.cellsOf f1.type)) = some y) ∧ (∃ y, DataW.trod enc Tryz.prog w 0 (fun _ => true) held n f2.type ((cs.drop f2.offset).take (Tryz.prog.cellsOf f2.type)) = some y) := by
  obtain ⟨xs, n, _, rfl, hl, hlen, hf⟩ := DataW.trod_struct ht h
  match xs, hlen with
  | [y0, y1, y2], _ => exact ⟨hl, n, ⟨y0, by simpa using hf 0 f0 rfl⟩, ⟨y1, by simpa using hf 1 f1 rfl⟩, ⟨y2, by simpa using hf 2 f2 rfl⟩⟩
theorem trod_fieldsW4 {t : TypeId} {f0 f1 f2 f3 : Field} {fuel : Nat} {cs : List Value} {x : DataW H × List MemPlace} (ht : Tryz.prog.underlying t = some (.struct #[f0, f1, f2, f3])) (h : DataW.trod enc Tryz.prog w 0 (fun _ => true) held fuel t cs = some x) :
    cs.length = Tryz.prog.cellsOf t ∧ ∃ n, (∃ y, DataW.trod enc Tryz.prog w 0 (fun _ => true) held n f0.type ((cs.drop f0.offset).take (Tryz.prog.cellsOf f0.type)) = some y) ∧ (∃ y, DataW.trod enc Tryz.prog w 0 (fun _ => true) held n f1.type ((cs.drop f1.offset).take (Tryz.prog.cellsOf f1.type)) = some y) ∧ (∃ y, DataW.trod enc Tryz.prog w 0 (fun _ => true) held n f2.type ((cs.drop f2.offset).take (Tryz.prog.cellsOf f2.type)) = some y) ∧ (∃ y, DataW.trod enc Tryz.prog w 0 (fun _ => true) held n f3.type ((cs.drop f3.offset).take (Tryz.prog.cellsOf f3.type)) = some y) := by
  obtain ⟨xs, n, _, rfl, hl, hlen, hf⟩ := DataW.trod_struct ht h
  match xs, hlen with
  | [y0, y1, y2, y3], _ => exact ⟨hl, n, ⟨y0, by simpa using hf 0 f0 rfl⟩, ⟨y1, by simpa using hf 1 f1 rfl⟩, ⟨y2, by simpa using hf 2 f2 rfl⟩, ⟨y3, by simpa using hf 3 f3 rfl⟩⟩
theorem open_txT {fuel : Nat} {cs : List Value} {x : DataW H × List MemPlace} (h : DataW.trod enc Tryz.prog w 0 (fun _ => true) held fuel 125 cs = some x) :
    ∃ t : TxD, cs = [.int .i64 t.1, .int .i64 t.2.1, .int .i64 t.2.2] := by
  obtain ⟨hl, n, ⟨y0, h0⟩, ⟨y1, h1⟩, ⟨y2, h2⟩⟩ := trod_fieldsW3 Tryz.underlying125 h
  have k0 : Tryz.prog.cellsOf 3 = 1 := by kernel_rfl
  have kk : Tryz.prog.cellsOf 125 = 3 := by kernel_rfl
  rw [kk] at hl
  match cs, hl with
  | c0 :: c1 :: c2 :: [], _ =>
    simp only [k0, List.drop_zero, List.take_succ_cons, List.take_zero, List.drop_succ_cons] at h0 h1 h2
    obtain ⟨p, e0, _, _⟩ := DataW.trod_int Tryz.underlying3 h0
    simp only [List.cons.injEq, and_true] at e0
    subst e0
    obtain ⟨q, e1, _, _⟩ := DataW.trod_int Tryz.underlying3 h1
    simp only [List.cons.injEq, and_true] at e1
    subst e1
    obtain ⟨s, e2, _, _⟩ := DataW.trod_int Tryz.underlying3 h2
    simp only [List.cons.injEq, and_true] at e2
    subst e2
    exact ⟨(p, q, s), rfl⟩
theorem open_partT {fuel : Nat} {cs : List Value} {x : DataW H × List MemPlace} (h : DataW.trod enc Tryz.prog w 0 (fun _ => true) held fuel 127 cs = some x) :
    ∃ (t : PtD) (u : Value), cs = [.int .i64 t.kind, .int .i64 t.h.sh, .int .i64 t.h.ino, .bool t.h.dir, u, .int .i64 t.to.sh, .int .i64 t.to.ino, .bool t.to.dir] ∧ RdV w (Old w) u (.bytes t.asn) := by
  obtain ⟨hl, n, ⟨y0, h0⟩, ⟨y1, h1⟩, ⟨y2, h2⟩, ⟨y3, h3⟩⟩ := trod_fieldsW4 Tryz.underlying127 h
  have k0 : Tryz.prog.cellsOf 81 = 1 := by kernel_rfl
  have k1 : Tryz.prog.cellsOf 3 = 1 := by kernel_rfl
  have k2 : Tryz.prog.cellsOf 120 = 3 := by kernel_rfl
  have kk : Tryz.prog.cellsOf 127 = 8 := by kernel_rfl
  rw [kk] at hl
  match cs, hl with
  | c0 :: c1 :: c2 :: c3 :: c4 :: c5 :: c6 :: c7 :: [], _ =>
    simp only [k0, k1, k2, List.drop_zero, List.take_succ_cons, List.take_zero, List.drop_succ_cons] at h0 h1 h2 h3
    obtain ⟨k, e0, _, _⟩ := DataW.trod_int Tryz.underlying3 h0
    simp only [List.cons.injEq, and_true] at e0
    subst e0
    obtain ⟨g1, e1⟩ := open_handleT h1
    simp only [List.cons.injEq, and_true] at e1
    obtain ⟨rfl, rfl, rfl⟩ := e1
    obtain ⟨zs, r1⟩ := open_bytesT h2
    obtain ⟨g2, e3⟩ := open_handleT h3
    simp only [List.cons.injEq, and_true] at e3
    obtain ⟨rfl, rfl, rfl⟩ := e3
    exact ⟨⟨k, g1, zs, g2⟩, c4, rfl, r1⟩
theorem open_replyT {fuel : Nat} {cs : List Value} {x : DataW H × List MemPlace} (h : DataW.trod enc Tryz.prog w 0 (fun _ => true) held fuel 132 cs = some x) :
    ∃ (t : RpD) (z : Value), cs = [.int .i64 t.code, .int .i64 t.h.sh, .int .i64 t.h.ino, .bool t.h.dir, .int .i64 t.val, z] ∧ RdV w (Old w) z (ensDt t.list) := by
  obtain ⟨hl, n, ⟨y0, h0⟩, ⟨y1, h1⟩, ⟨y2, h2⟩, ⟨y3, h3⟩⟩ := trod_fieldsW4 Tryz.underlying132 h
  have k0 : Tryz.prog.cellsOf 121 = 1 := by kernel_rfl
  have k1 : Tryz.prog.cellsOf 3 = 1 := by kernel_rfl
  have k2 : Tryz.prog.cellsOf 120 = 3 := by kernel_rfl
  have kk : Tryz.prog.cellsOf 132 = 6 := by kernel_rfl
  rw [kk] at hl
  match cs, hl with
  | c0 :: c1 :: c2 :: c3 :: c4 :: c5 :: [], _ =>
    simp only [k0, k1, k2, List.drop_zero, List.take_succ_cons, List.take_zero, List.drop_succ_cons] at h0 h1 h2 h3
    obtain ⟨k, e0, _, _⟩ := DataW.trod_int Tryz.underlying3 h0
    simp only [List.cons.injEq, and_true] at e0
    subst e0
    obtain ⟨g1, e1⟩ := open_handleT h1
    simp only [List.cons.injEq, and_true] at e1
    obtain ⟨rfl, rfl, rfl⟩ := e1
    obtain ⟨q, e2, _, _⟩ := DataW.trod_int Tryz.underlying3 h2
    simp only [List.cons.injEq, and_true] at e2
    subst e2
    obtain ⟨es, r1⟩ := open_ensT h3
    exact ⟨⟨k, g1, q, es⟩, c5, rfl, r1⟩
end
end
end Go.Proofs.YtoaocjkapoemnaaGreat
