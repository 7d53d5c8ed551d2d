/- Reading a sector of a disk, the program's and the specification's way. No condition of ours; the program's leans on its variable errNoSector. -/
import Derived.Test.YtdpigkcdfjnpdaaDoorWalkBase
import Derived.Test.YtdpigkcdfjnpdaaDoorImplSec
namespace Go.Proofs.YtdpigkcdfjnpdaaDoor
open Go.RowKit
set_option linter.unusedVariables false

/-- What the last of the first k writes says of the sector p. -/
def backW (ws : List Wt) (p : Int) : Nat → Option (List Int)
  | 0 => none
  | k + 1 => if (ws[k]?.getD (0, [])).1 = p then some (ws[k]?.getD (0, [])).2 else backW ws p k
def readZ (d : Dk) (p : Int) : List Int := (backW d.2 p d.2.length).getD (d.1[p.toNat]?.getD [])
def readOk (d : Dk) (p : Int) : Bool := okD d && decide (0 ≤ p) && decide (p < (d.1.length : Int))
def readD (d : Dk) (p : Int) : List Int := if readOk d p then readZ d p else []

set_option maxHeartbeats 1000000 in
theorem specRead_any (b : Nat) (x y : Value) (d : Dk) (l h q : Nat) (w : World) (hv : VarD w b x y) (r : RdBB w l h x d.1) (s : RdWs w l h y d.2) (hq : q < d.1.length) :
    Calls Tryd.prog 44 #[.pointer (some ⟨b, 0, none⟩), .int .i64 q] w fun e w' => ∃ u, e = .returned u ∧ RdB w l h u (readZ d q) ∧ w' = w := by
  obtain ⟨d1, d2⟩ := d
  obtain ⟨xa, n, xc, vs, rfl, hn, hhd, hc, he⟩ := r
  obtain ⟨ya, m, yc, us, rfl, hm, hhd', hc', he'⟩ := s
  replace hn : n = d1.length := hn
  replace hm : m = d2.length := hm
  have hqn : q < n := by rw [hn]; exact hq
  have hnm : n ≤ 9223372036854775807 := by have := hhd.1; have := hhd.2.1; unfold maxLen at this; omega
  have hmm : m ≤ 9223372036854775807 := by have := hhd'.1; have := hhd'.2.1; unfold maxLen at this; omega
  have c00 := hv.c0
  have c01 := hv.c1
  have HC : Hid _ := hc
  have HE : Hid _ := he
  have HC' : Hid _ := hc'
  have HE' : Hid _ := he'
  have HZ : Hid (readZ (d1, d2) q = (backW d2 q m).getD (d1[q]?.getD [])) := by show _ = _; unfold readZ; rw [hm]; simp
  have hi0 : (0 : Int) ≤ (q : Int) := by omega
  have hi1 : (q : Int) < (n : Int) := by omega
  clear hn hm hc hc' he he' hhd hhd' hv hq
  go_enter Tryd.func44, Tryd.ntmps44
  go_wp2
  go_loop [5] (fun i => ∃ k : Nat, k ≤ m ∧ i = .int .i64 ((k : Int) - 1) ∧ Hid (backW d2 q m = backW d2 q k)) (fun i => (intOf i + 1).toNat)
  case atStart => exact ⟨m, Nat.le_refl _, rfl, by show _ = _; rfl⟩
  case round =>
    obtain ⟨k, hk, rfl, HA⟩ := hrel
    cases k with
    | zero =>
      obtain ⟨g, off, rfl, _, _, hcc⟩ := HC.out.resolve_left (by omega)
      have h1 := hcc q hqn
      have HF : Hid (RdB w l h (vs q) (readZ (d1, d2) q)) := by
        show RdB _ _ _ _ _
        rw [HZ.out, HA.out]
        exact HE.out q hqn
      clear hcc HA HZ
      go_wp2
      go_ret
      exact ⟨_, rfl, HF.out, rfl⟩
    | succ k =>
      obtain ⟨g, off, rfl, _, _, hcc⟩ := HC'.out.resolve_left (by omega)
      have h1 := (hcc k (by omega)).1
      have h2 := (hcc k (by omega)).2
      have hek := HE'.out k (by omega)
      have e1 : (((k + 1 : Nat) : Int) - 1) = (k : Int) := by omega
      rw [e1]
      have hj0 : (0 : Int) ≤ (k : Int) := by omega
      have hj1 : (k : Int) < (m : Int) := by omega
      by_cases hat : (d2[k]?.getD (0, [])).1 = (q : Int)
      · have HF : Hid (RdB w l h (us k) (readZ (d1, d2) q)) := by
          show RdB _ _ _ _ _
          rw [HZ.out, HA.out, backW, if_pos hat]
          exact hek
        rw [hat] at h1
        clear hcc HA HZ hat hek e1
        go_wp2
        go_ret
        exact ⟨_, rfl, HF.out, rfl⟩
      · have HF : Hid (backW d2 q m = backW d2 q k) := by
          show _ = _
          rw [HA.out, backW, if_neg hat]
        have hd : ((d2[k]?.getD (0, [])).1 == (q : Int)) = false := by simpa using hat
        generalize (d2[k]?.getD (0, [])).1 = p at h1 hd
        clear hcc HA HZ hat hek e1
        go_wp2
        go_round
        case rel => exact ⟨k, by omega, by go_num, HF⟩
        case measure => simp [intOf]

set_option maxHeartbeats 1000000 in
theorem implRead_in (b : Nat) (x y : Value) (d : Dk) (l h q : Nat) (w : World) (hv : VarD w b x y) (r : RdBB w l h x d.1) (s : RdWs w l h y d.2) (hq : q < d.1.length) :
    Calls Tryd.prog 45 #[.pointer (some ⟨b, 0, none⟩), .int .i64 q] w fun e w' => ∃ u, e = .returned (.tuple #[u, .nilIface]) ∧ RdB w l h u (readZ d q) ∧ w' = w := by
  obtain ⟨d1, d2⟩ := d
  obtain ⟨xa, n, xc, vs, rfl, hn, hhd, hc, he⟩ := r
  obtain ⟨ya, m, yc, us, rfl, hm, hhd', hc', he'⟩ := s
  replace hn : n = d1.length := hn
  replace hm : m = d2.length := hm
  have hqn : q < n := by rw [hn]; exact hq
  have hnm : n ≤ 9223372036854775807 := by have := hhd.1; have := hhd.2.1; unfold maxLen at this; omega
  have hmm : m ≤ 9223372036854775807 := by have := hhd'.1; have := hhd'.2.1; unfold maxLen at this; omega
  have c00 := hv.c0
  have c01 := hv.c1
  obtain ⟨gx, ox, rfl, _, _, hcx⟩ := hc.resolve_left (by omega)
  have HSA : Hid _ := safeAt_in b gx ox q n xc (vs q) w c00 (hcx q hqn) hqn hnm
  have HE : Hid _ := he
  have HC' : Hid _ := hc'
  have HE' : Hid _ := he'
  have HZ : Hid (readZ (d1, d2) q = (backW d2 q m).getD (d1[q]?.getD [])) := by show _ = _; unfold readZ; rw [hm]; simp
  clear hn hm hc hc' he he' hhd hhd' hv hq hcx
  go_enter Tryd.func45, Tryd.ntmps45
  go_wp2_with fail
  refine Calls.mono HSA.out ?_
  rintro e w2 ⟨rfl, hw2⟩
  subst hw2
  go_wp2
  go_loop [8] (fun i => ∃ k : Nat, k ≤ m ∧ i = .int .i64 ((k : Int) - 1) ∧ Hid (backW d2 q m = backW d2 q k)) (fun i => (intOf i + 1).toNat)
  case atStart => exact ⟨m, Nat.le_refl _, rfl, by show _ = _; rfl⟩
  case round =>
    obtain ⟨k, hk, rfl, HA⟩ := hrel
    cases k with
    | zero =>
      have HF : Hid (RdB w2 l h (vs q) (readZ (d1, d2) q)) := by
        show RdB _ _ _ _ _
        rw [HZ.out, HA.out]
        exact HE.out q hqn
      clear HA HZ
      go_wp2
      go_ret2
      exact ⟨_, rfl, HF.out, rfl⟩
    | succ k =>
      obtain ⟨g, off, rfl, _, _, hcc⟩ := HC'.out.resolve_left (by omega)
      have h1 := (hcc k (by omega)).1
      have h2 := (hcc k (by omega)).2
      have hek := HE'.out k (by omega)
      have e1 : (((k + 1 : Nat) : Int) - 1) = (k : Int) := by omega
      rw [e1]
      have hj0 : (0 : Int) ≤ (k : Int) := by omega
      have hj1 : (k : Int) < (m : Int) := by omega
      by_cases hat : (d2[k]?.getD (0, [])).1 = (q : Int)
      · have HF : Hid (RdB w2 l h (us k) (readZ (d1, d2) q)) := by
          show RdB _ _ _ _ _
          rw [HZ.out, HA.out, backW, if_pos hat]
          exact hek
        rw [hat] at h1
        clear hcc HA HZ hat hek e1
        go_wp2
        go_ret2
        exact ⟨_, rfl, HF.out, rfl⟩
      · have HF : Hid (backW d2 q m = backW d2 q k) := by
          show _ = _
          rw [HA.out, backW, if_neg hat]
        have hd : ((d2[k]?.getD (0, [])).1 == (q : Int)) = false := by simpa using hat
        generalize (d2[k]?.getD (0, [])).1 = p at h1 hd
        clear hcc HA HZ hat hek e1
        go_wp2
        go_round
        case rel => exact ⟨k, by omega, by go_num, HF⟩
        case measure => simp [intOf]

set_option maxHeartbeats 400000 in
theorem implRead_out (b n c : Nat) (xa : Option Addr) (p : Int) (a : Addr) (w : World) (c0 : w.cell? ⟨b, 0, none⟩ = some (.slice xa n c)) (hg : Glob w a) (hp : p < 0 ∨ (n : Int) ≤ p) (hn : n ≤ 9223372036854775807) :
    Calls Tryd.prog 45 #[.pointer (some ⟨b, 0, none⟩), .int .i64 p] w fun e w' => e = .returned (.tuple #[.slice none 0 0, errV a]) ∧ ∃ m, w' = w.drewN m := by
  have HSA : Hid _ := safeAt_out b n c xa p a w c0 hg hp hn
  clear hg hp
  go_enter Tryd.func45, Tryd.ntmps45
  go_wp2_with fail
  refine Calls.mono HSA.out ?_
  rintro e w2 ⟨rfl, m, hw2⟩
  have HW2 : Hid _ := hw2
  clear hw2
  go_wp2
  go_ret2
  exact ⟨rfl, _, HW2.out⟩

theorem RdB_nil (w : World) (l h : Nat) : RdB w l h (.slice none 0 0) [] := ⟨isBytes_nil, none, 0, 0, rfl, rfl, ⟨Nat.le_refl _, Nat.zero_le _, fun _ => ⟨rfl, rfl⟩⟩, .inl rfl⟩
theorem Owns_nil (w : World) (l : Nat) : Owns w l (.slice none 0 0) [] := World.ownsRow_nil _ _ _ _
theorem OwB_nil (w : World) (l h : Nat) : OwB w l h (.slice none 0 0) [] := ⟨isBytes_nil, Owns_nil w l, (fun (k : Nat) (hk : Value.ownBlock (.slice none 0 0) = some k) => by cases hk)⟩
theorem RdD.parts {w : World} {l h : Nat} {x y : Value} {d : Dk} (r : RdD w l h (.agg #[x, y]) d) : RdBB w l h x d.1 ∧ RdWs w l h y d.2 := by
  obtain ⟨x', y', he, r1, r2⟩ := r
  simp only [Value.agg.injEq, Array.mk.injEq, List.cons.injEq, and_true] at he
  obtain ⟨rfl, rfl⟩ := he
  exact ⟨r1, r2⟩
theorem RdBB.len {w : World} {l h : Nat} {a : Option Addr} {n c : Nat} {z : List (List Int)} (r : RdBB w l h (.slice a n c) z) : n = z.length ∧ n ≤ 9223372036854775807 := by
  obtain ⟨a', n', c', vs, he, hl, hh, _⟩ := r
  simp only [Value.slice.injEq] at he
  obtain ⟨rfl, rfl, rfl⟩ := he
  exact ⟨hl, by have := hh.1; have := hh.2.1; unfold maxLen at this; omega⟩
theorem readZ_len {d : Dk} {p : Int} (h : readOk d p = true) : (readZ d p).length = 32 := by
  unfold readOk okD at h
  simp only [Bool.and_eq_true, decide_eq_true_eq, List.all_eq_true] at h
  obtain ⟨⟨⟨⟨⟨_, _⟩, hs⟩, hw⟩, h0⟩, h1⟩ := h
  have hb : ∀ k, k ≤ d.2.length → ∀ z, backW d.2 p k = some z → z.length = 32 := by
    intro k
    induction k with
    | zero => intro _ z hz; cases hz
    | succ k ih =>
      intro hk z hz
      unfold backW at hz
      split at hz
      · have hm := hw _ (List.getElem_mem (show k < d.2.length by omega))
        simp only [Option.some.injEq] at hz
        rw [← hz]
        have : d.2[k]?.getD (0, []) = d.2[k]'(by omega) := by simp [show k < d.2.length by omega]
        rw [this]
        simp [waitOk, secOk] at hm
        exact hm.2
      · exact ih (by omega) z hz
  unfold readZ
  cases hz : backW d.2 p d.2.length with
  | some z => exact hb _ (Nat.le_refl _) z hz
  | none =>
    have hq : p.toNat < d.1.length := by omega
    have := hs _ (List.getElem_mem hq)
    simp [secOk] at this
    simp [hq, this]

set_option maxHeartbeats 1000000 in
theorem specReadSector_any (v : Value) (d : Dk) (p : Int) (l h : Nat) (w : World) (r : RdD w l h v d) (hh : h ≤ w.heap.size) :
    Calls Tryd.prog 15 #[v, .int .i64 p] w fun e w' => ∃ u, e = .returned (.tuple #[u, .bool (readOk d p)]) ∧ OwB w' w.heap.size w'.heap.size u (readD d p) ∧ Below w.heap.size w w' := by
  obtain ⟨xa, xn, xc, ya, yn, yc, rfl⟩ := r.open
  have b1 := Below.new (w := w) (.cells #[.slice xa xn xc, .slice ya yn yc] 26)
  have v1 := VarD.new w (.slice xa xn xc) (.slice ya yn yc)
  have r1 := r.step hh b1
  generalize hw1 : w.alloc (.cells #[.slice xa xn xc, .slice ya yn yc] 26) = w1 at b1 v1 r1
  have HW1 : Hid _ := hw1
  have s1 := v1.lt
  have hln := r1.parts.1.len
  have hxm := hln.2
  have HOK : Hid _ := specOk_any _ d l h w1 r1 (by omega)
  have HR1 : Hid _ := r1
  have c0 := v1.c0
  have c1 := v1.c1
  clear hw1 r
  by_cases hok : okD d = true
  · rw [hok] at HOK
    by_cases h0 : 0 ≤ p
    · by_cases h1 : p < (xn : Int)
      · have hro : readOk d p = true := by unfold readOk; rw [hok]; simp [h0, ← hln.1, h1]
        have hrd : readD d p = readZ d p := by unfold readD; rw [if_pos hro]
        have hzl := readZ_len hro
        rw [hro, hrd]
        obtain ⟨q, rfl⟩ : ∃ q : Nat, p = (q : Int) := ⟨p.toNat, by omega⟩
        have hd0 : decide ((q : Int) < 0) = false := by simp
        have hd1 : decide ((xn : Int) ≤ (q : Int)) = false := by simpa using h1
        have hq : q < d.1.length := by rw [← hln.1]; omega
        have HV1 : Hid _ := v1
        have HB1 : Hid _ := b1
        have HQ : Hid _ := hq
        clear hln hro hrd hok hq
        go_enter Tryd.func15, Tryd.ntmps15
        go_wp2_with fail
        rw [HW1.out]
        refine Calls.mono HOK.out ?_
        rintro e w2 ⟨rfl, b2⟩
        have k0 := (VarD.step HV1.out b2).c0
        have s2 := b2.size
        have b3 := Below.new (w := w2) (.cells #[] 5)
        have v3 := (VarD.step HV1.out b2).step b3
        have r3 := (RdD.step HR1.out (by omega) b2).step (by omega) b3
        have HOE : Hid (Owns (w2.alloc (.cells #[] 5)) w2.heap.size (.slice (some ⟨w2.heap.size, 0, none⟩) 0 0) []) := owns_empty w2
        have HSZ : Hid (w2.heap.size ≤ (w2.alloc (.cells #[] 5)).heap.size) := b3.size
        have B3 : Below w.heap.size w (w2.alloc (.cells #[] 5)) := (HB1.out.trans (b2.mono HB1.out.size)).trans (b3.mono (by omega))
        generalize hw3 : w2.alloc (.cells #[] 5) = w3 at b3 v3 r3 HOE HSZ B3
        have HW3 : Hid _ := hw3
        have HRD : Hid _ := specRead_any w.heap.size _ _ d l h q w3 v3 r3.parts.1 r3.parts.2 HQ.out
        have HB3 : Hid _ := B3
        clear hw3 b2 b3 v3 r3 B3
        go_wp2_with fail
        rw [HW3.out]
        refine Calls.mono HRD.out ?_
        rintro e w4 ⟨u, rfl, hu, hw4⟩
        subst hw4
        obtain ⟨hub, ua, un, uc, rfl, hun, huh, hur⟩ := hu.reads
        have HUN : Hid _ := hun
        have hul : (readZ d q).length ≤ 4194304 := by omega
        clear hun hu
        go_wp2_with (at_builtin; refine wpList_app _ rfl (.tmp 20) (.tmp 22) rfl w2.heap.size _ [] (readZ d q) rfl HOE.out ua un uc rfl HUN.out hur (Nat.zero_le _) hul HSZ.out huh.2.2 ?_; intro v5 w5 ho5 hg5)
        go_ret2
        refine ⟨_, rfl, ?_, ?_⟩
        · have := OwB.of hub ho5
          exact this.wide (by omega) (Nat.le_refl _)
        · exact below_mark HB3.out hg5 HB3.out.size (fun k hk => by have := slice_block hk; simp at this; omega)
      · have hro : readOk d p = false := by unfold readOk; simp [← hln.1, h1]
        have hrd : readD d p = [] := by unfold readD; rw [hro]; rfl
        rw [hro, hrd]
        have hd0 : decide (p < 0) = false := by simpa using h0
        have hd1 : decide ((xn : Int) ≤ p) = true := by simpa using h1
        have HV1 : Hid _ := v1
        have HB1 : Hid _ := b1
        clear hln hro hrd hok
        go_enter Tryd.func15, Tryd.ntmps15
        go_wp2_with fail
        rw [HW1.out]
        refine Calls.mono HOK.out ?_
        rintro e w2 ⟨rfl, b2⟩
        have k0 := (VarD.step HV1.out b2).c0
        have B2 := HB1.out.trans (b2.mono HB1.out.size)
        clear b2
        go_wp2
        go_ret2
        exact ⟨_, rfl, OwB_nil _ _ _, B2⟩
    · have hro : readOk d p = false := by unfold readOk; simp [h0]
      have hrd : readD d p = [] := by unfold readD; rw [hro]; rfl
      rw [hro, hrd]
      have hd0 : decide (p < 0) = true := by simp; omega
      have HB1 : Hid _ := b1
      clear hln hro hrd hok
      go_enter Tryd.func15, Tryd.ntmps15
      go_wp2_with fail
      rw [HW1.out]
      refine Calls.mono HOK.out ?_
      rintro e w2 ⟨rfl, b2⟩
      have B2 := HB1.out.trans (b2.mono HB1.out.size)
      clear b2
      go_wp2
      go_ret2
      exact ⟨_, rfl, OwB_nil _ _ _, B2⟩
  · have hok' : okD d = false := by simpa using hok
    have hro : readOk d p = false := by unfold readOk; simp [hok']
    have hrd : readD d p = [] := by unfold readD; rw [hro]; rfl
    rw [hok'] at HOK
    rw [hro, hrd]
    have HB1 : Hid _ := b1
    clear hln hro hrd hok hok'
    go_enter Tryd.func15, Tryd.ntmps15
    go_wp2_with fail
    rw [HW1.out]
    refine Calls.mono HOK.out ?_
    rintro e w2 ⟨rfl, b2⟩
    have B2 := HB1.out.trans (b2.mono HB1.out.size)
    clear b2
    go_wp2
    go_ret2
    exact ⟨_, rfl, OwB_nil _ _ _, B2⟩

set_option maxHeartbeats 1000000 in
theorem implReadSector_any (v : Value) (d : Dk) (p : Int) (l h : Nat) (a : Addr) (w : World) (r : RdD w l h v d) (hh : h ≤ w.heap.size) (hg : Glob w a) :
    Calls Tryd.prog 16 #[v, .int .i64 p] w fun e w' => ∃ u, e = .returned (.tuple #[u, .bool (readOk d p)]) ∧ OwB w' w.heap.size w'.heap.size u (readD d p) ∧ Below w.heap.size w w' := by
  obtain ⟨xa, xn, xc, ya, yn, yc, rfl⟩ := r.open
  have hlt := hg.lt
  have b1 := Below.new (w := w) (.cells #[.slice xa xn xc, .slice ya yn yc] 26)
  have v1 := VarD.new w (.slice xa xn xc) (.slice ya yn yc)
  have r1 := r.step hh b1
  generalize hw1 : w.alloc (.cells #[.slice xa xn xc, .slice ya yn yc] 26) = w1 at b1 v1 r1
  have HW1 : Hid _ := hw1
  have s1 := v1.lt
  have hln := r1.parts.1.len
  have hxm := hln.2
  have HOK : Hid _ := implOk_any _ d l h a w1 r1 (by omega) (hg.step b1 hlt)
  have HR1 : Hid _ := r1
  have HG : Hid (∀ W, Below w.heap.size w W → Glob W a) := fun W hW => hg.step hW hlt
  have c0 := v1.c0
  have c1 := v1.c1
  have HV1 : Hid _ := v1
  have HB1 : Hid _ := b1
  clear hw1 r hg
  by_cases hok : okD d = true
  · rw [hok] at HOK
    by_cases hin : 0 ≤ p ∧ p < (xn : Int)
    · obtain ⟨h0, h1⟩ := hin
      have hro : readOk d p = true := by unfold readOk; rw [hok]; simp [h0, ← hln.1, h1]
      have hrd : readD d p = readZ d p := by unfold readD; rw [if_pos hro]
      have hzl := readZ_len hro
      rw [hro, hrd]
      obtain ⟨q, rfl⟩ : ∃ q : Nat, p = (q : Int) := ⟨p.toNat, by omega⟩
      have HQ : Hid (q < d.1.length) := by show q < _; rw [← hln.1]; omega
      clear hln hro hrd hok v1 b1 r1
      go_enter Tryd.func16, Tryd.ntmps16
      go_wp2_with fail
      rw [HW1.out]
      refine Calls.mono HOK.out ?_
      rintro e w2 ⟨rfl, b2⟩
      have v2 := VarD.step HV1.out b2
      have r2 := RdD.step HR1.out (by omega) b2
      have B2 := HB1.out.trans (b2.mono HB1.out.size)
      have s2 := b2.size
      have HRD : Hid _ := implRead_in w.heap.size _ _ d l h q w2 v2 r2.parts.1 r2.parts.2 HQ.out
      have hgl : w2.cell? ⟨0, 0, none⟩ = some (.iface 112 (.pointer (some a))) := HG.out _ B2
      have HB2 : Hid _ := B2
      clear b2 v2 r2 B2
      go_wp2_with fail
      refine Calls.mono HRD.out ?_
      rintro e w3 ⟨u, rfl, hu, hw3⟩
      subst hw3
      have HU : Hid _ := hu
      obtain ⟨ua, un, uc, rfl⟩ : ∃ a n c, u = .slice a n c := by obtain ⟨_, a, n, c, h, _⟩ := hu; exact ⟨a, n, c, h⟩
      clear hu
      go_wp2_with fail
      refine (is_nil a _).mono ?_
      rintro e w4 ⟨rfl, hw4⟩
      subst hw4
      go_wp2_with fail
      refine (newSector_any _ (readZ d q) l h _ HU.out (by omega)).mono ?_
      rintro e w5 ⟨u5, rfl, ho5, b5⟩
      have B5 := HB2.out.trans (b5.mono HB2.out.size)
      have hso := HU.out.1
      rw [sec_full hzl] at ho5
      have HO5 : Hid _ := OwB.of hso ho5
      have HB5 : Hid _ := B5
      have hwz := HB2.out.size
      obtain ⟨a5, n5, c5, rfl⟩ := ho5.sliced
      clear ho5 b5 B5
      go_wp2
      go_ret2
      exact ⟨_, rfl, OwB.wide HO5.out hwz (Nat.le_refl _), HB5.out⟩
    · have hro : readOk d p = false := by
        unfold readOk
        by_cases h0 : 0 ≤ p
        · have : ¬ p < (d.1.length : Int) := by rw [← hln.1]; exact fun h => hin ⟨h0, h⟩
          simp [this]
        · simp [h0]
      have hrd : readD d p = [] := by unfold readD; rw [hro]; rfl
      have hpo : p < 0 ∨ (xn : Int) ≤ p := by omega
      rw [hro, hrd]
      clear hln hro hrd hok hin v1 b1 r1
      go_enter Tryd.func16, Tryd.ntmps16
      go_wp2_with fail
      rw [HW1.out]
      refine Calls.mono HOK.out ?_
      rintro e w2 ⟨rfl, b2⟩
      have B2 := HB1.out.trans (b2.mono HB1.out.size)
      have k0 := (VarD.step HV1.out b2).c0
      have HRD : Hid _ := implRead_out w.heap.size xn xc xa p a w2 k0 (HG.out _ B2) hpo hxm
      have hgl : w2.cell? ⟨0, 0, none⟩ = some (.iface 112 (.pointer (some a))) := HG.out _ B2
      have HB2 : Hid _ := B2
      clear b2 B2
      go_wp2_with fail
      refine Calls.mono HRD.out ?_
      rintro e w3 ⟨rfl, m3, hw3⟩
      have B3 : Below w.heap.size w w3 := by rw [hw3]; exact below_drewN2 HB2.out _
      have hgl3 : w3.cell? ⟨0, 0, none⟩ = some (.iface 112 (.pointer (some a))) := HG.out _ B3
      have HB3 : Hid _ := B3
      clear hw3 B3 hgl
      go_wp2_with fail
      refine (is_same a w3).mono ?_
      rintro e w4 ⟨rfl, hw4⟩
      subst hw4
      go_wp2
      go_ret2
      exact ⟨_, rfl, OwB_nil _ _ _, HB3.out⟩
  · have hok' : okD d = false := by simpa using hok
    have hro : readOk d p = false := by unfold readOk; simp [hok']
    have hrd : readD d p = [] := by unfold readD; rw [hro]; rfl
    rw [hok'] at HOK
    rw [hro, hrd]
    clear hln hro hrd hok hok' v1 b1 r1
    go_enter Tryd.func16, Tryd.ntmps16
    go_wp2_with fail
    rw [HW1.out]
    refine Calls.mono HOK.out ?_
    rintro e w2 ⟨rfl, b2⟩
    have B2 := HB1.out.trans (b2.mono HB1.out.size)
    clear b2
    go_wp2
    go_ret2
    exact ⟨_, rfl, OwB_nil _ _ _, B2⟩

theorem readD_small (d : Dk) (p : Int) : (readD d p).length ≤ 2097152 := by
  unfold readD
  split
  · rename_i h
    rw [readZ_len h]; omega
  · simp
theorem specReadSector_all (v : Value) (d : Dk) (l h : Nat) (p : Int) (w : World) (r : RdD w l h v d) (hh : h ≤ w.heap.size) :
    Calls Tryd.prog 15 #[v, .int .i64 p] w fun e w' => ∃ u, e = .returned (.tuple #[u, .bool (readOk d p)]) ∧ OwB w' w.heap.size w'.heap.size u (readD d p) ∧ Below w.heap.size w w' := specReadSector_any v d p l h w r hh
theorem implReadSector_all (v : Value) (d : Dk) (l h : Nat) (p : Int) (w : World) (r : RdD w l h v d) (hh : h ≤ w.heap.size) (a : Addr) (hg : Glob w a) :
    Calls Tryd.prog 16 #[v, .int .i64 p] w fun e w' => ∃ u, e = .returned (.tuple #[u, .bool (readOk d p)]) ∧ OwB w' w.heap.size w'.heap.size u (readD d p) ∧ Below w.heap.size w w' := implReadSector_any v d p l h a w r hh hg
end Go.Proofs.YtdpigkcdfjnpdaaDoor
