/- What the verifier's counting of shards answers; no condition on them. -/
import Derived.Test.YtoaocjkapoemnaaGreatUA01
import Derived.Test.YtoaocjkapoemnaaGreatUA00b
import Derived.Test.YtoaocjkapoemnaaGreatUA00
namespace Go.Proofs.YtoaocjkapoemnaaGreat
open Go.RowKit
set_option linter.unusedVariables false
set_option linter.unusedSimpArgs false
set_option maxRecDepth 100000

set_option maxHeartbeats 1000000 in
theorem szIntent_d (x : Value) (e : ItD) (S : Nat → Prop) (s : Nat) (w : World) (hs : s ≤ 1048576) (r : RdV w S x (.bytes e.pt.asn)) :
    Calls Tryz.prog 70 #[itV e x, .int .i64 s] w fun ret w' => ret = .returned (.int .i64 (leftT (e.pt.asn.length) s)) ∧ Below w.heap.size w w' := by
  obtain ⟨a, cap, rfl⟩ := RdV.sliceB r
  obtain ⟨⟨xs, xb, xn⟩, ⟨pk, ⟨pp, pq, pd⟩, pas, ⟨sp, sq, sd⟩⟩, cd, ⟨fp, fq, fd⟩⟩ := e
  dsimp only at r ⊢
  have HS : Hid (∀ W, Below w.heap.size w W → _) := fun W hW => szPart_d _ ⟨pk, (pp, pq, pd), pas, (sp, sq, sd)⟩ S s W hs (r.step hW)
  clear r
  dsimp only at HS
  generalize pas.length = m at HS ⊢
  by_cases hle : m ≤ s
  · have hl : leftT m s = (s : Int) - m := by unfold leftT; rw [if_pos hle]
    rw [hl] at HS ⊢
    clear hl
    go_enter Tryz.func70, Tryz.ntmps70
    go_wp2_with fail
    refine Calls.mono (HS.out _ (Below.newH _)) ?_
    rintro e w2 ⟨rfl, b_⟩
    go_wp2
    go_ret
    exact ⟨rfl, (Below.newH (w := w) _).trans (b_.mono (by simp))⟩
  · have hl : leftT m s = -1 := by unfold leftT; rw [if_neg hle]
    rw [hl] at HS ⊢
    clear hl
    go_enter Tryz.func70, Tryz.ntmps70
    go_wp2_with fail
    refine Calls.mono (HS.out _ (Below.newH _)) ?_
    rintro e w2 ⟨rfl, b_⟩
    go_wp2
    go_ret
    exact ⟨rfl, (Below.newH (w := w) _).trans (b_.mono (by simp))⟩

set_option maxHeartbeats 1000000 in
theorem szLast_d (x : Value) (e : LsD) (S : Nat → Prop) (s : Nat) (w : World) (hs : s ≤ 1048576) (r : RdV w S x (ensDt e.rp.list)) :
    Calls Tryz.prog 71 #[lsV e x, .int .i64 s] w fun ret w' => ret = .returned (.int .i64 (leftT (szEns e.rp.list) s)) ∧ Below w.heap.size w w' := by
  obtain ⟨a, cap, rfl, _⟩ := RdV.sliced r
  obtain ⟨cl, rq, ⟨rc, ⟨rp_, rq_, rd⟩, rv, es⟩⟩ := e
  dsimp only at r ⊢
  have HS : Hid (∀ W, Below w.heap.size w W → _) := fun W hW => szReply_d _ ⟨rc, (rp_, rq_, rd), rv, es⟩ S s W hs (r.step hW)
  clear r
  dsimp only at HS
  generalize szEns es = m at HS ⊢
  generalize es.length = xn at HS ⊢
  by_cases hle : m ≤ s
  · have hl : leftT m s = (s : Int) - m := by unfold leftT; rw [if_pos hle]
    rw [hl] at HS ⊢
    clear hl
    go_enter Tryz.func71, Tryz.ntmps71
    go_wp2_with fail
    refine Calls.mono (HS.out _ (Below.newH _)) ?_
    rintro e w2 ⟨rfl, b_⟩
    go_wp2
    go_ret
    exact ⟨rfl, (Below.newH (w := w) _).trans (b_.mono (by simp))⟩
  · have hl : leftT m s = -1 := by unfold leftT; rw [if_neg hle]
    rw [hl] at HS ⊢
    clear hl
    go_enter Tryz.func71, Tryz.ntmps71
    go_wp2_with fail
    refine Calls.mono (HS.out _ (Below.newH _)) ?_
    rintro e w2 ⟨rfl, b_⟩
    go_wp2
    go_ret
    exact ⟨rfl, (Below.newH (w := w) _).trans (b_.mono (by simp))⟩

theorem szVerdictS_d (v : Value) (l : List VdD) (S : Nat → Prop) (s : Nat) (w : World) (hs : s ≤ 1048576) (r : RdV w S v (vdsDt l)) :
    Calls Tryz.prog 35 #[v, .int .i64 s] w fun e w' => e = .returned (.int .i64 (leftT (szVds l) s)) ∧ Below w.heap.size w w' := by
  obtain ⟨a, cap, rfl, hm⟩ := RdV.sliced r
  clear r
  unfold maxLen at hm
  unfold szVds
  generalize l.length = n at *
  by_cases hle : n ≤ s
  · have hl : leftT n s = ((s - n : Nat) : Int) := by unfold leftT; rw [if_pos hle]; omega
    rw [hl]
    go_enter Tryz.func35, Tryz.ntmps35
    go_wp2
    all_goals first | (exfalso; omega) | (go_ret; exact ⟨by first | (congr 2; omega) | go_num, Below.refl _ _⟩)
  · have hl : leftT n s = -1 := by unfold leftT; rw [if_neg hle]
    rw [hl]
    go_enter Tryz.func35, Tryz.ntmps35
    go_wp2
    all_goals first | (exfalso; omega) | (go_ret; exact ⟨rfl, Below.refl _ _⟩)
theorem szTxS_d (v : Value) (l : List TxD) (S : Nat → Prop) (s : Nat) (w : World) (hs : s ≤ 1048576) (r : RdV w S v (txsDt l)) :
    Calls Tryz.prog 36 #[v, .int .i64 s] w fun e w' => e = .returned (.int .i64 (leftT (szTxs l) s)) ∧ Below w.heap.size w w' := by
  obtain ⟨a, cap, rfl, hm⟩ := RdV.sliced r
  clear r
  unfold maxLen at hm
  unfold szTxs
  generalize l.length = n at *
  by_cases hle : n ≤ s
  · have hl : leftT n s = ((s - n : Nat) : Int) := by unfold leftT; rw [if_pos hle]; omega
    rw [hl]
    go_enter Tryz.func36, Tryz.ntmps36
    go_wp2
    all_goals first | (exfalso; omega) | (go_ret; exact ⟨by first | (congr 2; omega) | go_num, Below.refl _ _⟩)
  · have hl : leftT n s = -1 := by unfold leftT; rw [if_neg hle]
    rw [hl]
    go_enter Tryz.func36, Tryz.ntmps36
    go_wp2
    all_goals first | (exfalso; omega) | (go_ret; exact ⟨rfl, Below.refl _ _⟩)
set_option maxHeartbeats 4000000 in
theorem szIntentS_d (v : Value) (l : List ItD) (S : Nat → Prop) (s : Nat) (w : World) (hs : s ≤ 1048576) (r : RdV w S v (itsDt l)) :
    Calls Tryz.prog 34 #[v, .int .i64 s] w fun e w' => e = .returned (.int .i64 (leftT (szIts l) s)) ∧ Below w.heap.size w w' := by
  obtain ⟨a, cap, rfl, hm⟩ := RdV.sliced r
  have HR : Hid (∀ W, Below w.heap.size w W → RdV W S (.slice a l.length cap) (itsDt l)) := r.old
  have HD : Hid (itsDt l = .rows 111 15 l.length (fun i j => itCell (l[i]?.getD it0) j)) := rfl
  have HX : Hid (szIts l = l.length + psum (fun e : ItD => e.pt.asn.length) l l.length) := by show _ = _; rw [psum_all]; rfl
  have HU : Hid (∀ j, j < l.length → psum (fun e : ItD => e.pt.asn.length) l (j + 1) = psum (fun e : ItD => e.pt.asn.length) l j + (fun e : ItD => e.pt.asn.length) (l[j]?.getD it0) ∧ psum (fun e : ItD => e.pt.asn.length) l (j + 1) ≤ psum (fun e : ItD => e.pt.asn.length) l l.length) := fun j hj => ⟨psum_next _ l _ j hj, by rw [psum_all]; exact psum_le _ l _⟩
  unfold maxLen at hm
  clear r
  rw [HD.out] at HR
  clear HD
  rw [HX.out]
  clear HX
  have HZ0 : Hid (psum (fun e : ItD => e.pt.asn.length) l 0 = 0) := psum_zero _ _
  generalize psum (fun e : ItD => e.pt.asn.length) l = P at HU HZ0 ⊢
  generalize l.length = n at hm HR HU ⊢
  by_cases hle : n ≤ s
  · go_enter Tryz.func34, Tryz.ntmps34
    go_wp2
    go_loopw [1, 5] (fun q i wr => ∃ j t : Nat, j ≤ n ∧ i = .int .i64 j ∧ q = .int .i64 t ∧ t ≤ s ∧ Hid (t + (n + P j) = s) ∧ Below w.heap.size w wr) (fun _ i _ => n - (intOf i).toNat)
    case atStart => exact ⟨0, s - n, Nat.zero_le _, rfl, by go_num, by omega, by show _ = _; rw [HZ0.out]; omega, Below.refl _ _⟩
    case round =>
      obtain ⟨j, t, hj, rfl, rfl, ht, HS, hbel⟩ := hrel
      by_cases hlt : j < n
      · obtain ⟨b, off, rfl, hbl, _, hx⟩ := RdV.at (HR.out wr hbel) hlt
        obtain ⟨hu1, hu2⟩ := HU.out j hlt
        obtain ⟨e, he⟩ : ∃ e, l[j]?.getD it0 = e := ⟨_, rfl⟩
        obtain ⟨x0, c0, r0⟩ := hx 0 (by omega)
        obtain ⟨x1, c1, r1⟩ := hx 1 (by omega)
        obtain ⟨x2, c2, r2⟩ := hx 2 (by omega)
        obtain ⟨x3, c3, r3⟩ := hx 3 (by omega)
        obtain ⟨x4, c4, r4⟩ := hx 4 (by omega)
        obtain ⟨x5, c5, r5⟩ := hx 5 (by omega)
        obtain ⟨x6, c6, r6⟩ := hx 6 (by omega)
        obtain ⟨x7, c7, r7⟩ := hx 7 (by omega)
        obtain ⟨x8, c8, r8⟩ := hx 8 (by omega)
        obtain ⟨x9, c9, r9⟩ := hx 9 (by omega)
        obtain ⟨x10, c10, r10⟩ := hx 10 (by omega)
        obtain ⟨x11, c11, r11⟩ := hx 11 (by omega)
        obtain ⟨x12, c12, r12⟩ := hx 12 (by omega)
        obtain ⟨x13, c13, r13⟩ := hx 13 (by omega)
        obtain ⟨x14, c14, r14⟩ := hx 14 (by omega)
        rw [he] at hu1 r0 r1 r2 r3 r4 r5 r6 r7 r8 r9 r10 r11 r12 r13 r14
        clear hx he
        obtain ⟨⟨xs, xb, xn⟩, ⟨pk, ⟨pp, pq, pd⟩, pas, ⟨sp, sq, sd⟩⟩, cd, ⟨fp, fq, fd⟩⟩ := e
        obtain rfl : x0 = .int .i64 xs := r0
        obtain rfl : x1 = .int .i64 xb := r1
        obtain rfl : x2 = .int .i64 xn := r2
        obtain rfl : x3 = .int .i64 pk := r3
        obtain rfl : x4 = .int .i64 pp := r4
        obtain rfl : x5 = .int .i64 pq := r5
        obtain rfl : x6 = .bool pd := r6
        obtain rfl : x8 = .int .i64 sp := r8
        obtain rfl : x9 = .int .i64 sq := r9
        obtain rfl : x10 = .bool sd := r10
        obtain rfl : x11 = .int .i64 cd := r11
        obtain rfl : x12 = .int .i64 fp := r12
        obtain rfl : x13 = .int .i64 fq := r13
        obtain rfl : x14 = .bool fd := r14
        simp only [Nat.add_zero] at c0
        try dsimp only at hu1
        have RS7 : Hid (RdV wr S x7 (.bytes pas)) := r7
        clear r7
        obtain ⟨xa7, xc7, rfl⟩ := RdV.sliceB RS7.out
        have HSZ : Hid _ := szIntent_d _ ⟨(xs, xb, xn), ⟨pk, (pp, pq, pd), pas, (sp, sq, sd)⟩, cd, (fp, fq, fd)⟩ S t wr (by omega) RS7.out
        try dsimp only at HSZ
        clear RS7
        generalize pas.length = m at hu1 HSZ c7
        have hws := hbel.size
        by_cases hmt : m ≤ t
        · have hl : leftT m t = (t : Int) - m := by unfold leftT; rw [if_pos hmt]
          rw [hl] at HSZ
          have HF : Hid (t - m + (n + P (j + 1)) = s) := by show _ = _; have := HS.out; omega
          clear hl hu1 hu2 HS
          go_wp2_with fail
          refine Calls.mono HSZ.out ?_
          rintro e w2 ⟨rfl, hb2⟩
          go_wp2
          go_roundw
          case rel => exact ⟨j + 1, t - m, by omega, by go_num, by go_num, by omega, HF, hbel.trans (hb2.mono hws)⟩
          case measure => simp [intOf]; omega
        · have hl : leftT m t = -1 := by unfold leftT; rw [if_neg hmt]
          rw [hl] at HSZ
          have HF : Hid (leftT (n + P n) s = -1) := by show _ = _; unfold leftT; rw [if_neg (by have := HS.out; omega)]
          clear hl hu1 hu2 HS
          go_wp2_with fail
          refine Calls.mono HSZ.out ?_
          rintro e w2 ⟨rfl, hb2⟩
          go_wp2
          go_ret
          exact ⟨by rw [HF.out]; rfl, hbel.trans (hb2.mono hws)⟩
      · have hjn : j = n := by omega
        subst hjn
        have HF : Hid (leftT (j + P j) s = (t : Int)) := by have := HS.out; show _ = _; unfold leftT; rw [if_pos (by omega)]; omega
        go_wp2
        go_ret
        exact ⟨by rw [HF.out]; rfl, hbel⟩
  · have HF : Hid (leftT (n + P n) s = -1) := by show _ = _; unfold leftT; rw [if_neg (by omega)]
    clear HU HR
    go_enter Tryz.func34, Tryz.ntmps34
    go_wp2
    go_ret
    exact ⟨by rw [HF.out]; rfl, Below.refl _ _⟩

set_option maxHeartbeats 4000000 in
theorem szLastS_d (v : Value) (l : List LsD) (S : Nat → Prop) (s : Nat) (w : World) (hs : s ≤ 1048576) (r : RdV w S v (lssDt l)) :
    Calls Tryz.prog 37 #[v, .int .i64 s] w fun e w' => e = .returned (.int .i64 (leftT (szLss l) s)) ∧ Below w.heap.size w w' := by
  obtain ⟨a, cap, rfl, hm⟩ := RdV.sliced r
  have HR : Hid (∀ W, Below w.heap.size w W → RdV W S (.slice a l.length cap) (lssDt l)) := r.old
  have HD : Hid (lssDt l = .rows 118 8 l.length (fun i j => lsCell (l[i]?.getD ls0) j)) := rfl
  have HX : Hid (szLss l = l.length + psum (fun e : LsD => szEns e.rp.list) l l.length) := by show _ = _; rw [psum_all]; rfl
  have HU : Hid (∀ j, j < l.length → psum (fun e : LsD => szEns e.rp.list) l (j + 1) = psum (fun e : LsD => szEns e.rp.list) l j + (fun e : LsD => szEns e.rp.list) (l[j]?.getD ls0) ∧ psum (fun e : LsD => szEns e.rp.list) l (j + 1) ≤ psum (fun e : LsD => szEns e.rp.list) l l.length) := fun j hj => ⟨psum_next _ l _ j hj, by rw [psum_all]; exact psum_le _ l _⟩
  unfold maxLen at hm
  clear r
  rw [HD.out] at HR
  clear HD
  rw [HX.out]
  clear HX
  have HZ0 : Hid (psum (fun e : LsD => szEns e.rp.list) l 0 = 0) := psum_zero _ _
  generalize psum (fun e : LsD => szEns e.rp.list) l = P at HU HZ0 ⊢
  generalize l.length = n at hm HR HU ⊢
  by_cases hle : n ≤ s
  · go_enter Tryz.func37, Tryz.ntmps37
    go_wp2
    go_loopw [1, 5] (fun q i wr => ∃ j t : Nat, j ≤ n ∧ i = .int .i64 j ∧ q = .int .i64 t ∧ t ≤ s ∧ Hid (t + (n + P j) = s) ∧ Below w.heap.size w wr) (fun _ i _ => n - (intOf i).toNat)
    case atStart => exact ⟨0, s - n, Nat.zero_le _, rfl, by go_num, by omega, by show _ = _; rw [HZ0.out]; omega, Below.refl _ _⟩
    case round =>
      obtain ⟨j, t, hj, rfl, rfl, ht, HS, hbel⟩ := hrel
      by_cases hlt : j < n
      · obtain ⟨b, off, rfl, hbl, _, hx⟩ := RdV.at (HR.out wr hbel) hlt
        obtain ⟨hu1, hu2⟩ := HU.out j hlt
        obtain ⟨e, he⟩ : ∃ e, l[j]?.getD ls0 = e := ⟨_, rfl⟩
        obtain ⟨x0, c0, r0⟩ := hx 0 (by omega)
        obtain ⟨x1, c1, r1⟩ := hx 1 (by omega)
        obtain ⟨x2, c2, r2⟩ := hx 2 (by omega)
        obtain ⟨x3, c3, r3⟩ := hx 3 (by omega)
        obtain ⟨x4, c4, r4⟩ := hx 4 (by omega)
        obtain ⟨x5, c5, r5⟩ := hx 5 (by omega)
        obtain ⟨x6, c6, r6⟩ := hx 6 (by omega)
        obtain ⟨x7, c7, r7⟩ := hx 7 (by omega)
        rw [he] at hu1 r0 r1 r2 r3 r4 r5 r6 r7
        clear hx he
        obtain ⟨cl, rq, ⟨rc, ⟨rp_, rq_, rd⟩, rv, es⟩⟩ := e
        obtain rfl : x0 = .int .i64 cl := r0
        obtain rfl : x1 = .int .i64 rq := r1
        obtain rfl : x2 = .int .i64 rc := r2
        obtain rfl : x3 = .int .i64 rp_ := r3
        obtain rfl : x4 = .int .i64 rq_ := r4
        obtain rfl : x5 = .bool rd := r5
        obtain rfl : x6 = .int .i64 rv := r6
        simp only [Nat.add_zero] at c0
        try dsimp only at hu1
        have RS7 : Hid (RdV wr S x7 (ensDt es)) := r7
        clear r7
        obtain ⟨xa7, xc7, rfl, _⟩ := RdV.sliced RS7.out
        have HSZ : Hid _ := szLast_d _ ⟨cl, rq, ⟨rc, (rp_, rq_, rd), rv, es⟩⟩ S t wr (by omega) RS7.out
        try dsimp only at HSZ
        clear RS7
        generalize szEns es = m at hu1 HSZ
        generalize es.length = xn7 at HSZ c7
        have hws := hbel.size
        by_cases hmt : m ≤ t
        · have hl : leftT m t = (t : Int) - m := by unfold leftT; rw [if_pos hmt]
          rw [hl] at HSZ
          have HF : Hid (t - m + (n + P (j + 1)) = s) := by show _ = _; have := HS.out; omega
          clear hl hu1 hu2 HS
          go_wp2_with fail
          refine Calls.mono HSZ.out ?_
          rintro e w2 ⟨rfl, hb2⟩
          go_wp2
          go_roundw
          case rel => exact ⟨j + 1, t - m, by omega, by go_num, by go_num, by omega, HF, hbel.trans (hb2.mono hws)⟩
          case measure => simp [intOf]; omega
        · have hl : leftT m t = -1 := by unfold leftT; rw [if_neg hmt]
          rw [hl] at HSZ
          have HF : Hid (leftT (n + P n) s = -1) := by show _ = _; unfold leftT; rw [if_neg (by have := HS.out; omega)]
          clear hl hu1 hu2 HS
          go_wp2_with fail
          refine Calls.mono HSZ.out ?_
          rintro e w2 ⟨rfl, hb2⟩
          go_wp2
          go_ret
          exact ⟨by rw [HF.out]; rfl, hbel.trans (hb2.mono hws)⟩
      · have hjn : j = n := by omega
        subst hjn
        have HF : Hid (leftT (j + P j) s = (t : Int)) := by have := HS.out; show _ = _; unfold leftT; rw [if_pos (by omega)]; omega
        go_wp2
        go_ret
        exact ⟨by rw [HF.out]; rfl, hbel⟩
  · have HF : Hid (leftT (n + P n) s = -1) := by show _ = _; unfold leftT; rw [if_neg (by omega)]
    clear HU HR
    go_enter Tryz.func37, Tryz.ntmps37
    go_wp2
    go_ret
    exact ⟨by rw [HF.out]; rfl, Below.refl _ _⟩

theorem left_add (a b s : Nat) : leftT (a + b) s = if a ≤ s then leftT b (s - a) else -1 := by
  unfold leftT
  by_cases h : a ≤ s
  · rw [if_pos h]
    by_cases h2 : a + b ≤ s
    · rw [if_pos h2, if_pos (by omega)]; omega
    · rw [if_neg h2, if_neg (by omega)]
  · rw [if_neg h, if_neg (by omega)]
theorem hide2 {P : Prop} (h : P) : Hid P := h
set_option maxHeartbeats 8000000 in
theorem szShard_d (x y z u v : Value) (e : ShD) (S : Nat → Prop) (s : Nat) (w : World) (hs : s ≤ 1048576) (r : RdShd w S e x y z u v) :
    Calls Tryz.prog 13 #[shV e x y z u v, .int .i64 s] w fun ret w' => ret = .returned (.int .i64 (leftT (szSh e) s)) ∧ Below w.heap.size w w' := by
  obtain ⟨r0, r1, r2, r3, r4⟩ := r
  obtain ⟨s0, p0, rfl, _⟩ := RdV.sliced r0
  obtain ⟨s1, p1, rfl, _⟩ := RdV.sliced r1
  obtain ⟨s2, p2, rfl, _⟩ := RdV.sliced r2
  obtain ⟨s3, p3, rfl, _⟩ := RdV.sliced r3
  obtain ⟨s4, p4, rfl, _⟩ := RdV.sliced r4
  obtain ⟨id_, bo, nx, ns, its, ds, dn, ls⟩ := e
  unfold szSh
  dsimp only at r0 r1 r2 r3 r4 ⊢
  have HC0 : Hid (∀ t W, t ≤ 1048576 → Below w.heap.size w W → _) := fun t W ht hW => szNodeS_d _ ns S t W ht (r0.step hW)
  have HC1 : Hid (∀ t W, t ≤ 1048576 → Below w.heap.size w W → _) := fun t W ht hW => szIntentS_d _ its S t W ht (r1.step hW)
  have HC2 : Hid (∀ t W, t ≤ 1048576 → Below w.heap.size w W → _) := fun t W ht hW => szVerdictS_d _ ds S t W ht (r2.step hW)
  have HC3 : Hid (∀ t W, t ≤ 1048576 → Below w.heap.size w W → _) := fun t W ht hW => szTxS_d _ dn S t W ht (r3.step hW)
  have HC4 : Hid (∀ t W, t ≤ 1048576 → Below w.heap.size w W → _) := fun t W ht hW => szLastS_d _ ls S t W ht (r4.step hW)
  clear r0 r1 r2 r3 r4
  generalize szNds ns = m0 at HC0 ⊢
  generalize szIts its = m1 at HC1 ⊢
  generalize szVds ds = m2 at HC2 ⊢
  generalize szTxs dn = m3 at HC3 ⊢
  generalize szLss ls = m4 at HC4 ⊢
  generalize ns.length = t0 at HC0 ⊢
  generalize its.length = t1 at HC1 ⊢
  generalize ds.length = t2 at HC2 ⊢
  generalize dn.length = t3 at HC3 ⊢
  generalize ls.length = t4 at HC4 ⊢
  obtain ⟨res, hres⟩ : ∃ q, leftT (m0 + (m1 + (m2 + (m3 + m4)))) s = q := ⟨_, rfl⟩
  rw [hres]
  have HRES : Hid _ := hres
  clear hres
  go_enter Tryz.func13, Tryz.ntmps13
  go_wp2_with fail
  refine Calls.mono (HC0.out s _ (by omega) (Below.newH _)) ?_
  rintro e w2 ⟨rfl, b_⟩
  have B0 := hide2 ((Below.newH (w := w) _).trans (b_.mono (by simp)))
  have V0 := hide2 (VarA.step (VarA.new w 43 #[.int .i64 id_, .int .i64 bo, .int .i64 nx, .slice s0 t0 p0, .slice s1 t1 p1, .slice s2 t2 p2, .slice s3 t3 p3, .slice s4 t4 p4]) b_)
  clear b_
  by_cases h0 : m0 ≤ s
  · obtain ⟨u0, hu0⟩ : ∃ t : Nat, s - m0 = t := ⟨_, rfl⟩
    have hl : leftT m0 s = (u0 : Int) := by unfold leftT; rw [if_pos h0]; omega
    rw [hl]
    clear hl
    have HQ0 : Hid (leftT (m1 + (m2 + (m3 + m4))) u0 = res) := by have h := HRES.out; rw [left_add, if_pos h0, hu0] at h; exact h
    have hb0 : u0 ≤ 1048576 := by omega
    clear HRES hu0 hs h0
    have c_ := V0.out.c 4 rfl
    go_wp2_with fail
    clear c_
    refine Calls.mono (HC1.out u0 _ (by omega) B0.out) ?_
    rintro e w3 ⟨rfl, b_⟩
    have B1 := hide2 (B0.out.trans (b_.mono B0.out.size))
    have V1 := hide2 (V0.out.step b_)
    clear b_ B0 V0
    by_cases h1 : m1 ≤ u0
    · obtain ⟨u1, hu1⟩ : ∃ t : Nat, u0 - m1 = t := ⟨_, rfl⟩
      have hl : leftT m1 u0 = (u1 : Int) := by unfold leftT; rw [if_pos h1]; omega
      rw [hl]
      clear hl
      have HQ1 : Hid (leftT (m2 + (m3 + m4)) u1 = res) := by have h := HQ0.out; rw [left_add, if_pos h1, hu1] at h; exact h
      have hb1 : u1 ≤ 1048576 := by omega
      clear HQ0 hu1 hb0 h1
      have c_ := V1.out.c 5 rfl
      go_wp2_with fail
      clear c_
      refine Calls.mono (HC2.out u1 _ (by omega) B1.out) ?_
      rintro e w4 ⟨rfl, b_⟩
      have B2 := hide2 (B1.out.trans (b_.mono B1.out.size))
      have V2 := hide2 (V1.out.step b_)
      clear b_ B1 V1
      by_cases h2 : m2 ≤ u1
      · obtain ⟨u2, hu2⟩ : ∃ t : Nat, u1 - m2 = t := ⟨_, rfl⟩
        have hl : leftT m2 u1 = (u2 : Int) := by unfold leftT; rw [if_pos h2]; omega
        rw [hl]
        clear hl
        have HQ2 : Hid (leftT (m3 + m4) u2 = res) := by have h := HQ1.out; rw [left_add, if_pos h2, hu2] at h; exact h
        have hb2 : u2 ≤ 1048576 := by omega
        clear HQ1 hu2 hb1 h2
        have c_ := V2.out.c 6 rfl
        go_wp2_with fail
        clear c_
        refine Calls.mono (HC3.out u2 _ (by omega) B2.out) ?_
        rintro e w5 ⟨rfl, b_⟩
        have B3 := hide2 (B2.out.trans (b_.mono B2.out.size))
        have V3 := hide2 (V2.out.step b_)
        clear b_ B2 V2
        by_cases h3 : m3 ≤ u2
        · obtain ⟨u3, hu3⟩ : ∃ t : Nat, u2 - m3 = t := ⟨_, rfl⟩
          have hl : leftT m3 u2 = (u3 : Int) := by unfold leftT; rw [if_pos h3]; omega
          rw [hl]
          clear hl
          have HQ3 : Hid (leftT m4 u3 = res) := by have h := HQ2.out; rw [left_add, if_pos h3, hu3] at h; exact h
          have hb3 : u3 ≤ 1048576 := by omega
          clear HQ2 hu3 hb2 h3
          have c_ := V3.out.c 7 rfl
          go_wp2_with fail
          clear c_
          refine Calls.mono (HC4.out u3 _ (by omega) B3.out) ?_
          rintro e w6 ⟨rfl, b_⟩
          have B4 := hide2 (B3.out.trans (b_.mono B3.out.size))
          have V4 := hide2 (V3.out.step b_)
          clear b_ B3 V3
          by_cases h4 : m4 ≤ u3
          · obtain ⟨u4, hu4⟩ : ∃ t : Nat, u3 - m4 = t := ⟨_, rfl⟩
            have hl : leftT m4 u3 = (u4 : Int) := by unfold leftT; rw [if_pos h4]; omega
            rw [hl]
            clear hl
            have HF : Hid ((u4 : Int) = res) := by have h := HQ3.out; unfold leftT at h; rw [if_pos h4] at h; show _ = _; omega
            go_wp2
            go_ret
            exact ⟨by rw [HF.out]; rfl, B4.out⟩
          · have hl : leftT m4 u3 = -1 := by unfold leftT; rw [if_neg h4]
            rw [hl]
            clear hl
            have HF : Hid (-1 = res) := by have h := HQ3.out; unfold leftT at h; rw [if_neg h4] at h; exact h
            go_wp2
            go_ret
            exact ⟨by rw [← HF.out]; rfl, B4.out⟩
        · have hl : leftT m3 u2 = -1 := by unfold leftT; rw [if_neg h3]
          rw [hl]
          clear hl
          have HF : Hid (-1 = res) := by have h := HQ2.out; rw [left_add, if_neg h3] at h; exact h
          go_wp2
          go_ret
          exact ⟨by rw [← HF.out]; rfl, B3.out⟩
      · have hl : leftT m2 u1 = -1 := by unfold leftT; rw [if_neg h2]
        rw [hl]
        clear hl
        have HF : Hid (-1 = res) := by have h := HQ1.out; rw [left_add, if_neg h2] at h; exact h
        go_wp2
        go_ret
        exact ⟨by rw [← HF.out]; rfl, B2.out⟩
    · have hl : leftT m1 u0 = -1 := by unfold leftT; rw [if_neg h1]
      rw [hl]
      clear hl
      have HF : Hid (-1 = res) := by have h := HQ0.out; rw [left_add, if_neg h1] at h; exact h
      go_wp2
      go_ret
      exact ⟨by rw [← HF.out]; rfl, B1.out⟩
  · have hl : leftT m0 s = -1 := by unfold leftT; rw [if_neg h0]
    rw [hl]
    clear hl
    have HF : Hid (-1 = res) := by have h := HRES.out; rw [left_add, if_neg h0] at h; exact h
    go_wp2
    go_ret
    exact ⟨by rw [← HF.out]; rfl, B0.out⟩

set_option maxHeartbeats 4000000 in
theorem szShardS_d (v : Value) (l : List ShD) (S : Nat → Prop) (s : Nat) (w : World) (hs : s ≤ 1048576) (r : RdV w S v (shsDt l)) :
    Calls Tryz.prog 4 #[v, .int .i64 s] w fun e w' => e = .returned (.int .i64 (leftT (szShs l) s)) ∧ Below w.heap.size w w' := by
  obtain ⟨a, cap, rfl, hm⟩ := RdV.sliced r
  have HR : Hid (∀ W, Below w.heap.size w W → RdV W S (.slice a l.length cap) (shsDt l)) := r.old
  have HD : Hid (shsDt l = .rows 49 8 l.length (fun i j => shCell (l[i]?.getD sh0) j)) := rfl
  have HX : Hid (szShs l = l.length + psum (fun e : ShD => szSh e) l l.length) := by show _ = _; rw [psum_all]; rfl
  have HU : Hid (∀ j, j < l.length → psum (fun e : ShD => szSh e) l (j + 1) = psum (fun e : ShD => szSh e) l j + (fun e : ShD => szSh e) (l[j]?.getD sh0) ∧ psum (fun e : ShD => szSh e) l (j + 1) ≤ psum (fun e : ShD => szSh e) l l.length) := fun j hj => ⟨psum_next _ l _ j hj, by rw [psum_all]; exact psum_le _ l _⟩
  unfold maxLen at hm
  clear r
  rw [HD.out] at HR
  clear HD
  rw [HX.out]
  clear HX
  have HZ0 : Hid (psum (fun e : ShD => szSh e) l 0 = 0) := psum_zero _ _
  generalize psum (fun e : ShD => szSh e) l = P at HU HZ0 ⊢
  generalize l.length = n at hm HR HU ⊢
  by_cases hle : n ≤ s
  · go_enter Tryz.func4, Tryz.ntmps4
    go_wp2
    go_loopw [1, 5] (fun q i wr => ∃ j t : Nat, j ≤ n ∧ i = .int .i64 j ∧ q = .int .i64 t ∧ t ≤ s ∧ Hid (t + (n + P j) = s) ∧ Below w.heap.size w wr) (fun _ i _ => n - (intOf i).toNat)
    case atStart => exact ⟨0, s - n, Nat.zero_le _, rfl, by go_num, by omega, by show _ = _; rw [HZ0.out]; omega, Below.refl _ _⟩
    case round =>
      obtain ⟨j, t, hj, rfl, rfl, ht, HS, hbel⟩ := hrel
      by_cases hlt : j < n
      · obtain ⟨b, off, rfl, hbl, _, hx⟩ := RdV.at (HR.out wr hbel) hlt
        obtain ⟨hu1, hu2⟩ := HU.out j hlt
        obtain ⟨e, he⟩ : ∃ e, l[j]?.getD sh0 = e := ⟨_, rfl⟩
        obtain ⟨x0, c0, r0⟩ := hx 0 (by omega)
        obtain ⟨x1, c1, r1⟩ := hx 1 (by omega)
        obtain ⟨x2, c2, r2⟩ := hx 2 (by omega)
        obtain ⟨x3, c3, r3⟩ := hx 3 (by omega)
        obtain ⟨x4, c4, r4⟩ := hx 4 (by omega)
        obtain ⟨x5, c5, r5⟩ := hx 5 (by omega)
        obtain ⟨x6, c6, r6⟩ := hx 6 (by omega)
        obtain ⟨x7, c7, r7⟩ := hx 7 (by omega)
        rw [he] at hu1 r0 r1 r2 r3 r4 r5 r6 r7
        clear hx he
        obtain ⟨id_, bo, nx, ns, its, ds, dn, ls⟩ := e
        obtain rfl : x0 = .int .i64 id_ := r0
        obtain rfl : x1 = .int .i64 bo := r1
        obtain rfl : x2 = .int .i64 nx := r2
        simp only [Nat.add_zero] at c0
        try dsimp only at hu1
        have RS3 : Hid (RdV wr S x3 (ndsDt ns)) := r3
        clear r3
        obtain ⟨xa3, xc3, rfl, _⟩ := RdV.sliced RS3.out
        have RS4 : Hid (RdV wr S x4 (itsDt its)) := r4
        clear r4
        obtain ⟨xa4, xc4, rfl, _⟩ := RdV.sliced RS4.out
        have RS5 : Hid (RdV wr S x5 (vdsDt ds)) := r5
        clear r5
        obtain ⟨xa5, xc5, rfl, _⟩ := RdV.sliced RS5.out
        have RS6 : Hid (RdV wr S x6 (txsDt dn)) := r6
        clear r6
        obtain ⟨xa6, xc6, rfl, _⟩ := RdV.sliced RS6.out
        have RS7 : Hid (RdV wr S x7 (lssDt ls)) := r7
        clear r7
        obtain ⟨xa7, xc7, rfl, _⟩ := RdV.sliced RS7.out
        have HSZ : Hid _ := szShard_d _ _ _ _ _ ⟨id_, bo, nx, ns, its, ds, dn, ls⟩ S t wr (by omega) ⟨RS3.out, RS4.out, RS5.out, RS6.out, RS7.out⟩
        try dsimp only at HSZ
        clear RS3 RS4 RS5 RS6 RS7
        generalize szSh ⟨id_, bo, nx, ns, its, ds, dn, ls⟩ = m at hu1 HSZ
        generalize ns.length = xn3 at HSZ c3
        generalize its.length = xn4 at HSZ c4
        generalize ds.length = xn5 at HSZ c5
        generalize dn.length = xn6 at HSZ c6
        generalize ls.length = xn7 at HSZ c7
        have hws := hbel.size
        by_cases hmt : m ≤ t
        · have hl : leftT m t = (t : Int) - m := by unfold leftT; rw [if_pos hmt]
          rw [hl] at HSZ
          have HF : Hid (t - m + (n + P (j + 1)) = s) := by show _ = _; have := HS.out; omega
          clear hl hu1 hu2 HS
          go_wp2_with fail
          refine Calls.mono HSZ.out ?_
          rintro e w2 ⟨rfl, hb2⟩
          go_wp2
          go_roundw
          case rel => exact ⟨j + 1, t - m, by omega, by go_num, by go_num, by omega, HF, hbel.trans (hb2.mono hws)⟩
          case measure => simp [intOf]; omega
        · have hl : leftT m t = -1 := by unfold leftT; rw [if_neg hmt]
          rw [hl] at HSZ
          have HF : Hid (leftT (n + P n) s = -1) := by show _ = _; unfold leftT; rw [if_neg (by have := HS.out; omega)]
          clear hl hu1 hu2 HS
          go_wp2_with fail
          refine Calls.mono HSZ.out ?_
          rintro e w2 ⟨rfl, hb2⟩
          go_wp2
          go_ret
          exact ⟨by rw [HF.out]; rfl, hbel.trans (hb2.mono hws)⟩
      · have hjn : j = n := by omega
        subst hjn
        have HF : Hid (leftT (j + P j) s = (t : Int)) := by have := HS.out; show _ = _; unfold leftT; rw [if_pos (by omega)]; omega
        go_wp2
        go_ret
        exact ⟨by rw [HF.out]; rfl, hbel⟩
  · have HF : Hid (leftT (n + P n) s = -1) := by show _ = _; unfold leftT; rw [if_neg (by omega)]
    clear HU HR
    go_enter Tryz.func4, Tryz.ntmps4
    go_wp2
    go_ret
    exact ⟨by rw [HF.out]; rfl, Below.refl _ _⟩

end Go.Proofs.YtoaocjkapoemnaaGreat
