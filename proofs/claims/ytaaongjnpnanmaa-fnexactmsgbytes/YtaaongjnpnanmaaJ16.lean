/- Joined: WPut1 WVal WPut2. -/
import Derived.Test.YtaaongjnpnanmaaJ15
import Derived.Test.YtaaongjnpnanmaaJ05

section
/- The program's put, rank by rank. Condition: no more than 2^20 bytes. -/
namespace Go.Proofs.Ytaaongjnpnanmaa
open Go.RowKit
set_option linter.unusedVariables false
set_option linter.unusedSimpArgs false
set_option maxRecDepth 100000

theorem sumB_le (vs : List (Value × List Int)) (k : Nat) : (sumB vs k).length ≤ (sumB vs vs.length).length := by
  unfold sumB
  rw [List.take_length]
  have h : vs.flatMap (·.2) = (vs.take k).flatMap (·.2) ++ (vs.drop k).flatMap (·.2) := by rw [← List.flatMap_append, List.take_append_drop]
  rw [h, List.length_append]; omega
/-- put does as it should with what is of rank n. -/
def PutC (n : Nat) : Prop := ∀ (v : Value) (xs : List Int) (vs : List (Value × List Int)) (g : Nat) (S : Nat → Prop) (w : World), RdV w S v (.bytes xs) → PutL n w g vs → 1 ≤ vs.length → vs.length ≤ 100 → xs.length + (sumB vs vs.length).length ≤ 1800000 → Ap 85 #[v, .slice (some ⟨g, 0, none⟩) vs.length vs.length] w (xs ++ sumB vs vs.length)
theorem heap_new2 (W : World) (x y : Obj) : ((W.alloc x).alloc y).heap[W.heap.size + 1]? = some y := by
  rw [show W.heap.size + 1 = (W.alloc x).heap.size from by simp]; exact heap_alloc_new _ _
theorem PutV.i (n : Nat) (w : World) (k : Int) : PutV n w (.iface 3 (.int .i64 k)) (putB k) := .inl ⟨k, rfl, rfl⟩
theorem PutV.t (n : Nat) {w : World} {S : Nat → Prop} {x : Value} {ts : List Int} (r : RdV w S x (.bytes ts)) (h : ts.length ≤ 1048576) : PutV n w (.iface 41 x) (textB ts) := .inr (.inl ⟨x, ts, rfl, r.mono (fun _ _ => trivial), h, rfl⟩)
theorem PutV.f (n : Nat) (w : World) (d : Bool) : PutV n w (.iface 4 (.bool d)) (flagB d) := .inr (.inr (.inl ⟨d, rfl, rfl⟩))
theorem PutV.h {n : Nat} (w : World) (hn : 1 ≤ n) (h : Hd) : PutV n w (.iface 46 h.v) (hdB h) := .inr (.inr (.inr (.inl ⟨hn, h, rfl, rfl⟩)))
theorem PutV.e {n : Nat} (w : World) (hn : 2 ≤ n) {S : Nat → Prop} {x : Value} {l : List En} (r : RdV w S x (ensDt l)) (h : szEns l ≤ 1048576) (h2 : l.length ≤ 12) : PutV n w (.iface 57 x) (putB l.length ++ ensB l) := .inr (.inr (.inr (.inr (.inr (.inr (.inr (.inl ⟨hn, l, x, rfl, r.mono (fun _ _ => trivial), h, h2, rfl⟩)))))))
def PVs (n : Nat) (w : World) (vs : List (Value × List Int)) : Prop := ∀ i, i < vs.length → PutV n w (vs[i]?.getD (undef, [])).1 (vs[i]?.getD (undef, [])).2
theorem PVs.nil {n : Nat} {w : World} : PVs n w [] := fun i h => absurd h (Nat.not_lt_zero _)
theorem PVs.cons {n : Nat} {w : World} {v : Value} {zs : List Int} {vs : List (Value × List Int)} (h : PutV n w v zs) (t : PVs n w vs) : PVs n w ((v, zs) :: vs) := by
  intro i hi
  cases i with
  | zero => exact h
  | succ j => simpa using t j (by simpa using hi)
theorem PutC.at {m : Nat} (h : PutC m) (v : Value) (xs : List Int) (vs : List (Value × List Int)) (zs : List Int) (g : Nat) (S : Nat → Prop) (w : World) (r : RdV w S v (.bytes xs)) (hz : vs.flatMap (·.2) = zs) (hb : w.heap[g]? = some (.cells (vs.map (·.1)).toArray 20 (0, 0))) (hv : PVs m w vs) (h1 : 1 ≤ vs.length) (h100 : vs.length ≤ 100) (hl : xs.length + zs.length ≤ 1800000) : Ap 85 #[v, .slice (some ⟨g, 0, none⟩) vs.length vs.length] w (xs ++ zs) := by
  have e : sumB vs vs.length = zs := by unfold sumB; rw [List.take_length]; exact hz
  have := h v xs vs g S w r ⟨hb, hv⟩ h1 h100 (by rw [e]; exact hl)
  rwa [e] at this
def EntC : Prop := ∀ (v x : Value) (xs : List Int) (l : List En) (S S2 : Nat → Prop) (w : World), RdV w S v (.bytes xs) → RdV w S2 x (ensDt l) → szEns l ≤ 1048576 → l.length ≤ 12 → xs.length + (putB l.length ++ ensB l).length ≤ 1800000 → Ap 113 #[v, x] w (xs ++ (putB l.length ++ ensB l))
set_option maxHeartbeats 8000000 in
theorem put_up (n : Nat) (IH : ∀ k, k < n → PutC k) (HEN : 2 ≤ n → EntC) : PutC n := by
  intro v xs vs g S w r hp h1 h100 hl
  have HP : Hid (∀ W, Below w.heap.size w W → PutL n W g vs) := fun W hW => hp.step hW
  have HR0 : Hid (RdV w (fun _ => True) v (.bytes xs)) := r.mono (fun _ _ => trivial)
  have HNXT : Hid (∀ k, k < vs.length → sumB vs (k + 1) = sumB vs k ++ (vs[k]?.getD (undef, [])).2) := fun k hk => sumB_next vs k hk
  have HLE : Hid (∀ k, (sumB vs k).length ≤ (sumB vs vs.length).length) := sumB_le vs
  have hgl : g < w.heap.size := lt_of_block hp.1
  have HZ0 : Hid (isBytes xs) := r.b.reads.choose_spec.choose_spec.2.2.1
  obtain ⟨zz, hzz⟩ : ∃ zz, sumB vs vs.length = zz := ⟨_, rfl⟩
  obtain ⟨n0, hn⟩ : ∃ n0, vs.length = n0 := ⟨_, rfl⟩
  have HZZ : Hid (sumB vs n0 = zz) := by show _ = _; rw [← hn]; exact hzz
  rw [hzz] at hl HLE ⊢
  rw [hn] at HNXT h1 h100 ⊢
  have HNN : Hid _ := hn
  clear r hp hzz hn
  go_enter Try.func85, Try.ntmps85
  go_wp2
  go_loopw [0, 18] (fun q' i wr => ∃ (k : Nat) (u : Value), k ≤ n0 ∧ i = .int .i64 k ∧ u = q' ∧ Hid (RdV wr (fun _ => True) u (.bytes (xs ++ sumB vs k))) ∧ Hid (k = 0 ∨ Owns wr w.heap.size u (xs ++ sumB vs k)) ∧ Hid (Below w.heap.size w wr)) (fun _ i _ => n0 - (intOf i).toNat)
  case atStart => exact ⟨0, v, Nat.zero_le _, rfl, rfl, by show RdV _ _ _ _; simpa [sumB] using HR0.out, .inl rfl, Below.refl _ _⟩
  case round =>
    obtain ⟨k, u, hk, rfl, rfl, HRD, HOW, hbel⟩ := hrel
    have hws := hbel.out.size
    by_cases hlt : k < n0
    case neg =>
      have he : k = n0 := by omega
      have HOK : Hid (Owns wr w.heap.size u (xs ++ zz)) := by
        show Owns _ _ _ _
        rcases HOW.out with h | h
        · omega
        · rw [he, HZZ.out] at h; exact h
      have HZO : Hid (isBytes (xs ++ zz)) := by
        have := HRD.out.b.reads.choose_spec.choose_spec.2.2.1
        rw [he, HZZ.out] at this; exact this
      clear HRD HOW
      go_wp2
      go_ret
      exact ⟨_, rfl, HZO.out, HOK.out, hbel.out⟩
    have HPW := HP.out wr hbel.out
    have hV := HPW.2 k (by rw [HNN.out]; exact hlt)
    have HNX : Hid (sumB vs (k + 1) = sumB vs k ++ (vs[k]?.getD (undef, [])).2) := HNXT.out k hlt
    have hln := HLE.out k
    have hln2 := HLE.out (k + 1)
    have ck : wr.cell? ⟨g, k, none⟩ = some (vs[k]?.getD (undef, [])).1 := by
      rw [cell_of_row _ _ _ _ _ _ HPW.1]
      have hk' : k < vs.length := by rw [HNN.out]; exact hlt
      simp [hk']
    clear HPW
    generalize vs[k]?.getD (undef, []) = ev at hV HNX ck
    obtain ⟨ev1, ev2⟩ := ev
    dsimp only at hV HNX ck
    have hxl : (xs ++ sumB vs k).length ≤ 1800000 := by rw [List.length_append]; omega
    have hxl2 : (xs ++ sumB vs k).length + ev2.length ≤ 1800000 := by rw [HNX.out, List.length_append] at hln2; rw [List.length_append]; omega
    rcases hV with h | h | h | h | h | h | h | h | h
    · obtain ⟨kk, rfl, rfl⟩ := h
      have hM0 := fun v W => assert_hit (t := 3) (xT := 20) Try.underlying3 rfl v W
      go_wp2_with fail
      refine Calls.mono (implPutR u (xs ++ sumB vs k) kk _ _ HRD.out (by omega)) ?_
      rintro e w2 ⟨v1, rfl, z1, o1, b_⟩
      have HR2 : Hid (RdV w2 (fun _ => True) v1 (.bytes (xs ++ sumB vs (k + 1)))) := by rw [HNX.out, ← List.append_assoc]; exact o1.rdT z1
      have HO2 : Hid (k + 1 = 0 ∨ Owns w2 w.heap.size v1 (xs ++ sumB vs (k + 1))) := .inr (by rw [HNX.out, ← List.append_assoc]; exact o1.base (b' := w.heap.size) (by first | exact hws | (simp; omega)))
      have HB2 : Hid (Below w.heap.size w w2) := hbel.out.trans (Below.mono (Below.trans (by repeat (first | exact Below.refl _ _ | refine Below.al2 ?_ _ | refine Below.drew ?_ | refine below_drewN2 ?_ _)) (b_.mono (by first | exact Nat.le_refl _ | (simp; omega)))) hws)
      clear HRD HOW hbel z1 o1 b_
      go_wp2
      refine ⟨?_, ?_⟩
      · exact ⟨k + 1, v1, by omega, by go_num, rfl, HR2, HO2, HB2⟩
      · simp [intOf]; omega
    · obtain ⟨x, ts, rfl, hx, hts, rfl⟩ := h
      have hM0 := fun v W => assert_miss (t := 41) (a := 3) (xT := 20) (z := .int .i64 0) Try.underlying3 rfl (by decide) (by kernel_rfl) v W
      have hM1 := fun v W => assert_hit (t := 41) (xT := 20) Try.underlying41 rfl v W
      go_wp2_with fail
      refine Calls.mono (implTextR u x (xs ++ sumB vs k) ts _ _ _ HRD.out hx (by omega) (by omega)) ?_
      rintro e w2 ⟨v1, rfl, z1, o1, b_⟩
      have HR2 : Hid (RdV w2 (fun _ => True) v1 (.bytes (xs ++ sumB vs (k + 1)))) := by rw [HNX.out, ← List.append_assoc]; exact o1.rdT z1
      have HO2 : Hid (k + 1 = 0 ∨ Owns w2 w.heap.size v1 (xs ++ sumB vs (k + 1))) := .inr (by rw [HNX.out, ← List.append_assoc]; exact o1.base (b' := w.heap.size) (by first | exact hws | (simp; omega)))
      have HB2 : Hid (Below w.heap.size w w2) := hbel.out.trans (Below.mono (Below.trans (by repeat (first | exact Below.refl _ _ | refine Below.al2 ?_ _ | refine Below.drew ?_ | refine below_drewN2 ?_ _)) (b_.mono (by first | exact Nat.le_refl _ | (simp; omega)))) hws)
      clear HRD HOW hbel z1 o1 b_
      go_wp2
      refine ⟨?_, ?_⟩
      · exact ⟨k + 1, v1, by omega, by go_num, rfl, HR2, HO2, HB2⟩
      · simp [intOf]; omega
    · obtain ⟨d, rfl, rfl⟩ := h
      have hM0 := fun v W => assert_miss (t := 4) (a := 3) (xT := 20) (z := .int .i64 0) Try.underlying3 rfl (by decide) (by kernel_rfl) v W
      have hM1 := fun v W => assert_miss (t := 4) (a := 41) (xT := 20) (z := .slice none 0 0) Try.underlying41 rfl (by decide) (by kernel_rfl) v W
      have hM2 := fun v W => assert_hit (t := 4) (xT := 20) Try.underlying4 rfl v W
      go_wp2_with fail
      refine Calls.mono (implFlagR u (xs ++ sumB vs k) d _ _ HRD.out (by omega)) ?_
      rintro e w2 ⟨v1, rfl, z1, o1, b_⟩
      have HR2 : Hid (RdV w2 (fun _ => True) v1 (.bytes (xs ++ sumB vs (k + 1)))) := by rw [HNX.out, ← List.append_assoc]; exact o1.rdT z1
      have HO2 : Hid (k + 1 = 0 ∨ Owns w2 w.heap.size v1 (xs ++ sumB vs (k + 1))) := .inr (by rw [HNX.out, ← List.append_assoc]; exact o1.base (b' := w.heap.size) (by first | exact hws | (simp; omega)))
      have HB2 : Hid (Below w.heap.size w w2) := hbel.out.trans (Below.mono (Below.trans (by repeat (first | exact Below.refl _ _ | refine Below.al2 ?_ _ | refine Below.drew ?_ | refine below_drewN2 ?_ _)) (b_.mono (by first | exact Nat.le_refl _ | (simp; omega)))) hws)
      clear HRD HOW hbel z1 o1 b_
      go_wp2
      refine ⟨?_, ?_⟩
      · exact ⟨k + 1, v1, by omega, by go_num, rfl, HR2, HO2, HB2⟩
      · simp [intOf]; omega
    · obtain ⟨hn1, hh, rfl, rfl⟩ := h
      have hM0 := fun v W => assert_miss (t := 46) (a := 3) (xT := 20) (z := .int .i64 0) Try.underlying3 rfl (by decide) (by kernel_rfl) v W
      have hM1 := fun v W => assert_miss (t := 46) (a := 41) (xT := 20) (z := .slice none 0 0) Try.underlying41 rfl (by decide) (by kernel_rfl) v W
      have hM2 := fun v W => assert_miss (t := 46) (a := 4) (xT := 20) (z := .bool false) Try.underlying4 rfl (by decide) (by kernel_rfl) v W
      have hM3 := fun v W => assert_hit (t := 46) (xT := 20) Try.underlying46 rfl v W
      have HPC := (IH 0 (by omega)).at
      go_wp2_with fail
      refine Calls.mono (HPC u (xs ++ sumB vs k) [(.iface 3 (.int .i64 hh.sh), putB hh.sh), (.iface 3 (.int .i64 hh.ino), putB hh.ino), (.iface 4 (.bool hh.dir), flagB hh.dir)] (hdB hh) (wr.heap.size + 1) (fun _ => True) _ ?ra3 ?rb3 ?rc3 ?rd3 ?re3 ?rf3 ?rg3) ?_
      case ra3 => exact HRD.out.step (by repeat (first | exact Below.refl _ _ | refine Below.al2 ?_ _ | refine Below.drew ?_ | refine below_drewN2 ?_ _))
      case rb3 => simp [hdB]
      case rc3 => exact heap_new2 _ _ _
      case rd3 => exact (PVs.cons (PutV.i _ _ _) (PVs.cons (PutV.i _ _ _) (PVs.cons (PutV.f _ _ _) PVs.nil)))
      case re3 => simp
      case rf3 => simp
      case rg3 => exact hxl2
      rintro e w2 ⟨v1, rfl, z1, o1, b_⟩
      have HR2 : Hid (RdV w2 (fun _ => True) v1 (.bytes (xs ++ sumB vs (k + 1)))) := by rw [HNX.out, ← List.append_assoc]; exact o1.rdT z1
      have HO2 : Hid (k + 1 = 0 ∨ Owns w2 w.heap.size v1 (xs ++ sumB vs (k + 1))) := .inr (by rw [HNX.out, ← List.append_assoc]; exact o1.base (b' := w.heap.size) (by first | exact hws | (simp; omega)))
      have HB2 : Hid (Below w.heap.size w w2) := hbel.out.trans (Below.mono (Below.trans (by repeat (first | exact Below.refl _ _ | refine Below.al2 ?_ _ | refine Below.drew ?_ | refine below_drewN2 ?_ _)) (b_.mono (by first | exact Nat.le_refl _ | (simp; omega)))) hws)
      clear HRD HOW hbel z1 o1 b_
      go_wp2
      refine ⟨?_, ?_⟩
      · exact ⟨k + 1, v1, by omega, by go_num, rfl, HR2, HO2, HB2⟩
      · simp [intOf]; omega
    · obtain ⟨hn1, ⟨t1, t2, t3⟩, rfl, rfl⟩ := h
      have hM0 := fun v W => assert_miss (t := 36) (a := 3) (xT := 20) (z := .int .i64 0) Try.underlying3 rfl (by decide) (by kernel_rfl) v W
      have hM1 := fun v W => assert_miss (t := 36) (a := 41) (xT := 20) (z := .slice none 0 0) Try.underlying41 rfl (by decide) (by kernel_rfl) v W
      have hM2 := fun v W => assert_miss (t := 36) (a := 4) (xT := 20) (z := .bool false) Try.underlying4 rfl (by decide) (by kernel_rfl) v W
      have hM3 := fun v W => assert_miss (t := 36) (a := 46) (xT := 20) (z := .agg #[.int .i64 0, .int .i64 0, .bool false]) Try.underlying46 rfl (by decide) (by kernel_rfl) v W
      have hM4 := fun v W => assert_miss (t := 36) (a := 70) (xT := 20) (z := .agg #[.int .i64 0, .int .i64 0, .int .i64 0, .bool false, .slice none 0 0, .int .i64 0, .int .i64 0, .bool false, .slice none 0 0, .int .i64 0]) Try.underlying70 rfl (by decide) (by kernel_rfl) v W
      have hM5 := fun v W => assert_miss (t := 36) (a := 57) (xT := 20) (z := .slice none 0 0) Try.underlying57 rfl (by decide) (by kernel_rfl) v W
      have hM6 := fun v W => assert_miss (t := 36) (a := 59) (xT := 20) (z := .agg #[.int .i64 0, .int .i64 0, .int .i64 0, .bool false, .int .i64 0, .slice none 0 0]) Try.underlying59 rfl (by decide) (by kernel_rfl) v W
      have hM7 := fun v W => assert_hit (t := 36) (xT := 20) Try.underlying36 rfl v W
      have HPC := (IH 0 (by omega)).at
      go_wp2_with fail
      refine Calls.mono (HPC u (xs ++ sumB vs k) [(.iface 3 (.int .i64 t1), putB t1), (.iface 3 (.int .i64 t2), putB t2), (.iface 3 (.int .i64 t3), putB t3)] (txB (t1, t2, t3)) (wr.heap.size + 1) (fun _ => True) _ ?ra7 ?rb7 ?rc7 ?rd7 ?re7 ?rf7 ?rg7) ?_
      case ra7 => exact HRD.out.step (by repeat (first | exact Below.refl _ _ | refine Below.al2 ?_ _ | refine Below.drew ?_ | refine below_drewN2 ?_ _))
      case rb7 => simp [txB]
      case rc7 => exact heap_new2 _ _ _
      case rd7 => exact (PVs.cons (PutV.i _ _ _) (PVs.cons (PutV.i _ _ _) (PVs.cons (PutV.i _ _ _) PVs.nil)))
      case re7 => simp
      case rf7 => simp
      case rg7 => exact hxl2
      rintro e w2 ⟨v1, rfl, z1, o1, b_⟩
      have HR2 : Hid (RdV w2 (fun _ => True) v1 (.bytes (xs ++ sumB vs (k + 1)))) := by rw [HNX.out, ← List.append_assoc]; exact o1.rdT z1
      have HO2 : Hid (k + 1 = 0 ∨ Owns w2 w.heap.size v1 (xs ++ sumB vs (k + 1))) := .inr (by rw [HNX.out, ← List.append_assoc]; exact o1.base (b' := w.heap.size) (by first | exact hws | (simp; omega)))
      have HB2 : Hid (Below w.heap.size w w2) := hbel.out.trans (Below.mono (Below.trans (by repeat (first | exact Below.refl _ _ | refine Below.al2 ?_ _ | refine Below.drew ?_ | refine below_drewN2 ?_ _)) (b_.mono (by first | exact Nat.le_refl _ | (simp; omega)))) hws)
      clear HRD HOW hbel z1 o1 b_
      go_wp2
      refine ⟨?_, ?_⟩
      · exact ⟨k + 1, v1, by omega, by go_num, rfl, HR2, HO2, HB2⟩
      · simp [intOf]; omega
    · obtain ⟨hn1, o, x, y, rfl, r1, r2, l1, l2, rfl⟩ := h
      obtain ⟨ax, cx, rfl⟩ := r1.sliceB
      have Hr1 : Hid (RdV wr (fun _ => True) (.slice ax o.nm.length cx) (.bytes o.nm)) := r1
      clear r1
      obtain ⟨ay, cy, rfl⟩ := r2.sliceB
      have Hr2 : Hid (RdV wr (fun _ => True) (.slice ay o.asn.length cy) (.bytes o.asn)) := r2
      clear r2
      have hM0 := fun v W => assert_miss (t := 70) (a := 3) (xT := 20) (z := .int .i64 0) Try.underlying3 rfl (by decide) (by kernel_rfl) v W
      have hM1 := fun v W => assert_miss (t := 70) (a := 41) (xT := 20) (z := .slice none 0 0) Try.underlying41 rfl (by decide) (by kernel_rfl) v W
      have hM2 := fun v W => assert_miss (t := 70) (a := 4) (xT := 20) (z := .bool false) Try.underlying4 rfl (by decide) (by kernel_rfl) v W
      have hM3 := fun v W => assert_miss (t := 70) (a := 46) (xT := 20) (z := .agg #[.int .i64 0, .int .i64 0, .bool false]) Try.underlying46 rfl (by decide) (by kernel_rfl) v W
      have hM4 := fun v W => assert_hit (t := 70) (xT := 20) Try.underlying70 rfl v W
      have HPC := (IH 1 (by omega)).at
      go_wp2_with fail
      refine Calls.mono (HPC u (xs ++ sumB vs k) [(.iface 3 (.int .i64 o.kind), putB o.kind), (.iface 46 (o.dir).v, hdB o.dir), (.iface 41 (.slice ax o.nm.length cx), textB o.nm), (.iface 46 (o.to).v, hdB o.to), (.iface 41 (.slice ay o.asn.length cy), textB o.asn), (.iface 3 (.int .i64 o.val), putB o.val)] (opB o) (wr.heap.size + 1) (fun _ => True) _ ?ra4 ?rb4 ?rc4 ?rd4 ?re4 ?rf4 ?rg4) ?_
      case ra4 => exact HRD.out.step (by repeat (first | exact Below.refl _ _ | refine Below.al2 ?_ _ | refine Below.drew ?_ | refine below_drewN2 ?_ _))
      case rb4 => simp [opB]
      case rc4 => exact heap_new2 _ _ _
      case rd4 => exact (PVs.cons (PutV.i _ _ _) (PVs.cons (PutV.h _ (by omega) _) (PVs.cons (PutV.t _ (Hr1.out.step (by repeat (first | exact Below.refl _ _ | refine Below.al2 ?_ _ | refine Below.drew ?_ | refine below_drewN2 ?_ _))) l1) (PVs.cons (PutV.h _ (by omega) _) (PVs.cons (PutV.t _ (Hr2.out.step (by repeat (first | exact Below.refl _ _ | refine Below.al2 ?_ _ | refine Below.drew ?_ | refine below_drewN2 ?_ _))) l2) (PVs.cons (PutV.i _ _ _) PVs.nil))))))
      case re4 => simp
      case rf4 => simp
      case rg4 => exact hxl2
      rintro e w2 ⟨v1, rfl, z1, o1, b_⟩
      have HR2 : Hid (RdV w2 (fun _ => True) v1 (.bytes (xs ++ sumB vs (k + 1)))) := by rw [HNX.out, ← List.append_assoc]; exact o1.rdT z1
      have HO2 : Hid (k + 1 = 0 ∨ Owns w2 w.heap.size v1 (xs ++ sumB vs (k + 1))) := .inr (by rw [HNX.out, ← List.append_assoc]; exact o1.base (b' := w.heap.size) (by first | exact hws | (simp; omega)))
      have HB2 : Hid (Below w.heap.size w w2) := hbel.out.trans (Below.mono (Below.trans (by repeat (first | exact Below.refl _ _ | refine Below.al2 ?_ _ | refine Below.drew ?_ | refine below_drewN2 ?_ _)) (b_.mono (by first | exact Nat.le_refl _ | (simp; omega)))) hws)
      clear HRD HOW hbel z1 o1 b_
      go_wp2
      refine ⟨?_, ?_⟩
      · exact ⟨k + 1, v1, by omega, by go_num, rfl, HR2, HO2, HB2⟩
      · simp [intOf]; omega
    · obtain ⟨hn1, o, x, rfl, r1, l1, rfl⟩ := h
      obtain ⟨ax, cx, rfl⟩ := r1.sliceB
      have Hr1 : Hid (RdV wr (fun _ => True) (.slice ax o.asn.length cx) (.bytes o.asn)) := r1
      clear r1
      have hM0 := fun v W => assert_miss (t := 48) (a := 3) (xT := 20) (z := .int .i64 0) Try.underlying3 rfl (by decide) (by kernel_rfl) v W
      have hM1 := fun v W => assert_miss (t := 48) (a := 41) (xT := 20) (z := .slice none 0 0) Try.underlying41 rfl (by decide) (by kernel_rfl) v W
      have hM2 := fun v W => assert_miss (t := 48) (a := 4) (xT := 20) (z := .bool false) Try.underlying4 rfl (by decide) (by kernel_rfl) v W
      have hM3 := fun v W => assert_miss (t := 48) (a := 46) (xT := 20) (z := .agg #[.int .i64 0, .int .i64 0, .bool false]) Try.underlying46 rfl (by decide) (by kernel_rfl) v W
      have hM4 := fun v W => assert_miss (t := 48) (a := 70) (xT := 20) (z := .agg #[.int .i64 0, .int .i64 0, .int .i64 0, .bool false, .slice none 0 0, .int .i64 0, .int .i64 0, .bool false, .slice none 0 0, .int .i64 0]) Try.underlying70 rfl (by decide) (by kernel_rfl) v W
      have hM5 := fun v W => assert_miss (t := 48) (a := 57) (xT := 20) (z := .slice none 0 0) Try.underlying57 rfl (by decide) (by kernel_rfl) v W
      have hM6 := fun v W => assert_miss (t := 48) (a := 59) (xT := 20) (z := .agg #[.int .i64 0, .int .i64 0, .int .i64 0, .bool false, .int .i64 0, .slice none 0 0]) Try.underlying59 rfl (by decide) (by kernel_rfl) v W
      have hM7 := fun v W => assert_miss (t := 48) (a := 36) (xT := 20) (z := .agg #[.int .i64 0, .int .i64 0, .int .i64 0]) Try.underlying36 rfl (by decide) (by kernel_rfl) v W
      have hM8 := fun v W => assert_hit (t := 48) (xT := 20) Try.underlying48 rfl v W
      have HPC := (IH 1 (by omega)).at
      go_wp2_with fail
      refine Calls.mono (HPC u (xs ++ sumB vs k) [(.iface 3 (.int .i64 o.kind), putB o.kind), (.iface 46 (o.h).v, hdB o.h), (.iface 41 (.slice ax o.asn.length cx), textB o.asn), (.iface 46 (o.to).v, hdB o.to)] (ptB o) (wr.heap.size + 1) (fun _ => True) _ ?ra8 ?rb8 ?rc8 ?rd8 ?re8 ?rf8 ?rg8) ?_
      case ra8 => exact HRD.out.step (by repeat (first | exact Below.refl _ _ | refine Below.al2 ?_ _ | refine Below.drew ?_ | refine below_drewN2 ?_ _))
      case rb8 => simp [ptB]
      case rc8 => exact heap_new2 _ _ _
      case rd8 => exact (PVs.cons (PutV.i _ _ _) (PVs.cons (PutV.h _ (by omega) _) (PVs.cons (PutV.t _ (Hr1.out.step (by repeat (first | exact Below.refl _ _ | refine Below.al2 ?_ _ | refine Below.drew ?_ | refine below_drewN2 ?_ _))) l1) (PVs.cons (PutV.h _ (by omega) _) PVs.nil))))
      case re8 => simp
      case rf8 => simp
      case rg8 => exact hxl2
      rintro e w2 ⟨v1, rfl, z1, o1, b_⟩
      have HR2 : Hid (RdV w2 (fun _ => True) v1 (.bytes (xs ++ sumB vs (k + 1)))) := by rw [HNX.out, ← List.append_assoc]; exact o1.rdT z1
      have HO2 : Hid (k + 1 = 0 ∨ Owns w2 w.heap.size v1 (xs ++ sumB vs (k + 1))) := .inr (by rw [HNX.out, ← List.append_assoc]; exact o1.base (b' := w.heap.size) (by first | exact hws | (simp; omega)))
      have HB2 : Hid (Below w.heap.size w w2) := hbel.out.trans (Below.mono (Below.trans (by repeat (first | exact Below.refl _ _ | refine Below.al2 ?_ _ | refine Below.drew ?_ | refine below_drewN2 ?_ _)) (b_.mono (by first | exact Nat.le_refl _ | (simp; omega)))) hws)
      clear HRD HOW hbel z1 o1 b_
      go_wp2
      refine ⟨?_, ?_⟩
      · exact ⟨k + 1, v1, by omega, by go_num, rfl, HR2, HO2, HB2⟩
      · simp [intOf]; omega
    · obtain ⟨hn1, l, x, rfl, r1, l1, l2, rfl⟩ := h
      have hM0 := fun v W => assert_miss (t := 57) (a := 3) (xT := 20) (z := .int .i64 0) Try.underlying3 rfl (by decide) (by kernel_rfl) v W
      have hM1 := fun v W => assert_miss (t := 57) (a := 41) (xT := 20) (z := .slice none 0 0) Try.underlying41 rfl (by decide) (by kernel_rfl) v W
      have hM2 := fun v W => assert_miss (t := 57) (a := 4) (xT := 20) (z := .bool false) Try.underlying4 rfl (by decide) (by kernel_rfl) v W
      have hM3 := fun v W => assert_miss (t := 57) (a := 46) (xT := 20) (z := .agg #[.int .i64 0, .int .i64 0, .bool false]) Try.underlying46 rfl (by decide) (by kernel_rfl) v W
      have hM4 := fun v W => assert_miss (t := 57) (a := 70) (xT := 20) (z := .agg #[.int .i64 0, .int .i64 0, .int .i64 0, .bool false, .slice none 0 0, .int .i64 0, .int .i64 0, .bool false, .slice none 0 0, .int .i64 0]) Try.underlying70 rfl (by decide) (by kernel_rfl) v W
      have hM5 := fun v W => assert_hit (t := 57) (xT := 20) Try.underlying57 rfl v W
      go_wp2_with fail
      refine Calls.mono (HEN hn1 u x (xs ++ sumB vs k) l _ _ _ HRD.out r1 l1 l2 hxl2) ?_
      rintro e w2 ⟨v1, rfl, z1, o1, b_⟩
      have HR2 : Hid (RdV w2 (fun _ => True) v1 (.bytes (xs ++ sumB vs (k + 1)))) := by rw [HNX.out, ← List.append_assoc]; exact o1.rdT z1
      have HO2 : Hid (k + 1 = 0 ∨ Owns w2 w.heap.size v1 (xs ++ sumB vs (k + 1))) := .inr (by rw [HNX.out, ← List.append_assoc]; exact o1.base (b' := w.heap.size) (by first | exact hws | (simp; omega)))
      have HB2 : Hid (Below w.heap.size w w2) := hbel.out.trans (Below.mono (Below.trans (by repeat (first | exact Below.refl _ _ | refine Below.al2 ?_ _ | refine Below.drew ?_ | refine below_drewN2 ?_ _)) (b_.mono (by first | exact Nat.le_refl _ | (simp; omega)))) hws)
      clear HRD HOW hbel z1 o1 b_
      go_wp2
      refine ⟨?_, ?_⟩
      · exact ⟨k + 1, v1, by omega, by go_num, rfl, HR2, HO2, HB2⟩
      · simp [intOf]; omega
    · obtain ⟨hn1, o, x, rfl, r1, l1, l2, rfl⟩ := h
      obtain ⟨ax, cx, rfl, _⟩ := r1.sliced
      have Hr1 : Hid (RdV wr (fun _ => True) (.slice ax o.list.length cx) (ensDt o.list)) := r1
      clear r1
      have hM0 := fun v W => assert_miss (t := 59) (a := 3) (xT := 20) (z := .int .i64 0) Try.underlying3 rfl (by decide) (by kernel_rfl) v W
      have hM1 := fun v W => assert_miss (t := 59) (a := 41) (xT := 20) (z := .slice none 0 0) Try.underlying41 rfl (by decide) (by kernel_rfl) v W
      have hM2 := fun v W => assert_miss (t := 59) (a := 4) (xT := 20) (z := .bool false) Try.underlying4 rfl (by decide) (by kernel_rfl) v W
      have hM3 := fun v W => assert_miss (t := 59) (a := 46) (xT := 20) (z := .agg #[.int .i64 0, .int .i64 0, .bool false]) Try.underlying46 rfl (by decide) (by kernel_rfl) v W
      have hM4 := fun v W => assert_miss (t := 59) (a := 70) (xT := 20) (z := .agg #[.int .i64 0, .int .i64 0, .int .i64 0, .bool false, .slice none 0 0, .int .i64 0, .int .i64 0, .bool false, .slice none 0 0, .int .i64 0]) Try.underlying70 rfl (by decide) (by kernel_rfl) v W
      have hM5 := fun v W => assert_miss (t := 59) (a := 57) (xT := 20) (z := .slice none 0 0) Try.underlying57 rfl (by decide) (by kernel_rfl) v W
      have hM6 := fun v W => assert_hit (t := 59) (xT := 20) Try.underlying59 rfl v W
      have HPC := (IH 2 (by omega)).at
      go_wp2_with fail
      refine Calls.mono (HPC u (xs ++ sumB vs k) [(.iface 3 (.int .i64 o.code), putB o.code), (.iface 46 (o.h).v, hdB o.h), (.iface 3 (.int .i64 o.val), putB o.val), (.iface 57 (.slice ax o.list.length cx), putB (o.list).length ++ ensB o.list)] (rpB o) (wr.heap.size + 1) (fun _ => True) _ ?ra6 ?rb6 ?rc6 ?rd6 ?re6 ?rf6 ?rg6) ?_
      case ra6 => exact HRD.out.step (by repeat (first | exact Below.refl _ _ | refine Below.al2 ?_ _ | refine Below.drew ?_ | refine below_drewN2 ?_ _))
      case rb6 => simp [rpB]
      case rc6 => exact heap_new2 _ _ _
      case rd6 => exact (PVs.cons (PutV.i _ _ _) (PVs.cons (PutV.h _ (by omega) _) (PVs.cons (PutV.i _ _ _) (PVs.cons (PutV.e _ (by omega) (Hr1.out.step (by repeat (first | exact Below.refl _ _ | refine Below.al2 ?_ _ | refine Below.drew ?_ | refine below_drewN2 ?_ _))) l1 l2) PVs.nil))))
      case re6 => simp
      case rf6 => simp
      case rg6 => exact hxl2
      rintro e w2 ⟨v1, rfl, z1, o1, b_⟩
      have HR2 : Hid (RdV w2 (fun _ => True) v1 (.bytes (xs ++ sumB vs (k + 1)))) := by rw [HNX.out, ← List.append_assoc]; exact o1.rdT z1
      have HO2 : Hid (k + 1 = 0 ∨ Owns w2 w.heap.size v1 (xs ++ sumB vs (k + 1))) := .inr (by rw [HNX.out, ← List.append_assoc]; exact o1.base (b' := w.heap.size) (by first | exact hws | (simp; omega)))
      have HB2 : Hid (Below w.heap.size w w2) := hbel.out.trans (Below.mono (Below.trans (by repeat (first | exact Below.refl _ _ | refine Below.al2 ?_ _ | refine Below.drew ?_ | refine below_drewN2 ?_ _)) (b_.mono (by first | exact Nat.le_refl _ | (simp; omega)))) hws)
      clear HRD HOW hbel z1 o1 b_
      go_wp2
      refine ⟨?_, ?_⟩
      · exact ⟨k + 1, v1, by omega, by go_num, rfl, HR2, HO2, HB2⟩
      · simp [intOf]; omega
end Go.Proofs.Ytaaongjnpnanmaa
end

section
/- What the program writes of a message, kind by kind; no condition. -/
namespace Go.Proofs.Ytaaongjnpnanmaa
open Go.RowKit
set_option linter.unusedVariables false
set_option linter.unusedSimpArgs false
set_option maxRecDepth 100000

set_option maxHeartbeats 4000000 in
theorem values0 (m : MsD) (a1 a2 a3 a4 : Option Addr) (n1 n2 n3 n4 c1 c2 c3 c4 : Nat) (w : World) :
    Calls Try.prog 86 #[.iface 141 (.agg #[.int .i64 m.req, .int .i64 m.op.kind, .int .i64 m.op.dir.sh, .int .i64 m.op.dir.ino, .bool m.op.dir.dir, .slice a1 n1 c1, .int .i64 m.op.to.sh, .int .i64 m.op.to.ino, .bool m.op.to.dir, .slice a2 n2 c2, .int .i64 m.op.val])] w fun e w' => ∃ g, e = .returned (.slice (some ⟨g, 0, none⟩) 2 2) ∧ w'.heap[g]? = some (.cells #[.iface 3 (.int .i64 m.req), .iface 70 (.agg #[.int .i64 m.op.kind, .int .i64 m.op.dir.sh, .int .i64 m.op.dir.ino, .bool m.op.dir.dir, .slice a1 n1 c1, .int .i64 m.op.to.sh, .int .i64 m.op.to.ino, .bool m.op.to.dir, .slice a2 n2 c2, .int .i64 m.op.val])] 20 (0, 0)) ∧ Below w.heap.size w w' := by
  obtain ⟨kd, fr, to, rq, ⟨ok, ⟨op_, oq, od⟩, nm, ⟨tp, tq, td⟩, asn, ov⟩, ⟨rc, ⟨rp_, rq_, rd⟩, rv, es⟩, ⟨xs, xb, xn⟩, ⟨pk, ⟨pp, pq, pd⟩, pas, ⟨sp, sq, sd⟩⟩, cd, ⟨hp, hq, hd⟩⟩ := m
  dsimp only
  have hM0 := fun v W => assert_hit (t := 141) (xT := 110) Try.underlying141 rfl v W
  go_enter Try.func86, Try.ntmps86
  go_wp2
  go_ret
  exact ⟨_, rfl, by first | exact heap_alloc_new _ _ | exact heap_new2 _ _ _ | (simp [World.drew]; done), (by repeat (first | exact Below.refl _ _ | refine Below.al ?_ _ | refine Below.drew ?_ | refine below_drewN2 ?_ _))⟩
set_option maxHeartbeats 4000000 in
theorem values1 (m : MsD) (a1 a2 a3 a4 : Option Addr) (n1 n2 n3 n4 c1 c2 c3 c4 : Nat) (w : World) :
    Calls Try.prog 86 #[.iface 143 (.agg #[.int .i64 m.req, .int .i64 m.rp.code, .int .i64 m.rp.h.sh, .int .i64 m.rp.h.ino, .bool m.rp.h.dir, .int .i64 m.rp.val, .slice a3 n3 c3])] w fun e w' => ∃ g, e = .returned (.slice (some ⟨g, 0, none⟩) 2 2) ∧ w'.heap[g]? = some (.cells #[.iface 3 (.int .i64 m.req), .iface 59 (.agg #[.int .i64 m.rp.code, .int .i64 m.rp.h.sh, .int .i64 m.rp.h.ino, .bool m.rp.h.dir, .int .i64 m.rp.val, .slice a3 n3 c3])] 20 (0, 0)) ∧ Below w.heap.size w w' := by
  obtain ⟨kd, fr, to, rq, ⟨ok, ⟨op_, oq, od⟩, nm, ⟨tp, tq, td⟩, asn, ov⟩, ⟨rc, ⟨rp_, rq_, rd⟩, rv, es⟩, ⟨xs, xb, xn⟩, ⟨pk, ⟨pp, pq, pd⟩, pas, ⟨sp, sq, sd⟩⟩, cd, ⟨hp, hq, hd⟩⟩ := m
  dsimp only
  have hM0 := fun v W => assert_miss (t := 143) (a := 141) (xT := 110) (z := .agg #[.int .i64 0, .int .i64 0, .int .i64 0, .int .i64 0, .bool false, .slice none 0 0, .int .i64 0, .int .i64 0, .bool false, .slice none 0 0, .int .i64 0]) Try.underlying141 rfl (by decide) (by kernel_rfl) v W
  have hM1 := fun v W => assert_hit (t := 143) (xT := 110) Try.underlying143 rfl v W
  go_enter Try.func86, Try.ntmps86
  go_wp2
  go_ret
  exact ⟨_, rfl, by first | exact heap_alloc_new _ _ | exact heap_new2 _ _ _ | (simp [World.drew]; done), (by repeat (first | exact Below.refl _ _ | refine Below.al ?_ _ | refine Below.drew ?_ | refine below_drewN2 ?_ _))⟩
set_option maxHeartbeats 4000000 in
theorem values2 (m : MsD) (a1 a2 a3 a4 : Option Addr) (n1 n2 n3 n4 c1 c2 c3 c4 : Nat) (w : World) :
    Calls Try.prog 86 #[.iface 145 (.agg #[.int .i64 m.tx.1, .int .i64 m.tx.2.1, .int .i64 m.tx.2.2, .int .i64 m.pt.kind, .int .i64 m.pt.h.sh, .int .i64 m.pt.h.ino, .bool m.pt.h.dir, .slice a4 n4 c4, .int .i64 m.pt.to.sh, .int .i64 m.pt.to.ino, .bool m.pt.to.dir])] w fun e w' => ∃ g, e = .returned (.slice (some ⟨g, 0, none⟩) 2 2) ∧ w'.heap[g]? = some (.cells #[.iface 36 (.agg #[.int .i64 m.tx.1, .int .i64 m.tx.2.1, .int .i64 m.tx.2.2]), .iface 48 (.agg #[.int .i64 m.pt.kind, .int .i64 m.pt.h.sh, .int .i64 m.pt.h.ino, .bool m.pt.h.dir, .slice a4 n4 c4, .int .i64 m.pt.to.sh, .int .i64 m.pt.to.ino, .bool m.pt.to.dir])] 20 (0, 0)) ∧ Below w.heap.size w w' := by
  obtain ⟨kd, fr, to, rq, ⟨ok, ⟨op_, oq, od⟩, nm, ⟨tp, tq, td⟩, asn, ov⟩, ⟨rc, ⟨rp_, rq_, rd⟩, rv, es⟩, ⟨xs, xb, xn⟩, ⟨pk, ⟨pp, pq, pd⟩, pas, ⟨sp, sq, sd⟩⟩, cd, ⟨hp, hq, hd⟩⟩ := m
  dsimp only
  have hM0 := fun v W => assert_miss (t := 145) (a := 141) (xT := 110) (z := .agg #[.int .i64 0, .int .i64 0, .int .i64 0, .int .i64 0, .bool false, .slice none 0 0, .int .i64 0, .int .i64 0, .bool false, .slice none 0 0, .int .i64 0]) Try.underlying141 rfl (by decide) (by kernel_rfl) v W
  have hM1 := fun v W => assert_miss (t := 145) (a := 143) (xT := 110) (z := .agg #[.int .i64 0, .int .i64 0, .int .i64 0, .int .i64 0, .bool false, .int .i64 0, .slice none 0 0]) Try.underlying143 rfl (by decide) (by kernel_rfl) v W
  have hM2 := fun v W => assert_hit (t := 145) (xT := 110) Try.underlying145 rfl v W
  go_enter Try.func86, Try.ntmps86
  go_wp2
  go_ret
  exact ⟨_, rfl, by first | exact heap_alloc_new _ _ | exact heap_new2 _ _ _ | (simp [World.drew]; done), (by repeat (first | exact Below.refl _ _ | refine Below.al ?_ _ | refine Below.drew ?_ | refine below_drewN2 ?_ _))⟩
set_option maxHeartbeats 4000000 in
theorem values3 (m : MsD) (a1 a2 a3 a4 : Option Addr) (n1 n2 n3 n4 c1 c2 c3 c4 : Nat) (w : World) :
    Calls Try.prog 86 #[.iface 147 (.agg #[.int .i64 m.tx.1, .int .i64 m.tx.2.1, .int .i64 m.tx.2.2, .int .i64 m.pt.kind, .int .i64 m.pt.h.sh, .int .i64 m.pt.h.ino, .bool m.pt.h.dir, .slice a4 n4 c4, .int .i64 m.pt.to.sh, .int .i64 m.pt.to.ino, .bool m.pt.to.dir, .int .i64 m.code, .int .i64 m.h.sh, .int .i64 m.h.ino, .bool m.h.dir])] w fun e w' => ∃ g, e = .returned (.slice (some ⟨g, 0, none⟩) 4 4) ∧ w'.heap[g]? = some (.cells #[.iface 36 (.agg #[.int .i64 m.tx.1, .int .i64 m.tx.2.1, .int .i64 m.tx.2.2]), .iface 48 (.agg #[.int .i64 m.pt.kind, .int .i64 m.pt.h.sh, .int .i64 m.pt.h.ino, .bool m.pt.h.dir, .slice a4 n4 c4, .int .i64 m.pt.to.sh, .int .i64 m.pt.to.ino, .bool m.pt.to.dir]), .iface 3 (.int .i64 m.code), .iface 46 (.agg #[.int .i64 m.h.sh, .int .i64 m.h.ino, .bool m.h.dir])] 20 (0, 0)) ∧ Below w.heap.size w w' := by
  obtain ⟨kd, fr, to, rq, ⟨ok, ⟨op_, oq, od⟩, nm, ⟨tp, tq, td⟩, asn, ov⟩, ⟨rc, ⟨rp_, rq_, rd⟩, rv, es⟩, ⟨xs, xb, xn⟩, ⟨pk, ⟨pp, pq, pd⟩, pas, ⟨sp, sq, sd⟩⟩, cd, ⟨hp, hq, hd⟩⟩ := m
  dsimp only
  have hM0 := fun v W => assert_miss (t := 147) (a := 141) (xT := 110) (z := .agg #[.int .i64 0, .int .i64 0, .int .i64 0, .int .i64 0, .bool false, .slice none 0 0, .int .i64 0, .int .i64 0, .bool false, .slice none 0 0, .int .i64 0]) Try.underlying141 rfl (by decide) (by kernel_rfl) v W
  have hM1 := fun v W => assert_miss (t := 147) (a := 143) (xT := 110) (z := .agg #[.int .i64 0, .int .i64 0, .int .i64 0, .int .i64 0, .bool false, .int .i64 0, .slice none 0 0]) Try.underlying143 rfl (by decide) (by kernel_rfl) v W
  have hM2 := fun v W => assert_miss (t := 147) (a := 145) (xT := 110) (z := .agg #[.int .i64 0, .int .i64 0, .int .i64 0, .int .i64 0, .int .i64 0, .int .i64 0, .bool false, .slice none 0 0, .int .i64 0, .int .i64 0, .bool false]) Try.underlying145 rfl (by decide) (by kernel_rfl) v W
  have hM3 := fun v W => assert_hit (t := 147) (xT := 110) Try.underlying147 rfl v W
  go_enter Try.func86, Try.ntmps86
  go_wp2
  go_ret
  exact ⟨_, rfl, by first | exact heap_alloc_new _ _ | exact heap_new2 _ _ _ | (simp [World.drew]; done), (by repeat (first | exact Below.refl _ _ | refine Below.al ?_ _ | refine Below.drew ?_ | refine below_drewN2 ?_ _))⟩
set_option maxHeartbeats 4000000 in
theorem values4 (m : MsD) (a1 a2 a3 a4 : Option Addr) (n1 n2 n3 n4 c1 c2 c3 c4 : Nat) (w : World) :
    Calls Try.prog 86 #[.iface 149 (.agg #[.int .i64 m.tx.1, .int .i64 m.tx.2.1, .int .i64 m.tx.2.2])] w fun e w' => ∃ g, e = .returned (.slice (some ⟨g, 0, none⟩) 1 1) ∧ w'.heap[g]? = some (.cells #[.iface 36 (.agg #[.int .i64 m.tx.1, .int .i64 m.tx.2.1, .int .i64 m.tx.2.2])] 20 (0, 0)) ∧ Below w.heap.size w w' := by
  obtain ⟨kd, fr, to, rq, ⟨ok, ⟨op_, oq, od⟩, nm, ⟨tp, tq, td⟩, asn, ov⟩, ⟨rc, ⟨rp_, rq_, rd⟩, rv, es⟩, ⟨xs, xb, xn⟩, ⟨pk, ⟨pp, pq, pd⟩, pas, ⟨sp, sq, sd⟩⟩, cd, ⟨hp, hq, hd⟩⟩ := m
  dsimp only
  have hM0 := fun v W => assert_miss (t := 149) (a := 141) (xT := 110) (z := .agg #[.int .i64 0, .int .i64 0, .int .i64 0, .int .i64 0, .bool false, .slice none 0 0, .int .i64 0, .int .i64 0, .bool false, .slice none 0 0, .int .i64 0]) Try.underlying141 rfl (by decide) (by kernel_rfl) v W
  have hM1 := fun v W => assert_miss (t := 149) (a := 143) (xT := 110) (z := .agg #[.int .i64 0, .int .i64 0, .int .i64 0, .int .i64 0, .bool false, .int .i64 0, .slice none 0 0]) Try.underlying143 rfl (by decide) (by kernel_rfl) v W
  have hM2 := fun v W => assert_miss (t := 149) (a := 145) (xT := 110) (z := .agg #[.int .i64 0, .int .i64 0, .int .i64 0, .int .i64 0, .int .i64 0, .int .i64 0, .bool false, .slice none 0 0, .int .i64 0, .int .i64 0, .bool false]) Try.underlying145 rfl (by decide) (by kernel_rfl) v W
  have hM3 := fun v W => assert_miss (t := 149) (a := 147) (xT := 110) (z := .agg #[.int .i64 0, .int .i64 0, .int .i64 0, .int .i64 0, .int .i64 0, .int .i64 0, .bool false, .slice none 0 0, .int .i64 0, .int .i64 0, .bool false, .int .i64 0, .int .i64 0, .int .i64 0, .bool false]) Try.underlying147 rfl (by decide) (by kernel_rfl) v W
  have hM4 := fun v W => assert_hit (t := 149) (xT := 110) Try.underlying149 rfl v W
  go_enter Try.func86, Try.ntmps86
  go_wp2
  go_ret
  exact ⟨_, rfl, by first | exact heap_alloc_new _ _ | exact heap_new2 _ _ _ | (simp [World.drew]; done), (by repeat (first | exact Below.refl _ _ | refine Below.al ?_ _ | refine Below.drew ?_ | refine below_drewN2 ?_ _))⟩
set_option maxHeartbeats 4000000 in
theorem values5 (m : MsD) (a1 a2 a3 a4 : Option Addr) (n1 n2 n3 n4 c1 c2 c3 c4 : Nat) (w : World) :
    Calls Try.prog 86 #[.iface 151 (.agg #[.int .i64 m.tx.1, .int .i64 m.tx.2.1, .int .i64 m.tx.2.2, .int .i64 m.code])] w fun e w' => ∃ g, e = .returned (.slice (some ⟨g, 0, none⟩) 2 2) ∧ w'.heap[g]? = some (.cells #[.iface 36 (.agg #[.int .i64 m.tx.1, .int .i64 m.tx.2.1, .int .i64 m.tx.2.2]), .iface 3 (.int .i64 m.code)] 20 (0, 0)) ∧ Below w.heap.size w w' := by
  obtain ⟨kd, fr, to, rq, ⟨ok, ⟨op_, oq, od⟩, nm, ⟨tp, tq, td⟩, asn, ov⟩, ⟨rc, ⟨rp_, rq_, rd⟩, rv, es⟩, ⟨xs, xb, xn⟩, ⟨pk, ⟨pp, pq, pd⟩, pas, ⟨sp, sq, sd⟩⟩, cd, ⟨hp, hq, hd⟩⟩ := m
  dsimp only
  have hM0 := fun v W => assert_miss (t := 151) (a := 141) (xT := 110) (z := .agg #[.int .i64 0, .int .i64 0, .int .i64 0, .int .i64 0, .bool false, .slice none 0 0, .int .i64 0, .int .i64 0, .bool false, .slice none 0 0, .int .i64 0]) Try.underlying141 rfl (by decide) (by kernel_rfl) v W
  have hM1 := fun v W => assert_miss (t := 151) (a := 143) (xT := 110) (z := .agg #[.int .i64 0, .int .i64 0, .int .i64 0, .int .i64 0, .bool false, .int .i64 0, .slice none 0 0]) Try.underlying143 rfl (by decide) (by kernel_rfl) v W
  have hM2 := fun v W => assert_miss (t := 151) (a := 145) (xT := 110) (z := .agg #[.int .i64 0, .int .i64 0, .int .i64 0, .int .i64 0, .int .i64 0, .int .i64 0, .bool false, .slice none 0 0, .int .i64 0, .int .i64 0, .bool false]) Try.underlying145 rfl (by decide) (by kernel_rfl) v W
  have hM3 := fun v W => assert_miss (t := 151) (a := 147) (xT := 110) (z := .agg #[.int .i64 0, .int .i64 0, .int .i64 0, .int .i64 0, .int .i64 0, .int .i64 0, .bool false, .slice none 0 0, .int .i64 0, .int .i64 0, .bool false, .int .i64 0, .int .i64 0, .int .i64 0, .bool false]) Try.underlying147 rfl (by decide) (by kernel_rfl) v W
  have hM4 := fun v W => assert_miss (t := 151) (a := 149) (xT := 110) (z := .agg #[.int .i64 0, .int .i64 0, .int .i64 0]) Try.underlying149 rfl (by decide) (by kernel_rfl) v W
  have hM5 := fun v W => assert_hit (t := 151) (xT := 110) Try.underlying151 rfl v W
  go_enter Try.func86, Try.ntmps86
  go_wp2
  go_ret
  exact ⟨_, rfl, by first | exact heap_alloc_new _ _ | exact heap_new2 _ _ _ | (simp [World.drew]; done), (by repeat (first | exact Below.refl _ _ | refine Below.al ?_ _ | refine Below.drew ?_ | refine below_drewN2 ?_ _))⟩
set_option maxHeartbeats 4000000 in
theorem values6 (m : MsD) (a1 a2 a3 a4 : Option Addr) (n1 n2 n3 n4 c1 c2 c3 c4 : Nat) (w : World) :
    Calls Try.prog 86 #[.iface 153 (.agg #[.int .i64 m.tx.1, .int .i64 m.tx.2.1, .int .i64 m.tx.2.2, .int .i64 m.req, .int .i64 m.h.sh, .int .i64 m.h.ino, .bool m.h.dir])] w fun e w' => ∃ g, e = .returned (.slice (some ⟨g, 0, none⟩) 3 3) ∧ w'.heap[g]? = some (.cells #[.iface 36 (.agg #[.int .i64 m.tx.1, .int .i64 m.tx.2.1, .int .i64 m.tx.2.2]), .iface 3 (.int .i64 m.req), .iface 46 (.agg #[.int .i64 m.h.sh, .int .i64 m.h.ino, .bool m.h.dir])] 20 (0, 0)) ∧ Below w.heap.size w w' := by
  obtain ⟨kd, fr, to, rq, ⟨ok, ⟨op_, oq, od⟩, nm, ⟨tp, tq, td⟩, asn, ov⟩, ⟨rc, ⟨rp_, rq_, rd⟩, rv, es⟩, ⟨xs, xb, xn⟩, ⟨pk, ⟨pp, pq, pd⟩, pas, ⟨sp, sq, sd⟩⟩, cd, ⟨hp, hq, hd⟩⟩ := m
  dsimp only
  have hM0 := fun v W => assert_miss (t := 153) (a := 141) (xT := 110) (z := .agg #[.int .i64 0, .int .i64 0, .int .i64 0, .int .i64 0, .bool false, .slice none 0 0, .int .i64 0, .int .i64 0, .bool false, .slice none 0 0, .int .i64 0]) Try.underlying141 rfl (by decide) (by kernel_rfl) v W
  have hM1 := fun v W => assert_miss (t := 153) (a := 143) (xT := 110) (z := .agg #[.int .i64 0, .int .i64 0, .int .i64 0, .int .i64 0, .bool false, .int .i64 0, .slice none 0 0]) Try.underlying143 rfl (by decide) (by kernel_rfl) v W
  have hM2 := fun v W => assert_miss (t := 153) (a := 145) (xT := 110) (z := .agg #[.int .i64 0, .int .i64 0, .int .i64 0, .int .i64 0, .int .i64 0, .int .i64 0, .bool false, .slice none 0 0, .int .i64 0, .int .i64 0, .bool false]) Try.underlying145 rfl (by decide) (by kernel_rfl) v W
  have hM3 := fun v W => assert_miss (t := 153) (a := 147) (xT := 110) (z := .agg #[.int .i64 0, .int .i64 0, .int .i64 0, .int .i64 0, .int .i64 0, .int .i64 0, .bool false, .slice none 0 0, .int .i64 0, .int .i64 0, .bool false, .int .i64 0, .int .i64 0, .int .i64 0, .bool false]) Try.underlying147 rfl (by decide) (by kernel_rfl) v W
  have hM4 := fun v W => assert_miss (t := 153) (a := 149) (xT := 110) (z := .agg #[.int .i64 0, .int .i64 0, .int .i64 0]) Try.underlying149 rfl (by decide) (by kernel_rfl) v W
  have hM5 := fun v W => assert_miss (t := 153) (a := 151) (xT := 110) (z := .agg #[.int .i64 0, .int .i64 0, .int .i64 0, .int .i64 0]) Try.underlying151 rfl (by decide) (by kernel_rfl) v W
  have hM6 := fun v W => assert_hit (t := 153) (xT := 110) Try.underlying153 rfl v W
  go_enter Try.func86, Try.ntmps86
  go_wp2
  go_ret
  exact ⟨_, rfl, by first | exact heap_alloc_new _ _ | exact heap_new2 _ _ _ | (simp [World.drew]; done), (by repeat (first | exact Below.refl _ _ | refine Below.al ?_ _ | refine Below.drew ?_ | refine below_drewN2 ?_ _))⟩
set_option maxHeartbeats 4000000 in
theorem values7 (m : MsD) (a1 a2 a3 a4 : Option Addr) (n1 n2 n3 n4 c1 c2 c3 c4 : Nat) (w : World) :
    Calls Try.prog 86 #[.iface 155 (.agg #[.int .i64 m.tx.1, .int .i64 m.tx.2.1, .int .i64 m.tx.2.2, .int .i64 m.req, .int .i64 m.code, .int .i64 m.h.sh, .int .i64 m.h.ino, .bool m.h.dir])] w fun e w' => ∃ g, e = .returned (.slice (some ⟨g, 0, none⟩) 4 4) ∧ w'.heap[g]? = some (.cells #[.iface 36 (.agg #[.int .i64 m.tx.1, .int .i64 m.tx.2.1, .int .i64 m.tx.2.2]), .iface 3 (.int .i64 m.req), .iface 3 (.int .i64 m.code), .iface 46 (.agg #[.int .i64 m.h.sh, .int .i64 m.h.ino, .bool m.h.dir])] 20 (0, 0)) ∧ Below w.heap.size w w' := by
  obtain ⟨kd, fr, to, rq, ⟨ok, ⟨op_, oq, od⟩, nm, ⟨tp, tq, td⟩, asn, ov⟩, ⟨rc, ⟨rp_, rq_, rd⟩, rv, es⟩, ⟨xs, xb, xn⟩, ⟨pk, ⟨pp, pq, pd⟩, pas, ⟨sp, sq, sd⟩⟩, cd, ⟨hp, hq, hd⟩⟩ := m
  dsimp only
  have hM0 := fun v W => assert_miss (t := 155) (a := 141) (xT := 110) (z := .agg #[.int .i64 0, .int .i64 0, .int .i64 0, .int .i64 0, .bool false, .slice none 0 0, .int .i64 0, .int .i64 0, .bool false, .slice none 0 0, .int .i64 0]) Try.underlying141 rfl (by decide) (by kernel_rfl) v W
  have hM1 := fun v W => assert_miss (t := 155) (a := 143) (xT := 110) (z := .agg #[.int .i64 0, .int .i64 0, .int .i64 0, .int .i64 0, .bool false, .int .i64 0, .slice none 0 0]) Try.underlying143 rfl (by decide) (by kernel_rfl) v W
  have hM2 := fun v W => assert_miss (t := 155) (a := 145) (xT := 110) (z := .agg #[.int .i64 0, .int .i64 0, .int .i64 0, .int .i64 0, .int .i64 0, .int .i64 0, .bool false, .slice none 0 0, .int .i64 0, .int .i64 0, .bool false]) Try.underlying145 rfl (by decide) (by kernel_rfl) v W
  have hM3 := fun v W => assert_miss (t := 155) (a := 147) (xT := 110) (z := .agg #[.int .i64 0, .int .i64 0, .int .i64 0, .int .i64 0, .int .i64 0, .int .i64 0, .bool false, .slice none 0 0, .int .i64 0, .int .i64 0, .bool false, .int .i64 0, .int .i64 0, .int .i64 0, .bool false]) Try.underlying147 rfl (by decide) (by kernel_rfl) v W
  have hM4 := fun v W => assert_miss (t := 155) (a := 149) (xT := 110) (z := .agg #[.int .i64 0, .int .i64 0, .int .i64 0]) Try.underlying149 rfl (by decide) (by kernel_rfl) v W
  have hM5 := fun v W => assert_miss (t := 155) (a := 151) (xT := 110) (z := .agg #[.int .i64 0, .int .i64 0, .int .i64 0, .int .i64 0]) Try.underlying151 rfl (by decide) (by kernel_rfl) v W
  have hM6 := fun v W => assert_miss (t := 155) (a := 153) (xT := 110) (z := .agg #[.int .i64 0, .int .i64 0, .int .i64 0, .int .i64 0, .int .i64 0, .int .i64 0, .bool false]) Try.underlying153 rfl (by decide) (by kernel_rfl) v W
  have hM7 := fun v W => assert_hit (t := 155) (xT := 110) Try.underlying155 rfl v W
  go_enter Try.func86, Try.ntmps86
  go_wp2
  go_ret
  exact ⟨_, rfl, by first | exact heap_alloc_new _ _ | exact heap_new2 _ _ _ | (simp [World.drew]; done), (by repeat (first | exact Below.refl _ _ | refine Below.al ?_ _ | refine Below.drew ?_ | refine below_drewN2 ?_ _))⟩
end Go.Proofs.Ytaaongjnpnanmaa
end

section
/- The program's putEntries. Condition: no more than 2^20 bytes. -/
namespace Go.Proofs.Ytaaongjnpnanmaa
open Go.RowKit
set_option linter.unusedVariables false
set_option linter.unusedSimpArgs false
set_option maxRecDepth 100000

theorem ensB_mono (l : List En) (k : Nat) : (ensB (l.take k)).length ≤ (ensB l).length := by
  have h : ensB l = ensB (l.take k) ++ ensB (l.drop k) := by unfold ensB; rw [← List.flatMap_append, List.take_append_drop]
  rw [h, List.length_append]; omega
set_option maxHeartbeats 8000000 in
theorem ent_up (P : PutC 1) : EntC := by
  intro v x xs es S S2 w r q1 hn h12 hl
  obtain ⟨a, cap, rfl, _⟩ := RdV.sliced q1
  have HR2 : Hid (∀ W, Below w.heap.size w W → RdV W S2 (.slice a es.length cap) (.rows 89 4 es.length (fun i j => enCell (es[i]?.getD en0) j))) := RdV.old q1
  have HL : Hid (szEns es ≤ 1048576) := hn
  have HN : Hid (∀ k, k < es.length → ensB (es.take (k + 1)) = ensB (es.take k) ++ enB (es[k]?.getD en0)) := fun k hk => ensB_next es k hk
  have HEL : Hid (∀ k, (ensB (es.take k)).length ≤ (ensB es).length) := ensB_mono es
  have HEA : Hid (ensB (es.take es.length) = ensB es) := by show _ = _; rw [List.take_length]
  obtain ⟨m, hm⟩ : ∃ m, es.length = m := ⟨_, rfl⟩
  rw [hm] at HR2 HN HEA h12 hl ⊢
  clear q1 hn hm
  rw [List.length_append] at hl
  have HR : Hid (∀ W, Below w.heap.size w W → _) := r.old
  clear r
  have HPC := P.at
  go_enter Try.func113, Try.ntmps113
  go_wp2_with fail
  refine Calls.mono (implPutR v xs (m : Int) _ _ (HR.out _ (Below.refl _ _)) (by omega)) ?_
  rintro e w5 ⟨v4, rfl, z4, o4, HBB_⟩
  have HO0 : Hid (Owns w5 w.heap.size v4 (xs ++ putB (m : Int))) := o4
  have HZ0 : Hid (isBytes (xs ++ putB (m : Int))) := z4
  have HBB : Hid (Below w.heap.size w w5) := HBB_
  obtain ⟨ys, hys⟩ : ∃ ys, xs ++ putB (m : Int) = ys := ⟨_, rfl⟩
  have hyl : ys.length + (ensB es).length ≤ 1800000 := by rw [← hys, List.length_append]; omega
  have HGO : Hid (xs ++ (putB (m : Int) ++ ensB es) = ys ++ ensB es) := by show _ = _; rw [← hys]; simp [List.append_assoc]
  rw [hys] at HO0 HZ0
  clear hys o4 z4 HBB_ hl HR
  go_wp2
  go_loopw [0, 13] (fun q' i wr => ∃ (k : Nat) (u : Value), k ≤ m ∧ i = .int .i64 k ∧ u = q' ∧ Hid (isBytes (ys ++ ensB (es.take k))) ∧ Hid (Owns wr w.heap.size u (ys ++ ensB (es.take k))) ∧ Hid (Below w.heap.size w wr)) (fun _ i _ => m - (intOf i).toNat)
  case atStart => exact ⟨0, v4, Nat.zero_le _, rfl, rfl, by show isBytes _; rw [List.take_zero]; simp only [ensB, List.flatMap_nil, List.append_nil]; exact HZ0.out, by show Owns _ _ _ _; simpa [ensB] using HO0.out, HBB⟩
  case round =>
    clear HO0 HZ0 HBB
    obtain ⟨k, u, hk, rfl, rfl, HZ, HO, hbel⟩ := hrel
    by_cases hlt : k < m
    case neg =>
      have he : k = m := by omega
      subst he
      clear HPC
      go_wp2
      go_ret
      exact ⟨_, rfl, by rw [HGO.out, ← HEA.out]; exact HZ.out, by rw [HGO.out, ← HEA.out]; exact HO.out, hbel.out⟩
    obtain ⟨b, off, rfl, hbl, _, hx⟩ := RdV.at (HR2.out wr hbel.out) hlt
    obtain ⟨e, he⟩ : ∃ e, es[k]?.getD en0 = e := ⟨_, rfl⟩
    obtain ⟨x0, c0, r0⟩ := hx 0 (by omega)
    obtain ⟨x1, c1, r1⟩ := hx 1 (by omega)
    obtain ⟨x2, c2, r2⟩ := hx 2 (by omega)
    obtain ⟨x3, c3, r3⟩ := hx 3 (by omega)
    rw [he] at r0 r1 r2 r3
    have HNX : Hid (ensB (es.take (k + 1)) = ensB (es.take k) ++ enB e) := by rw [HN.out k hlt, he]; rfl
    have hnz : e.nm.length ≤ 1048576 := by have h1 := szEns_at es k; rw [he] at h1; have h2 := HL.out; omega
    clear hx he
    obtain ⟨nm, ⟨s, ino, dd⟩⟩ := e
    obtain rfl : x1 = .int .i64 s := r1
    obtain rfl : x2 = .int .i64 ino := r2
    obtain rfl : x3 = .bool dd := r3
    simp only [Nat.add_zero] at c0
    dsimp only at hnz HNX
    have r0' : RdV wr S2 x0 (.bytes nm) := r0
    obtain ⟨ax, cx, rfl⟩ := r0'.sliceB
    have RB : Hid (∀ W, Below wr.heap.size wr W → RdV W S2 (.slice ax nm.length cx) (.bytes nm)) := fun W hW => RdV.step r0' hW
    clear r0 r0'
    have hkl := HEL.out (k + 1)
    have hws := hbel.out.size
    have hle : (ys ++ ensB (es.take k)).length + (enB ⟨nm, (s, ino, dd)⟩).length ≤ 1800000 := by
      rw [HNX.out, List.length_append] at hkl
      rw [List.length_append]; omega
    go_wp2_with fail
    refine Calls.mono (HPC u (ys ++ ensB (es.take k)) [(.iface 41 (.slice ax nm.length cx), textB nm), (.iface 46 (Hd.v (s, ino, dd)), hdB (s, ino, dd))] (enB ⟨nm, (s, ino, dd)⟩) (wr.heap.size + 1) (fun _ => True) _ ?ra ?rb ?rc ?rd ?re ?rf ?rg) ?_
    case ra => exact (Owns.step HO.out (by repeat (first | exact Below.refl _ _ | refine Below.al2 ?_ _ | refine Below.drew ?_ | refine below_drewN2 ?_ _))).rdT HZ.out
    case rb => simp [enB]
    case rc => exact heap_new2 _ _ _
    case rd => exact PVs.cons (PutV.t _ (RB.out _ (by repeat (first | exact Below.refl _ _ | refine Below.al2 ?_ _ | refine Below.drew ?_ | refine below_drewN2 ?_ _))) hnz) (PVs.cons (PutV.h _ (by omega) _) PVs.nil)
    case re => simp
    case rf => simp
    case rg => exact hle
    rintro e w3 ⟨v2, rfl, z2, o2, b_⟩
    have b2 : Below wr.heap.size wr w3 := Below.trans (by repeat (first | exact Below.refl _ _ | refine Below.al2 ?_ _ | refine Below.drew ?_ | refine below_drewN2 ?_ _)) (b_.mono (by first | exact Nat.le_refl _ | (simp; omega)))
    have HZ2 : Hid (isBytes (ys ++ ensB (es.take (k + 1)))) := by show isBytes _; rw [HNX.out, ← List.append_assoc]; exact z2
    have HO2 : Hid (Owns w3 w.heap.size v2 (ys ++ ensB (es.take (k + 1)))) := by
      have o_ := o2.base (b' := w.heap.size) (by first | exact hws | (simp; omega))
      show Owns _ _ _ _
      rw [HNX.out, ← List.append_assoc]; exact o_
    have HB2 : Hid (Below w.heap.size w w3) := hbel.out.trans (b2.mono hws)
    clear HZ HO hbel z2 o2 b_
    go_wp2
    refine ⟨?_, ?_⟩
    · exact ⟨k + 1, v2, by omega, by go_num, rfl, HZ2, HO2, HB2⟩
    · simp [intOf]; omega
theorem put0 : PutC 0 := put_up 0 (fun k h => absurd h (Nat.not_lt_zero _)) (fun h => absurd h (by omega))
theorem put1 : PutC 1 := put_up 1 (fun k h => by obtain rfl : k = 0 := by omega
                                                 exact put0) (fun h => absurd h (by omega))
theorem ents : EntC := ent_up put1
theorem put2 : PutC 2 := put_up 2 (fun k h => by
  obtain rfl | rfl : k = 0 ∨ k = 1 := by omega
  · exact put0
  · exact put1) (fun _ => ents)
theorem put3 : PutC 3 := put_up 3 (fun k h => by
  obtain rfl | rfl | rfl : k = 0 ∨ k = 1 ∨ k = 2 := by omega
  · exact put0
  · exact put1
  · exact put2) (fun _ => ents)
end Go.Proofs.Ytaaongjnpnanmaa
end
