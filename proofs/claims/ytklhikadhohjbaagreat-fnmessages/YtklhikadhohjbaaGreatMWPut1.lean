/- The program's put, rank by rank. Condition: no more than 2^20 bytes. -/
import Derived.Test.YtklhikadhohjbaaGreatMA06
namespace Go.Proofs.YtklhikadhohjbaaGreat
open Go.RowKit
set_option linter.unusedVariables false
set_option linter.unusedSimpArgs false
set_option maxRecDepth 100000

theorem sumB_le (vs : List (Value × List Int)) (k : Nat) : (sumB vs k).length ≤ (sumB vs vs.length).length := by
 unfold sumB
 rw [List.take_length]
 have h : vs.flatMap (·.2) = (vs.take k).flatMap (·.2) ++ (vs.drop k).flatMap (·.2) := by rw [← List.flatMap_append, List.take_append_drop]
 rw [h, List.length_append]; omega
def PutC (n : Nat) : Prop := ∀ (v : Value) (xs : List Int) (vs : List (Value × List Int)) (g : Nat) (S : Nat → Prop) (w : World), RdV w S v (.bytes xs) → PutL n w g vs → 1 ≤ vs.length → vs.length ≤ 100 → xs.length + (sumB vs vs.length).length ≤ 1800000 → Ap 52 #[v, .slice (some ⟨g, 0, none⟩) vs.length vs.length] w (xs ++ sumB vs vs.length)
theorem heap_new2 (W : World) (x y : Obj) : ((W.alloc x).alloc y).heap[W.heap.size + 1]? = some y := by
 rw [show W.heap.size + 1 = (W.alloc x).heap.size from by simp]; exact heap_alloc_new _ _
theorem PutV.i (n : Nat) (w : World) (k : Int) : PutV n w (.iface 3 (.i k)) (putB k) := .inl ⟨k, rfl, rfl⟩
theorem PutV.t (n : Nat) {w : World} {S : Nat → Prop} {x : Value} {ts : List Int} (r : RdV w S x (.bytes ts)) (h : ts.length ≤ 1048576) : PutV n w (.iface 22 x) (textB ts) := .inr (.inl ⟨x, ts, rfl, r.mono (fun _ _ => trivial), h, rfl⟩)
theorem PutV.f (n : Nat) (w : World) (d : Bool) : PutV n w (.iface 4 (.bool d)) (flagB d) := .inr (.inr (.inl ⟨d, rfl, rfl⟩))
theorem PutV.h {n : Nat} (w : World) (hn : 1 ≤ n) (h : Hd) : PutV n w (.iface 24 h.v) (hdB h) := .inr (.inr (.inr (.inl ⟨hn, h, rfl, rfl⟩)))
theorem PutV.e {n : Nat} (w : World) (hn : 2 ≤ n) {S : Nat → Prop} {x : Value} {l : List En} (r : RdV w S x (ensDt l)) (h : szEns l ≤ 1048576) (h2 : l.length ≤ 12) : PutV n w (.iface 27 x) (putB l.length ++ ensB l) := .inr (.inr (.inr (.inr (.inr (.inr (.inr (.inl ⟨hn, l, x, rfl, r.mono (fun _ _ => trivial), h, h2, rfl⟩)))))))
def PVs (n : Nat) (w : World) (vs : List (Value × List Int)) : Prop := ∀ i, i < vs.length → PutV n w (vs[i]?.getD (undef, [])).1 (vs[i]?.getD (undef, [])).2
theorem PVs.nil {n : Nat} {w : World} : PVs n w [] := fun i h => absurd h (Nat.not_lt_zero _)
theorem PVs.cons {n : Nat} {w : World} {v : Value} {zs : List Int} {vs : List (Value × List Int)} (h : PutV n w v zs) (t : PVs n w vs) : PVs n w ((v, zs) :: vs) := by
 intro i hi
 cases i with
 | zero => exact h
 | succ j => simpa using t j (by simpa using hi)
theorem PutC.at {m : Nat} (h : PutC m) (v : Value) (xs : List Int) (vs : List (Value × List Int)) (zs : List Int) (g : Nat) (S : Nat → Prop) (w : World) (r : RdV w S v (.bytes xs)) (hz : vs.flatMap (·.2) = zs) (hb : w.heap[g]? = some (.cells (vs.map (·.1)).toArray 20 (0, 0))) (hv : PVs m w vs) (h1 : 1 ≤ vs.length) (h100 : vs.length ≤ 100) (hl : xs.length + zs.length ≤ 1800000) : Ap 52 #[v, .slice (some ⟨g, 0, none⟩) vs.length vs.length] w (xs ++ zs) := by
 have e : sumB vs vs.length = zs := by unfold sumB; rw [List.take_length]; exact hz
 have := h v xs vs g S w r ⟨hb, hv⟩ h1 h100 (by rw [e]; exact hl)
 rwa [e] at this
def EntC : Prop := ∀ (v x : Value) (xs : List Int) (l : List En) (S S2 : Nat → Prop) (w : World), RdV w S v (.bytes xs) → RdV w S2 x (ensDt l) → szEns l ≤ 1048576 → l.length ≤ 12 → xs.length + (putB l.length ++ ensB l).length ≤ 1800000 → Ap 147 #[v, x] w (xs ++ (putB l.length ++ ensB l))
set_option maxHeartbeats 8000000 in
theorem put_up (n : Nat) (IH : ∀ k, k < n → PutC k) (HEN : 2 ≤ n → EntC) : PutC n := by
 intro v xs vs g S w r hp h1 h100 hl
 have HP : Hid (∀ W, Below w.heap.size w W → PutL n W g vs) := fun W hW => hp.step hW
 have HR0 : Hid (RdV w (fun _ => True) v (.bytes xs)) := r.mono (fun _ _ => trivial)
 have HNXT : Hid (∀ k, k < vs.length → sumB vs (k + 1) = sumB vs k ++ (vs[k]?.getD (undef, [])).2) := fun k hk => sumB_next vs k hk
 have HLE : Hid (∀ k, (sumB vs k).length ≤ (sumB vs vs.length).length) := sumB_le vs
 have hgl : g < w.heap.size := lt_of_block hp.1
 have HZ0 : Hid (isBytes xs) := r.b.reads.choose_spec.choose_spec.2.2.1
 obtain ⟨zz, hzz⟩ : ∃ zz, sumB vs vs.length = zz := ⟨_, rfl⟩
 obtain ⟨n0, hn⟩ : ∃ n0, vs.length = n0 := ⟨_, rfl⟩
 have HZZ : Hid (sumB vs n0 = zz) := by show _ = _; rw [← hn]; exact hzz
 rw [hzz] at hl HLE ⊢
 rw [hn] at HNXT h1 h100 ⊢
 have HNN : Hid _ := hn
 clear r hp hzz hn
 go_enter Tryz.func52, Tryz.ntmps52
 go_wp2
 go_loopw [0, 18] (fun q' i wr => ∃ (k : Nat) (u : Value), k ≤ n0 ∧ i = .i k ∧ u = q' ∧ Hid (RdV wr (fun _ => True) u (.bytes (xs ++ sumB vs k))) ∧ Hid (k = 0 ∨ Owns wr w.heap.size u (xs ++ sumB vs k)) ∧ Hid (Below w.heap.size w wr)) (fun _ i _ => n0 - (intOf i).toNat)
 case atStart => exact ⟨0, v, Nat.zero_le _, rfl, rfl, by show RdV _ _ _ _; simpa [sumB] using HR0.out, .inl rfl, Below.refl _ _⟩
 case round =>
  obtain ⟨k, u, hk, rfl, rfl, HRD, HOW, hbel⟩ := hrel
  have hws := hbel.out.size
  by_cases hlt : k < n0
  case neg =>
   have he : k = n0 := by omega
   have HOK : Hid (Owns wr w.heap.size u (xs ++ zz)) := by
    show Owns _ _ _ _
    rcases HOW.out with h | h
    ·omega
    ·rw [he, HZZ.out] at h; exact h
   have HZO : Hid (isBytes (xs ++ zz)) := by
    have := HRD.out.b.reads.choose_spec.choose_spec.2.2.1
    rw [he, HZZ.out] at this; exact this
   clear HRD HOW
   go_wp2
   go_ret
   exact ⟨_, rfl, HZO.out, HOK.out, hbel.out⟩
  have HPW := HP.out wr hbel.out
  have hV := HPW.2 k (by rw [HNN.out]; exact hlt)
  have HNX : Hid (sumB vs (k + 1) = sumB vs k ++ (vs[k]?.getD (undef, [])).2) := HNXT.out k hlt
  have hln := HLE.out k
  have hln2 := HLE.out (k + 1)
  have ck : wr.cell? ⟨g, k, none⟩ = some (vs[k]?.getD (undef, [])).1 := by
   rw [cell_of_row _ _ _ _ _ _ HPW.1]
   have hk' : k < vs.length := by rw [HNN.out]; exact hlt
   simp [hk']
  clear HPW
  generalize vs[k]?.getD (undef, []) = ev at hV HNX ck
  obtain ⟨ev1, ev2⟩ := ev
  dsimp only at hV HNX ck
  have hxl : (xs ++ sumB vs k).length ≤ 1800000 := by rw [List.length_append]; omega
  have hxl2 : (xs ++ sumB vs k).length + ev2.length ≤ 1800000 := by rw [HNX.out, List.length_append] at hln2; rw [List.length_append]; omega
  rcases hV with h | h | h | h | h | h | h | h | h
  ·obtain ⟨kk, rfl, rfl⟩ := h
   have hM0 := fun v W => assert_hit (t := 3) (xT := 20) Tryz.underlying3 rfl v W
   go_wp2_with fail
   refine Calls.mono (implPutR u (xs ++ sumB vs k) kk _ _ HRD.out (by omega)) ?_
   rintro e w2 ⟨v1, rfl, z1, o1, b_⟩
   have HR2 : Hid (RdV w2 (fun _ => True) v1 (.bytes (xs ++ sumB vs (k + 1)))) := by rw [HNX.out, ← List.append_assoc]; exact o1.rdT z1
   have HO2 : Hid (k + 1 = 0 ∨ Owns w2 w.heap.size v1 (xs ++ sumB vs (k + 1))) := .inr (by rw [HNX.out, ← List.append_assoc]; exact o1.base (b' := w.heap.size) (by first | exact hws | (simp; omega)))
   have HB2 : Hid (Below w.heap.size w w2) := hbel.out.trans (Below.mono (Below.trans (by repeat (first | apply bl1 | apply bl2 | apply bl3 | apply bl4)) (b_.mono (by first | exact Nat.le_refl _ | (simp; omega)))) hws)
   clear HRD HOW hbel z1 o1 b_
   go_wp2
   refine ⟨?_, ?_⟩
   ·exact ⟨k + 1, v1, by omega, by go_num, rfl, HR2, HO2, HB2⟩
   ·simp [intOf]; omega
  ·obtain ⟨x, ts, rfl, hx, hts, rfl⟩ := h
   have hM0 := fun v W => assert_miss (t := 22) (a := 3) (xT := 20) (z := .i 0) Tryz.underlying3 rfl (by decide) (by kernel_rfl) v W
   have hM1 := fun v W => assert_hit (t := 22) (xT := 20) Tryz.underlying22 rfl v W
   go_wp2_with fail
   refine Calls.mono (implTextR u x (xs ++ sumB vs k) ts _ _ _ HRD.out hx (by omega) (by omega)) ?_
   rintro e w2 ⟨v1, rfl, z1, o1, b_⟩
   have HR2 : Hid (RdV w2 (fun _ => True) v1 (.bytes (xs ++ sumB vs (k + 1)))) := by rw [HNX.out, ← List.append_assoc]; exact o1.rdT z1
   have HO2 : Hid (k + 1 = 0 ∨ Owns w2 w.heap.size v1 (xs ++ sumB vs (k + 1))) := .inr (by rw [HNX.out, ← List.append_assoc]; exact o1.base (b' := w.heap.size) (by first | exact hws | (simp; omega)))
   have HB2 : Hid (Below w.heap.size w w2) := hbel.out.trans (Below.mono (Below.trans (by repeat (first | apply bl1 | apply bl2 | apply bl3 | apply bl4)) (b_.mono (by first | exact Nat.le_refl _ | (simp; omega)))) hws)
   clear HRD HOW hbel z1 o1 b_
   go_wp2
   refine ⟨?_, ?_⟩
   ·exact ⟨k + 1, v1, by omega, by go_num, rfl, HR2, HO2, HB2⟩
   ·simp [intOf]; omega
  ·obtain ⟨d, rfl, rfl⟩ := h
   have hM0 := fun v W => assert_miss (t := 4) (a := 3) (xT := 20) (z := .i 0) Tryz.underlying3 rfl (by decide) (by kernel_rfl) v W
   have hM1 := fun v W => assert_miss (t := 4) (a := 22) (xT := 20) (z := .slice none 0 0) Tryz.underlying22 rfl (by decide) (by kernel_rfl) v W
   have hM2 := fun v W => assert_hit (t := 4) (xT := 20) Tryz.underlying4 rfl v W
   go_wp2_with fail
   refine Calls.mono (implFlagR u (xs ++ sumB vs k) d _ _ HRD.out (by omega)) ?_
   rintro e w2 ⟨v1, rfl, z1, o1, b_⟩
   have HR2 : Hid (RdV w2 (fun _ => True) v1 (.bytes (xs ++ sumB vs (k + 1)))) := by rw [HNX.out, ← List.append_assoc]; exact o1.rdT z1
   have HO2 : Hid (k + 1 = 0 ∨ Owns w2 w.heap.size v1 (xs ++ sumB vs (k + 1))) := .inr (by rw [HNX.out, ← List.append_assoc]; exact o1.base (b' := w.heap.size) (by first | exact hws | (simp; omega)))
   have HB2 : Hid (Below w.heap.size w w2) := hbel.out.trans (Below.mono (Below.trans (by repeat (first | apply bl1 | apply bl2 | apply bl3 | apply bl4)) (b_.mono (by first | exact Nat.le_refl _ | (simp; omega)))) hws)
   clear HRD HOW hbel z1 o1 b_
   go_wp2
   refine ⟨?_, ?_⟩
   ·exact ⟨k + 1, v1, by omega, by go_num, rfl, HR2, HO2, HB2⟩
   ·simp [intOf]; omega
  ·obtain ⟨hn1, hh, rfl, rfl⟩ := h
   have hM0 := fun v W => assert_miss (t := 24) (a := 3) (xT := 20) (z := .i 0) Tryz.underlying3 rfl (by decide) (by kernel_rfl) v W
   have hM1 := fun v W => assert_miss (t := 24) (a := 22) (xT := 20) (z := .slice none 0 0) Tryz.underlying22 rfl (by decide) (by kernel_rfl) v W
   have hM2 := fun v W => assert_miss (t := 24) (a := 4) (xT := 20) (z := .bool false) Tryz.underlying4 rfl (by decide) (by kernel_rfl) v W
   have hM3 := fun v W => assert_hit (t := 24) (xT := 20) Tryz.underlying24 rfl v W
   have HPC := (IH 0 (by omega)).at
   go_wp2_with fail
   refine Calls.mono (HPC u (xs ++ sumB vs k) [(.iface 3 (.i hh.sh), putB hh.sh), (.iface 3 (.i hh.ino), putB hh.ino), (.iface 4 (.bool hh.dir), flagB hh.dir)] (hdB hh) (wr.heap.size + 1) (fun _ => True) _ ?ra3 ?rb3 ?rc3 ?rd3 ?re3 ?rf3 ?rg3) ?_
   case ra3 => exact HRD.out.step (by repeat (first | apply bl1 | apply bl2 | apply bl3 | apply bl4))
   case rb3 => simp [hdB]
   case rc3 => exact heap_new2 _ _ _
   case rd3 => exact (PVs.cons (PutV.i _ _ _) (PVs.cons (PutV.i _ _ _) (PVs.cons (PutV.f _ _ _) PVs.nil)))
   case re3 => simp
   case rf3 => simp
   case rg3 => exact hxl2
   rintro e w2 ⟨v1, rfl, z1, o1, b_⟩
   have HR2 : Hid (RdV w2 (fun _ => True) v1 (.bytes (xs ++ sumB vs (k + 1)))) := by rw [HNX.out, ← List.append_assoc]; exact o1.rdT z1
   have HO2 : Hid (k + 1 = 0 ∨ Owns w2 w.heap.size v1 (xs ++ sumB vs (k + 1))) := .inr (by rw [HNX.out, ← List.append_assoc]; exact o1.base (b' := w.heap.size) (by first | exact hws | (simp; omega)))
   have HB2 : Hid (Below w.heap.size w w2) := hbel.out.trans (Below.mono (Below.trans (by repeat (first | apply bl1 | apply bl2 | apply bl3 | apply bl4)) (b_.mono (by first | exact Nat.le_refl _ | (simp; omega)))) hws)
   clear HRD HOW hbel z1 o1 b_
   go_wp2
   refine ⟨?_, ?_⟩
   ·exact ⟨k + 1, v1, by omega, by go_num, rfl, HR2, HO2, HB2⟩
   ·simp [intOf]; omega
  ·obtain ⟨hn1, ⟨t1, t2, t3⟩, rfl, rfl⟩ := h
   have hM0 := fun v W => assert_miss (t := 31) (a := 3) (xT := 20) (z := .i 0) Tryz.underlying3 rfl (by decide) (by kernel_rfl) v W
   have hM1 := fun v W => assert_miss (t := 31) (a := 22) (xT := 20) (z := .slice none 0 0) Tryz.underlying22 rfl (by decide) (by kernel_rfl) v W
   have hM2 := fun v W => assert_miss (t := 31) (a := 4) (xT := 20) (z := .bool false) Tryz.underlying4 rfl (by decide) (by kernel_rfl) v W
   have hM3 := fun v W => assert_miss (t := 31) (a := 24) (xT := 20) (z := .agg #[.i 0, .i 0, .bool false]) Tryz.underlying24 rfl (by decide) (by kernel_rfl) v W
   have hM4 := fun v W => assert_miss (t := 31) (a := 26) (xT := 20) (z := .agg #[.i 0, .i 0, .i 0, .bool false, .slice none 0 0, .i 0, .i 0, .bool false, .slice none 0 0, .i 0]) Tryz.underlying26 rfl (by decide) (by kernel_rfl) v W
   have hM5 := fun v W => assert_miss (t := 31) (a := 27) (xT := 20) (z := .slice none 0 0) Tryz.underlying27 rfl (by decide) (by kernel_rfl) v W
   have hM6 := fun v W => assert_miss (t := 31) (a := 29) (xT := 20) (z := .agg #[.i 0, .i 0, .i 0, .bool false, .i 0, .slice none 0 0]) Tryz.underlying29 rfl (by decide) (by kernel_rfl) v W
   have hM7 := fun v W => assert_hit (t := 31) (xT := 20) Tryz.underlying31 rfl v W
   have HPC := (IH 0 (by omega)).at
   go_wp2_with fail
   refine Calls.mono (HPC u (xs ++ sumB vs k) [(.iface 3 (.i t1), putB t1), (.iface 3 (.i t2), putB t2), (.iface 3 (.i t3), putB t3)] (txB (t1, t2, t3)) (wr.heap.size + 1) (fun _ => True) _ ?ra7 ?rb7 ?rc7 ?rd7 ?re7 ?rf7 ?rg7) ?_
   case ra7 => exact HRD.out.step (by repeat (first | apply bl1 | apply bl2 | apply bl3 | apply bl4))
   case rb7 => simp [txB]
   case rc7 => exact heap_new2 _ _ _
   case rd7 => exact (PVs.cons (PutV.i _ _ _) (PVs.cons (PutV.i _ _ _) (PVs.cons (PutV.i _ _ _) PVs.nil)))
   case re7 => simp
   case rf7 => simp
   case rg7 => exact hxl2
   rintro e w2 ⟨v1, rfl, z1, o1, b_⟩
   have HR2 : Hid (RdV w2 (fun _ => True) v1 (.bytes (xs ++ sumB vs (k + 1)))) := by rw [HNX.out, ← List.append_assoc]; exact o1.rdT z1
   have HO2 : Hid (k + 1 = 0 ∨ Owns w2 w.heap.size v1 (xs ++ sumB vs (k + 1))) := .inr (by rw [HNX.out, ← List.append_assoc]; exact o1.base (b' := w.heap.size) (by first | exact hws | (simp; omega)))
   have HB2 : Hid (Below w.heap.size w w2) := hbel.out.trans (Below.mono (Below.trans (by repeat (first | apply bl1 | apply bl2 | apply bl3 | apply bl4)) (b_.mono (by first | exact Nat.le_refl _ | (simp; omega)))) hws)
   clear HRD HOW hbel z1 o1 b_
   go_wp2
   refine ⟨?_, ?_⟩
   ·exact ⟨k + 1, v1, by omega, by go_num, rfl, HR2, HO2, HB2⟩
   ·simp [intOf]; omega
  ·obtain ⟨hn1, o, x, y, rfl, r1, r2, l1, l2, rfl⟩ := h
   obtain ⟨ax, cx, rfl⟩ := r1.sliceB
   have Hr1 : Hid (RdV wr (fun _ => True) (.slice ax o.nm.length cx) (.bytes o.nm)) := r1
   clear r1
   obtain ⟨ay, cy, rfl⟩ := r2.sliceB
   have Hr2 : Hid (RdV wr (fun _ => True) (.slice ay o.asn.length cy) (.bytes o.asn)) := r2
   clear r2
   have hM0 := fun v W => assert_miss (t := 26) (a := 3) (xT := 20) (z := .i 0) Tryz.underlying3 rfl (by decide) (by kernel_rfl) v W
   have hM1 := fun v W => assert_miss (t := 26) (a := 22) (xT := 20) (z := .slice none 0 0) Tryz.underlying22 rfl (by decide) (by kernel_rfl) v W
   have hM2 := fun v W => assert_miss (t := 26) (a := 4) (xT := 20) (z := .bool false) Tryz.underlying4 rfl (by decide) (by kernel_rfl) v W
   have hM3 := fun v W => assert_miss (t := 26) (a := 24) (xT := 20) (z := .agg #[.i 0, .i 0, .bool false]) Tryz.underlying24 rfl (by decide) (by kernel_rfl) v W
   have hM4 := fun v W => assert_hit (t := 26) (xT := 20) Tryz.underlying26 rfl v W
   have HPC := (IH 1 (by omega)).at
   go_wp2_with fail
   refine Calls.mono (HPC u (xs ++ sumB vs k) [(.iface 3 (.i o.kind), putB o.kind), (.iface 24 (o.dir).v, hdB o.dir), (.iface 22 (.slice ax o.nm.length cx), textB o.nm), (.iface 24 (o.to).v, hdB o.to), (.iface 22 (.slice ay o.asn.length cy), textB o.asn), (.iface 3 (.i o.val), putB o.val)] (opB o) (wr.heap.size + 1) (fun _ => True) _ ?ra4 ?rb4 ?rc4 ?rd4 ?re4 ?rf4 ?rg4) ?_
   case ra4 => exact HRD.out.step (by repeat (first | apply bl1 | apply bl2 | apply bl3 | apply bl4))
   case rb4 => simp [opB]
   case rc4 => exact heap_new2 _ _ _
   case rd4 => exact (PVs.cons (PutV.i _ _ _) (PVs.cons (PutV.h _ (by omega) _) (PVs.cons (PutV.t _ (Hr1.out.step (by repeat (first | apply bl1 | apply bl2 | apply bl3 | apply bl4))) l1) (PVs.cons (PutV.h _ (by omega) _) (PVs.cons (PutV.t _ (Hr2.out.step (by repeat (first | apply bl1 | apply bl2 | apply bl3 | apply bl4))) l2) (PVs.cons (PutV.i _ _ _) PVs.nil))))))
   case re4 => simp
   case rf4 => simp
   case rg4 => exact hxl2
   rintro e w2 ⟨v1, rfl, z1, o1, b_⟩
   have HR2 : Hid (RdV w2 (fun _ => True) v1 (.bytes (xs ++ sumB vs (k + 1)))) := by rw [HNX.out, ← List.append_assoc]; exact o1.rdT z1
   have HO2 : Hid (k + 1 = 0 ∨ Owns w2 w.heap.size v1 (xs ++ sumB vs (k + 1))) := .inr (by rw [HNX.out, ← List.append_assoc]; exact o1.base (b' := w.heap.size) (by first | exact hws | (simp; omega)))
   have HB2 : Hid (Below w.heap.size w w2) := hbel.out.trans (Below.mono (Below.trans (by repeat (first | apply bl1 | apply bl2 | apply bl3 | apply bl4)) (b_.mono (by first | exact Nat.le_refl _ | (simp; omega)))) hws)
   clear HRD HOW hbel z1 o1 b_
   go_wp2
   refine ⟨?_, ?_⟩
   ·exact ⟨k + 1, v1, by omega, by go_num, rfl, HR2, HO2, HB2⟩
   ·simp [intOf]; omega
  ·obtain ⟨hn1, o, x, rfl, r1, l1, rfl⟩ := h
   obtain ⟨ax, cx, rfl⟩ := r1.sliceB
   have Hr1 : Hid (RdV wr (fun _ => True) (.slice ax o.asn.length cx) (.bytes o.asn)) := r1
   clear r1
   have hM0 := fun v W => assert_miss (t := 33) (a := 3) (xT := 20) (z := .i 0) Tryz.underlying3 rfl (by decide) (by kernel_rfl) v W
   have hM1 := fun v W => assert_miss (t := 33) (a := 22) (xT := 20) (z := .slice none 0 0) Tryz.underlying22 rfl (by decide) (by kernel_rfl) v W
   have hM2 := fun v W => assert_miss (t := 33) (a := 4) (xT := 20) (z := .bool false) Tryz.underlying4 rfl (by decide) (by kernel_rfl) v W
   have hM3 := fun v W => assert_miss (t := 33) (a := 24) (xT := 20) (z := .agg #[.i 0, .i 0, .bool false]) Tryz.underlying24 rfl (by decide) (by kernel_rfl) v W
   have hM4 := fun v W => assert_miss (t := 33) (a := 26) (xT := 20) (z := .agg #[.i 0, .i 0, .i 0, .bool false, .slice none 0 0, .i 0, .i 0, .bool false, .slice none 0 0, .i 0]) Tryz.underlying26 rfl (by decide) (by kernel_rfl) v W
   have hM5 := fun v W => assert_miss (t := 33) (a := 27) (xT := 20) (z := .slice none 0 0) Tryz.underlying27 rfl (by decide) (by kernel_rfl) v W
   have hM6 := fun v W => assert_miss (t := 33) (a := 29) (xT := 20) (z := .agg #[.i 0, .i 0, .i 0, .bool false, .i 0, .slice none 0 0]) Tryz.underlying29 rfl (by decide) (by kernel_rfl) v W
   have hM7 := fun v W => assert_miss (t := 33) (a := 31) (xT := 20) (z := .agg #[.i 0, .i 0, .i 0]) Tryz.underlying31 rfl (by decide) (by kernel_rfl) v W
   have hM8 := fun v W => assert_hit (t := 33) (xT := 20) Tryz.underlying33 rfl v W
   have HPC := (IH 1 (by omega)).at
   go_wp2_with fail
   refine Calls.mono (HPC u (xs ++ sumB vs k) [(.iface 3 (.i o.kind), putB o.kind), (.iface 24 (o.h).v, hdB o.h), (.iface 22 (.slice ax o.asn.length cx), textB o.asn), (.iface 24 (o.to).v, hdB o.to)] (ptB o) (wr.heap.size + 1) (fun _ => True) _ ?ra8 ?rb8 ?rc8 ?rd8 ?re8 ?rf8 ?rg8) ?_
   case ra8 => exact HRD.out.step (by repeat (first | apply bl1 | apply bl2 | apply bl3 | apply bl4))
   case rb8 => simp [ptB]
   case rc8 => exact heap_new2 _ _ _
   case rd8 => exact (PVs.cons (PutV.i _ _ _) (PVs.cons (PutV.h _ (by omega) _) (PVs.cons (PutV.t _ (Hr1.out.step (by repeat (first | apply bl1 | apply bl2 | apply bl3 | apply bl4))) l1) (PVs.cons (PutV.h _ (by omega) _) PVs.nil))))
   case re8 => simp
   case rf8 => simp
   case rg8 => exact hxl2
   rintro e w2 ⟨v1, rfl, z1, o1, b_⟩
   have HR2 : Hid (RdV w2 (fun _ => True) v1 (.bytes (xs ++ sumB vs (k + 1)))) := by rw [HNX.out, ← List.append_assoc]; exact o1.rdT z1
   have HO2 : Hid (k + 1 = 0 ∨ Owns w2 w.heap.size v1 (xs ++ sumB vs (k + 1))) := .inr (by rw [HNX.out, ← List.append_assoc]; exact o1.base (b' := w.heap.size) (by first | exact hws | (simp; omega)))
   have HB2 : Hid (Below w.heap.size w w2) := hbel.out.trans (Below.mono (Below.trans (by repeat (first | apply bl1 | apply bl2 | apply bl3 | apply bl4)) (b_.mono (by first | exact Nat.le_refl _ | (simp; omega)))) hws)
   clear HRD HOW hbel z1 o1 b_
   go_wp2
   refine ⟨?_, ?_⟩
   ·exact ⟨k + 1, v1, by omega, by go_num, rfl, HR2, HO2, HB2⟩
   ·simp [intOf]; omega
  ·obtain ⟨hn1, l, x, rfl, r1, l1, l2, rfl⟩ := h
   have hM0 := fun v W => assert_miss (t := 27) (a := 3) (xT := 20) (z := .i 0) Tryz.underlying3 rfl (by decide) (by kernel_rfl) v W
   have hM1 := fun v W => assert_miss (t := 27) (a := 22) (xT := 20) (z := .slice none 0 0) Tryz.underlying22 rfl (by decide) (by kernel_rfl) v W
   have hM2 := fun v W => assert_miss (t := 27) (a := 4) (xT := 20) (z := .bool false) Tryz.underlying4 rfl (by decide) (by kernel_rfl) v W
   have hM3 := fun v W => assert_miss (t := 27) (a := 24) (xT := 20) (z := .agg #[.i 0, .i 0, .bool false]) Tryz.underlying24 rfl (by decide) (by kernel_rfl) v W
   have hM4 := fun v W => assert_miss (t := 27) (a := 26) (xT := 20) (z := .agg #[.i 0, .i 0, .i 0, .bool false, .slice none 0 0, .i 0, .i 0, .bool false, .slice none 0 0, .i 0]) Tryz.underlying26 rfl (by decide) (by kernel_rfl) v W
   have hM5 := fun v W => assert_hit (t := 27) (xT := 20) Tryz.underlying27 rfl v W
   go_wp2_with fail
   refine Calls.mono (HEN hn1 u x (xs ++ sumB vs k) l _ _ _ HRD.out r1 l1 l2 hxl2) ?_
   rintro e w2 ⟨v1, rfl, z1, o1, b_⟩
   have HR2 : Hid (RdV w2 (fun _ => True) v1 (.bytes (xs ++ sumB vs (k + 1)))) := by rw [HNX.out, ← List.append_assoc]; exact o1.rdT z1
   have HO2 : Hid (k + 1 = 0 ∨ Owns w2 w.heap.size v1 (xs ++ sumB vs (k + 1))) := .inr (by rw [HNX.out, ← List.append_assoc]; exact o1.base (b' := w.heap.size) (by first | exact hws | (simp; omega)))
   have HB2 : Hid (Below w.heap.size w w2) := hbel.out.trans (Below.mono (Below.trans (by repeat (first | apply bl1 | apply bl2 | apply bl3 | apply bl4)) (b_.mono (by first | exact Nat.le_refl _ | (simp; omega)))) hws)
   clear HRD HOW hbel z1 o1 b_
   go_wp2
   refine ⟨?_, ?_⟩
   ·exact ⟨k + 1, v1, by omega, by go_num, rfl, HR2, HO2, HB2⟩
   ·simp [intOf]; omega
  ·obtain ⟨hn1, o, x, rfl, r1, l1, l2, rfl⟩ := h
   obtain ⟨ax, cx, rfl, _⟩ := r1.sliced
   have Hr1 : Hid (RdV wr (fun _ => True) (.slice ax o.list.length cx) (ensDt o.list)) := r1
   clear r1
   have hM0 := fun v W => assert_miss (t := 29) (a := 3) (xT := 20) (z := .i 0) Tryz.underlying3 rfl (by decide) (by kernel_rfl) v W
   have hM1 := fun v W => assert_miss (t := 29) (a := 22) (xT := 20) (z := .slice none 0 0) Tryz.underlying22 rfl (by decide) (by kernel_rfl) v W
   have hM2 := fun v W => assert_miss (t := 29) (a := 4) (xT := 20) (z := .bool false) Tryz.underlying4 rfl (by decide) (by kernel_rfl) v W
   have hM3 := fun v W => assert_miss (t := 29) (a := 24) (xT := 20) (z := .agg #[.i 0, .i 0, .bool false]) Tryz.underlying24 rfl (by decide) (by kernel_rfl) v W
   have hM4 := fun v W => assert_miss (t := 29) (a := 26) (xT := 20) (z := .agg #[.i 0, .i 0, .i 0, .bool false, .slice none 0 0, .i 0, .i 0, .bool false, .slice none 0 0, .i 0]) Tryz.underlying26 rfl (by decide) (by kernel_rfl) v W
   have hM5 := fun v W => assert_miss (t := 29) (a := 27) (xT := 20) (z := .slice none 0 0) Tryz.underlying27 rfl (by decide) (by kernel_rfl) v W
   have hM6 := fun v W => assert_hit (t := 29) (xT := 20) Tryz.underlying29 rfl v W
   have HPC := (IH 2 (by omega)).at
   go_wp2_with fail
   refine Calls.mono (HPC u (xs ++ sumB vs k) [(.iface 3 (.i o.code), putB o.code), (.iface 24 (o.h).v, hdB o.h), (.iface 3 (.i o.val), putB o.val), (.iface 27 (.slice ax o.list.length cx), putB (o.list).length ++ ensB o.list)] (rpB o) (wr.heap.size + 1) (fun _ => True) _ ?ra6 ?rb6 ?rc6 ?rd6 ?re6 ?rf6 ?rg6) ?_
   case ra6 => exact HRD.out.step (by repeat (first | apply bl1 | apply bl2 | apply bl3 | apply bl4))
   case rb6 => simp [rpB]
   case rc6 => exact heap_new2 _ _ _
   case rd6 => exact (PVs.cons (PutV.i _ _ _) (PVs.cons (PutV.h _ (by omega) _) (PVs.cons (PutV.i _ _ _) (PVs.cons (PutV.e _ (by omega) (Hr1.out.step (by repeat (first | apply bl1 | apply bl2 | apply bl3 | apply bl4))) l1 l2) PVs.nil))))
   case re6 => simp
   case rf6 => simp
   case rg6 => exact hxl2
   rintro e w2 ⟨v1, rfl, z1, o1, b_⟩
   have HR2 : Hid (RdV w2 (fun _ => True) v1 (.bytes (xs ++ sumB vs (k + 1)))) := by rw [HNX.out, ← List.append_assoc]; exact o1.rdT z1
   have HO2 : Hid (k + 1 = 0 ∨ Owns w2 w.heap.size v1 (xs ++ sumB vs (k + 1))) := .inr (by rw [HNX.out, ← List.append_assoc]; exact o1.base (b' := w.heap.size) (by first | exact hws | (simp; omega)))
   have HB2 : Hid (Below w.heap.size w w2) := hbel.out.trans (Below.mono (Below.trans (by repeat (first | apply bl1 | apply bl2 | apply bl3 | apply bl4)) (b_.mono (by first | exact Nat.le_refl _ | (simp; omega)))) hws)
   clear HRD HOW hbel z1 o1 b_
   go_wp2
   refine ⟨?_, ?_⟩
   ·exact ⟨k + 1, v1, by omega, by go_num, rfl, HR2, HO2, HB2⟩
   ·simp [intOf]; omega
end Go.Proofs.YtklhikadhohjbaaGreat
