/- Lists of writes that wait: compared, marked, looked at. Conditions: at most 2^21 of them, of at most 2^21 bytes. -/
import Derived.Test.YtjhaanenkeceiaaDoorWaits
namespace Go.Proofs.YtjhaanenkeceiaaDoor
open Go.RowKit
set_option linter.unusedVariables false

set_option maxHeartbeats 1000000 in
theorem eqWait_any (p q : Int) (x y : Value) (xs ys : List Int) (l h l' h' : Nat) (w : World) (r : RdB w l h x xs) (s : RdB w l' h' y ys) (hh : h ≤ w.heap.size) (hh' : h' ≤ w.heap.size) (hl : xs.length ≤ 2097152) (hm : ys.length ≤ 2097152) :
    Calls Tryd.prog 84 #[.agg #[.int .i64 p, x], .agg #[.int .i64 q, y]] w fun e w' => e = .returned (.bool (((p, xs) : Wt) == (q, ys))) ∧ Below w.heap.size w w' := by
  obtain ⟨_, a, n, c, rfl, hn, _, _⟩ := r.reads
  obtain ⟨_, a', n', c', rfl, hn', _, _⟩ := s.reads
  have HR : Hid (∀ W, Below w.heap.size w W → RdB W l h (.slice a n c) xs) := fun W hW => r.same (SameIn.ofBelow hW hh)
  have HS : Hid (∀ W, Below w.heap.size w W → RdB W l' h' (.slice a' n' c') ys) := fun W hW => s.same (SameIn.ofBelow hW hh')
  clear r s hn hn'
  by_cases hpq : p = q
  · subst hpq
    have e1 : (((p, xs) : Wt) == (p, ys)) = (xs == ys) := by rw [Bool.eq_iff_iff]; simp
    have hpp : (p != p) = false := by simp
    rw [e1]
    have hbb : Below w.heap.size w ((w.alloc (.cells #[.int .i64 p, .slice a n c] 75)).alloc (.cells #[.int .i64 p, .slice a' n' c'] 75)) := ((Below.refl _ _).alloc (Nat.le_refl _) _).alloc (by simp) _
    have R := eqByteS_r _ _ xs ys l h l' h' _ (HR.out _ hbb) (HS.out _ hbb) hl hm
    generalize (xs == ys) = t at R ⊢
    have RC : Hid _ := R
    have HB : Hid _ := hbb
    clear R hbb e1
    cases t with
    | false =>
      go_enter Tryd.func84, Tryd.ntmps84
      go_wp2_with fail
      refine Calls.mono RC.out ?_
      rintro e w2 ⟨rfl, k, rfl⟩
      go_wp2
      go_ret
      exact ⟨rfl, below_drewN2 HB.out k⟩
    | true =>
      go_enter Tryd.func84, Tryd.ntmps84
      go_wp2_with fail
      refine Calls.mono RC.out ?_
      rintro e w2 ⟨rfl, k, rfl⟩
      go_wp2
      go_ret
      exact ⟨rfl, below_drewN2 HB.out k⟩
  · have e1 : (((p, xs) : Wt) == (q, ys)) = false := by
      apply beq_eq_false_iff_ne.2; intro e; exact hpq (congrArg Prod.fst e)
    have hd : (p == q) = false := beq_eq_false_iff_ne.2 hpq
    rw [e1]
    go_enter Tryd.func84, Tryd.ntmps84
    go_wp2
    go_ret
    exact ⟨rfl, ((Below.refl _ _).alloc (Nat.le_refl _) _).alloc (by simp) _⟩

set_option maxHeartbeats 2000000 in
theorem eqWaitS_any (v u : Value) (xss yss : List Wt) (l h l' h' : Nat) (w : World) (r : RdWs w l h v xss) (s : RdWs w l' h' u yss) (hh : h ≤ w.heap.size) (hh' : h' ≤ w.heap.size)
    (hl : xss.length ≤ 2097152) (hm : yss.length ≤ 2097152) (hlx : ∀ i : Nat, (xss[i]?.getD (0, [])).2.length ≤ 2097152) (hly : ∀ i : Nat, (yss[i]?.getD (0, [])).2.length ≤ 2097152) :
    Calls Tryd.prog 64 #[v, u] w fun e w' => e = .returned (.bool (xss == yss)) ∧ Below w.heap.size w w' := by
  obtain ⟨a, n, cap, vs, rfl, hn, hhd, hc, he⟩ := r
  obtain ⟨a', n', cap', us, rfl, hn', hhd', hc', he'⟩ := s
  have hnn : n ≤ 2097152 := by omega
  have hnn' : n' ≤ 2097152 := by omega
  by_cases hne : n = n'
  · subst hne
    have HX : Hid _ := hn
    have HY : Hid _ := hn'
    have HE : Hid _ := he
    have HE' : Hid _ := he'
    have HC : Hid _ := hc
    have HC' : Hid _ := hc'
    have HLX : Hid _ := hlx
    have HLY : Hid _ := hly
    clear hn hn' he he' hc hc' hhd hhd' hl hm hlx hly
    go_enter Tryd.func64, Tryd.ntmps64
    go_wp2
    go_loopw [5] (fun i wr => ∃ k : Nat, k ≤ n ∧ i = .int .i64 k ∧ Below w.heap.size w wr ∧ Hid (xss.take k = yss.take k)) (fun i _ => n - (intOf i).toNat)
    case atStart => exact ⟨0, Nat.zero_le _, rfl, Below.refl _ _, by show _ = _; simp⟩
    case round =>
      obtain ⟨k, hk, rfl, hbel, hE⟩ := hrel
      by_cases hlt : k < n
      · obtain ⟨b, off, rfl, _, hbh, hcc⟩ := HC.out.resolve_left (by omega)
        obtain ⟨b', off', rfl, _, hbh', hcc'⟩ := HC'.out.resolve_left (by omega)
        have g1 := (hbel.cell (p := ⟨b, off + k * 2, none⟩) (by show b < w.heap.size; omega)).trans (hcc k hlt).1
        have g2 := (hbel.cell (p := ⟨b, off + k * 2 + 1, none⟩) (by show b < w.heap.size; omega)).trans (hcc k hlt).2
        have g3 := (hbel.cell (p := ⟨b', off' + k * 2, none⟩) (by show b' < w.heap.size; omega)).trans (hcc' k hlt).1
        have g4 := (hbel.cell (p := ⟨b', off' + k * 2 + 1, none⟩) (by show b' < w.heap.size; omega)).trans (hcc' k hlt).2
        have r1 := (HE.out k hlt).same (SameIn.mk (Below.size hbel) (fun q _ hq => hbel.block q (by omega)))
        have r2 := (HE'.out k hlt).same (SameIn.mk (Below.size hbel) (fun q _ hq => hbel.block q (by omega)))
        have hst := takes_eq_step xss yss (0, []) k (by rw [← HX.out]; exact hlt) (by rw [← HY.out]; exact hlt) hE.out
        generalize vs k = x at g2 r1
        generalize us k = y at g4 r2
        have b1 := HLX.out k
        have b2 := HLY.out k
        generalize xss[k]?.getD (0, []) = px at g1 r1 hst b1
        generalize yss[k]?.getD (0, []) = py at g3 r2 hst b2
        obtain ⟨p, xs⟩ := px
        obtain ⟨q, ys⟩ := py
        have hws := hbel.size
        have R := eqWait_any p q x y xs ys l h l' h' wr.drew (r1.same (SameIn.refl _ _ _)) (r2.same (SameIn.refl _ _ _)) (by show h ≤ wr.heap.size; omega) (by show h' ≤ wr.heap.size; omega) b1 b2
        generalize (((p, xs) : Wt) == (q, ys)) = t at R hst
        have RC : Hid _ := R
        have HST : Hid _ := hst
        clear hst r1 r2 hcc hcc' R b1 b2
        have hi0 : (0 : Int) ≤ (k : Int) := by omega
        have hi1 : (k : Int) < (n : Int) := by omega
        have hbs : b < wr.heap.size := by omega
        have hbs' : b' < wr.heap.size := by omega
        cases t with
        | false =>
          have HF : Hid ((xss == yss) = false) := HST.out.2 rfl
          clear HST
          go_wp2
          go_region_held3 (fun w' => w'.cell? ⟨b, off + k * 2, none⟩ = some (.int .i64 p) ∧ w'.cell? ⟨b, off + k * 2 + 1, none⟩ = some x ∧ w'.cell? ⟨b', off' + k * 2, none⟩ = some (.int .i64 q) ∧ w'.cell? ⟨b', off' + k * 2 + 1, none⟩ = some y) (first | go_keep | (refine ⟨?_, ?_, ?_, ?_⟩ <;> assumption)) (first | (go_at_call 84; refine Calls.mono RC.out ?_; rintro e w' ⟨rfl, hbw⟩; have k1 := (hbw.cell (p := ⟨b, off + k * 2, none⟩) hbs).trans g1; have k2 := (hbw.cell (p := ⟨b, off + k * 2 + 1, none⟩) hbs).trans g2; have k3 := (hbw.cell (p := ⟨b', off' + k * 2, none⟩) hbs').trans g3; have k4 := (hbw.cell (p := ⟨b', off' + k * 2 + 1, none⟩) hbs').trans g4))
          go_wp2
          go_ret
          exact ⟨by rw [HF.out]; rfl, hbel.drew.trans (hbw.mono hws)⟩
        | true =>
          have HF : Hid (xss.take (k + 1) = yss.take (k + 1)) := HST.out.1 rfl
          clear HST
          go_wp2
          go_region_held3 (fun w' => w'.cell? ⟨b, off + k * 2, none⟩ = some (.int .i64 p) ∧ w'.cell? ⟨b, off + k * 2 + 1, none⟩ = some x ∧ w'.cell? ⟨b', off' + k * 2, none⟩ = some (.int .i64 q) ∧ w'.cell? ⟨b', off' + k * 2 + 1, none⟩ = some y) (first | go_keep | (refine ⟨?_, ?_, ?_, ?_⟩ <;> assumption)) (first | (go_at_call 84; refine Calls.mono RC.out ?_; rintro e w' ⟨rfl, hbw⟩; have k1 := (hbw.cell (p := ⟨b, off + k * 2, none⟩) hbs).trans g1; have k2 := (hbw.cell (p := ⟨b, off + k * 2 + 1, none⟩) hbs).trans g2; have k3 := (hbw.cell (p := ⟨b', off' + k * 2, none⟩) hbs').trans g3; have k4 := (hbw.cell (p := ⟨b', off' + k * 2 + 1, none⟩) hbs').trans g4))
          go_wp2
          go_roundw
          case rel => exact ⟨k + 1, by omega, by go_num, hbel.drew.trans (hbw.mono hws), HF⟩
          case measure => simp [intOf]; omega
      · have hkn : k = n := by omega
        subst hkn
        have ht : xss = yss := by
          have := hE.out
          rwa [List.take_of_length_le (by rw [← HX.out]; exact Nat.le_refl _), List.take_of_length_le (by rw [← HY.out]; exact Nat.le_refl _)] at this
        go_wp2
        go_ret
        exact ⟨by rw [ht]; simp, hbel⟩
  · have : (xss == yss) = false := by
      apply beq_eq_false_iff_ne.2; intro e; exact hne (by rw [hn, hn', e])
    rw [this]
    clear this hn hn' he he' hc hc' hhd hhd' hl hm hlx hly
    have hd : ((n : Int) == (n' : Int)) = false := by simp; omega
    go_enter Tryd.func64, Tryd.ntmps64
    go_wp2
    go_ret
    exact ⟨rfl, Below.refl _ _⟩
end Go.Proofs.YtjhaanenkeceiaaDoor
