/- The program and all ways up to the root. Condition: as in ImplT6, and at most 2^21 nodes. -/
import Derived.Test.YtaaongjnpnanmaaImplT6
namespace Go.Proofs.Ytaaongjnpnanmaa
open Go.RowKit
open Go.Maps
set_option linter.unusedVariables false
set_option maxRecDepth 100000
set_option linter.unusedSimpArgs false

def climbAt (f : Hd → Option Nd) (s : Nat) (l : List Nd) (i : Nat) : Bool := !(l[i]?.getD nd0).h.dir || climb f s (l[i]?.getD nd0).h

set_option maxRecDepth 100000 in
set_option maxHeartbeats 1000000 in
theorem allCome_any (x : Value) (l : List Nd) (S : Nat → Prop) (b0 s : Nat) (f : Hd → Option Nd) (w : World) (r : RdV w S x (ndsDt l)) (hl : l.length ≤ 2097152) (M : MapH ndP w b0 s f) (hs : s ≤ 2097152) (hin : ∀ i, i < l.length → HIn (l[i]?.getD nd0).h) (hp : ∀ g n, f g = some n → HIn n.par) :
    Calls Try.prog 51 #[.map (some b0), x] w fun e w' => e = .returned (.bool ((List.range l.length).all (climbAt f s l))) ∧ Below w.heap.size w w' := by
  obtain ⟨a, cap, rfl, _⟩ := RdV.sliced r
  have HR : Hid (∀ W, Below w.heap.size w W → RdV W S (.slice a l.length cap) (.rows 83 9 l.length (fun i j => ndCell (l[i]?.getD nd0) j))) := RdV.old r
  have hbs := M.lt
  have HC : Hid (∀ W, Below w.heap.size w W → ∀ h, HIn h → Calls Try.prog 95 #[.map (some b0), h.v] W fun e w' => e = .returned (.bool (climb f s h)) ∧ Below W.heap.size W w') := fun W hW h hh => comesToRoot_any b0 s f h W (M.blk (hW.block b0 hbs)) hs hh hp
  obtain ⟨n, hn⟩ : ∃ n, l.length = n := ⟨_, rfl⟩
  have HIN : Hid (∀ i, i < l.length → HIn (l[i]?.getD nd0).h) := hin
  rw [hn] at hl HR HIN ⊢
  clear r hn hin hp M hs hbs
  go_enter Try.func51, Try.ntmps51
  go_wp2
  go_loopw [9] (fun i wr => ∃ k : Nat, k ≤ n ∧ i = .int .i64 k ∧ Below w.heap.size w wr ∧ Hid ((List.range k).all (climbAt f s l) = true)) (fun i _ => n - (intOf i).toNat)
  case atStart => exact ⟨0, Nat.zero_le _, rfl, Below.refl _ _, by show _ = _; simp⟩
  case round =>
    obtain ⟨k, hk, rfl, hbel, HA⟩ := hrel
    by_cases hlt : k < n
    case neg =>
      have he : k = n := by omega
      subst he
      go_wp2
      go_ret
      exact ⟨by rw [HA.out]; rfl, hbel⟩
    obtain ⟨b, off, rfl, hbl, _, hx⟩ := RdV.at (HR.out wr hbel) hlt
    obtain ⟨x0, g0, s0⟩ := hx 0 (by omega)
    obtain ⟨x1, g1, s1⟩ := hx 1 (by omega)
    obtain ⟨x2, g2, s2⟩ := hx 2 (by omega)
    obtain ⟨x3, g3, s3⟩ := hx 3 (by omega)
    obtain ⟨x4, g4, s4⟩ := hx 4 (by omega)
    obtain ⟨x5, g5, s5⟩ := hx 5 (by omega)
    obtain ⟨x6, g6, s6⟩ := hx 6 (by omega)
    obtain ⟨x7, g7, s7⟩ := hx 7 (by omega)
    obtain ⟨x8, g8, s8⟩ := hx 8 (by omega)
    have HIK := HIN.out k hlt
    have HAT : Hid (climbAt f s l k = (!(l[k]?.getD nd0).h.dir || climb f s (l[k]?.getD nd0).h)) := by show _ = _; rfl
    generalize l[k]?.getD nd0 = e at *
    obtain ⟨⟨p, q, d⟩, ⟨p2, q2, d2⟩, lk, vl, es⟩ := e
    obtain rfl : x0 = .int .i64 p := s0
    obtain rfl : x1 = .int .i64 q := s1
    obtain rfl : x2 = .bool d := s2
    obtain rfl : x3 = .int .i64 p2 := s3
    obtain rfl : x4 = .int .i64 q2 := s4
    obtain rfl : x5 = .bool d2 := s5
    obtain rfl : x6 = .int .i64 lk := s6
    obtain rfl : x7 = .int .i64 vl := s7
    obtain ⟨xa, xc, rfl, _⟩ := RdV.sliced s8
    simp only [Nat.add_zero] at g0
    generalize es.length = xn at *
    have HI : Hid (HIn (p, q, d)) := HIK
    clear HIK hx s8 HIN
    cases d with
    | false =>
      have HF : Hid ((List.range (k + 1)).all (climbAt f s l) = true) := range_all_next _ _ HA.out (by rw [HAT.out]; rfl)
      clear HAT HA HC
      go_wp2
      first
      | exact ⟨⟨k + 1, by omega, by go_num, hbel.alloc hbel.size _, HF.out⟩, by simp [intOf]; omega⟩
      | (go_roundw
         case rel => exact ⟨k + 1, by omega, by go_num, hbel.alloc hbel.size _, HF.out⟩
         case measure => simp [intOf]; omega)
    | true =>
      have HX : Hid (∀ W, Below w.heap.size w W → _) := fun W hW => HC.out W hW (p, q, true) HI.out
      obtain ⟨bc, hbc⟩ : ∃ bc, climb f s (p, q, true) = bc := ⟨_, rfl⟩
      have HAT2 : Hid (climbAt f s l k = bc) := by rw [HAT.out]; show _ = _; rw [← hbc]; rfl
      rw [hbc] at HX
      clear hbc HAT HC
      have HB : Hid (Below w.heap.size w (wr.alloc (.cells #[.int .i64 p, .int .i64 q, .bool true, .int .i64 p2, .int .i64 q2, .bool d2, .int .i64 lk, .int .i64 vl, .slice xa xn xc] 83))) := hbel.alloc hbel.size _
      go_wp2_with fail
      refine Calls.mono (HX.out _ HB.out) ?_
      rintro e w3 ⟨rfl, b_⟩
      have hb4 := HB.out.trans (b_.mono HB.out.size)
      clear HX HB b_ g0 g1 g2 g3 g4 g5 g6 g7 g8
      cases bc with
      | false =>
        have HF : Hid ((List.range n).all (climbAt f s l) = false) := range_all_false _ _ k hlt HAT2.out
        clear HAT2 HA
        go_wp2
        go_ret
        exact ⟨by rw [HF.out]; rfl, hb4⟩
      | true =>
        have HF : Hid ((List.range (k + 1)).all (climbAt f s l) = true) := range_all_next _ _ HA.out HAT2.out
        clear HAT2 HA
        go_wp2
        first
        | exact ⟨⟨k + 1, by omega, by go_num, hb4, HF.out⟩, by simp [intOf]; omega⟩
        | (go_roundw
           case rel => exact ⟨k + 1, by omega, by go_num, hb4, HF.out⟩
           case measure => simp [intOf]; omega)
end Go.Proofs.Ytaaongjnpnanmaa
