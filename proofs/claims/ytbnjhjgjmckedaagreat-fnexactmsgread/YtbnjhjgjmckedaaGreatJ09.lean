/- Joined: Names4 WOk Roots EqH WOk2 OpOks. -/
import Derived.Test.YtbnjhjgjmckedaaGreatJ02
import Derived.Deep.QuietTactic
import Derived.Test.YtbnjhjgjmckedaaGreatJ03
import Derived.Deep.RegionHeld3
import Derived.BigQuiet
import Derived.Test.YtbnjhjgjmckedaaGreatJ05

section
/- Names: what the specification's and the program's looks at one answer. Condition: at most 2^21 bytes. -/
namespace Go.Proofs.YtbnjhjgjmckedaaGreat
open Go.RowKit
set_option linter.unusedVariables false

def isLow (c : Int) : Bool := decide (97 ≤ c) && decide (c ≤ 122)
def isNm (zs : List Int) : Bool := (decide (1 ≤ zs.length) && decide (zs.length ≤ 6)) && zs.all isLow
theorem all_take_next (zs : List Int) (k : Nat) (hk : k < zs.length) (h : (zs.take k).all isLow = true) : (isLow (zs[k]?.getD 0) = true → (zs.take (k + 1)).all isLow = true) ∧ (isLow (zs[k]?.getD 0) = false → zs.all isLow = false) := by
  constructor
  · intro hc
    rw [List.take_succ_eq_append_getElem hk, List.all_append, h]
    simp [hk] at hc
    simp [hc]
  · intro hc
    simp [hk] at hc
    rw [List.all_eq_false]
    exact ⟨zs[k], List.getElem_mem hk, by simp [hc]⟩

set_option maxHeartbeats 1000000 in
theorem specName_any (v : Value) (zs : List Int) (S : Nat → Prop) (w : World) (r : RdV w S v (.bytes zs)) (hl : zs.length ≤ 2097152) :
    Calls Tryz.prog 81 #[v] w fun e w' => e = .returned (.bool (isNm zs)) ∧ w' = w := by
  obtain ⟨a, cap, rfl, hh, hb, hc⟩ := r.b.reads
  clear r
  obtain ⟨n, hn⟩ : ∃ n, zs.length = n := ⟨_, rfl⟩
  have HC : Hid _ := hc
  have HN : Hid _ := hn
  have HI : Hid (isNm zs = ((decide (1 ≤ n) && decide (n ≤ 6)) && zs.all isLow)) := by show _ = _; unfold isNm; rw [hn]
  rw [hn] at hl ⊢
  rw [HI.out]
  clear hc hn hh hb HI
  by_cases h0 : 1 ≤ n
  case neg =>
    have e1 : decide (1 ≤ n) = false := by simpa using h0
    rw [e1]
    go_enter Tryz.func81, Tryz.ntmps81
    go_wp2
    go_ret
    exact ⟨by simp, rfl⟩
  by_cases h6 : n ≤ 6
  case neg =>
    have e1 : decide (n ≤ 6) = false := by simpa using h6
    rw [e1]
    go_enter Tryz.func81, Tryz.ntmps81
    go_wp2
    go_ret
    exact ⟨by simp, rfl⟩
  have e1 : decide (1 ≤ n) = true := by simpa using h0
  have e2 : decide (n ≤ 6) = true := by simpa using h6
  rw [e1, e2]
  clear e1 e2
  go_enter Tryz.func81, Tryz.ntmps81
  go_wp2
  go_loop [3] (fun i => ∃ k : Nat, k ≤ n ∧ i = .int .i64 k ∧ Hid ((zs.take k).all isLow = true)) (fun i => n - (intOf i).toNat)
  case atStart => exact ⟨0, Nat.zero_le _, rfl, by show _ = _; simp⟩
  case round =>
    obtain ⟨k, hk, rfl, HA⟩ := hrel
    by_cases hlt : k < n
    · obtain ⟨b, off, rfl, hbl, hcell⟩ := HC.out.resolve_left (fun e => by have := HN.out; rw [e] at this; simp at this; omega)
      have c1 := hcell k (by rw [HN.out]; exact hlt)
      have HST : Hid _ := all_take_next zs k (by rw [HN.out]; exact hlt) HA.out
      generalize zs[k]?.getD 0 = c at c1 HST
      clear hcell HA
      go_wp2
      all_goals first
        | (go_ret
           exact ⟨by rw [HST.out.2 (by simp [isLow]; omega)]; rfl, rfl⟩)
        | (go_round
           case rel => exact ⟨k + 1, by omega, by go_num, HST.out.1 (by simp [isLow]; omega)⟩
           case measure => simp [intOf]; omega)
    · have he : k = n := by omega
      subst he
      have HF : Hid (zs.all isLow = true) := by
        have := HA.out
        rwa [List.take_of_length_le (by rw [HN.out]; exact Nat.le_refl _)] at this
      go_wp2
      go_ret
      exact ⟨by rw [HF.out]; rfl, rfl⟩

set_option maxHeartbeats 1000000 in
theorem implName_any (v : Value) (zs : List Int) (S : Nat → Prop) (w : World) (r : RdV w S v (.bytes zs)) (hl : zs.length ≤ 2097152) :
    Calls Tryz.prog 160 #[v] w fun e w' => e = .returned (.bool (isNm zs)) ∧ w' = w := by
  obtain ⟨a, cap, rfl, hh, hb, hc⟩ := r.b.reads
  clear r
  obtain ⟨n, hn⟩ : ∃ n, zs.length = n := ⟨_, rfl⟩
  have HC : Hid _ := hc
  have HN : Hid _ := hn
  have HI : Hid (isNm zs = ((decide (1 ≤ n) && decide (n ≤ 6)) && zs.all isLow)) := by show _ = _; unfold isNm; rw [hn]
  rw [hn] at hl ⊢
  rw [HI.out]
  clear hc hn hh hb HI
  by_cases h0 : 1 ≤ n
  case neg =>
    have e1 : decide (1 ≤ n) = false := by simpa using h0
    rw [e1]
    go_enter Tryz.func160, Tryz.ntmps160
    go_wp2
    go_ret
    exact ⟨by simp, rfl⟩
  by_cases h6 : n ≤ 6
  case neg =>
    have e1 : decide (n ≤ 6) = false := by simpa using h6
    rw [e1]
    go_enter Tryz.func160, Tryz.ntmps160
    go_wp2
    go_ret
    exact ⟨by simp, rfl⟩
  have e1 : decide (1 ≤ n) = true := by simpa using h0
  have e2 : decide (n ≤ 6) = true := by simpa using h6
  rw [e1, e2]
  clear e1 e2
  go_enter Tryz.func160, Tryz.ntmps160
  go_wp2
  go_loop [15] (fun i => ∃ k : Nat, k ≤ n ∧ i = .int .i64 k ∧ Hid ((zs.take k).all isLow = true)) (fun i => n - (intOf i).toNat)
  case atStart => exact ⟨0, Nat.zero_le _, rfl, by show _ = _; simp⟩
  case round =>
    obtain ⟨k, hk, rfl, HA⟩ := hrel
    by_cases hlt : k < n
    · obtain ⟨b, off, rfl, hbl, hcell⟩ := HC.out.resolve_left (fun e => by have := HN.out; rw [e] at this; simp at this; omega)
      have c1 := hcell k (by rw [HN.out]; exact hlt)
      have HST : Hid _ := all_take_next zs k (by rw [HN.out]; exact hlt) HA.out
      generalize zs[k]?.getD 0 = c at c1 HST
      clear hcell HA
      go_wp2
      all_goals first
        | (go_ret
           exact ⟨by rw [HST.out.2 (by simp [isLow]; omega)]; rfl, rfl⟩)
        | (go_round
           case rel => exact ⟨k + 1, by omega, by go_num, HST.out.1 (by simp [isLow]; omega)⟩
           case measure => simp [intOf]; omega)
    · have he : k = n := by omega
      subst he
      have HF : Hid (zs.all isLow = true) := by
        have := HA.out
        rwa [List.take_of_length_le (by rw [HN.out]; exact Nat.le_refl _)] at this
      go_wp2
      go_ret
      exact ⟨by rw [HF.out]; rfl, rfl⟩
end Go.Proofs.YtbnjhjgjmckedaaGreat
end

section
/- May a transaction's number be? By the specification and by the program; no condition. -/
namespace Go.Proofs.YtbnjhjgjmckedaaGreat
open Go.RowKit
set_option linter.unusedVariables false
set_option maxRecDepth 100000
set_option linter.unusedSimpArgs false

def num (n : Int) : Bool := decide (0 ≤ n) && decide (n ≤ 2147483647)
def TOk (t : TxD) : Bool := (decide (0 ≤ t.1) && decide (t.1 < 4)) && (num t.2.1 && num t.2.2)
theorem specTxOk_w (t : TxD) (w : World) : Calls Tryz.prog 31 #[txV t] w fun e w' => e = .returned (.bool (TOk t)) ∧ w' = w.alloc (.cells #[.int .i64 t.1, .int .i64 t.2.1, .int .i64 t.2.2] 31) := by
  obtain ⟨s, i, d⟩ := t
  go_enter Tryz.func31, Tryz.ntmps31
  go_wp2
  all_goals (go_ret; exact ⟨by first | rfl | (simp_all [TOk, num] <;> omega), rfl⟩)
theorem implTxOk_w (t : TxD) (w : World) : Calls Tryz.prog 167 #[txV t] w fun e w' => e = .returned (.bool (TOk t)) ∧ w' = w.alloc (.cells #[.int .i64 t.1, .int .i64 t.2.1, .int .i64 t.2.2] 31) := by
  obtain ⟨s, i, d⟩ := t
  go_enter Tryz.func167, Tryz.ntmps167
  go_wp2
  all_goals (go_ret; exact ⟨by first | rfl | (simp_all [TOk, num] <;> omega), rfl⟩)
theorem specTxOk_any (t : TxD) (w : World) : Calls Tryz.prog 31 #[txV t] w fun e w' => e = .returned (.bool (TOk t)) ∧ Below w.heap.size w w' :=
  (specTxOk_w t w).mono fun e w' ⟨he, hw⟩ => ⟨he, by rw [hw]; exact Below.newH _⟩
end Go.Proofs.YtbnjhjgjmckedaaGreat
end

section
/- The tree of the root alone, as the specification and the program make it; no condition. -/
namespace Go.Proofs.YtbnjhjgjmckedaaGreat
open Go.RowKit
set_option linter.unusedVariables false
set_option linter.unusedSimpArgs false

def rootH : Hd := (0, 1, true)
def rootN : Nd := ⟨rootH, rootH, 1, 0, []⟩
abbrev rootV : Value := .agg #[.int .i64 0, .int .i64 1, .bool true]
end Go.Proofs.YtbnjhjgjmckedaaGreat
end

section
/- Two handles compared, as one step; no condition. -/
namespace Go.Proofs.YtbnjhjgjmckedaaGreat
open Go.RowKit
set_option linter.unusedVariables false
set_option linter.unusedSimpArgs false

theorem eqH_run (p q s i : Int) (d e : Bool) (w : World) : (binOp .eql 24 (.agg #[.int .i64 p, .int .i64 q, .bool d]) (.agg #[.int .i64 s, .int .i64 i, .bool e])).run Tryz.prog w = .ok (.bool (decide (p = s ∧ q = i ∧ d = e))) w := by
  by_cases h1 : p = s
  · subst h1
    by_cases h2 : q = i
    · subst h2
      by_cases h3 : d = e
      · subst h3
        simp [go_sem]
      · have g : (d == e) = false := by simpa using h3
        simp [go_sem, g, h3]
    · have g : (q == i) = false := by simpa using h2
      simp [go_sem, g, h2]
  · have g : (p == s) = false := by simpa using h1
    simp [go_sem, g, h1]
theorem neH_run (p q s i : Int) (d e : Bool) (w : World) : (binOp .neq 24 (.agg #[.int .i64 p, .int .i64 q, .bool d]) (.agg #[.int .i64 s, .int .i64 i, .bool e])).run Tryz.prog w = .ok (.bool (!decide (p = s ∧ q = i ∧ d = e))) w := by
  by_cases h1 : p = s
  · subst h1
    by_cases h2 : q = i
    · subst h2
      by_cases h3 : d = e
      · subst h3
        simp [go_sem]
      · have g : (d == e) = false := by simpa using h3
        simp [go_sem, g, h3]
    · have g : (q == i) = false := by simpa using h2
      simp [go_sem, g, h2]
  · have g : (p == s) = false := by simpa using h1
    simp [go_sem, g, h1]
end Go.Proofs.YtbnjhjgjmckedaaGreat
end

section
/- May a part be? By the specification and by the program. Condition: a text of at most 2^21 bytes. -/
namespace Go.Proofs.YtbnjhjgjmckedaaGreat
open Go.RowKit
set_option linter.unusedVariables false
set_option maxRecDepth 100000
set_option linter.unusedSimpArgs false

def POk (p : PtD) : Bool :=
  if p.kind = 0 then HOk p.h && (decide (p.asn.length = 0) && decide (p.to = hd0))
  else if p.kind = 1 then (HOk p.h && !p.h.dir) && (decide (p.asn.length = 0) && decide (p.to = hd0))
  else if p.kind = 2 then ((decide (0 ≤ p.h.sh) && decide (p.h.sh < 4)) && decide (p.h.ino = 0)) && (decide (p.asn.length = 0) && (HOk p.to && p.to.dir))
  else if p.kind = 3 then (HOk p.h && p.h.dir) && (isNm p.asn && HOk p.to)
  else if p.kind = 4 then (HOk p.h && p.h.dir) && (decide (p.asn.length = 0) && (HOk p.to && p.to.dir))
  else if p.kind = 5 then decide (p.h = hd0) && (decide (p.asn.length = 0) && decide (p.to = hd0))
  else false
theorem Below.al {a b : World} (h : Below a.heap.size a b) (o : Obj) : Below a.heap.size a (b.alloc o) := h.alloc h.size _
theorem implShard_w (n : Int) (w : World) : Calls Tryz.prog 161 #[.int .i64 n] w fun e w' => e = .returned (.bool (decide (0 ≤ n) && decide (n < 4))) ∧ w' = w := by
  go_enter Tryz.func161, Tryz.ntmps161
  go_wp2
  all_goals (go_ret; exact ⟨by first | rfl | (simp_all; done) | (simp_all; omega), rfl⟩)
set_option maxHeartbeats 1000000 in
theorem implDir_w (h : Hd) (w : World) : Calls Tryz.prog 169 #[h.v] w fun e w' => e = .returned (.bool (HOk h && h.dir)) ∧ w' = (w.alloc (.cells #[.int .i64 h.sh, .int .i64 h.ino, .bool h.dir] 24)).alloc (.cells #[.int .i64 h.sh, .int .i64 h.ino, .bool h.dir] 24) := by
  obtain ⟨p, q, d⟩ := h
  have HH : Hid (∀ (W : World), Calls Tryz.prog 156 #[.agg #[.int .i64 p, .int .i64 q, .bool d]] W fun e w' => e = .returned (.bool (HOk (p, q, d))) ∧ w' = W.alloc (.cells #[.int .i64 p, .int .i64 q, .bool d] 24)) := fun W => implHandleOk_w (p, q, d) W
  go_enter Tryz.func169, Tryz.ntmps169
  go_wp2_with (go_at_call 156; refine Calls.mono (HH.out _) ?_; rintro e w' ⟨rfl, rfl⟩)
  all_goals (clear HH; go_ret; exact ⟨by first | rfl | simp_all [Hd.dir], rfl⟩)
set_option maxHeartbeats 4000000 in
theorem specPartOk_any (x : Value) (o : PtD) (S : Nat → Prop) (w : World) (r : RdV w S x (.bytes o.asn)) (hl : o.asn.length ≤ 2097152) :
    Calls Tryz.prog 32 #[ptV o x] w fun e w' => e = .returned (.bool (POk o)) ∧ Below w.heap.size w w' := by
  obtain ⟨a, cap, rfl⟩ := r.sliceB
  obtain ⟨kd, ⟨p, q, d⟩, nm, ⟨p2, q2, d2⟩⟩ := o
  dsimp only at r hl ⊢
  have HX : Hid (∀ W, Below w.heap.size w W → _) := fun W hW => specName_any _ nm S W (r.step hW) hl
  have HH : Hid (∀ (p q : Int) (d : Bool) (W : World), Calls Tryz.prog 34 #[.agg #[.int .i64 p, .int .i64 q, .bool d]] W fun e w' => e = .returned (.bool (HOk (p, q, d))) ∧ w' = W.alloc (.cells #[.int .i64 p, .int .i64 q, .bool d] 24)) := fun p q d W => specHandleOk_w (p, q, d) W
  obtain ⟨res, hres⟩ : ∃ res, POk ⟨kd, (p, q, d), nm, (p2, q2, d2)⟩ = res := ⟨_, rfl⟩
  rw [hres]
  simp only [POk] at hres
  generalize isNm nm = bn at HX hres
  generalize nm.length = n0 at *
  have HRES : Hid _ := hres
  clear r hl hres
  go_enter Tryz.func32, Tryz.ntmps32
  go_wp2_with (first | (go_at_call 81; refine Calls.mono (HX.out _ (by repeat (first | exact Below.refl _ _ | refine Below.al ?_ _ | refine below_drewN2 ?_ _))) ?_; rintro e w' ⟨rfl, rfl⟩) | (go_at_call 34; refine Calls.mono (HH.out _ _ _ _) ?_; rintro e w' ⟨rfl, rfl⟩))
  all_goals (clear HX HH; go_ret; refine ⟨?_, by repeat (first | exact Below.refl _ _ | refine Below.al ?_ _ | refine below_drewN2 ?_ _)⟩; rw [← HRES.out]; clear HRES; first | rfl | (simp_all [hd0, Hd.sh, Hd.ino, Hd.dir]; done) | (simp_all [hd0, Hd.sh, Hd.ino, Hd.dir]; omega) | (simp_all [hd0, Hd.sh, Hd.ino, Hd.dir]; intros; simp_all; done))
set_option maxHeartbeats 4000000 in
theorem implPartOk_any (x : Value) (o : PtD) (S : Nat → Prop) (w : World) (r : RdV w S x (.bytes o.asn)) (hl : o.asn.length ≤ 2097152) :
    Calls Tryz.prog 168 #[ptV o x] w fun e w' => e = .returned (.bool (POk o)) ∧ Below w.heap.size w w' := by
  obtain ⟨a, cap, rfl⟩ := r.sliceB
  obtain ⟨kd, ⟨p, q, d⟩, nm, ⟨p2, q2, d2⟩⟩ := o
  dsimp only at r hl ⊢
  have HX : Hid (∀ W, Below w.heap.size w W → _) := fun W hW => implName_any _ nm S W (r.step hW) hl
  have HH : Hid (∀ (p q : Int) (d : Bool) (W : World), Calls Tryz.prog 156 #[.agg #[.int .i64 p, .int .i64 q, .bool d]] W fun e w' => e = .returned (.bool (HOk (p, q, d))) ∧ w' = W.alloc (.cells #[.int .i64 p, .int .i64 q, .bool d] 24)) := fun p q d W => implHandleOk_w (p, q, d) W
  have HS : Hid (∀ (n : Int) (W : World), Calls Tryz.prog 161 #[.int .i64 n] W fun e w' => e = .returned (.bool (decide (0 ≤ n) && decide (n < 4))) ∧ w' = W) := fun n W => implShard_w n W
  have HD : Hid (∀ (p q : Int) (d : Bool) (W : World), Calls Tryz.prog 169 #[.agg #[.int .i64 p, .int .i64 q, .bool d]] W fun e w' => e = .returned (.bool (HOk (p, q, d) && d)) ∧ w' = (W.alloc (.cells #[.int .i64 p, .int .i64 q, .bool d] 24)).alloc (.cells #[.int .i64 p, .int .i64 q, .bool d] 24)) := fun p q d W => implDir_w (p, q, d) W
  obtain ⟨res, hres⟩ : ∃ res, POk ⟨kd, (p, q, d), nm, (p2, q2, d2)⟩ = res := ⟨_, rfl⟩
  rw [hres]
  simp only [POk] at hres
  generalize isNm nm = bn at HX hres
  generalize nm.length = n0 at *
  have HRES : Hid _ := hres
  clear r hl hres
  go_enter Tryz.func168, Tryz.ntmps168
  go_wp2_with fail
  have hE := fun W => eqH_run p2 q2 0 0 d2 false W
  go_quiet (fail)
  go_wp2_with (first | (go_at_call 160; refine Calls.mono (HX.out _ (by repeat (first | exact Below.refl _ _ | refine Below.al ?_ _ | refine below_drewN2 ?_ _))) ?_; rintro e w' ⟨rfl, rfl⟩) | (go_at_call 156; refine Calls.mono (HH.out _ _ _ _) ?_; rintro e w' ⟨rfl, rfl⟩) | (go_at_call 161; refine Calls.mono (HS.out _ _) ?_; rintro e w' ⟨rfl, rfl⟩) | (go_at_call 169; refine Calls.mono (HD.out _ _ _ _) ?_; rintro e w' ⟨rfl, rfl⟩))
  all_goals (clear HX HH HD HS; go_ret; refine ⟨?_, by repeat (first | exact Below.refl _ _ | refine Below.al ?_ _ | refine below_drewN2 ?_ _)⟩; rw [← HRES.out]; clear HRES; first | rfl | (simp_all [hd0, Hd.sh, Hd.ino, Hd.dir]; done) | (simp_all [hd0, Hd.sh, Hd.ino, Hd.dir]; omega) | (simp_all [hd0, Hd.sh, Hd.ino, Hd.dir]; intros; simp_all; done))
end Go.Proofs.YtbnjhjgjmckedaaGreat
end

section
/- What the specification's and the program's looks at an operation answer. Condition: texts of at most 2^21 bytes. -/
namespace Go.Proofs.YtbnjhjgjmckedaaGreat
open Go.RowKit
set_option linter.unusedVariables false
set_option linter.unusedSimpArgs false

def nmP (k : Int) : Bool := k == 0 || k == 5 || k == 4 || k == 6 || k == 7
def toP (k : Int) : Bool := k == 4 || k == 6 || k == 7
def asP (k : Int) : Bool := k == 7
theorem parts0 (w : World) : Calls Tryz.prog 80 #[.int .i64 0] w fun e w' => e = .returned (.tuple #[.bool true, .bool false, .bool false]) ∧ w' = w := by
  go_enter Tryz.func80, Tryz.ntmps80
  go_wp2
  refine bodyPost_ret (v := .tuple #[.bool true, .bool false, .bool false]) (by simp [results, Tryz.results80, go_sem]) rfl ⟨rfl, rfl⟩
theorem parts1 (w : World) : Calls Tryz.prog 80 #[.int .i64 1] w fun e w' => e = .returned (.tuple #[.bool false, .bool false, .bool false]) ∧ w' = w := by
  go_enter Tryz.func80, Tryz.ntmps80
  go_wp2
  refine bodyPost_ret (v := .tuple #[.bool false, .bool false, .bool false]) (by simp [results, Tryz.results80, go_sem]) rfl ⟨rfl, rfl⟩
theorem parts2 (w : World) : Calls Tryz.prog 80 #[.int .i64 2] w fun e w' => e = .returned (.tuple #[.bool false, .bool false, .bool false]) ∧ w' = w := by
  go_enter Tryz.func80, Tryz.ntmps80
  go_wp2
  refine bodyPost_ret (v := .tuple #[.bool false, .bool false, .bool false]) (by simp [results, Tryz.results80, go_sem]) rfl ⟨rfl, rfl⟩
theorem parts3 (w : World) : Calls Tryz.prog 80 #[.int .i64 3] w fun e w' => e = .returned (.tuple #[.bool false, .bool false, .bool false]) ∧ w' = w := by
  go_enter Tryz.func80, Tryz.ntmps80
  go_wp2
  refine bodyPost_ret (v := .tuple #[.bool false, .bool false, .bool false]) (by simp [results, Tryz.results80, go_sem]) rfl ⟨rfl, rfl⟩
theorem parts4 (w : World) : Calls Tryz.prog 80 #[.int .i64 4] w fun e w' => e = .returned (.tuple #[.bool true, .bool true, .bool false]) ∧ w' = w := by
  go_enter Tryz.func80, Tryz.ntmps80
  go_wp2
  refine bodyPost_ret (v := .tuple #[.bool true, .bool true, .bool false]) (by simp [results, Tryz.results80, go_sem]) rfl ⟨rfl, rfl⟩
theorem parts5 (w : World) : Calls Tryz.prog 80 #[.int .i64 5] w fun e w' => e = .returned (.tuple #[.bool true, .bool false, .bool false]) ∧ w' = w := by
  go_enter Tryz.func80, Tryz.ntmps80
  go_wp2
  refine bodyPost_ret (v := .tuple #[.bool true, .bool false, .bool false]) (by simp [results, Tryz.results80, go_sem]) rfl ⟨rfl, rfl⟩
theorem parts6 (w : World) : Calls Tryz.prog 80 #[.int .i64 6] w fun e w' => e = .returned (.tuple #[.bool true, .bool true, .bool false]) ∧ w' = w := by
  go_enter Tryz.func80, Tryz.ntmps80
  go_wp2
  refine bodyPost_ret (v := .tuple #[.bool true, .bool true, .bool false]) (by simp [results, Tryz.results80, go_sem]) rfl ⟨rfl, rfl⟩
theorem parts7 (w : World) : Calls Tryz.prog 80 #[.int .i64 7] w fun e w' => e = .returned (.tuple #[.bool true, .bool true, .bool true]) ∧ w' = w := by
  go_enter Tryz.func80, Tryz.ntmps80
  go_wp2
  refine bodyPost_ret (v := .tuple #[.bool true, .bool true, .bool true]) (by simp [results, Tryz.results80, go_sem]) rfl ⟨rfl, rfl⟩

/-- May the operation be? -/
def nmB (o : OpD) : Bool := if nmP o.kind then isNm o.nm else decide (o.nm.length = 0)
def toB (o : OpD) : Bool := if o.kind = 4 then (decide (0 ≤ o.to.sh) && decide (o.to.sh < 4)) && decide (o.to.ino = 0) else if toP o.kind then HOk o.to else decide (o.to = hd0)
def asB (o : OpD) : Bool := if asP o.kind then isNm o.asn else decide (o.asn.length = 0)
def vlB (o : OpD) : Bool := if o.kind = 3 then decide (0 ≤ o.val) && decide (o.val ≤ 2147483647) else decide (o.val = 0)
def OOk (o : OpD) : Bool := ((decide (0 ≤ o.kind) && decide (o.kind ≤ 7)) && HOk o.dir) && (nmB o && (toB o && (asB o && vlB o)))
theorem kinds {k : Int} (h0 : 0 ≤ k) (h7 : k ≤ 7) : k = 0 ∨ k = 1 ∨ k = 2 ∨ k = 3 ∨ k = 4 ∨ k = 5 ∨ k = 6 ∨ k = 7 := by omega
set_option maxHeartbeats 2000000 in
theorem specOp0 (x y : Value) (o : OpD) (S : Nat → Prop) (w : World) (r : RdV w S x (.bytes o.nm)) (r2 : RdV w S y (.bytes o.asn)) (hl : o.nm.length ≤ 2097152) (hl2 : o.asn.length ≤ 2097152) (hk : o.kind = 0) :
    Calls Tryz.prog 27 #[opV o x y] w fun e w' => e = .returned (.bool (OOk o)) ∧ Below w.heap.size w w' := by
  obtain ⟨a, cap, rfl⟩ := r.sliceB
  obtain ⟨a2, cap2, rfl⟩ := r2.sliceB
  obtain ⟨kd, ⟨p, q, d⟩, nm, ⟨p2, q2, d2⟩, asn, vl⟩ := o
  dsimp only at r r2 hl hl2 hk ⊢
  subst hk
  have HX : Hid (∀ W, Below w.heap.size w W → _) := fun W hW => specName_any _ nm S W (r.step hW) hl
  have HH : Hid (∀ W, _) := fun W => specHandleOk_w (p, q, d) W
  have HP : Hid (∀ W, _) := fun W => parts0 W
  obtain ⟨res, hres⟩ : ∃ res, OOk ⟨0, (p, q, d), nm, (p2, q2, d2), asn, vl⟩ = res := ⟨_, rfl⟩
  rw [hres]
  simp [OOk, nmB, toB, asB, vlB, nmP, toP, asP, hd0] at hres
  clear r r2
  generalize isNm nm = bn at HX hres
  generalize HOk (p, q, d) = bd at HH hres
  have hn0 : nm = [] ↔ nm.length = 0 := by cases nm <;> simp
  have hn1 : asn = [] ↔ asn.length = 0 := by cases asn <;> simp
  try simp only [hn0, hn1] at hres
  clear hn0 hn1
  generalize nm.length = n0 at *
  generalize asn.length = n1 at *
  have HRES : Hid _ := hres
  clear hres
  cases bd with
  | false =>
    go_enter Tryz.func27, Tryz.ntmps27
    go_wp2_with fail
    refine Calls.mono (HH.out _) ?_
    rintro e w2 ⟨rfl, rfl⟩
    go_wp2
    go_ret; exact ⟨by rw [← HRES.out]; first | rfl | (simp_all [Hd.sh, Hd.ino, Hd.dir] <;> omega), (Below.newH2 _ _)⟩
  | true =>
    cases bn with
    | false =>
      go_enter Tryz.func27, Tryz.ntmps27
      go_wp2_with fail
      refine Calls.mono (HH.out _) ?_
      rintro e w2 ⟨rfl, rfl⟩
      go_wp2_with fail
      refine Calls.mono (HP.out _) ?_
      rintro e w3 ⟨rfl, rfl⟩
      go_wp2_with fail
      refine Calls.mono (HX.out _ (Below.newH2 _ _)) ?_
      rintro e w4 ⟨rfl, rfl⟩
      go_wp2
      all_goals (go_ret; exact ⟨by rw [← HRES.out]; first | rfl | (simp_all [Hd.sh, Hd.ino, Hd.dir] <;> omega), (Below.newH2 _ _)⟩)
    | true =>
      go_enter Tryz.func27, Tryz.ntmps27
      go_wp2_with fail
      refine Calls.mono (HH.out _) ?_
      rintro e w2 ⟨rfl, rfl⟩
      go_wp2_with fail
      refine Calls.mono (HP.out _) ?_
      rintro e w3 ⟨rfl, rfl⟩
      go_wp2_with fail
      refine Calls.mono (HX.out _ (Below.newH2 _ _)) ?_
      rintro e w4 ⟨rfl, rfl⟩
      go_wp2
      all_goals (go_ret; exact ⟨by rw [← HRES.out]; first | rfl | (simp_all [Hd.sh, Hd.ino, Hd.dir] <;> omega), (Below.newH2 _ _)⟩)
set_option maxHeartbeats 2000000 in
theorem specOp1 (x y : Value) (o : OpD) (S : Nat → Prop) (w : World) (r : RdV w S x (.bytes o.nm)) (r2 : RdV w S y (.bytes o.asn)) (hl : o.nm.length ≤ 2097152) (hl2 : o.asn.length ≤ 2097152) (hk : o.kind = 1) :
    Calls Tryz.prog 27 #[opV o x y] w fun e w' => e = .returned (.bool (OOk o)) ∧ Below w.heap.size w w' := by
  obtain ⟨a, cap, rfl⟩ := r.sliceB
  obtain ⟨a2, cap2, rfl⟩ := r2.sliceB
  obtain ⟨kd, ⟨p, q, d⟩, nm, ⟨p2, q2, d2⟩, asn, vl⟩ := o
  dsimp only at r r2 hl hl2 hk ⊢
  subst hk
  have HH : Hid (∀ W, _) := fun W => specHandleOk_w (p, q, d) W
  have HP : Hid (∀ W, _) := fun W => parts1 W
  obtain ⟨res, hres⟩ : ∃ res, OOk ⟨1, (p, q, d), nm, (p2, q2, d2), asn, vl⟩ = res := ⟨_, rfl⟩
  rw [hres]
  simp [OOk, nmB, toB, asB, vlB, nmP, toP, asP, hd0] at hres
  clear r r2
  generalize HOk (p, q, d) = bd at HH hres
  have hn0 : nm = [] ↔ nm.length = 0 := by cases nm <;> simp
  have hn1 : asn = [] ↔ asn.length = 0 := by cases asn <;> simp
  try simp only [hn0, hn1] at hres
  clear hn0 hn1
  generalize nm.length = n0 at *
  generalize asn.length = n1 at *
  have HRES : Hid _ := hres
  clear hres
  cases bd with
  | false =>
    go_enter Tryz.func27, Tryz.ntmps27
    go_wp2_with fail
    refine Calls.mono (HH.out _) ?_
    rintro e w2 ⟨rfl, rfl⟩
    go_wp2
    go_ret; exact ⟨by rw [← HRES.out]; first | rfl | (simp_all [Hd.sh, Hd.ino, Hd.dir] <;> omega), (Below.newH2 _ _)⟩
  | true =>
    go_enter Tryz.func27, Tryz.ntmps27
    go_wp2_with fail
    refine Calls.mono (HH.out _) ?_
    rintro e w2 ⟨rfl, rfl⟩
    go_wp2_with fail
    refine Calls.mono (HP.out _) ?_
    rintro e w3 ⟨rfl, rfl⟩
    go_wp2
    all_goals (go_ret; exact ⟨by rw [← HRES.out]; first | rfl | (simp_all [Hd.sh, Hd.ino, Hd.dir] <;> omega), (Below.newH2 _ _)⟩)
set_option maxHeartbeats 2000000 in
theorem specOp2 (x y : Value) (o : OpD) (S : Nat → Prop) (w : World) (r : RdV w S x (.bytes o.nm)) (r2 : RdV w S y (.bytes o.asn)) (hl : o.nm.length ≤ 2097152) (hl2 : o.asn.length ≤ 2097152) (hk : o.kind = 2) :
    Calls Tryz.prog 27 #[opV o x y] w fun e w' => e = .returned (.bool (OOk o)) ∧ Below w.heap.size w w' := by
  obtain ⟨a, cap, rfl⟩ := r.sliceB
  obtain ⟨a2, cap2, rfl⟩ := r2.sliceB
  obtain ⟨kd, ⟨p, q, d⟩, nm, ⟨p2, q2, d2⟩, asn, vl⟩ := o
  dsimp only at r r2 hl hl2 hk ⊢
  subst hk
  have HH : Hid (∀ W, _) := fun W => specHandleOk_w (p, q, d) W
  have HP : Hid (∀ W, _) := fun W => parts2 W
  obtain ⟨res, hres⟩ : ∃ res, OOk ⟨2, (p, q, d), nm, (p2, q2, d2), asn, vl⟩ = res := ⟨_, rfl⟩
  rw [hres]
  simp [OOk, nmB, toB, asB, vlB, nmP, toP, asP, hd0] at hres
  clear r r2
  generalize HOk (p, q, d) = bd at HH hres
  have hn0 : nm = [] ↔ nm.length = 0 := by cases nm <;> simp
  have hn1 : asn = [] ↔ asn.length = 0 := by cases asn <;> simp
  try simp only [hn0, hn1] at hres
  clear hn0 hn1
  generalize nm.length = n0 at *
  generalize asn.length = n1 at *
  have HRES : Hid _ := hres
  clear hres
  cases bd with
  | false =>
    go_enter Tryz.func27, Tryz.ntmps27
    go_wp2_with fail
    refine Calls.mono (HH.out _) ?_
    rintro e w2 ⟨rfl, rfl⟩
    go_wp2
    go_ret; exact ⟨by rw [← HRES.out]; first | rfl | (simp_all [Hd.sh, Hd.ino, Hd.dir] <;> omega), (Below.newH2 _ _)⟩
  | true =>
    go_enter Tryz.func27, Tryz.ntmps27
    go_wp2_with fail
    refine Calls.mono (HH.out _) ?_
    rintro e w2 ⟨rfl, rfl⟩
    go_wp2_with fail
    refine Calls.mono (HP.out _) ?_
    rintro e w3 ⟨rfl, rfl⟩
    go_wp2
    all_goals (go_ret; exact ⟨by rw [← HRES.out]; first | rfl | (simp_all [Hd.sh, Hd.ino, Hd.dir] <;> omega), (Below.newH2 _ _)⟩)
set_option maxHeartbeats 2000000 in
theorem specOp3 (x y : Value) (o : OpD) (S : Nat → Prop) (w : World) (r : RdV w S x (.bytes o.nm)) (r2 : RdV w S y (.bytes o.asn)) (hl : o.nm.length ≤ 2097152) (hl2 : o.asn.length ≤ 2097152) (hk : o.kind = 3) :
    Calls Tryz.prog 27 #[opV o x y] w fun e w' => e = .returned (.bool (OOk o)) ∧ Below w.heap.size w w' := by
  obtain ⟨a, cap, rfl⟩ := r.sliceB
  obtain ⟨a2, cap2, rfl⟩ := r2.sliceB
  obtain ⟨kd, ⟨p, q, d⟩, nm, ⟨p2, q2, d2⟩, asn, vl⟩ := o
  dsimp only at r r2 hl hl2 hk ⊢
  subst hk
  have HH : Hid (∀ W, _) := fun W => specHandleOk_w (p, q, d) W
  have HP : Hid (∀ W, _) := fun W => parts3 W
  obtain ⟨res, hres⟩ : ∃ res, OOk ⟨3, (p, q, d), nm, (p2, q2, d2), asn, vl⟩ = res := ⟨_, rfl⟩
  rw [hres]
  simp [OOk, nmB, toB, asB, vlB, nmP, toP, asP, hd0] at hres
  clear r r2
  generalize HOk (p, q, d) = bd at HH hres
  have hn0 : nm = [] ↔ nm.length = 0 := by cases nm <;> simp
  have hn1 : asn = [] ↔ asn.length = 0 := by cases asn <;> simp
  try simp only [hn0, hn1] at hres
  clear hn0 hn1
  generalize nm.length = n0 at *
  generalize asn.length = n1 at *
  have HRES : Hid _ := hres
  clear hres
  cases bd with
  | false =>
    go_enter Tryz.func27, Tryz.ntmps27
    go_wp2_with fail
    refine Calls.mono (HH.out _) ?_
    rintro e w2 ⟨rfl, rfl⟩
    go_wp2
    go_ret; exact ⟨by rw [← HRES.out]; first | rfl | (simp_all [Hd.sh, Hd.ino, Hd.dir] <;> omega), (Below.newH2 _ _)⟩
  | true =>
    go_enter Tryz.func27, Tryz.ntmps27
    go_wp2_with fail
    refine Calls.mono (HH.out _) ?_
    rintro e w2 ⟨rfl, rfl⟩
    go_wp2_with fail
    refine Calls.mono (HP.out _) ?_
    rintro e w3 ⟨rfl, rfl⟩
    go_wp2
    all_goals (go_ret; exact ⟨by rw [← HRES.out]; first | rfl | (simp_all [Hd.sh, Hd.ino, Hd.dir] <;> omega), (Below.newH2 _ _)⟩)
set_option maxHeartbeats 2000000 in
theorem specOp4 (x y : Value) (o : OpD) (S : Nat → Prop) (w : World) (r : RdV w S x (.bytes o.nm)) (r2 : RdV w S y (.bytes o.asn)) (hl : o.nm.length ≤ 2097152) (hl2 : o.asn.length ≤ 2097152) (hk : o.kind = 4) :
    Calls Tryz.prog 27 #[opV o x y] w fun e w' => e = .returned (.bool (OOk o)) ∧ Below w.heap.size w w' := by
  obtain ⟨a, cap, rfl⟩ := r.sliceB
  obtain ⟨a2, cap2, rfl⟩ := r2.sliceB
  obtain ⟨kd, ⟨p, q, d⟩, nm, ⟨p2, q2, d2⟩, asn, vl⟩ := o
  dsimp only at r r2 hl hl2 hk ⊢
  subst hk
  have HX : Hid (∀ W, Below w.heap.size w W → _) := fun W hW => specName_any _ nm S W (r.step hW) hl
  have HH : Hid (∀ W, _) := fun W => specHandleOk_w (p, q, d) W
  have HP : Hid (∀ W, _) := fun W => parts4 W
  obtain ⟨res, hres⟩ : ∃ res, OOk ⟨4, (p, q, d), nm, (p2, q2, d2), asn, vl⟩ = res := ⟨_, rfl⟩
  rw [hres]
  simp [OOk, nmB, toB, asB, vlB, nmP, toP, asP, hd0] at hres
  clear r r2
  generalize isNm nm = bn at HX hres
  generalize HOk (p, q, d) = bd at HH hres
  have hn0 : nm = [] ↔ nm.length = 0 := by cases nm <;> simp
  have hn1 : asn = [] ↔ asn.length = 0 := by cases asn <;> simp
  try simp only [hn0, hn1] at hres
  clear hn0 hn1
  generalize nm.length = n0 at *
  generalize asn.length = n1 at *
  have HRES : Hid _ := hres
  clear hres
  cases bd with
  | false =>
    go_enter Tryz.func27, Tryz.ntmps27
    go_wp2_with fail
    refine Calls.mono (HH.out _) ?_
    rintro e w2 ⟨rfl, rfl⟩
    go_wp2
    go_ret; exact ⟨by rw [← HRES.out]; first | rfl | (simp_all [Hd.sh, Hd.ino, Hd.dir] <;> omega), (Below.newH2 _ _)⟩
  | true =>
    cases bn with
    | false =>
      go_enter Tryz.func27, Tryz.ntmps27
      go_wp2_with fail
      refine Calls.mono (HH.out _) ?_
      rintro e w2 ⟨rfl, rfl⟩
      go_wp2_with fail
      refine Calls.mono (HP.out _) ?_
      rintro e w3 ⟨rfl, rfl⟩
      go_wp2_with fail
      refine Calls.mono (HX.out _ (Below.newH2 _ _)) ?_
      rintro e w4 ⟨rfl, rfl⟩
      go_wp2
      all_goals (go_ret; exact ⟨by rw [← HRES.out]; first | rfl | (simp_all [Hd.sh, Hd.ino, Hd.dir] <;> omega), (Below.newH2 _ _)⟩)
    | true =>
      go_enter Tryz.func27, Tryz.ntmps27
      go_wp2_with fail
      refine Calls.mono (HH.out _) ?_
      rintro e w2 ⟨rfl, rfl⟩
      go_wp2_with fail
      refine Calls.mono (HP.out _) ?_
      rintro e w3 ⟨rfl, rfl⟩
      go_wp2_with fail
      refine Calls.mono (HX.out _ (Below.newH2 _ _)) ?_
      rintro e w4 ⟨rfl, rfl⟩
      go_wp2
      all_goals (go_ret; exact ⟨by rw [← HRES.out]; first | rfl | (simp_all [Hd.sh, Hd.ino, Hd.dir] <;> omega), (Below.newH2 _ _)⟩)
set_option maxHeartbeats 2000000 in
theorem specOp5 (x y : Value) (o : OpD) (S : Nat → Prop) (w : World) (r : RdV w S x (.bytes o.nm)) (r2 : RdV w S y (.bytes o.asn)) (hl : o.nm.length ≤ 2097152) (hl2 : o.asn.length ≤ 2097152) (hk : o.kind = 5) :
    Calls Tryz.prog 27 #[opV o x y] w fun e w' => e = .returned (.bool (OOk o)) ∧ Below w.heap.size w w' := by
  obtain ⟨a, cap, rfl⟩ := r.sliceB
  obtain ⟨a2, cap2, rfl⟩ := r2.sliceB
  obtain ⟨kd, ⟨p, q, d⟩, nm, ⟨p2, q2, d2⟩, asn, vl⟩ := o
  dsimp only at r r2 hl hl2 hk ⊢
  subst hk
  have HX : Hid (∀ W, Below w.heap.size w W → _) := fun W hW => specName_any _ nm S W (r.step hW) hl
  have HH : Hid (∀ W, _) := fun W => specHandleOk_w (p, q, d) W
  have HP : Hid (∀ W, _) := fun W => parts5 W
  obtain ⟨res, hres⟩ : ∃ res, OOk ⟨5, (p, q, d), nm, (p2, q2, d2), asn, vl⟩ = res := ⟨_, rfl⟩
  rw [hres]
  simp [OOk, nmB, toB, asB, vlB, nmP, toP, asP, hd0] at hres
  clear r r2
  generalize isNm nm = bn at HX hres
  generalize HOk (p, q, d) = bd at HH hres
  have hn0 : nm = [] ↔ nm.length = 0 := by cases nm <;> simp
  have hn1 : asn = [] ↔ asn.length = 0 := by cases asn <;> simp
  try simp only [hn0, hn1] at hres
  clear hn0 hn1
  generalize nm.length = n0 at *
  generalize asn.length = n1 at *
  have HRES : Hid _ := hres
  clear hres
  cases bd with
  | false =>
    go_enter Tryz.func27, Tryz.ntmps27
    go_wp2_with fail
    refine Calls.mono (HH.out _) ?_
    rintro e w2 ⟨rfl, rfl⟩
    go_wp2
    go_ret; exact ⟨by rw [← HRES.out]; first | rfl | (simp_all [Hd.sh, Hd.ino, Hd.dir] <;> omega), (Below.newH2 _ _)⟩
  | true =>
    cases bn with
    | false =>
      go_enter Tryz.func27, Tryz.ntmps27
      go_wp2_with fail
      refine Calls.mono (HH.out _) ?_
      rintro e w2 ⟨rfl, rfl⟩
      go_wp2_with fail
      refine Calls.mono (HP.out _) ?_
      rintro e w3 ⟨rfl, rfl⟩
      go_wp2_with fail
      refine Calls.mono (HX.out _ (Below.newH2 _ _)) ?_
      rintro e w4 ⟨rfl, rfl⟩
      go_wp2
      all_goals (go_ret; exact ⟨by rw [← HRES.out]; first | rfl | (simp_all [Hd.sh, Hd.ino, Hd.dir] <;> omega), (Below.newH2 _ _)⟩)
    | true =>
      go_enter Tryz.func27, Tryz.ntmps27
      go_wp2_with fail
      refine Calls.mono (HH.out _) ?_
      rintro e w2 ⟨rfl, rfl⟩
      go_wp2_with fail
      refine Calls.mono (HP.out _) ?_
      rintro e w3 ⟨rfl, rfl⟩
      go_wp2_with fail
      refine Calls.mono (HX.out _ (Below.newH2 _ _)) ?_
      rintro e w4 ⟨rfl, rfl⟩
      go_wp2
      all_goals (go_ret; exact ⟨by rw [← HRES.out]; first | rfl | (simp_all [Hd.sh, Hd.ino, Hd.dir] <;> omega), (Below.newH2 _ _)⟩)
set_option maxHeartbeats 2000000 in
theorem specOp6 (x y : Value) (o : OpD) (S : Nat → Prop) (w : World) (r : RdV w S x (.bytes o.nm)) (r2 : RdV w S y (.bytes o.asn)) (hl : o.nm.length ≤ 2097152) (hl2 : o.asn.length ≤ 2097152) (hk : o.kind = 6) :
    Calls Tryz.prog 27 #[opV o x y] w fun e w' => e = .returned (.bool (OOk o)) ∧ Below w.heap.size w w' := by
  obtain ⟨a, cap, rfl⟩ := r.sliceB
  obtain ⟨a2, cap2, rfl⟩ := r2.sliceB
  obtain ⟨kd, ⟨p, q, d⟩, nm, ⟨p2, q2, d2⟩, asn, vl⟩ := o
  dsimp only at r r2 hl hl2 hk ⊢
  subst hk
  have HX : Hid (∀ W, Below w.heap.size w W → _) := fun W hW => specName_any _ nm S W (r.step hW) hl
  have HH : Hid (∀ W, _) := fun W => specHandleOk_w (p, q, d) W
  have HH2 : Hid (∀ W, _) := fun W => specHandleOk_w (p2, q2, d2) W
  have HP : Hid (∀ W, _) := fun W => parts6 W
  obtain ⟨res, hres⟩ : ∃ res, OOk ⟨6, (p, q, d), nm, (p2, q2, d2), asn, vl⟩ = res := ⟨_, rfl⟩
  rw [hres]
  simp [OOk, nmB, toB, asB, vlB, nmP, toP, asP, hd0] at hres
  clear r r2
  generalize isNm nm = bn at HX hres
  generalize HOk (p, q, d) = bd at HH hres
  generalize HOk (p2, q2, d2) = bt at HH2 hres
  have hn0 : nm = [] ↔ nm.length = 0 := by cases nm <;> simp
  have hn1 : asn = [] ↔ asn.length = 0 := by cases asn <;> simp
  try simp only [hn0, hn1] at hres
  clear hn0 hn1
  generalize nm.length = n0 at *
  generalize asn.length = n1 at *
  have HRES : Hid _ := hres
  clear hres
  cases bd with
  | false =>
    go_enter Tryz.func27, Tryz.ntmps27
    go_wp2_with fail
    refine Calls.mono (HH.out _) ?_
    rintro e w2 ⟨rfl, rfl⟩
    go_wp2
    go_ret; exact ⟨by rw [← HRES.out]; first | rfl | (simp_all [Hd.sh, Hd.ino, Hd.dir] <;> omega), (Below.newH2 _ _)⟩
  | true =>
    cases bn with
    | false =>
      go_enter Tryz.func27, Tryz.ntmps27
      go_wp2_with fail
      refine Calls.mono (HH.out _) ?_
      rintro e w2 ⟨rfl, rfl⟩
      go_wp2_with fail
      refine Calls.mono (HP.out _) ?_
      rintro e w3 ⟨rfl, rfl⟩
      go_wp2_with fail
      refine Calls.mono (HX.out _ (Below.newH2 _ _)) ?_
      rintro e w4 ⟨rfl, rfl⟩
      go_wp2
      all_goals (go_ret; exact ⟨by rw [← HRES.out]; first | rfl | (simp_all [Hd.sh, Hd.ino, Hd.dir] <;> omega), (Below.newH2 _ _)⟩)
    | true =>
      by_cases hz1 : n1 = 0
      case neg =>
        go_enter Tryz.func27, Tryz.ntmps27
        go_wp2_with fail
        refine Calls.mono (HH.out _) ?_
        rintro e w2 ⟨rfl, rfl⟩
        go_wp2_with fail
        refine Calls.mono (HP.out _) ?_
        rintro e w3 ⟨rfl, rfl⟩
        go_wp2_with fail
        refine Calls.mono (HX.out _ (Below.newH2 _ _)) ?_
        rintro e w4 ⟨rfl, rfl⟩
        go_wp2
        all_goals (go_ret; exact ⟨by rw [← HRES.out]; first | rfl | (simp_all [Hd.sh, Hd.ino, Hd.dir] <;> omega), (Below.newH2 _ _)⟩)
      subst hz1
      cases bt with
      | false =>
        go_enter Tryz.func27, Tryz.ntmps27
        go_wp2_with fail
        refine Calls.mono (HH.out _) ?_
        rintro e w2 ⟨rfl, rfl⟩
        go_wp2_with fail
        refine Calls.mono (HP.out _) ?_
        rintro e w3 ⟨rfl, rfl⟩
        go_wp2_with fail
        refine Calls.mono (HX.out _ (Below.newH2 _ _)) ?_
        rintro e w4 ⟨rfl, rfl⟩
        go_wp2_with fail
        refine Calls.mono (HH2.out _) ?_
        rintro e w5 ⟨rfl, rfl⟩
        go_wp2
        all_goals (go_ret; exact ⟨by rw [← HRES.out]; first | rfl | (simp_all [Hd.sh, Hd.ino, Hd.dir] <;> omega), (((Below.newH2 (w := w) _ _).alloc (by simp; omega) _))⟩)
      | true =>
        go_enter Tryz.func27, Tryz.ntmps27
        go_wp2_with fail
        refine Calls.mono (HH.out _) ?_
        rintro e w2 ⟨rfl, rfl⟩
        go_wp2_with fail
        refine Calls.mono (HP.out _) ?_
        rintro e w3 ⟨rfl, rfl⟩
        go_wp2_with fail
        refine Calls.mono (HX.out _ (Below.newH2 _ _)) ?_
        rintro e w4 ⟨rfl, rfl⟩
        go_wp2_with fail
        refine Calls.mono (HH2.out _) ?_
        rintro e w5 ⟨rfl, rfl⟩
        go_wp2
        all_goals (go_ret; exact ⟨by rw [← HRES.out]; first | rfl | (simp_all [Hd.sh, Hd.ino, Hd.dir] <;> omega), (((Below.newH2 (w := w) _ _).alloc (by simp; omega) _))⟩)
set_option maxHeartbeats 2000000 in
theorem specOp7 (x y : Value) (o : OpD) (S : Nat → Prop) (w : World) (r : RdV w S x (.bytes o.nm)) (r2 : RdV w S y (.bytes o.asn)) (hl : o.nm.length ≤ 2097152) (hl2 : o.asn.length ≤ 2097152) (hk : o.kind = 7) :
    Calls Tryz.prog 27 #[opV o x y] w fun e w' => e = .returned (.bool (OOk o)) ∧ Below w.heap.size w w' := by
  obtain ⟨a, cap, rfl⟩ := r.sliceB
  obtain ⟨a2, cap2, rfl⟩ := r2.sliceB
  obtain ⟨kd, ⟨p, q, d⟩, nm, ⟨p2, q2, d2⟩, asn, vl⟩ := o
  dsimp only at r r2 hl hl2 hk ⊢
  subst hk
  have HX : Hid (∀ W, Below w.heap.size w W → _) := fun W hW => specName_any _ nm S W (r.step hW) hl
  have HY : Hid (∀ W, Below w.heap.size w W → _) := fun W hW => specName_any _ asn S W (r2.step hW) hl2
  have HH : Hid (∀ W, _) := fun W => specHandleOk_w (p, q, d) W
  have HH2 : Hid (∀ W, _) := fun W => specHandleOk_w (p2, q2, d2) W
  have HP : Hid (∀ W, _) := fun W => parts7 W
  obtain ⟨res, hres⟩ : ∃ res, OOk ⟨7, (p, q, d), nm, (p2, q2, d2), asn, vl⟩ = res := ⟨_, rfl⟩
  rw [hres]
  simp [OOk, nmB, toB, asB, vlB, nmP, toP, asP, hd0] at hres
  clear r r2
  generalize isNm nm = bn at HX hres
  generalize isNm asn = ba at HY hres
  generalize HOk (p, q, d) = bd at HH hres
  generalize HOk (p2, q2, d2) = bt at HH2 hres
  have hn0 : nm = [] ↔ nm.length = 0 := by cases nm <;> simp
  have hn1 : asn = [] ↔ asn.length = 0 := by cases asn <;> simp
  try simp only [hn0, hn1] at hres
  clear hn0 hn1
  generalize nm.length = n0 at *
  generalize asn.length = n1 at *
  have HRES : Hid _ := hres
  clear hres
  cases bd with
  | false =>
    go_enter Tryz.func27, Tryz.ntmps27
    go_wp2_with fail
    refine Calls.mono (HH.out _) ?_
    rintro e w2 ⟨rfl, rfl⟩
    go_wp2
    go_ret; exact ⟨by rw [← HRES.out]; first | rfl | (simp_all [Hd.sh, Hd.ino, Hd.dir] <;> omega), (Below.newH2 _ _)⟩
  | true =>
    cases bn with
    | false =>
      go_enter Tryz.func27, Tryz.ntmps27
      go_wp2_with fail
      refine Calls.mono (HH.out _) ?_
      rintro e w2 ⟨rfl, rfl⟩
      go_wp2_with fail
      refine Calls.mono (HP.out _) ?_
      rintro e w3 ⟨rfl, rfl⟩
      go_wp2_with fail
      refine Calls.mono (HX.out _ (Below.newH2 _ _)) ?_
      rintro e w4 ⟨rfl, rfl⟩
      go_wp2
      all_goals (go_ret; exact ⟨by rw [← HRES.out]; first | rfl | (simp_all [Hd.sh, Hd.ino, Hd.dir] <;> omega), (Below.newH2 _ _)⟩)
    | true =>
      cases ba with
      | false =>
        go_enter Tryz.func27, Tryz.ntmps27
        go_wp2_with fail
        refine Calls.mono (HH.out _) ?_
        rintro e w2 ⟨rfl, rfl⟩
        go_wp2_with fail
        refine Calls.mono (HP.out _) ?_
        rintro e w3 ⟨rfl, rfl⟩
        go_wp2_with fail
        refine Calls.mono (HX.out _ (Below.newH2 _ _)) ?_
        rintro e w4 ⟨rfl, rfl⟩
        go_wp2_with fail
        refine Calls.mono (HY.out _ (Below.newH2 _ _)) ?_
        rintro e w5 ⟨rfl, rfl⟩
        go_wp2
        all_goals (go_ret; exact ⟨by rw [← HRES.out]; first | rfl | (simp_all [Hd.sh, Hd.ino, Hd.dir] <;> omega), (Below.newH2 _ _)⟩)
      | true =>
        cases bt with
        | false =>
          go_enter Tryz.func27, Tryz.ntmps27
          go_wp2_with fail
          refine Calls.mono (HH.out _) ?_
          rintro e w2 ⟨rfl, rfl⟩
          go_wp2_with fail
          refine Calls.mono (HP.out _) ?_
          rintro e w3 ⟨rfl, rfl⟩
          go_wp2_with fail
          refine Calls.mono (HX.out _ (Below.newH2 _ _)) ?_
          rintro e w4 ⟨rfl, rfl⟩
          go_wp2_with fail
          refine Calls.mono (HY.out _ (Below.newH2 _ _)) ?_
          rintro e w5 ⟨rfl, rfl⟩
          go_wp2_with fail
          refine Calls.mono (HH2.out _) ?_
          rintro e w6 ⟨rfl, rfl⟩
          go_wp2
          all_goals (go_ret; exact ⟨by rw [← HRES.out]; first | rfl | (simp_all [Hd.sh, Hd.ino, Hd.dir] <;> omega), (((Below.newH2 (w := w) _ _).alloc (by simp; omega) _))⟩)
        | true =>
          go_enter Tryz.func27, Tryz.ntmps27
          go_wp2_with fail
          refine Calls.mono (HH.out _) ?_
          rintro e w2 ⟨rfl, rfl⟩
          go_wp2_with fail
          refine Calls.mono (HP.out _) ?_
          rintro e w3 ⟨rfl, rfl⟩
          go_wp2_with fail
          refine Calls.mono (HX.out _ (Below.newH2 _ _)) ?_
          rintro e w4 ⟨rfl, rfl⟩
          go_wp2_with fail
          refine Calls.mono (HY.out _ (Below.newH2 _ _)) ?_
          rintro e w5 ⟨rfl, rfl⟩
          go_wp2_with fail
          refine Calls.mono (HH2.out _) ?_
          rintro e w6 ⟨rfl, rfl⟩
          go_wp2
          all_goals (go_ret; exact ⟨by rw [← HRES.out]; first | rfl | (simp_all [Hd.sh, Hd.ino, Hd.dir] <;> omega), (((Below.newH2 (w := w) _ _).alloc (by simp; omega) _))⟩)
theorem specOpOk_any (x y : Value) (o : OpD) (S : Nat → Prop) (w : World) (r : RdV w S x (.bytes o.nm)) (r2 : RdV w S y (.bytes o.asn)) (hl : o.nm.length ≤ 2097152) (hl2 : o.asn.length ≤ 2097152) :
    Calls Tryz.prog 27 #[opV o x y] w fun e w' => e = .returned (.bool (OOk o)) ∧ Below w.heap.size w w' := by
  by_cases hk : 0 ≤ o.kind ∧ o.kind ≤ 7
  · rcases kinds hk.1 hk.2 with h | h | h | h | h | h | h | h
    · exact specOp0 x y o S w r r2 hl hl2 h
    · exact specOp1 x y o S w r r2 hl hl2 h
    · exact specOp2 x y o S w r r2 hl hl2 h
    · exact specOp3 x y o S w r r2 hl hl2 h
    · exact specOp4 x y o S w r r2 hl hl2 h
    · exact specOp5 x y o S w r r2 hl hl2 h
    · exact specOp6 x y o S w r r2 hl hl2 h
    · exact specOp7 x y o S w r r2 hl hl2 h
  · have HF : Hid (OOk o = false) := by show _ = _; unfold OOk; simp; omega
    obtain ⟨a, cap, rfl⟩ := r.sliceB
    obtain ⟨a2, cap2, rfl⟩ := r2.sliceB
    rw [HF.out]
    obtain ⟨kd, ⟨p, q, d⟩, nm, ⟨p2, q2, d2⟩, asn, vl⟩ := o
    dsimp only at hk ⊢
    generalize nm.length = n0
    generalize asn.length = n1
    clear r r2 hl hl2 HF
    go_enter Tryz.func27, Tryz.ntmps27
    go_wp2_with fail
    all_goals first | (go_ret; exact ⟨rfl, Below.newH _⟩) | (exfalso; omega)
end Go.Proofs.YtbnjhjgjmckedaaGreat
end
