/- Joined: UP1 ImplT6 ImplT7 ImplT8 IC5 IC6 IC7 IC8 IC9 IC10 IC11 IC12 IC13 IC14 IC15 IC16 IC17 IC18 IC19 IC20 US1 SpecD17 US5. -/
import Derived.Test.YtoaocjkapoemnaaGreatUA01
import Derived.Test.YtoaocjkapoemnaaGreatUSpecD11
import Derived.Test.YtoaocjkapoemnaaGreatUSpecT6
import Derived.Test.YtoaocjkapoemnaaGreatUA02
import Derived.Maps.OwnOps
import Derived.Test.YtoaocjkapoemnaaGreatUA00
import Derived.Test.YtoaocjkapoemnaaGreatUA00b
import Derived.Maps.OwnSet
import Derived.Deep.CutRange
import Derived.Deep.CutBlock
import Derived.Sort.OwnSorted

namespace Go.Proofs.YtoaocjkapoemnaaGreat
open Go.RowKit
set_option linter.unusedVariables false
set_option linter.unusedSimpArgs false
set_option maxRecDepth 100000
section
/-- The nodes of one shard, put in one after the other. -/
def uSt (c : Int) : List Nd → List Nd → Option (List Nd)
  | t, [] => some t
  | t, n :: r => if n.h.sh ≠ c ∨ fi t n.h < t.length then none else uSt c (insN t n) r
/-- The shards, one after the other. -/
def uSh : Nat → List Nd → List ShD → Option (List Nd)
  | _, t, [] => some t
  | i, t, s :: r => if 120 < s.nds.length then none else (uSt (i : Int) t s.nds).bind (fun u => uSh (i + 1) u r)
def unO (l : List ShD) : Option (List Nd) := if 4 < l.length then none else uSh 0 [] l
/-- The union, and whether there is one. -/
def unD (l : List ShD) : List Nd × Bool :=
  match unO l with
  | none => ([], false)
  | some t => if treeOk t = true then (t, true) else ([], false)
theorem drop_at {α : Type} (l : List α) (d : α) {k : Nat} (h : k < l.length) : l.drop k = (l[k]?.getD d) :: l.drop (k + 1) := by
  rw [List.drop_eq_getElem_cons h, List.getElem?_eq_getElem h]; rfl
theorem uSt_next (c : Int) (t l : List Nd) {k : Nat} (h : k < l.length) : uSt c t (l.drop k) = if (l[k]?.getD nd0).h.sh ≠ c ∨ fi t (l[k]?.getD nd0).h < t.length then none else uSt c (insN t (l[k]?.getD nd0)) (l.drop (k + 1)) := by
  rw [drop_at l nd0 h]; rfl
theorem uSt_end (c : Int) (t l : List Nd) : uSt c t (l.drop l.length) = some t := by rw [List.drop_length]; rfl
theorem uSh_next (i : Nat) (t : List Nd) (l : List ShD) {k : Nat} (h : k < l.length) : uSh i t (l.drop k) = if 120 < (l[k]?.getD sh0).nds.length then none else (uSt (i : Int) t (l[k]?.getD sh0).nds).bind (fun u => uSh (i + 1) u (l.drop (k + 1))) := by
  rw [drop_at l sh0 h]; rfl
theorem uSh_end (i : Nat) (t : List Nd) (l : List ShD) : uSh i t (l.drop l.length) = some t := by rw [List.drop_length]; rfl
/-- How much is left to be put in. -/
def remN (l : List ShD) (i : Nat) : Nat := ((l.drop i).map (fun s => szNds s.nds)).sum
theorem remN_next (l : List ShD) {i : Nat} (h : i < l.length) : remN l i = szNds (l[i]?.getD sh0).nds + remN l (i + 1) := by
  unfold remN; rw [drop_at l sh0 h]; simp
theorem remN_le (l : List ShD) : remN l 0 ≤ szShs l := by
  unfold remN szShs
  rw [List.drop_zero]
  have := psum_mono0 (fun s : ShD => szNds s.nds) (fun s => szSh s) (fun a => by unfold szSh; omega) l
  omega
theorem szNds_drop (l : List Nd) {k : Nat} (h : k < l.length) : szNds (l.drop k) = 1 + szEns (l[k]?.getD nd0).es + szNds (l.drop (k + 1)) := by
  rw [drop_at l nd0 h]; unfold szNds; simp; omega
theorem szNds_ins (t : List Nd) (n : Nd) : szNds (insN t n) = szNds t + 1 + szEns n.es := by
  unfold insN szNds
  have h : t.take (plN t n.h) ++ t.drop (plN t n.h) = t := List.take_append_drop _ _
  have h1 : t.length = (t.take (plN t n.h)).length + (t.drop (plN t n.h)).length := by conv => lhs; rw [← h, List.length_append]
  have h2 : (t.map (fun n => szEns n.es)).sum = ((t.take (plN t n.h)).map (fun n => szEns n.es)).sum + ((t.drop (plN t n.h)).map (fun n => szEns n.es)).sum := by conv => lhs; rw [← h, List.map_append, List.sum_append]
  simp only [List.length_append, List.map_append, List.sum_append, List.length_cons, List.length_nil, List.map_cons, List.map_nil, List.sum_cons, List.sum_nil]
  omega
theorem len_ins (t : List Nd) (n : Nd) : (insN t n).length = t.length + 1 := by
  unfold insN
  have h1 : t.length = (t.take (plN t n.h)).length + (t.drop (plN t n.h)).length := by conv => lhs; rw [← List.take_append_drop (plN t n.h) t, List.length_append]
  simp only [List.length_append, List.length_cons, List.length_nil]
  omega
end
section
open Go.Maps
def climb (f : Hd → Option Nd) : Nat → Hd → Bool
  | 0, _ => false
  | k + 1, h => if h = rootH then true else climb f k ((f h).getD nd0).par
theorem zeroNd (w : World) : (zeroValue 54).run Tryz.prog w = .ok (ndV nd0 (.slice none 0 0)) w := by kernel_rfl

/-- A look into the map of the nodes, at the operation. -/
theorem wpList_lookN (w : World) {ops : Array Oper} {rest : List Oper} {o : Oper} {a : Act} {Q : Exit → Act → World → Prop}
    (hg : o.guard = none) (m x : Operand) (hop : o.op = Op.lookup 98 m x false) (b s : Nat) (f : Hd → Option Nd)
    (hm : a.eval m = .map (some b)) (M : MapH ndP w b s f) (h : Hd) (hh : HIn h) (hx : a.eval x = h.v)
    (hK : ∀ ya yn yc, wpList Tryz.prog ops Q rest (a.put o.dst (ndV ((f h).getD nd0) (.slice ya yn yc))) w) :
    wpList Tryz.prog ops Q (o :: rest) a w := by
  refine wpList_plain hg fun K' hK' => ?_
  obtain ⟨v, hrun, r1, r2⟩ := M.look Tryz.underlying98 (zeroNd w) hh
  obtain ⟨ya, yn, yc, rfl⟩ : ∃ ya yn yc, v = ndV ((f h).getD nd0) (.slice ya yn yc) := by
    cases hf : f h with
    | none => exact ⟨none, 0, 0, r1 hf⟩
    | some c => exact r2 c hf
  unfold Oper.wp
  simp [execOp, hop, hm, hx, hrun, Result.andThen]
  exact hK' _ _ (hK ya yn yc)

theorem parN_run (h g : Hd) (lk vl : Int) (y : Value) (w : World) : (Instr.field 54 (.agg #[.int .i64 h.sh, .int .i64 h.ino, .bool h.dir, .int .i64 g.sh, .int .i64 g.ino, .bool g.dir, .int .i64 lk, .int .i64 vl, y]) 1).run Tryz.prog w = .ok (.agg #[.int .i64 g.sh, .int .i64 g.ino, .bool g.dir]) w := by kernel_rfl
theorem wpList_parN (w : World) {ops : Array Oper} {rest : List Oper} {o : Oper} {a : Act} {Q : Exit → Act → World → Prop}
    (hg : o.guard = none) (x : Operand) (hop : o.op = Op.field 54 x 1) (n : Nd) (y : Value) (hx : a.eval x = ndV n y)
    (hK : wpList Tryz.prog ops Q rest (a.put o.dst n.par.v) w) : wpList Tryz.prog ops Q (o :: rest) a w := by
  refine wpList_plain hg fun K' hK' => ?_
  have hrun := parN_run n.h n.par n.links n.val y w
  unfold Oper.wp
  simp [execOp, hop, hx, hrun, Result.andThen]
  exact hK' _ _ hK

theorem VarA.set3 {w : World} {b : Nat} {T : TypeId} {x0 x1 x2 y0 y1 y2 : Value} (h : VarA w b T #[x0, x1, x2]) : VarA (((w.setCell ⟨b, 0, none⟩ y0).setCell ⟨b, 1, none⟩ y1).setCell ⟨b, 2, none⟩ y2) b T #[y0, y1, y2] := by
  have h2 := (((h.set 0 y0).set 1 y1).set 2 y2)
  simpa using h2
theorem Below.set3 {B : Nat} {a w : World} {c : Nat} {y0 y1 y2 : Value} (h : Below B a w) (hc : B ≤ c) : Below B a (((w.setCell ⟨c, 0, none⟩ y0).setCell ⟨c, 1, none⟩ y1).setCell ⟨c, 2, none⟩ y2) := (((h.setCell (p := ⟨c, 0, none⟩) hc y0).setCell (p := ⟨c, 1, none⟩) hc y1).setCell (p := ⟨c, 2, none⟩) hc y2)

set_option maxRecDepth 100000 in
set_option maxHeartbeats 1000000 in
theorem comesToRoot_any (b s : Nat) (f : Hd → Option Nd) (h : Hd) (w : World) (M : MapH ndP w b s f) (hs : s ≤ 2097152) (hh : HIn h) (hp : ∀ g n, f g = some n → HIn n.par) :
    Calls Tryz.prog 97 #[.map (some b), h.v] w fun e w' => e = .returned (.bool (climb f s h)) ∧ Below w.heap.size w w' := by
  have hbs := M.lt
  have HM : Hid (∀ W, Below w.heap.size w W → MapH ndP W b s f) := fun W hW => M.blk (hW.block b hbs)
  have HP : Hid (∀ g, HIn ((f g).getD nd0).par) := fun g => by
    cases hf : f g with
    | none => exact hd0_in
    | some n => exact hp g n hf
  have HRT : Hid (∀ W, _) := fun W => implRootH_any W
  obtain ⟨res, hres⟩ : ∃ res, climb f s h = res := ⟨_, rfl⟩
  have HC : Hid (climb f (s - 0) h = res) := hres
  have HH : Hid (HIn h) := hh
  rw [hres]
  obtain ⟨p0, q0, d0⟩ := h
  have hlen := M.len (w := w) Tryz.underlying98
  have hlen2 := (HM.out _ (Below.newH (w := w) (.cells #[.int .i64 p0, .int .i64 q0, .bool d0] 51))).len Tryz.underlying98
  clear M hp hres hh
  go_enter Tryz.func97, Tryz.ntmps97
  go_wp2
  clear hlen hlen2
  go_loopw [7] (fun i wr => ∃ k : Nat, k ≤ s ∧ i = .int .i64 k ∧ Below w.heap.size w wr ∧ ∃ g : Hd, VarA wr w.heap.size 51 #[.int .i64 g.sh, .int .i64 g.ino, .bool g.dir] ∧ Hid (HIn g) ∧ Hid (climb f (s - k) g = res)) (fun i _ => s - (intOf i).toNat)
  case atStart => exact ⟨0, Nat.zero_le _, rfl, Below.newH _, (p0, q0, d0), VarA.new w _ _, HH.out, HC.out⟩
  case round =>
    clear HH HC
    obtain ⟨k, hk, rfl, hbel, ⟨p, q, d⟩, v0, HG, HC⟩ := hrel
    replace v0 : VarA wr w.heap.size 51 #[.int .i64 p, .int .i64 q, .bool d] := v0
    by_cases hlt : k < s
    case neg =>
      have HF : Hid (false = res) := by rw [← HC.out]; show _ = _; rw [show s - k = 0 by omega]; rfl
      clear v0
      go_wp2
      go_ret
      exact ⟨by rw [← HF.out]; rfl, hbel⟩
    have HC2 : Hid ((if ((p, q, d) : Hd) = rootH then true else climb f (s - (k + 1)) ((f (p, q, d)).getD nd0).par) = res) := by
      rw [← HC.out]; show _ = _; rw [show s - k = (s - (k + 1)) + 1 by omega]; rfl
    clear HC
    obtain ⟨b0, b1, b2⟩ := v0.l3
    have hl0 := v0.lt
    haveI : Nonempty (Cls wr) := Cls.ne wr
    have k0 := Cls.cell hl0 b0
    have k1 := Cls.cell hl0 b1
    have k2 := Cls.cell hl0 b2
    clear b0 b1 b2
    by_cases hr : ((p, q, d) : Hd) = rootH
    · have HF : Hid (true = res) := by rw [← HC2.out, if_pos hr]; rfl
      have heq : ∀ W : World, (binOp .eql 51 (.agg #[.int .i64 p, .int .i64 q, .bool d]) (.agg #[.int .i64 0, .int .i64 1, .bool true])).run Tryz.prog W = .ok (.bool true) W := fun W => by rw [eqH_run, decH_true hr]
      clear HC2 hr
      go_wp2
      refine wp_region_cls (by kernel_rfl) (by kernel_rfl) ?_
      repeat (go_big_quiet_step (first | (go_at_call 56; exact Calls.cls_new (HRT.out _))))
      refine wpQuiet_nil ?_
      rintro w' ⟨⟨w', hb'⟩, rfl⟩
      go_wp2
      go_ret
      exact ⟨by rw [← HF.out]; rfl, hbel.trans (hb'.mono hbel.size)⟩
    have HF : Hid (climb f (s - (k + 1)) ((f (p, q, d)).getD nd0).par = res) := by rw [← HC2.out, if_neg hr]; rfl
    have heq : ∀ W : World, (binOp .eql 51 (.agg #[.int .i64 p, .int .i64 q, .bool d]) (.agg #[.int .i64 0, .int .i64 1, .bool true])).run Tryz.prog W = .ok (.bool false) W := fun W => by rw [eqH_run, decH_false hr]
    clear HC2 hr
    go_wp2
    refine wp_region_cls (by kernel_rfl) (by kernel_rfl) ?_
    repeat (go_big_quiet_step (first | (go_at_call 56; exact Calls.cls_new (HRT.out _))))
    refine wpQuiet_nil ?_
    rintro w' ⟨⟨w', hb'⟩, rfl⟩
    have v1 := v0.step hb'
    have hb3 := hbel.trans (hb'.mono hbel.size)
    clear k0 k1 k2 v0 hbel hb' heq hl0
    obtain ⟨b0, b1, b2⟩ := v1.l3
    have fz := v1.fz
    have HP2 := HP.out (p, q, d)
    obtain ⟨nd, hnd⟩ : ∃ nd, (f (p, q, d)).getD nd0 = nd := ⟨_, rfl⟩
    rw [hnd] at HP2 HF
    have HND : Hid _ := hnd
    have HPP : Hid (HIn nd.par) := HP2
    clear hnd HP2
    obtain ⟨hh9, ⟨p2, q2, d2⟩, lk, vl, es⟩ := nd
    have V1 : Hid (VarA w' w.heap.size 51 _) := v1
    clear v1
    go_wp2_with (first | (at_lookup; refine wpList_lookN _ rfl _ _ rfl b s f rfl (HM.out _ hb3) (p, q, d) HG.out rfl ?_; intro la ln lc; rw [HND.out]) | (refine wpList_parN _ rfl (.tmp 14) rfl (Nd.mk hh9 (p2, q2, d2) lk vl es) _ rfl ?_))
    first
    | exact ⟨⟨k + 1, by omega, by go_num, Below.set3 hb3 (Nat.le_refl _), (p2, q2, d2), VarA.set3 V1.out, HPP.out, HF.out⟩, by simp [intOf]; omega⟩
    | (go_roundw
       case rel => exact ⟨k + 1, by omega, by go_num, Below.set3 hb3 (Nat.le_refl _), (p2, q2, d2), VarA.set3 V1.out, HPP.out, HF.out⟩
       case measure => simp [intOf]; omega)
end
section
open Go.Maps
def climbAt (f : Hd → Option Nd) (s : Nat) (l : List Nd) (i : Nat) : Bool := !(l[i]?.getD nd0).h.dir || climb f s (l[i]?.getD nd0).h

set_option maxRecDepth 100000 in
set_option maxHeartbeats 1000000 in
theorem allCome_any (x : Value) (l : List Nd) (S : Nat → Prop) (b0 s : Nat) (f : Hd → Option Nd) (w : World) (r : RdV w S x (ndsDt l)) (hl : l.length ≤ 2097152) (M : MapH ndP w b0 s f) (hs : s ≤ 2097152) (hin : ∀ i, i < l.length → HIn (l[i]?.getD nd0).h) (hp : ∀ g n, f g = some n → HIn n.par) :
    Calls Tryz.prog 60 #[.map (some b0), x] w fun e w' => e = .returned (.bool ((List.range l.length).all (climbAt f s l))) ∧ Below w.heap.size w w' := by
  obtain ⟨a, cap, rfl, _⟩ := RdV.sliced r
  have HR : Hid (∀ W, Below w.heap.size w W → RdV W S (.slice a l.length cap) (.rows 54 9 l.length (fun i j => ndCell (l[i]?.getD nd0) j))) := RdV.old r
  have hbs := M.lt
  have HC : Hid (∀ W, Below w.heap.size w W → ∀ h, HIn h → Calls Tryz.prog 97 #[.map (some b0), h.v] W fun e w' => e = .returned (.bool (climb f s h)) ∧ Below W.heap.size W w') := fun W hW h hh => comesToRoot_any b0 s f h W (M.blk (hW.block b0 hbs)) hs hh hp
  obtain ⟨n, hn⟩ : ∃ n, l.length = n := ⟨_, rfl⟩
  have HIN : Hid (∀ i, i < l.length → HIn (l[i]?.getD nd0).h) := hin
  rw [hn] at hl HR HIN ⊢
  clear r hn hin hp M hs hbs
  go_enter Tryz.func60, Tryz.ntmps60
  go_wp2
  go_loopw [9] (fun i wr => ∃ k : Nat, k ≤ n ∧ i = .int .i64 k ∧ Below w.heap.size w wr ∧ Hid ((List.range k).all (climbAt f s l) = true)) (fun i _ => n - (intOf i).toNat)
  case atStart => exact ⟨0, Nat.zero_le _, rfl, Below.refl _ _, by show _ = _; simp⟩
  case round =>
    obtain ⟨k, hk, rfl, hbel, HA⟩ := hrel
    by_cases hlt : k < n
    case neg =>
      have he : k = n := by omega
      subst he
      go_wp2
      go_ret
      exact ⟨by rw [HA.out]; rfl, hbel⟩
    obtain ⟨b, off, rfl, hbl, _, hx⟩ := RdV.at (HR.out wr hbel) hlt
    obtain ⟨x0, g0, s0⟩ := hx 0 (by omega)
    obtain ⟨x1, g1, s1⟩ := hx 1 (by omega)
    obtain ⟨x2, g2, s2⟩ := hx 2 (by omega)
    obtain ⟨x3, g3, s3⟩ := hx 3 (by omega)
    obtain ⟨x4, g4, s4⟩ := hx 4 (by omega)
    obtain ⟨x5, g5, s5⟩ := hx 5 (by omega)
    obtain ⟨x6, g6, s6⟩ := hx 6 (by omega)
    obtain ⟨x7, g7, s7⟩ := hx 7 (by omega)
    obtain ⟨x8, g8, s8⟩ := hx 8 (by omega)
    have HIK := HIN.out k hlt
    have HAT : Hid (climbAt f s l k = (!(l[k]?.getD nd0).h.dir || climb f s (l[k]?.getD nd0).h)) := by show _ = _; rfl
    generalize l[k]?.getD nd0 = e at *
    obtain ⟨⟨p, q, d⟩, ⟨p2, q2, d2⟩, lk, vl, es⟩ := e
    obtain rfl : x0 = .int .i64 p := s0
    obtain rfl : x1 = .int .i64 q := s1
    obtain rfl : x2 = .bool d := s2
    obtain rfl : x3 = .int .i64 p2 := s3
    obtain rfl : x4 = .int .i64 q2 := s4
    obtain rfl : x5 = .bool d2 := s5
    obtain rfl : x6 = .int .i64 lk := s6
    obtain rfl : x7 = .int .i64 vl := s7
    obtain ⟨xa, xc, rfl, _⟩ := RdV.sliced s8
    simp only [Nat.add_zero] at g0
    generalize es.length = xn at *
    have HI : Hid (HIn (p, q, d)) := HIK
    clear HIK hx s8 HIN
    cases d with
    | false =>
      have HF : Hid ((List.range (k + 1)).all (climbAt f s l) = true) := range_all_next _ _ HA.out (by rw [HAT.out]; rfl)
      clear HAT HA HC
      go_wp2
      first
      | exact ⟨⟨k + 1, by omega, by go_num, hbel.alloc hbel.size _, HF.out⟩, by simp [intOf]; omega⟩
      | (go_roundw
         case rel => exact ⟨k + 1, by omega, by go_num, hbel.alloc hbel.size _, HF.out⟩
         case measure => simp [intOf]; omega)
    | true =>
      have HX : Hid (∀ W, Below w.heap.size w W → _) := fun W hW => HC.out W hW (p, q, true) HI.out
      obtain ⟨bc, hbc⟩ : ∃ bc, climb f s (p, q, true) = bc := ⟨_, rfl⟩
      have HAT2 : Hid (climbAt f s l k = bc) := by rw [HAT.out]; show _ = _; rw [← hbc]; rfl
      rw [hbc] at HX
      clear hbc HAT HC
      have HB : Hid (Below w.heap.size w (wr.alloc (.cells #[.int .i64 p, .int .i64 q, .bool true, .int .i64 p2, .int .i64 q2, .bool d2, .int .i64 lk, .int .i64 vl, .slice xa xn xc] 54))) := hbel.alloc hbel.size _
      go_wp2_with fail
      refine Calls.mono (HX.out _ HB.out) ?_
      rintro e w3 ⟨rfl, b_⟩
      have hb4 := HB.out.trans (b_.mono HB.out.size)
      clear HX HB b_ g0 g1 g2 g3 g4 g5 g6 g7 g8
      cases bc with
      | false =>
        have HF : Hid ((List.range n).all (climbAt f s l) = false) := range_all_false _ _ k hlt HAT2.out
        clear HAT2 HA
        go_wp2
        go_ret
        exact ⟨by rw [HF.out]; rfl, hb4⟩
      | true =>
        have HF : Hid ((List.range (k + 1)).all (climbAt f s l) = true) := range_all_next _ _ HA.out HAT2.out
        clear HAT2 HA
        go_wp2
        first
        | exact ⟨⟨k + 1, by omega, by go_num, hb4, HF.out⟩, by simp [intOf]; omega⟩
        | (go_roundw
           case rel => exact ⟨k + 1, by omega, by go_num, hb4, HF.out⟩
           case measure => simp [intOf]; omega)
end
section
open Go.Maps
def intP (n : Nat) (v : Value) : Prop := v = .int .i64 n
def cmap (es : List En) (h : Hd) : Option Nat := if cntE es h = 0 then none else some (cntE es h)
def seen (l : List Nd) (k m : Nat) : List En := (l.take k).flatMap (·.es) ++ ((l[k]?.getD nd0).es.take m)
def leadE (f : Hd → Option Nd) (n : Nd) (e : En) : Bool := match f e.h with | none => false | some a => !e.h.dir || decide (a.par = n.h)
def leadN (f : Hd → Option Nd) (l : List Nd) (i : Nat) : Bool := (l[i]?.getD nd0).es.all (leadE f (l[i]?.getD nd0))
def wantN (n : Nd) : Int := if n.h = rootH then 0 else n.links
def ledN (l : List Nd) (i : Nat) : Bool := decide ((cntE (l.flatMap (·.es)) (l[i]?.getD nd0).h : Int) = wantN (l[i]?.getD nd0))
def leadR (f : Hd → Option Nd) (l : List Nd) : Bool := (List.range l.length).all (leadN f l) && (List.range l.length).all (ledN l)

theorem cmap_next (es : List En) (e : En) : (fun g => if g = e.h then some (cntE es e.h + 1) else cmap es g) = cmap (es ++ [e]) := by
  funext g
  unfold cmap cntE
  by_cases h : g = e.h
  · subst h; simp [List.countP_append]
  · have h2 : ¬ e.h = g := fun x => h x.symm
    simp [List.countP_append, h, h2]
theorem zeroI (w : World) : (zeroValue 3).run Tryz.prog w = .ok (.int .i64 0) w := by kernel_rfl
theorem MapH.lookI {w : World} {b s : Nat} {es : List En} (m : MapH intP w b s (cmap es)) {t : TypeId} (ht : Tryz.prog.underlying t = some (.map 51 3)) {h : Hd} (hh : HIn h) : (Instr.lookup t (.map (some b)) h.v false).run Tryz.prog w = .ok (.int .i64 (cntE es h)) w := by
  obtain ⟨v, hrun, r1, r2⟩ := m.look ht (zeroI w) hh
  have hv : v = .int .i64 (cntE es h) := by
    by_cases hc : cntE es h = 0
    · rw [r1 (by unfold cmap; rw [if_pos hc]), hc]; rfl
    · exact r2 _ (by unfold cmap; rw [if_neg hc])
  rw [hrun, hv]
theorem seen_next (l : List Nd) (k m : Nat) (hm : m < (l[k]?.getD nd0).es.length) : seen l k (m + 1) = seen l k m ++ [(l[k]?.getD nd0).es[m]?.getD en0] := by
  unfold seen
  rw [List.append_assoc, ← List.take_append_getElem hm, List.getElem?_eq_getElem hm]; rfl
theorem seen_row (l : List Nd) (k : Nat) (hk : k < l.length) : seen l k (l[k]?.getD nd0).es.length = seen l (k + 1) 0 := by
  unfold seen
  rw [List.take_length, List.take_zero, List.append_nil, ← List.take_append_getElem hk, List.flatMap_append, List.getElem?_eq_getElem hk]; simp
theorem seen_all (l : List Nd) : seen l l.length 0 = l.flatMap (·.es) := by unfold seen; simp
theorem cmap_nil (l : List Nd) : cmap (seen l 0 0) = fun _ => none := by funext g; simp [seen, cmap, cntE]
theorem flat_len (l : List Nd) (h : ∀ i, i < l.length → (l[i]?.getD nd0).es.length ≤ 12) : ∀ k, k ≤ l.length → ((l.take k).flatMap (·.es)).length ≤ 12 * k
  | 0, _ => by simp
  | k + 1, hk => by
    have ih := flat_len l h k (by omega)
    have h1 := h k (by omega)
    rw [List.getElem?_eq_getElem (by omega)] at h1
    have h2 : l.take (k + 1) = l.take k ++ [l[k]] := (List.take_append_getElem (by omega)).symm
    rw [h2, List.flatMap_append, List.length_append]
    have h3 : ([l[k]].flatMap (·.es)).length ≤ 12 := by simpa using h1
    omega
theorem cnt_seen (l : List Nd) (h : ∀ i, i < l.length → (l[i]?.getD nd0).es.length ≤ 12) (k m : Nat) (hk : k < l.length) (g : Hd) : cntE (seen l k m) g ≤ 12 * k + 12 := by
  have h1 := flat_len l h k (by omega)
  have h2 : cntE (seen l k m) g ≤ (seen l k m).length := List.countP_le_length
  have h3 : (seen l k m).length ≤ 12 * k + 12 := by
    unfold seen
    rw [List.length_append, List.length_take]
    have := h k hk
    omega
  omega
end
section
/-- What is found of a handle: its node with its entries, or nothing. -/
def atX (f : Hd → Option Nd) (X : Hd → Value) (h : Hd) : Value := match f h with | some n => ndV n (X n.h) | none => ndV nd0 (.slice none 0 0)
/-- What is said of the operation's directory. -/
def dirC (k : Int) (d there : Bool) : Int := if (k = 2 ∨ k = 3) ∧ d = true then 6 else if ¬ (k = 2 ∨ k = 3) ∧ d = false then 2 else if there = false then 1 else 0
end
section
/-- Is the new handle taken? -/
def takesB (fr tq : Hd) (i1 i2 : Bool) (s : Nat) : Bool := HOk fr && (decide (fr.sh = tq.sh) && (decide (fr.dir = tq.dir) && (!i1 && (!i2 && decide ((s : Int) < 240)))))
end
section
open Go.Maps
/-- What is said of the way up. -/
def wayI (f : Hd → Option Nd) (h : Hd) : Nat → Hd → Int
  | 0, _ => 9
  | k + 1, g => if g = h then 8 else if g = rootH then 0 else wayI f h k ((f g).getD nd0).par
end
section
set_option maxRecDepth 100000
end
section
/-- The handle of the entry of this name; is there one? -/
def fdH (es : List En) (nm : List Int) : Hd := if ei es nm < es.length then (es[ei es nm]?.getD en0).h else hd0
def fdB (es : List En) (nm : List Int) : Bool := decide (ei es nm < es.length)
end
section
/-- What is said of the room for a name. -/
def roomI (f : Hd → Option Nd) (g : Hd) (nm : List Int) : Int := if fdB ((f g).getD nd0).es nm = true then 4 else if 12 ≤ ((f g).getD nd0).es.length then 5 else 0
end
section
/-- The entries by handle, those of one handle changed. -/
def setX (X : Hd → Value) (h : Hd) (x : Value) : Hd → Value := fun g => if g = h then x else X g
/-- The nodes by handle, one of them changed. -/
def setN (f : Hd → Option Nd) (h : Hd) (n : Nd) : Hd → Option Nd := fun g => if g = h then some n else f g
end
section
open Go.Maps
/-- The nodes by handle, one of them gone. -/
def delN (f : Hd → Option Nd) (h : Hd) : Hd → Option Nd := fun g => if g = h then none else f g
end
section
open Go.Maps
/-- A link less, or the node gone. -/
def unlN (f : Hd → Option Nd) (h : Hd) (n : Nd) : Hd → Option Nd := if n.links - 1 ≤ 0 then delN f h else setN f h { n with links := n.links - 1 }
def unlS (s : Nat) (n : Nd) : Nat := if n.links - 1 ≤ 0 then s - 1 else s
end
section
open Go.Maps
set_option maxRecDepth 100000
end
section
open Go.Maps
/-- What is said of a move. -/
def moveI (f : Hd → Option Nd) (dir tq : Hd) (asn : List Int) (h : Hd) : Int :=
  if tq.dir = false then 2 else if (f tq).isSome = false then 1 else if tq = dir then (if fdB ((f tq).getD nd0).es asn = true then 4 else 0)
  else if roomI f tq asn ≠ 0 ∨ h.dir = false then roomI f tq asn else wayI f h 12 tq
end
section
open Go.Maps
set_option maxRecDepth 100000
end
section
open Go.Maps
/-- A map of nodes of one's own, by what it holds: all of it lies in blocks of P. -/
structure NX (w : World) (b s : Nat) (f : Hd → Option Nd) (X : Hd → Value) (Q : Hd → Nat → Prop) (P : Nat → Prop) : Prop where
  m : MapH (ndX X) w b s f
  key : ∀ g n, f g = some n → n.h = g
  own : ∀ g n, f g = some n → OwV w (Q g) (X g) (ensDt n.es)
  inP : ∀ g n c, f g = some n → Q g c → P c ∧ c ≠ b
  apart : ∀ g g' n n' c, f g = some n → f g' = some n' → Q g c → Q g' c → g = g'
  bP : P b
  small : ∀ c, P c → c < w.heap.size
def NM (w : World) (b s : Nat) (f : Hd → Option Nd) (P : Nat → Prop) : Prop := ∃ X Q, NX w b s f X Q P
/-- The blocks of the map's, and new ones. -/
abbrev GP (P : Nat → Prop) (w w' : World) : Nat → Prop := fun c => P c ∨ w.heap.size ≤ c ∧ c < w'.heap.size
end
section
open Go.Maps
/-- Entries without those of a name. -/
def outE (es : List En) (nm : List Int) : List En := es.filter (fun e => !decide (e.nm = nm))
/-- Where the entries that are left lie. -/
abbrev TQ (Q : Nat → Nat → Prop) (lo k : Nat) (w : World) : Nat → Prop := fun c => (∃ i, i < k ∧ Q i c) ∨ lo ≤ c ∧ c < w.heap.size
end
section
open Go.RowKit Go.Sort Go.Shelf Go.Lib
/-- An element with the one cell of it that leads to memory, and the blocks of that. -/
structure SEl (β : Type) where
  e : β
  u : Value
  Q : Nat → Prop
/-- .. which it owns. -/
abbrev SX (β : Type) (w : World) (g : Nat) (cell : β → Nat → Dt) (j0 : Nat) := { x : SEl β // OwV w x.Q x.u (cell x.e j0) ∧ ∀ c, x.Q c → c ≠ g }
def encX {β : Type} (k : Nat) (val : β → Value → Nat → Value) (e : β) (u : Value) : List Value := (List.range k).map (val e u)
theorem encX_len {β : Type} (k : Nat) (val : β → Value → Nat → Value) (e : β) (u : Value) : (encX k val e u).length = k := by simp [encX]
theorem encX_at {β : Type} {k : Nat} (val : β → Value → Nat → Value) (e : β) (u : Value) {j : Nat} (hj : j < k) : (encX k val e u)[j]! = val e u j := by
  rw [getElem!_pos _ j (by rw [encX_len]; exact hj)]
  simp [encX]
/-- How the cells of an element are told by it and by its one cell that leads to memory. -/
structure Told (β : Type) (k j0 : Nat) (cell : β → Nat → Dt) (val : β → Value → Nat → Value) : Prop where
  lt : j0 < k
  one : ∀ e u j (W : World) Q v, j < k → j ≠ j0 → OwV W Q v (cell e j) → v = val e u j
  own : ∀ e u j (W : World), j < k → j ≠ j0 → OwV W (fun _ => False) (val e u j) (cell e j)
  at0 : ∀ e u, val e u j0 = u
  cell' : ∀ e u (W : World) Q, OwV W Q u (cell e j0) → ∀ j, j < k → (val e u j).oneCell' = true
section
variable {β : Type} {z : β} {T : TypeId} {k j0 : Nat} {cell : β → Nat → Dt} {val : β → Value → Nat → Value} {w : World} {S : Nat → Prop} {g cap : Nat} {l : List β}
theorem rowOpen [Inhabited (SX β w g cell j0)] (tl : Told β k j0 cell val) (o : OwV w S (.slice (some ⟨g, 0, none⟩) l.length cap) (.rows T k l.length (fun i j => cell (l[i]?.getD z) j))) :
    ∃ d : Array (SX β w g cell j0), d.size = l.length ∧ d.toList.map (·.1.e) = l ∧ HoldsK (fun x : SX β w g cell j0 => encX k val x.1.e x.1.u) k w g 0 d ∧ d.toList.Pairwise (fun x y => ∀ c, x.1.Q c → y.1.Q c → False) ∧ (∀ x ∈ d.toList, ∀ c, x.1.Q c → S c) ∧ g < w.heap.size := by
  obtain ⟨V, C, Qs, h1, hS, h3, h4, h5, h6⟩ := OwV.inv o
  have hblk : ∃ cur, w.heap[g]? = some (.cells cur T (0, 0)) := by
    rcases h1.2 with ⟨hv, _⟩ | ⟨g', c', cur, hv, _, hh, _⟩
    · cases hv
    · cases hv; exact ⟨cur, hh⟩
  let D : Array (SX β w g cell j0) := Array.ofFn (n := l.length) (fun i => ⟨⟨l[i.1]'i.2, V i.1 j0, Qs i.1 j0⟩, by
    have := h4 i.1 j0 i.2 tl.lt
    dsimp only at this
    rw [List.getElem?_eq_getElem i.2] at this
    exact this, fun c hc e => (h5 i.1 j0 c i.2 tl.lt hc).2 (by rw [e]; rfl)⟩)
  have hsz : D.size = l.length := by simp [D]
  have hat : ∀ i (hi : i < D.size), (D[i]'hi).1 = ⟨l[i]'(by rw [← hsz]; exact hi), V i j0, Qs i j0⟩ := fun i hi => by simp [D]
  refine ⟨D, hsz, ?_, ?_, ?_, ?_, ?_⟩
  · apply List.ext_getElem
    · simp [hsz]
    · intro i h h'
      have hi : i < D.size := by rw [hsz]; exact h'
      have := hat i hi
      simp only [List.getElem_map, Array.getElem_toList]
      rw [this]
  · intro t ht
    rw [size_flatK] at ht
    have hk0 : 0 < k := Nat.lt_of_le_of_lt (Nat.zero_le _) tl.lt
    have hi : t / k < D.size := Nat.div_lt_of_lt_mul (by rw [Nat.mul_comm]; exact ht)
    have hj : t % k < k := Nat.mod_lt _ hk0
    have hil : t / k < l.length := by rw [← hsz]; exact hi
    have hx : t / k * k + t % k = t := by rw [Nat.mul_comm]; exact Nat.div_add_mod t k
    rw [get_flatK _ _ _ _ ht, getElem!_pos D (t / k) hi]
    have hval : V (t / k) (t % k) = val (D[t / k]'hi).1.e (D[t / k]'hi).1.u (t % k) := by
      rw [hat _ hi]
      by_cases hjj : t % k = j0
      · rw [hjj]; exact (tl.at0 _ _).symm
      · have h9 := h4 (t / k) (t % k) hil hj
        dsimp only at h9
        rw [List.getElem?_eq_getElem hil] at h9
        exact tl.one _ _ _ _ _ _ hj hjj h9
    have hc := World.ownsRow.cellAt h1 t (by rw [← hsz]; exact ht)
    have hc2 := h3 (t / k) (t % k) hil hj
    rw [hx] at hc2
    obtain ⟨cur, hb⟩ := hblk
    refine ⟨?_, by simp [World.frozen?, hb]⟩
    rw [encX_at val _ _ hj, ← hval, Nat.zero_add]
    rw [hc2] at hc
    exact hc
  · rw [List.pairwise_iff_getElem]
    intro i j hi hj hij c hc hc'
    have hi' : i < D.size := by simpa using hi
    have hj' : j < D.size := by simpa using hj
    rw [Array.getElem_toList, hat i hi'] at hc
    rw [Array.getElem_toList, hat j hj'] at hc'
    have := (h6 i j0 j j0 c (by omega) tl.lt (by omega) tl.lt hc hc').1
    omega
  · intro x hx c hc
    obtain ⟨i, hi, rfl⟩ := List.getElem_of_mem hx
    have hi' : i < D.size := by simpa using hi
    rw [Array.getElem_toList, hat i hi'] at hc
    exact (h5 i j0 c (by omega) tl.lt hc).1
  · obtain ⟨cur, hb⟩ := hblk
    exact lt_of_block hb
theorem heap_sortedK [Inhabited (SX β w g cell j0)] {n : Nat} {os : Array Obj} {cur : Array Value} {e : TypeId} {fr : Nat × Nat} (enc : SX β w g cell j0 → List Value) (d : Array (SX β w g cell j0)) (hb : w.heap[g]? = some (.cells cur e fr)) :
    (sortWorldK enc k w g 0 n d os).heap[g]? = some (.cells (putCells id 0 (flatK enc k d) cur) e fr) := by
  have hg : g < w.heap.size := (Array.getElem?_eq_some_iff.1 hb).1
  unfold sortWorldK putRowK
  rw [heap_grow_old _ _ (by simpa using hg)]
  simp [putRow, mapBlock, Sort.ahead, Array.getElem?_modify, hb, onCells]
theorem grownBy_sortedK [Inhabited (SX β w g cell j0)] {n : Nat} {os : Array Obj} (enc : SX β w g cell j0 → List Value) (d : Array (SX β w g cell j0)) : w.grownBy (sortWorldK enc k w g 0 n d os) (some g) := by
  unfold sortWorldK putRowK
  refine ⟨rfl, rfl, rfl, by simp, fun k hk hne => ?_⟩
  rw [heap_grow_old _ _ (by simpa using hk)]
  have : g ≠ k := fun e => hne (by rw [e])
  simp [putRow, mapBlock, Sort.ahead, Array.getElem?_modify, this]
theorem rowClose [Inhabited (SX β w g cell j0)] (tl : Told β k j0 cell val) (o : OwV w S (.slice (some ⟨g, 0, none⟩) l.length cap) (.rows T k l.length (fun i j => cell (l[i]?.getD z) j))) (d : Array (SX β w g cell j0)) (hsz : d.size = l.length)
    (hp : d.toList.Pairwise (fun x y => ∀ c, x.1.Q c → y.1.Q c → False)) (hS2 : ∀ x ∈ d.toList, ∀ c, x.1.Q c → S c) (m : Nat) (os : Array Obj) (L : List β) (hL : d.toList.map (·.1.e) = L) :
    OwV (sortWorldK (fun x : SX β w g cell j0 => encX k val x.1.e x.1.u) k w g 0 m d os) S (.slice (some ⟨g, 0, none⟩) l.length cap) (.rows T k L.length (fun i j => cell (L[i]?.getD z) j)) := by
  have hLl : L.length = l.length := by rw [← hL]; simpa using hsz
  obtain ⟨V, C, Qs, h1, hS, h3, h4, h5, h6⟩ := OwV.inv o
  rcases h1.2 with ⟨hv, _⟩ | ⟨g', c', cur, hv, hg0, hh, hnc, hmx, hcs, htk⟩
  · cases hv
  cases hv
  have hg9 := grownBy_sortedK (k := k) (n := m) (os := os) (fun x : SX β w g cell j0 => encX k val x.1.e x.1.u) d
  have hat : ∀ i, i < l.length → L[i]?.getD z = (d[i]!).1.e := fun i hi => by
    have hi' : i < d.size := by omega
    rw [← hL, List.getElem?_map, Array.getElem?_toList, Array.getElem?_eq_getElem hi', getElem!_pos d i hi']
    rfl
  have hmem : ∀ i, i < l.length → d[i]! ∈ d.toList := fun i hi => by
    have hi' : i < d.size := by omega
    rw [getElem!_pos d i hi']
    exact Array.getElem_mem_toList hi'
  have hsz2 : (flatK (fun x : SX β w g cell j0 => encX k val x.1.e x.1.u) k d).size = l.length * k := by rw [size_flatK, hsz]
  rw [hLl]
  refine OwV.mkRows ⟨fun i j => val (d[i]!).1.e (d[i]!).1.u j, (flatK (fun x : SX β w g cell j0 => encX k val x.1.e x.1.u) k d).toList, fun i j c => if j = j0 then (d[i]!).1.Q c else False, ⟨by simpa using hsz2, .inr ⟨g, cap, _, rfl, hg0, heap_sortedK _ d hh, hnc, hmx, by simpa [putCells] using hcs, ?_⟩⟩, hS, ?_, ?_, ?_, ?_⟩
  · have hle : l.length * k ≤ cur.size := by rw [hcs]; exact Nat.mul_le_mul_right k hnc
    rw [← hsz2]
    apply List.ext_getElem?
    intro t
    by_cases ht : t < (flatK (fun x : SX β w g cell j0 => encX k val x.1.e x.1.u) k d).size
    · rw [List.getElem?_take_of_lt ht, Array.getElem?_toList, Array.getElem?_toList]
      have : t < cur.size := by omega
      have ht2 : t < d.size * k := by rw [size_flatK] at ht; exact ht
      simp only [putCells]
      rw [Array.getElem?_eq_getElem ht, ← getElem!_pos _ t ht]
      simp [this, ht2]
    · rw [List.getElem?_take_eq_none (by omega), List.getElem?_eq_none (by simp at ht ⊢; omega)]
  · intro i j hi hj
    have ht : i * k + j < d.size * k := by rw [hsz]; exact place_lt hi hj
    rw [Array.getElem?_toList, Array.getElem?_eq_getElem (by rw [size_flatK]; exact ht), ← getElem!_pos _ _ (by rw [size_flatK]; exact ht), get_flatK _ _ _ _ ht]
    have h1 : (i * k + j) / k = i := by rw [Nat.add_comm, Nat.mul_comm, Nat.add_mul_div_left _ _ (by omega), Nat.div_eq_of_lt hj]; omega
    have h2 : (i * k + j) % k = j := by rw [Nat.add_comm, Nat.add_mul_mod_self_right, Nat.mod_eq_of_lt hj]
    rw [h1, h2, encX_at val _ _ hj]
  · intro i j hi hj
    dsimp only
    rw [hat i hi]
    by_cases hjj : j = j0
    · subst hjj
      simp only [if_true]
      rw [tl.at0]
      exact OwV.keep ⟨hg9.size, fun c hc hlt => hg9.block c hlt (fun e => (d[i]!).2.2 c hc (by cases e; rfl))⟩ (d[i]!).2.1
    · simp only [hjj, if_false]
      exact tl.own _ _ _ _ hj hjj
  · intro i j c hi hj hc
    by_cases hjj : j = j0
    · simp only [hjj, if_true] at hc
      exact ⟨hS2 _ (hmem i hi) c hc, fun e => (d[i]!).2.2 c hc (by cases e; rfl)⟩
    · simp only [hjj, if_false] at hc
  · intro i j i' j' c hi hj hi' hj' hc hc'
    by_cases hjj : j = j0 <;> by_cases hjj' : j' = j0
    · simp only [hjj, hjj', if_true] at hc hc'
      refine ⟨?_, by omega⟩
      have hd : i < d.size := by omega
      have hd' : i' < d.size := by omega
      rw [getElem!_pos d i hd] at hc
      rw [getElem!_pos d i' hd'] at hc'
      rw [List.pairwise_iff_getElem] at hp
      rcases Nat.lt_trichotomy i i' with h | h | h
      · exact (hp i i' (by simpa using hd) (by simpa using hd') h c (by simpa using hc) (by simpa using hc')).elim
      · exact h
      · exact (hp i' i (by simpa using hd') (by simpa using hd) h c (by simpa using hc') (by simpa using hc)).elim
    · simp only [hjj', if_false] at hc'
    · simp only [hjj, if_false] at hc
    · simp only [hjj, if_false] at hc
end
/-- The one sorted order. -/
theorem sorted_same {α β : Type} [Inhabited α] {lt : α → α → Bool} {d : Array α} {n : Nat} (hn : d.size = n) (φ : α → β) (R : β → β → Prop) (hR : ∀ x y, R (φ x) (φ y) → lt x y = true) (hT : ∀ a b, R a b → R b a → False) (hso : SortedIn lt 0 n d) {L : List β} (hp : (d.toList.map φ).Perm L) (hL : L.Pairwise R) : d.toList.map φ = L := by
  refine List.Perm.eq_of_pairwise (le := fun a b => a = b ∨ ¬ R b a) ?_ ?_ ?_ hp
  · intro a b ha hb h1 h2
    rcases h1 with h1 | h1
    · exact h1
    rcases h2 with h2 | h2
    · exact h2.symm
    have hb' : b ∈ L := hb
    have ha' : a ∈ L := hp.mem_iff.1 ha
    obtain ⟨i, hi, rfl⟩ := List.getElem_of_mem ha'
    obtain ⟨j, hj, rfl⟩ := List.getElem_of_mem hb'
    rw [List.pairwise_iff_getElem] at hL
    rcases Nat.lt_trichotomy i j with h | h | h
    · exact (h2 (hL i j hi hj h)).elim
    · subst h; rfl
    · exact (h1 (hL j i hj hi h)).elim
  · rw [List.pairwise_iff_getElem]
    intro i j hi hj hij
    have hi' : i < d.size := by simpa using hi
    have hj' : j < d.size := by simpa using hj
    have h9 := hso i j (Nat.zero_le _) hij (by omega)
    rw [getElem!_pos d j hj', getElem!_pos d i hi'] at h9
    right
    intro h
    simp only [List.getElem_map, Array.getElem_toList] at h
    rw [hR _ _ h] at h9
    cases h9
  · exact hL.imp (fun {a b} h => .inr (fun h2 => hT a b h h2))
end
section
open Go.RowKit Go.Sort Go.Shelf Go.Lib
/-- Draws and new blocks alone. -/
def Grew (w w' : World) : Prop := ∃ q os, w' = grow (w.drewN q) os
theorem Grew.refl (w : World) : Grew w w := ⟨0, #[], by rw [grow_empty]; rfl⟩
theorem Grew.alloc {w w' : World} (h : Grew w w') (o : Obj) : Grew w (w'.alloc o) := by
  obtain ⟨q, os, rfl⟩ := h
  exact ⟨q, os ++ #[o], by rw [alloc_eq_grow, grow_grow]⟩
theorem Grew.drew {w w' : World} (h : Grew w w') : Grew w w'.drew := by
  obtain ⟨q, os, rfl⟩ := h
  exact ⟨q + 1, os, rfl⟩
theorem Grew.trans {a b c : World} (h : Grew a b) (k : Grew b c) : Grew a c := by
  obtain ⟨q, os, rfl⟩ := h
  obtain ⟨q', os', rfl⟩ := k
  refine ⟨q + q', os ++ os', ?_⟩
  rw [show (grow (a.drewN q) os).drewN q' = grow ((a.drewN q).drewN q') os from rfl, grow_grow]
  congr 1
  simp [World.drewN, Nat.add_assoc]
theorem Grew.below {w w' : World} (h : Grew w w') : Below w.heap.size w w' := by
  obtain ⟨q, os, rfl⟩ := h
  refine ⟨rfl, rfl, rfl, by simp [grow, World.drewN], fun i hi => ?_⟩
  rw [heap_grow_old _ _ (by simpa [World.drewN] using hi)]
  rfl
theorem byPlaceG_any (a b : Hd) (w : World) : Calls Tryz.prog 54 #[a.v, b.v] w fun e w' => e = .returned (.int .i64 (byP a b)) ∧ Grew w w' := by
  obtain ⟨s, i, d⟩ := a
  obtain ⟨s2, i2, d2⟩ := b
  have HB : Hid (byP (s, i, d) (s2, i2, d2) = orI (cmpI s s2) (cmpI i i2)) := rfl
  rw [HB.out]
  clear HB
  go_enter Tryz.func54, Tryz.ntmps54
  go_wp2
  go_region_held3 (fun w' => w'.cell? ⟨w.heap.size, 0, none⟩ = some (.int .i64 s) ∧ w'.cell? ⟨w.heap.size, 1, none⟩ = some (.int .i64 i) ∧ w'.cell? ⟨w.heap.size + 1, 0, none⟩ = some (.int .i64 s2) ∧ w'.cell? ⟨w.heap.size + 1, 1, none⟩ = some (.int .i64 i2)) (first | go_keep) (first
    | (go_at_call 93; refine Calls.mono (compare_any _ _ _) ?_; rintro e w' ⟨rfl, rfl⟩)
    | (go_at_call 92; refine Calls.mono (or_any _ (cmpI s s2) (cmpI i i2) _ (by simp [go_sem]) (by simp [go_sem])) ?_; rintro e w' ⟨rfl, rfl⟩))
  all_goals go_wp2
  all_goals go_ret
  all_goals exact ⟨rfl, (((((Grew.refl w).alloc _).alloc _)).alloc _).drew⟩
/-- Which of two handles comes first. -/
def byHd (a b : Hd) : Int := if byP a b = 0 then (if a.dir = false ∧ b.dir = true then -1 else if a.dir = true ∧ b.dir = false then 1 else 0) else byP a b
theorem byHandle_any (a b : Hd) (w : World) : Calls Tryz.prog 23 #[a.v, b.v] w fun e w' => e = .returned (.int .i64 (byHd a b)) ∧ Grew w w' := by
  obtain ⟨s, i, d⟩ := a
  obtain ⟨s2, i2, d2⟩ := b
  have HP : Hid (∀ W, _) := fun W => byPlaceG_any (s, i, d) (s2, i2, d2) W
  obtain ⟨res, hres⟩ : ∃ r, byHd (s, i, d) (s2, i2, d2) = r := ⟨_, rfl⟩
  rw [hres]
  have HRES : Hid ((if byP (s, i, d) (s2, i2, d2) = 0 then (if d = false ∧ d2 = true then -1 else if d = true ∧ d2 = false then 1 else 0) else byP (s, i, d) (s2, i2, d2)) = res) := hres
  generalize byP (s, i, d) (s2, i2, d2) = bp at HP HRES
  clear hres
  go_enter Tryz.func23, Tryz.ntmps23
  go_wp2_with fail
  go_at_call 54
  refine Calls.mono (HP.out _) ?_
  rintro e w1 ⟨rfl, g1⟩
  have G : Grew w w1 := (((Grew.refl w).alloc _).alloc _).trans g1
  have v1 : VarA w1 w.heap.size 51 #[.int .i64 s, .int .i64 i, .bool d] := ((VarA.new w _ _).alloc _).step g1.below
  have v2 : VarA w1 (w.heap.size + 1) 51 #[.int .i64 s2, .int .i64 i2, .bool d2] := (by simpa using VarA.new (w.alloc _) 51 _ : VarA ((w.alloc _).alloc (.cells #[.int .i64 s2, .int .i64 i2, .bool d2] 51)) (w.heap.size + 1) _ _).step g1.below
  obtain ⟨a0, a1, a2⟩ := v1.l3
  obtain ⟨b0, b1, b2⟩ := v2.l3
  have HG : Hid (Grew w w1) := G
  clear v1 v2 g1 G
  by_cases hb : bp = 0
  · subst hb
    cases d <;> cases d2
    all_goals
      go_wp2
      go_ret
      exact ⟨by rw [← HRES.out]; simp, HG.out⟩
  · have hb1 : (bp == 0) = false := by simpa using hb
    have hb2 : (bp != 0) = true := by simpa using hb
    go_wp2
    go_ret
    exact ⟨by rw [← HRES.out, if_neg hb]; rfl, HG.out⟩
theorem byHd_lt (a b : Hd) : byHd a b < 0 ↔ a.1 < b.1 ∨ a.1 = b.1 ∧ (a.2.1 < b.2.1 ∨ a.2.1 = b.2.1 ∧ a.2.2 = false ∧ b.2.2 = true) := by
  obtain ⟨s, i, d⟩ := a
  obtain ⟨s2, i2, d2⟩ := b
  simp only [byHd, byP, cmpI, Hd.sh, Hd.ino, Hd.dir]
  cases d <;> cases d2 <;> simp <;> (repeat' split) <;> omega
theorem swo_hd {α : Type} (φ : α → Hd) : SWO (ltOf fun x y : α => byHd (φ x) (φ y)) := by
  have e : ∀ x y, ltOf (fun x y : α => byHd (φ x) (φ y)) x y = decide ((φ x).1 < (φ y).1 ∨ (φ x).1 = (φ y).1 ∧ ((φ x).2.1 < (φ y).2.1 ∨ (φ x).2.1 = (φ y).2.1 ∧ (φ x).2.2 = false ∧ (φ y).2.2 = true)) := fun x y => by
    unfold ltOf
    exact decide_eq_decide.2 (byHd_lt _ _)
  refine ⟨fun x => ?_, fun x y z h1 h2 => ?_, fun x y z h1 h2 => ?_⟩
  · rw [e]; simp
  · rw [e, decide_eq_true_eq] at *
    generalize φ x = a at *; generalize φ y = b at *; generalize φ z = c at *
    obtain ⟨s, i, d⟩ := a; obtain ⟨s2, i2, d2⟩ := b; obtain ⟨s3, i3, d3⟩ := c
    cases d <;> cases d2 <;> cases d3 <;> simp at h1 h2 ⊢ <;> omega
  · rw [e, decide_eq_false_iff_not] at *
    generalize φ x = a at *; generalize φ y = b at *; generalize φ z = c at *
    obtain ⟨s, i, d⟩ := a; obtain ⟨s2, i2, d2⟩ := b; obtain ⟨s3, i3, d3⟩ := c
    cases d <;> cases d2 <;> cases d3 <;> simp at h1 h2 ⊢ <;> omega
theorem told_nd : Told Nd 9 8 ndCell ndVal where
  lt := by omega
  one e u j W Q v hj h0 o := match j, hj, h0, o with
    | 0, _, _, o => o
    | 1, _, _, o => o
    | 2, _, _, o => o
    | 3, _, _, o => o
    | 4, _, _, o => o
    | 5, _, _, o => o
    | 6, _, _, o => o
    | 7, _, _, o => o
    | 8, _, h, _ => absurd rfl h
  own e u j W hj h0 := match j, hj, h0 with
    | 0, _, _ => rfl
    | 1, _, _ => rfl
    | 2, _, _ => rfl
    | 3, _, _ => rfl
    | 4, _, _ => rfl
    | 5, _, _ => rfl
    | 6, _, _ => rfl
    | 7, _, _ => rfl
    | 8, _, h => absurd rfl h
  at0 e u := rfl
  cell' e u W Q o j hj := by
    obtain ⟨a, c, rfl, _⟩ := RdV.sliced (OwV.rd (show OwV W Q u (ensDt e.es) from o))
    match j, hj with
    | 0, _ => rfl
    | 1, _ => rfl
    | 2, _ => rfl
    | 3, _ => rfl
    | 4, _ => rfl
    | 5, _ => rfl
    | 6, _ => rfl
    | 7, _ => rfl
    | 8, _ => rfl
theorem perm_whole {α : Type} [Inhabited α] {d d' : Array α} {n : Nat} (hn : d.size = n) (h : PermIn 0 n d d') : d'.toList.Perm d.toList ∧ d'.size = n := by
  obtain ⟨h1, _, h3⟩ := h
  have e1 : d'.extract 0 n = d' := by rw [← hn, ← h1]; exact Array.extract_size
  have e2 : d.extract 0 n = d := by rw [← hn]; exact Array.extract_size
  rw [e1, e2] at h3
  exact ⟨h3, by rw [h1, hn]⟩
end
section
open Go.RowKit Go.Sort Go.Shelf Go.Lib
/-- The closure that holds two nodes against each other. -/
theorem uniC_any (n m : Nd) (x y : Value) (w : World) (hx : ∃ a l c, x = .slice a l c) (hy : ∃ a l c, y = .slice a l c) :
    Calls Tryz.prog 22 #[ndV n x, ndV m y] w fun e w' => e = .returned (.int .i64 (byHd n.h m.h)) ∧ Grew w w' := by
  obtain ⟨xa, xn, xc, rfl⟩ := hx
  obtain ⟨ya, yn, yc, rfl⟩ := hy
  have HE : Hid (∀ W, _) := fun W => byHandle_any n.h m.h W
  obtain ⟨⟨p, q, d⟩, ⟨p2, q2, d2⟩, lk, vl, es⟩ := n
  obtain ⟨⟨s0, s1, s2⟩, ⟨s3, s4, s5⟩, lk2, vl2, es2⟩ := m
  dsimp only at HE ⊢
  generalize byHd (p, q, d) (s0, s1, s2) = bb at *
  go_enter Tryz.func22, Tryz.ntmps22
  go_wp2_with (go_at_call 23; refine Calls.mono (HE.out _) ?_; rintro e w2 ⟨rfl, g2⟩)
  go_ret
  exact ⟨rfl, (((Grew.refl w).alloc _).alloc _).trans g2⟩
/-- Nodes of one's own sorted by their handles. -/
theorem sortNdU_any (v : Value) (l : List Nd) (S : Nat → Prop) (w : World) (o : OwV w S v (ndsDt l)) (hl : l.length ≤ 2097152) :
    Calls Tryz.prog 21 #[v, .func (.func 22) #[] #[]] w fun e w' => e = .returned (.tuple #[]) ∧ ∃ L, l.Perm L ∧ (∀ M, l.Perm M → M.Pairwise (fun a b => byHd a.h b.h < 0) → L = M) ∧ OwV w' S v (ndsDt L) ∧ Turned (fun c => v.ownBlock = some c) w w' := by
  by_cases h0 : l.length = 0
  · have : l = [] := List.eq_nil_of_length_eq_zero h0
    subst this
    obtain ⟨a, c, rfl, _⟩ := RdV.sliced (OwV.rd o)
    exact (AnyF.slices_SortFunc_none sortNd a c _ w).mono fun e w' ⟨he, hw⟩ => ⟨he, [], .refl _, fun M hM _ => hM.symm.eq_nil.symm, by rw [hw]; exact o, by rw [hw]; exact Turned.refl _ _⟩
  obtain ⟨V0, C0, Q0, h1, _, _, h4, h5, _⟩ := OwV.inv o
  rcases h1.2 with ⟨hv, hz⟩ | ⟨g, cap, cur, rfl, _⟩
  · exact absurd hz h0
  haveI : Inhabited (SX Nd w g ndCell 8) := ⟨⟨⟨l[0]?.getD nd0, V0 0 8, Q0 0 8⟩, h4 0 8 (by omega) (by omega), fun c hc e => (h5 0 8 c (by omega) (by omega) hc).2 (by rw [e]; rfl)⟩⟩
  obtain ⟨d, hd, hdl, hH, hpw, hS, hg⟩ := rowOpen (z := nd0) told_nd o
  have hcmp : CmpLays Tryz.prog 22 #[] (fun x : SX Nd w g ndCell 8 => encX 9 ndVal x.1.e x.1.u) 9 (fun x y => byHd x.1.e.h y.1.e.h) g 0 d.size w := by
    intro m os dk hdk x y
    have sl : ∀ z : SX Nd w g ndCell 8, ∃ a l c, z.1.u = .slice a l c := fun z => by
      obtain ⟨a, c, e, _⟩ := RdV.sliced (OwV.rd (show OwV w z.1.Q z.1.u (ensDt z.1.e.es) from z.2.1))
      exact ⟨a, _, c, e⟩
    exact uniC_any x.1.e y.1.e x.1.u y.1.u _ (sl x) (sl y)
  have h := AnyQ.slices_SortFunc sortNd 9 Tryz.isAgg54 Tryz.sizeOf54 (fun x : SX Nd w g ndCell 8 => encX 9 ndVal x.1.e x.1.u) (fun x => encX_len _ _ _ _) (fun x u hu => by
    obtain ⟨j, hj, rfl⟩ := List.mem_map.1 hu
    exact told_nd.cell' x.1.e x.1.u w x.1.Q x.2.1 j (by simpa using hj)) (fun x y => byHd x.1.e.h y.1.e.h) (swo_hd (fun x : SX Nd w g ndCell 8 => x.1.e.h)) 22 #[] g 0 cap d w (enters_of Tryz.func22 (by kernel_rfl) rfl) hcmp hH hg (by omega)
  rw [hd] at h
  refine h.mono fun e w' ⟨he, d', m, os, hP, hSo, hw⟩ => ?_
  obtain ⟨hpm, hsz⟩ := perm_whole hd hP
  have hpp : l.Perm (d'.toList.map (·.1.e)) := by rw [← hdl]; exact (hpm.map _).symm
  refine ⟨he, d'.toList.map (·.1.e), hpp, fun M hM hs => ?_, ?_, ?_⟩
  · exact sorted_same (lt := ltOf fun x y : SX Nd w g ndCell 8 => byHd x.1.e.h y.1.e.h) hsz (fun x : SX Nd w g ndCell 8 => x.1.e) (fun a b => byHd a.h b.h < 0) (fun x y h => decide_eq_true h) (fun a b h1 h2 => by
      have := (swo_hd (fun e : Nd => e.h)).trans a b a (decide_eq_true h1) (decide_eq_true h2)
      rw [(swo_hd (fun e : Nd => e.h)).irrefl a] at this
      cases this) hSo (hpp.symm.trans hM) hs
  · rw [hw]
    exact rowClose told_nd o d' hsz ((hpm.pairwise_iff (fun {x y} h c h1 h2 => h c h2 h1)).2 hpw) (fun x hx => hS x (hpm.mem_iff.1 hx)) m os _ rfl
  · rw [hw]
    exact Turned.ofGrown (grownBy_sortedK _ d') (fun k hk => by cases hk; rfl)
end
section
theorem treeOk_at {l : List Nd} (h : treeOk l = true) {i : Nat} (hi : i < l.length) : nodeT l i = true := by
  unfold treeOk at h
  rw [Bool.and_eq_true] at h
  exact (List.all_eq_true.1 h.2) i (by simpa using hi)
theorem treeOk_len {l : List Nd} (h : treeOk l = true) : 1 ≤ l.length ∧ l.length ≤ 240 := by
  unfold treeOk headT at h
  simp only [Bool.and_eq_true, decide_eq_true_eq] at h
  exact h.1.1
theorem ndOk_small {n : Nd} (h : ndOk n = true) : n.es.length ≤ 12 ∧ 1 ≤ n.links ∧ n.links ≤ 2147483647 := by
  unfold ndOk baseOk at h
  simp only [Bool.and_eq_true, decide_eq_true_eq] at h
  omega
theorem nodeT_parts {l : List Nd} {i : Nat} (h : nodeT l i = true) : ndOk (l[i]?.getD nd0) = true ∧ (i = 0 ∨ lessH (l[i - 1]?.getD nd0).h (l[i]?.getD nd0).h = true) ∧ (∀ e ∈ (l[i]?.getD nd0).es, entLead l (l[i]?.getD nd0) e = true) ∧ tailT l (l[i]?.getD nd0) = true := by
  unfold nodeT at h
  simp only [Bool.and_eq_true, Bool.or_eq_true, decide_eq_true_eq, List.all_eq_true] at h
  exact ⟨h.1, h.2.1, h.2.2.1, h.2.2.2⟩
theorem treeOk_small {l : List Nd} (h : treeOk l = true) : Small l := by
  refine ⟨by have := (treeOk_len h).2; omega, fun i => ?_⟩
  by_cases hi : i < l.length
  · have := ndOk_small (nodeT_parts (treeOk_at h hi)).1
    omega
  · rw [List.getElem?_eq_none (by omega)]
    simp [nd0]
/-- Is a handle no fresh one for this operation? -/
def badFr (l : List Nd) (o : OpD) (fr : Hd) : Bool := !HOk fr || (decide (fr.sh ≠ o.to.sh) || (decide (fr.dir ≠ o.to.dir) || (decide (fi l fr < l.length) || (decide (fi l (fr.sh, fr.ino, !fr.dir) < l.length) || decide (240 ≤ l.length)))))
/-- What Do leaves and answers. -/
def dO (l : List Nd) (o : OpD) (fr : Hd) : List Nd × RpD :=
  if (treeOk l && OOk o) = true then (if o.kind = 4 ∧ badFr l o fr = true then (l, rc 11) else doD l o fr) else ([], rc 11)
end
section
theorem nd_one {w : World} {Q : Nat → Prop} {v : Value} (e : Nd) (j : Nat) (hj : j < 9) (o : OwV w Q v (ndCell e j)) : v.oneCell' = true := by
  by_cases h8 : j = 8
  · subst h8
    obtain ⟨a, c, rfl, _⟩ := RdV.sliced (OwV.rd (show OwV w Q v (ensDt e.es) from o))
    rfl
  · have h := told_nd.one e (.slice none 0 0) j w Q v hj h8 o
    rw [h]
    match j, hj, h8 with
    | 0, _, _ => rfl
    | 1, _, _ => rfl
    | 2, _, _ => rfl
    | 3, _, _ => rfl
    | 4, _, _ => rfl
    | 5, _, _ => rfl
    | 6, _, _ => rfl
    | 7, _, _ => rfl
    | 8, _, h => exact absurd rfl h
theorem run_appOw (w : World) (ty : TypeId) (v x : Value) (l l2 : List Nd) (S R : Nat → Prop) (o : OwV w S v (ndsDt l)) (o2 : OwV w R x (ndsDt l2)) (hSs : ∀ b, S b → b < w.heap.size) (hRs : ∀ b, R b → b < w.heap.size ∧ ¬ S b) (hl : l.length + l2.length ≤ 8000) :
    ∃ v' w', (Builtin.append_ #[24, 24] ty #[v, x]).run Tryz.prog w = .ok v' w' ∧ OwV w' (fun b => S b ∨ R b ∨ w.heap.size ≤ b ∧ b < w'.heap.size) v' (ndsDt (l ++ l2)) ∧ Turned (fun b => v.ownBlock = some b) w w' := by
  obtain ⟨i0, hi0, hz0, hz1, hz2⟩ := info_parts Tryz.infoNd
  have o' := o
  unfold ndsDt at o'
  obtain ⟨V, C, Q, h1, hS, h3, h4, h5, h6⟩ := OwV.inv o'
  unfold ndsDt at o2
  obtain ⟨V2, C2, Q2, k1, kS, k3, k4, k5, k6⟩ := OwV.inv o2
  rcases k1.2 with ⟨hx, h0⟩ | ⟨g2, c2, cur, hx, _⟩
  · subst hx
    have e2 : l2 = [] := List.eq_nil_of_length_eq_zero h0
    subst e2
    refine ⟨v, w, run_append_owned_none (P := Tryz.prog) (w := w) 0 24 ty 54 i0 9 Tryz.underlying24 hi0 v l.length C h1, ?_, Turned.refl _ _⟩
    rw [List.append_nil]
    exact OwV.mono (fun b hb => .inl hb) o
  · subst hx
    have hCl : C.length = l.length * 9 := h1.1
    have hCl2 : C2.length = l2.length * 9 := k1.1
    obtain ⟨v', w', hrun, ho', hg, _, hgg⟩ := run_append_own_at (P := Tryz.prog) w 0 24 ty 54 i0 _ 9 _ Tryz.underlying24 hi0 hz0 hz1 hz2 rfl (by decide) v l.length C h1 ⟨g2, 0, none⟩ l2.length c2 C2 hCl2 (fun t u hu => by
        rw [add_plainT, Nat.zero_add, World.ownsRow.cellAt k1 t (by rw [← hCl2]; exact (List.getElem?_eq_some_iff.1 hu).1)]
        exact hu) (fun u hu => by
        obtain ⟨t, ht, rfl⟩ := List.getElem_of_mem hu
        have hi : t / 9 < l2.length := Nat.div_lt_of_lt_mul (by rw [Nat.mul_comm, ← hCl2]; exact ht)
        have hj : t % 9 < 9 := Nat.mod_lt _ (by omega)
        have e := k3 (t / 9) (t % 9) hi hj
        rw [show t / 9 * 9 + t % 9 = t by omega, List.getElem?_eq_getElem ht] at e
        rw [Option.some.inj e]
        exact nd_one _ _ hj (k4 (t / 9) (t % 9) hi hj)) (by unfold maxLen; omega) (by omega) (Nat.zero_le _)
    have hsz := hg.size
    have hkeep : ∀ (T : Nat → Prop), (∀ b, T b → v.ownBlock ≠ some b) → Keeps T w w' := fun T hT => ⟨hsz, fun b hb hlt => hg.block b hlt (fun h => hT b hb h.symm)⟩
    refine ⟨v', w', hrun, ?_, Turned.ofGrown hg (fun k hk => hk)⟩
    have hnl : (l ++ l2).length = l.length + l2.length := List.length_append
    have hlt' : ∀ b, v'.ownBlock = some b → b < w'.heap.size := fun b hb => (ho'.lt b hb).2
    have q2R : ∀ i j b, i < l2.length → j < 9 → Q2 i j b → R b := fun i j b hi hj hb => (k5 i j b hi hj hb).1
    unfold ndsDt
    rw [hnl]
    refine OwV.mkRows ⟨fun i j => if i < l.length then V i j else V2 (i - l.length) j, _, fun i j => if i < l.length then Q i j else Q2 (i - l.length) j, ho', ?_, ?_, ?_, ?_, ?_⟩
    · intro b hb
      rcases hgg with h | h
      · exact .inl (hS b (h ▸ hb))
      · have e : w.heap.size = b := by rw [h] at hb; exact Option.some.inj hb
        exact .inr (.inr ⟨by omega, hlt' b hb⟩)
    · intro i j hi hj
      by_cases hlt : i < l.length
      · simp only [hlt, if_true]
        rw [List.getElem?_append_left (by rw [hCl]; exact place_lt hlt hj)]
        exact h3 i j hlt hj
      · simp only [hlt, if_false]
        have e : i * 9 + j - C.length = (i - l.length) * 9 + j := by rw [hCl]; omega
        rw [List.getElem?_append_right (by rw [hCl]; omega), e]
        exact k3 (i - l.length) j (by omega) hj
    · intro i j hi hj
      by_cases hlt : i < l.length
      · simp only [hlt, if_true]
        rw [List.getElem?_append_left hlt]
        exact OwV.keep (hkeep _ (fun b hb => (h5 i j b hlt hj hb).2)) (h4 i j hlt hj)
      · simp only [hlt, if_false]
        rw [List.getElem?_append_right (by omega)]
        exact OwV.keep (hkeep _ (fun b hb h => (hRs b (q2R _ _ b (by omega) hj hb)).2 (hS b h))) (k4 (i - l.length) j (by omega) hj)
    · intro i j b hi hj hb
      have hne : ∀ b, b < w.heap.size → v.ownBlock ≠ some b → v'.ownBlock ≠ some b := fun b hb h1 h2 => by
        rcases hgg with h | h
        · rw [h] at h2; exact h1 h2
        · rw [h] at h2; have := Option.some.inj h2; omega
      by_cases hlt : i < l.length
      · simp only [hlt, if_true] at hb
        have := h5 i j b hlt hj hb
        exact ⟨.inl this.1, hne b (hSs b this.1) this.2⟩
      · simp only [hlt, if_false] at hb
        have hr := q2R _ _ b (by omega) hj hb
        exact ⟨.inr (.inl hr), hne b (hRs b hr).1 (fun h => (hRs b hr).2 (hS b h))⟩
    · intro i j i' j' b hi hj hi' hj' hb hb'
      by_cases hlt : i < l.length
      · by_cases hlt' : i' < l.length
        · simp only [hlt, hlt', if_true] at hb hb'
          exact h6 i j i' j' b hlt hj hlt' hj' hb hb'
        · simp only [hlt, hlt', if_true, if_false] at hb hb'
          exact absurd (h5 i j b hlt hj hb).1 (hRs b (q2R _ _ b (by omega) hj' hb')).2
      · by_cases hlt' : i' < l.length
        · simp only [hlt, hlt', if_true, if_false] at hb hb'
          exact absurd (h5 i' j' b hlt' hj' hb').1 (hRs b (q2R _ _ b (by omega) hj hb)).2
        · simp only [hlt, hlt', if_false] at hb hb'
          have := k6 (i - l.length) j (i' - l.length) j' b (by omega) hj (by omega) hj' hb hb'
          exact ⟨by omega, this.2⟩
theorem wpList_appOw {ops : Array Oper} {rest : List Oper} {o : Oper} {a : Act} {Q : Exit → Act → World → Prop} (w : World) (hgd : o.guard = none) (s x : Operand)
    (ho : o.op = .call { callee := .builtin .append, args := #[s, x], argTypes := #[24, 24] })
    (v u : Value) (hs : a.eval s = v) (hx : a.eval x = u) (l l2 : List Nd) (S R : Nat → Prop) (o1 : OwV w S v (ndsDt l)) (o2 : OwV w R u (ndsDt l2)) (hSs : ∀ b, S b → b < w.heap.size) (hRs : ∀ b, R b → b < w.heap.size ∧ ¬ S b) (hl : l.length + l2.length ≤ 8000)
    (h : ∀ v' w', OwV w' (fun b => S b ∨ R b ∨ w.heap.size ≤ b ∧ b < w'.heap.size) v' (ndsDt (l ++ l2)) → Turned (fun b => v.ownBlock = some b) w w' → wpList Tryz.prog ops Q rest (a.put o.dst v') w') : wpList Tryz.prog ops Q (o :: rest) a w := by
  obtain ⟨v', w', hrun, hs', ht⟩ := run_appOw w o.type v u l l2 S R o1 o2 hSs hRs hl
  refine wpList_plain hgd fun K hK => ?_
  unfold Oper.wp execOp
  simp only [ho, resolve, invoke, builtin, Sem.run_bind, Sem.run_pure, Result.andThen_ok, List.map_toArray, List.map_cons, List.map_nil, hs, hx, hrun]
  exact hK _ _ (h v' w' hs' ht)
end
end Go.Proofs.YtoaocjkapoemnaaGreat
