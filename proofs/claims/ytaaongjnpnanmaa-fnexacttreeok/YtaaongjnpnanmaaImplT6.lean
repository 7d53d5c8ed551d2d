/- The program's way up to the root. Condition: the handles' numbers are numbers of their type; the map has at most 2^21 entries. -/
import Derived.Test.YtaaongjnpnanmaaImplT5
import Derived.Test.YtaaongjnpnanmaaSpecT6
import Derived.Maps.OwnOps
namespace Go.Proofs.Ytaaongjnpnanmaa
open Go.RowKit
open Go.Maps
set_option linter.unusedVariables false
set_option maxRecDepth 100000
set_option linter.unusedSimpArgs false

def climb (f : Hd → Option Nd) : Nat → Hd → Bool
  | 0, _ => false
  | k + 1, h => if h = rootH then true else climb f k ((f h).getD nd0).par
theorem zeroNd (w : World) : (zeroValue 83).run Try.prog w = .ok (ndV nd0 (.slice none 0 0)) w := by kernel_rfl

/-- A look into the map of the nodes, at the operation. -/
theorem wpList_lookN (w : World) {ops : Array Oper} {rest : List Oper} {o : Oper} {a : Act} {Q : Exit → Act → World → Prop}
    (hg : o.guard = none) (m x : Operand) (hop : o.op = Op.lookup 95 m x false) (b s : Nat) (f : Hd → Option Nd)
    (hm : a.eval m = .map (some b)) (M : MapH ndP w b s f) (h : Hd) (hh : HIn h) (hx : a.eval x = h.v)
    (hK : ∀ ya yn yc, wpList Try.prog ops Q rest (a.put o.dst (ndV ((f h).getD nd0) (.slice ya yn yc))) w) :
    wpList Try.prog ops Q (o :: rest) a w := by
  refine wpList_plain hg fun K' hK' => ?_
  obtain ⟨v, hrun, r1, r2⟩ := M.look Try.underlying95 (zeroNd w) hh
  obtain ⟨ya, yn, yc, rfl⟩ : ∃ ya yn yc, v = ndV ((f h).getD nd0) (.slice ya yn yc) := by
    cases hf : f h with
    | none => exact ⟨none, 0, 0, r1 hf⟩
    | some c => exact r2 c hf
  unfold Oper.wp
  simp [execOp, hop, hm, hx, hrun, Result.andThen]
  exact hK' _ _ (hK ya yn yc)

theorem parN_run (h g : Hd) (lk vl : Int) (y : Value) (w : World) : (Instr.field 83 (.agg #[.int .i64 h.sh, .int .i64 h.ino, .bool h.dir, .int .i64 g.sh, .int .i64 g.ino, .bool g.dir, .int .i64 lk, .int .i64 vl, y]) 1).run Try.prog w = .ok (.agg #[.int .i64 g.sh, .int .i64 g.ino, .bool g.dir]) w := by kernel_rfl
theorem wpList_parN (w : World) {ops : Array Oper} {rest : List Oper} {o : Oper} {a : Act} {Q : Exit → Act → World → Prop}
    (hg : o.guard = none) (x : Operand) (hop : o.op = Op.field 83 x 1) (n : Nd) (y : Value) (hx : a.eval x = ndV n y)
    (hK : wpList Try.prog ops Q rest (a.put o.dst n.par.v) w) : wpList Try.prog ops Q (o :: rest) a w := by
  refine wpList_plain hg fun K' hK' => ?_
  have hrun := parN_run n.h n.par n.links n.val y w
  unfold Oper.wp
  simp [execOp, hop, hx, hrun, Result.andThen]
  exact hK' _ _ hK

theorem VarA.set3 {w : World} {b : Nat} {T : TypeId} {x0 x1 x2 y0 y1 y2 : Value} (h : VarA w b T #[x0, x1, x2]) : VarA (((w.setCell ⟨b, 0, none⟩ y0).setCell ⟨b, 1, none⟩ y1).setCell ⟨b, 2, none⟩ y2) b T #[y0, y1, y2] := by
  have h2 := (((h.set 0 y0).set 1 y1).set 2 y2)
  simpa using h2
theorem Below.set3 {B : Nat} {a w : World} {c : Nat} {y0 y1 y2 : Value} (h : Below B a w) (hc : B ≤ c) : Below B a (((w.setCell ⟨c, 0, none⟩ y0).setCell ⟨c, 1, none⟩ y1).setCell ⟨c, 2, none⟩ y2) := (((h.setCell (p := ⟨c, 0, none⟩) hc y0).setCell (p := ⟨c, 1, none⟩) hc y1).setCell (p := ⟨c, 2, none⟩) hc y2)

set_option maxRecDepth 100000 in
set_option maxHeartbeats 1000000 in
theorem comesToRoot_any (b s : Nat) (f : Hd → Option Nd) (h : Hd) (w : World) (M : MapH ndP w b s f) (hs : s ≤ 2097152) (hh : HIn h) (hp : ∀ g n, f g = some n → HIn n.par) :
    Calls Try.prog 95 #[.map (some b), h.v] w fun e w' => e = .returned (.bool (climb f s h)) ∧ Below w.heap.size w w' := by
  have hbs := M.lt
  have HM : Hid (∀ W, Below w.heap.size w W → MapH ndP W b s f) := fun W hW => M.blk (hW.block b hbs)
  have HP : Hid (∀ g, HIn ((f g).getD nd0).par) := fun g => by
    cases hf : f g with
    | none => exact hd0_in
    | some n => exact hp g n hf
  have HRT : Hid (∀ W, _) := fun W => implRootH_any W
  obtain ⟨res, hres⟩ : ∃ res, climb f s h = res := ⟨_, rfl⟩
  have HC : Hid (climb f (s - 0) h = res) := hres
  have HH : Hid (HIn h) := hh
  rw [hres]
  obtain ⟨p0, q0, d0⟩ := h
  have hlen := M.len (w := w) Try.underlying95
  have hlen2 := (HM.out _ (Below.newH (w := w) (.cells #[.int .i64 p0, .int .i64 q0, .bool d0] 46))).len Try.underlying95
  clear M hp hres hh
  go_enter Try.func95, Try.ntmps95
  go_wp2
  clear hlen hlen2
  go_loopw [7] (fun i wr => ∃ k : Nat, k ≤ s ∧ i = .int .i64 k ∧ Below w.heap.size w wr ∧ ∃ g : Hd, VarA wr w.heap.size 46 #[.int .i64 g.sh, .int .i64 g.ino, .bool g.dir] ∧ Hid (HIn g) ∧ Hid (climb f (s - k) g = res)) (fun i _ => s - (intOf i).toNat)
  case atStart => exact ⟨0, Nat.zero_le _, rfl, Below.newH _, (p0, q0, d0), VarA.new w _ _, HH.out, HC.out⟩
  case round =>
    clear HH HC
    obtain ⟨k, hk, rfl, hbel, ⟨p, q, d⟩, v0, HG, HC⟩ := hrel
    replace v0 : VarA wr w.heap.size 46 #[.int .i64 p, .int .i64 q, .bool d] := v0
    by_cases hlt : k < s
    case neg =>
      have HF : Hid (false = res) := by rw [← HC.out]; show _ = _; rw [show s - k = 0 by omega]; rfl
      clear v0
      go_wp2
      go_ret
      exact ⟨by rw [← HF.out]; rfl, hbel⟩
    have HC2 : Hid ((if ((p, q, d) : Hd) = rootH then true else climb f (s - (k + 1)) ((f (p, q, d)).getD nd0).par) = res) := by
      rw [← HC.out]; show _ = _; rw [show s - k = (s - (k + 1)) + 1 by omega]; rfl
    clear HC
    obtain ⟨b0, b1, b2⟩ := v0.l3
    have hl0 := v0.lt
    haveI : Nonempty (Cls wr) := Cls.ne wr
    have k0 := Cls.cell hl0 b0
    have k1 := Cls.cell hl0 b1
    have k2 := Cls.cell hl0 b2
    clear b0 b1 b2
    by_cases hr : ((p, q, d) : Hd) = rootH
    · have HF : Hid (true = res) := by rw [← HC2.out, if_pos hr]; rfl
      have heq : ∀ W : World, (binOp .eql 46 (.agg #[.int .i64 p, .int .i64 q, .bool d]) (.agg #[.int .i64 0, .int .i64 1, .bool true])).run Try.prog W = .ok (.bool true) W := fun W => by rw [eqH_run, decH_true hr]
      clear HC2 hr
      go_wp2
      refine wp_region_cls (by kernel_rfl) (by kernel_rfl) ?_
      repeat (go_big_quiet_step (first | (go_at_call 47; exact Calls.cls_new (HRT.out _))))
      refine wpQuiet_nil ?_
      rintro w' ⟨⟨w', hb'⟩, rfl⟩
      go_wp2
      go_ret
      exact ⟨by rw [← HF.out]; rfl, hbel.trans (hb'.mono hbel.size)⟩
    have HF : Hid (climb f (s - (k + 1)) ((f (p, q, d)).getD nd0).par = res) := by rw [← HC2.out, if_neg hr]; rfl
    have heq : ∀ W : World, (binOp .eql 46 (.agg #[.int .i64 p, .int .i64 q, .bool d]) (.agg #[.int .i64 0, .int .i64 1, .bool true])).run Try.prog W = .ok (.bool false) W := fun W => by rw [eqH_run, decH_false hr]
    clear HC2 hr
    go_wp2
    refine wp_region_cls (by kernel_rfl) (by kernel_rfl) ?_
    repeat (go_big_quiet_step (first | (go_at_call 47; exact Calls.cls_new (HRT.out _))))
    refine wpQuiet_nil ?_
    rintro w' ⟨⟨w', hb'⟩, rfl⟩
    have v1 := v0.step hb'
    have hb3 := hbel.trans (hb'.mono hbel.size)
    clear k0 k1 k2 v0 hbel hb' heq hl0
    obtain ⟨b0, b1, b2⟩ := v1.l3
    have fz := v1.fz
    have HP2 := HP.out (p, q, d)
    obtain ⟨nd, hnd⟩ : ∃ nd, (f (p, q, d)).getD nd0 = nd := ⟨_, rfl⟩
    rw [hnd] at HP2 HF
    have HND : Hid _ := hnd
    have HPP : Hid (HIn nd.par) := HP2
    clear hnd HP2
    obtain ⟨hh9, ⟨p2, q2, d2⟩, lk, vl, es⟩ := nd
    have V1 : Hid (VarA w' w.heap.size 46 _) := v1
    clear v1
    go_wp2_with (first | (at_lookup; refine wpList_lookN _ rfl _ _ rfl b s f rfl (HM.out _ hb3) (p, q, d) HG.out rfl ?_; intro la ln lc; rw [HND.out]) | (refine wpList_parN _ rfl (.tmp 14) rfl (Nd.mk hh9 (p2, q2, d2) lk vl es) _ rfl ?_))
    first
    | exact ⟨⟨k + 1, by omega, by go_num, Below.set3 hb3 (Nat.le_refl _), (p2, q2, d2), VarA.set3 V1.out, HPP.out, HF.out⟩, by simp [intOf]; omega⟩
    | (go_roundw
       case rel => exact ⟨k + 1, by omega, by go_num, Below.set3 hb3 (Nat.le_refl _), (p2, q2, d2), VarA.set3 V1.out, HPP.out, HF.out⟩
       case measure => simp [intOf]; omega)
end Go.Proofs.Ytaaongjnpnanmaa
