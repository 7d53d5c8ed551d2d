/- Joined: SpecD14 ImplT6 IC5 IC6 IC7 IC8 IC9 IC10 IC11 IC12 IC13 IC14 IC15 ImplT7 ImplT8. -/
import Derived.Test.YtcicadfhfojdpaaGreatRSpecD13
import Derived.Test.YtcicadfhfojdpaaGreatRA03
import Derived.Test.YtcicadfhfojdpaaGreatRSpecT6
import Derived.Maps.OwnOps
import Derived.Test.YtcicadfhfojdpaaGreatRA01
import Derived.Maps.OwnSet

namespace Go.Proofs.YtcicadfhfojdpaaGreat
open Go.RowKit
set_option linter.unusedVariables false
set_option linter.unusedSimpArgs false
set_option maxRecDepth 100000
section
theorem addTV {w : World} {lo g cap n : Nat} {L : Nat → Prop} {l : List Nd} (s : SG w lo L (.slice (some ⟨g, 0, none⟩) n cap) l) (hnl : n = l.length) (hL : ∀ b, w.heap.size ≤ b → L b) {d : Nat} (hd : d < l.length) (y : Value) (nm : List Int) (h : Hd) (S2 : Nat → Prop) (r2 : RdV w S2 y (.bytes nm)) (hn : (l[d]?.getD nd0).es.length ≤ 4000) (hnm : nm.length ≤ 2097152) :
  Calls Tryz.prog 106 #[.pointer (some ⟨g, d * 9, none⟩), y, h.v] w fun e w' => e = .returned (.tuple #[]) ∧ SG w' lo L (.slice (some ⟨g, 0, none⟩) n cap) (addN l d nm h) ∧ Turned (fun b => b = g) w w' := by
 subst hnl
 obtain ⟨xd, rd, cd⟩ := s.at hd
 obtain ⟨xa, xc, rfl, _⟩ := RdV.sliced rd
 have c8 : w.cell? ⟨g, d * 9 + 8, none⟩ = some (.slice xa (l[d]?.getD nd0).es.length xc) := cd 8 (by omega)
 obtain ⟨g', c', hv, _, hg, _⟩ := s.head (by omega)
 simp only [Value.slice.injEq, Option.some.injEq, Addr.mk.injEq, and_true] at hv
 obtain ⟨rfl, -, -⟩ := hv
 refine Calls.mono (specAdd_any g (d * 9) xa xc y _ nm h _ S2 w c8 (SG.fz g s hd _) rd (fun b hb => hb.2.1) r2 hn hnm) ?_
 rintro e w' ⟨he, W, x, rfl, hB, hx⟩
 exact ⟨he, SG.callE s hL hd hB hg hx, Turned.set (Turned.ofBelow hB) ⟨g, d * 9 + 8, none⟩ x rfl⟩
theorem cutTV {w : World} {lo g cap n : Nat} {L : Nat → Prop} {l : List Nd} (s : SG w lo L (.slice (some ⟨g, 0, none⟩) n cap) l) (hnl : n = l.length) (hL : ∀ b, w.heap.size ≤ b → L b) {d e : Nat} (hd : d < l.length) (he : e < (l[d]?.getD nd0).es.length) (hn : (l[d]?.getD nd0).es.length ≤ 4000) :
  Calls Tryz.prog 126 #[.pointer (some ⟨g, d * 9, none⟩), .i e] w fun r w' => r = .returned (.tuple #[]) ∧ SG w' lo L (.slice (some ⟨g, 0, none⟩) n cap) (cutN l d e) ∧ Turned (fun b => b = g) w w' := by
 subst hnl
 obtain ⟨xd, rd, cd⟩ := s.at hd
 obtain ⟨xa, xc, rfl, _⟩ := RdV.sliced rd
 have c8 : w.cell? ⟨g, d * 9 + 8, none⟩ = some (.slice xa (l[d]?.getD nd0).es.length xc) := cd 8 (by omega)
 obtain ⟨g', c', hv, _, hg, _⟩ := s.head (by omega)
 simp only [Value.slice.injEq, Option.some.injEq, Addr.mk.injEq, and_true] at hv
 obtain ⟨rfl, -, -⟩ := hv
 refine Calls.mono (specCut_any g (d * 9) xa xc _ e _ w c8 (SG.fz g s hd _) rd (fun b hb => hb.2.1) hn he) ?_
 rintro r w' ⟨hr, W, x, rfl, hB, hx⟩
 exact ⟨hr, SG.callE s hL hd hB hg hx, Turned.set (Turned.ofBelow hB) ⟨g, d * 9 + 8, none⟩ x rfl⟩
theorem TV.ret {w wz : World} {tb lo R : Nat} {L L1 : Nat → Prop} {v : Value} {l : List Nd} (vT : VarA w tb 25 #[v]) (s : SG w lo L1 v l) (hvt : v.ownBlock ≠ some tb) (t_ : Turned (fun b => b = R) w wz) (hR : ¬ L1 R) (hRt : tb ≠ R) (hRv : v.ownBlock ≠ some R) (hL : ∀ b, L1 b → L b) : TV wz tb lo L l :=
 ⟨v, vT.turn t_ hRt, (s.keep (t_.keeps (fun b hb e => by
  subst e
  exact hb.2.elim hR hRv))).mono (fun b _ h => hL b h), hvt⟩
theorem SG.ne_var {w : World} {lo b : Nat} {L : Nat → Prop} {v : Value} {l : List Nd} {T : TypeId} {cs : Array Value} (s : SG w lo L v l) (hv : VarA w b T cs) (hT : T ≠ 75) : v.ownBlock ≠ some b := by
 obtain ⟨V, C, h1, h2, h3⟩ := s
 rcases h1.2 with ⟨hv', _⟩ | ⟨g, c, cur, hv', hg, hh, _⟩
 ·subst hv'; intro e; cases e
 ·subst hv'
  intro e
  have e3 : g = b := by simpa [Value.ownBlock] using e
  subst e3
  have := hh.symm.trans hv
  simp only [Option.some.injEq, Obj.cells.injEq] at this
  exact hT this.2.1.symm
theorem findE_cases (es : List En) (nm : List Int) : (ei es nm < es.length ∧ findE es nm = (ei es nm : Int)) ∨ (¬ ei es nm < es.length ∧ findE es nm = -1) := by
 unfold findE
 by_cases hh : ei es nm < es.length
 ·exact .inl ⟨hh, by rw [if_pos hh]⟩
 ·exact .inr ⟨hh, by rw [if_neg hh]⟩
def parN (l : List Nd) (k : Nat) (h : Hd) : List Nd := l.set k ((l[k]?.getD nd0).setPar h)
def moveD (l : List Nd) (o : OpD) (d : Nat) : List Nd × Int :=
 if ¬ ei (l[d]?.getD nd0).es o.nm < (l[d]?.getD nd0).es.length then (l, 3) else
 if o.to.dir = false then (l, 2) else
 if ¬ fi l o.to < l.length then (l, 1) else
 if fi l o.to = d then
  if 0 ≤ findE (l[d]?.getD nd0).es o.asn then (l, 4)
  else (addN (cutN l d (ei (l[d]?.getD nd0).es o.nm)) d o.asn ((l[d]?.getD nd0).es[ei (l[d]?.getD nd0).es o.nm]?.getD en0).h, 0)
 else
 if refD (l[fi l o.to]?.getD nd0).es o.asn ≠ 0 then (l, refD (l[fi l o.to]?.getD nd0).es o.asn) else
 if ((l[d]?.getD nd0).es[ei (l[d]?.getD nd0).es o.nm]?.getD en0).h.dir = true then
  if undN l ((l[d]?.getD nd0).es[ei (l[d]?.getD nd0).es o.nm]?.getD en0).h 12 o.to = 1 then (l, 8) else
  if undN l ((l[d]?.getD nd0).es[ei (l[d]?.getD nd0).es o.nm]?.getD en0).h 12 o.to = 2 then (l, 9) else
  (addN (cutN (parN l (fi l ((l[d]?.getD nd0).es[ei (l[d]?.getD nd0).es o.nm]?.getD en0).h) o.to) d (ei (l[d]?.getD nd0).es o.nm)) (fi l o.to) o.asn ((l[d]?.getD nd0).es[ei (l[d]?.getD nd0).es o.nm]?.getD en0).h, 0)
 else (addN (cutN l d (ei (l[d]?.getD nd0).es o.nm)) (fi l o.to) o.asn ((l[d]?.getD nd0).es[ei (l[d]?.getD nd0).es o.nm]?.getD en0).h, 0)
end
section
open Go.Maps
def climb (f : Hd → Option Nd) : Nat → Hd → Bool
  | 0, _ => false
  | k + 1, h => if h = rootH then true else climb f k ((f h).getD nd0).par
theorem zeroNd (w : World) : (zeroValue 75).run Tryz.prog w = .ok (ndV nd0 (.n0)) w := by kernel_rfl

theorem wpList_lookN (w : World) {ops : Array Oper} {rest : List Oper} {o : Oper} {a : Act} {Q : Exit → Act → World → Prop}
    (hg : o.guard = none) (m x : Operand) (hop : o.op = Op.lookup 69 m x false) (b s : Nat) (f : Hd → Option Nd)
    (hm : a.eval m = .map (some b)) (M : MapH ndP w b s f) (h : Hd) (hh : HIn h) (hx : a.eval x = h.v)
    (hK : ∀ ya yn yc, wpList Tryz.prog ops Q rest (a.put o.dst (ndV ((f h).getD nd0) (.slice ya yn yc))) w) :
    wpList Tryz.prog ops Q (o :: rest) a w := by
  refine wpList_plain hg fun K' hK' => ?_
  obtain ⟨v, hrun, r1, r2⟩ := M.look Tryz.underlying69 (zeroNd w) hh
  obtain ⟨ya, yn, yc, rfl⟩ : ∃ ya yn yc, v = ndV ((f h).getD nd0) (.slice ya yn yc) := by
    cases hf : f h with
    | none => exact ⟨none, 0, 0, r1 hf⟩
    | some c => exact r2 c hf
  unfold Oper.wp
  simp [execOp, hop, hm, hx, hrun, Result.andThen]
  exact hK' _ _ (hK ya yn yc)

theorem parN_run (h g : Hd) (lk vl : Int) (y : Value) (w : World) : (Instr.field 75 (.agg #[.i h.sh, .i h.ino, .bool h.dir, .i g.sh, .i g.ino, .bool g.dir, .i lk, .i vl, y]) 1).run Tryz.prog w = .ok (.agg #[.i g.sh, .i g.ino, .bool g.dir]) w := by kernel_rfl
theorem wpList_parN (w : World) {ops : Array Oper} {rest : List Oper} {o : Oper} {a : Act} {Q : Exit → Act → World → Prop}
    (hg : o.guard = none) (x : Operand) (hop : o.op = Op.field 75 x 1) (n : Nd) (y : Value) (hx : a.eval x = ndV n y)
    (hK : wpList Tryz.prog ops Q rest (a.put o.dst n.par.v) w) : wpList Tryz.prog ops Q (o :: rest) a w := by
  refine wpList_plain hg fun K' hK' => ?_
  have hrun := parN_run n.h n.par n.links n.val y w
  unfold Oper.wp
  simp [execOp, hop, hx, hrun, Result.andThen]
  exact hK' _ _ hK

theorem VarA.set3 {w : World} {b : Nat} {T : TypeId} {x0 x1 x2 y0 y1 y2 : Value} (h : VarA w b T #[x0, x1, x2]) : VarA (((w.setCell ⟨b, 0, none⟩ y0).setCell ⟨b, 1, none⟩ y1).setCell ⟨b, 2, none⟩ y2) b T #[y0, y1, y2] := by
  have h2 := (((h.set 0 y0).set 1 y1).set 2 y2)
  simpa using h2
theorem Below.set3 {B : Nat} {a w : World} {c : Nat} {y0 y1 y2 : Value} (h : Below B a w) (hc : B ≤ c) : Below B a (((w.setCell ⟨c, 0, none⟩ y0).setCell ⟨c, 1, none⟩ y1).setCell ⟨c, 2, none⟩ y2) := (((h.setCell (p := ⟨c, 0, none⟩) hc y0).setCell (p := ⟨c, 1, none⟩) hc y1).setCell (p := ⟨c, 2, none⟩) hc y2)

set_option maxRecDepth 100000 in
set_option maxHeartbeats 1000000 in
theorem comesToRoot_any (b s : Nat) (f : Hd → Option Nd) (h : Hd) (w : World) (M : MapH ndP w b s f) (hs : s ≤ 2097152) (hh : HIn h) (hp : ∀ g n, f g = some n → HIn n.par) :
    Calls Tryz.prog 98 #[.map (some b), h.v] w fun e w' => e = .returned (.bool (climb f s h)) ∧ Below w.heap.size w w' := by
  have hbs := M.lt
  have HM : Hid (∀ W, Below w.heap.size w W → MapH ndP W b s f) := fun W hW => M.blk (hW.block b hbs)
  have HP : Hid (∀ g, HIn ((f g).getD nd0).par) := fun g => by
    cases hf : f g with
    | none => exact hd0_in
    | some n => exact hp g n hf
  have HRT : Hid (∀ W, _) := fun W => implRootH_any W
  obtain ⟨res, hres⟩ : ∃ res, climb f s h = res := ⟨_, rfl⟩
  have HC : Hid (climb f (s - 0) h = res) := hres
  have HH : Hid (HIn h) := hh
  rw [hres]
  obtain ⟨p0, q0, d0⟩ := h
  have hlen := M.len (w := w) Tryz.underlying69
  have hlen2 := (HM.out _ (Below.newH (w := w) (.cells #[.i p0, .i q0, .bool d0] 27))).len Tryz.underlying69
  clear M hp hres hh
  go_enter Tryz.func98, Tryz.ntmps98
  go_wp2
  clear hlen hlen2
  go_loopw [7] (fun i wr => ∃ k : Nat, k ≤ s ∧ i = .i k ∧ Below w.heap.size w wr ∧ ∃ g : Hd, VarA wr w.heap.size 27 #[.i g.sh, .i g.ino, .bool g.dir] ∧ Hid (HIn g) ∧ Hid (climb f (s - k) g = res)) (fun i _ => s - (intOf i).toNat)
  case atStart => exact ⟨0, Nat.zero_le _, rfl, Below.newH _, (p0, q0, d0), VarA.new w _ _, HH.out, HC.out⟩
  case round =>
    clear HH HC
    obtain ⟨k, hk, rfl, hbel, ⟨p, q, d⟩, v0, HG, HC⟩ := hrel
    replace v0 : VarA wr w.heap.size 27 #[.i p, .i q, .bool d] := v0
    by_cases hlt : k < s
    case neg =>
      have HF : Hid (false = res) := by rw [← HC.out]; show _ = _; rw [show s - k = 0 by omega]; rfl
      clear v0
      go_wp2
      go_ret
      exact ⟨by rw [← HF.out]; rfl, hbel⟩
    have HC2 : Hid ((if ((p, q, d) : Hd) = rootH then true else climb f (s - (k + 1)) ((f (p, q, d)).getD nd0).par) = res) := by
      rw [← HC.out]; show _ = _; rw [show s - k = (s - (k + 1)) + 1 by omega]; rfl
    clear HC
    obtain ⟨b0, b1, b2⟩ := v0.l3
    have hl0 := v0.lt
    haveI : Nonempty (Cls wr) := Cls.ne wr
    have k0 := Cls.cell hl0 b0
    have k1 := Cls.cell hl0 b1
    have k2 := Cls.cell hl0 b2
    clear b0 b1 b2
    by_cases hr : ((p, q, d) : Hd) = rootH
    · have HF : Hid (true = res) := by rw [← HC2.out, if_pos hr]; rfl
      have heq : ∀ W : World, (binOp .eql 27 (.agg #[.i p, .i q, .bool d]) (.agg #[.i 0, .i 1, .bool true])).run Tryz.prog W = .ok (.bool true) W := fun W => by rw [eqH_run, decH_true hr]
      clear HC2 hr
      go_wp2
      refine wp_region_cls (by kernel_rfl) (by kernel_rfl) ?_
      repeat (go_big_quiet_step (first | (go_at_call 49; exact Calls.cls_new (HRT.out _))))
      refine wpQuiet_nil ?_
      rintro w' ⟨⟨w', hb'⟩, rfl⟩
      go_wp2
      go_ret
      exact ⟨by rw [← HF.out]; rfl, hbel.trans (hb'.mono hbel.size)⟩
    have HF : Hid (climb f (s - (k + 1)) ((f (p, q, d)).getD nd0).par = res) := by rw [← HC2.out, if_neg hr]; rfl
    have heq : ∀ W : World, (binOp .eql 27 (.agg #[.i p, .i q, .bool d]) (.agg #[.i 0, .i 1, .bool true])).run Tryz.prog W = .ok (.bool false) W := fun W => by rw [eqH_run, decH_false hr]
    clear HC2 hr
    go_wp2
    refine wp_region_cls (by kernel_rfl) (by kernel_rfl) ?_
    repeat (go_big_quiet_step (first | (go_at_call 49; exact Calls.cls_new (HRT.out _))))
    refine wpQuiet_nil ?_
    rintro w' ⟨⟨w', hb'⟩, rfl⟩
    have v1 := v0.step hb'
    have hb3 := hbel.trans (hb'.mono hbel.size)
    clear k0 k1 k2 v0 hbel hb' heq hl0
    obtain ⟨b0, b1, b2⟩ := v1.l3
    have fz := v1.fz
    have HP2 := HP.out (p, q, d)
    obtain ⟨nd, hnd⟩ : ∃ nd, (f (p, q, d)).getD nd0 = nd := ⟨_, rfl⟩
    rw [hnd] at HP2 HF
    have HND : Hid _ := hnd
    have HPP : Hid (HIn nd.par) := HP2
    clear hnd HP2
    obtain ⟨hh9, ⟨p2, q2, d2⟩, lk, vl, es⟩ := nd
    have V1 : Hid (VarA w' w.heap.size 27 _) := v1
    clear v1
    go_wp2_with (first | (at_lookup; refine wpList_lookN _ rfl _ _ rfl b s f rfl (HM.out _ hb3) (p, q, d) HG.out rfl ?_; intro la ln lc; rw [HND.out]) | (refine wpList_parN _ rfl (.tmp 14) rfl (Nd.mk hh9 (p2, q2, d2) lk vl es) _ rfl ?_))
    first
    | exact ⟨⟨k + 1, by omega, by go_num, Below.set3 hb3 (Nat.le_refl _), (p2, q2, d2), VarA.set3 V1.out, HPP.out, HF.out⟩, by simp [intOf]; omega⟩
    | (go_roundw
       case rel => exact ⟨k + 1, by omega, by go_num, Below.set3 hb3 (Nat.le_refl _), (p2, q2, d2), VarA.set3 V1.out, HPP.out, HF.out⟩
       case measure => simp [intOf]; omega)
end
section
def atX (f : Hd → Option Nd) (X : Hd → Value) (h : Hd) : Value := match f h with | some n => ndV n (X n.h) | none => ndV nd0 (.n0)
theorem wpList_lookX (w : World) {ops : Array Oper} {rest : List Oper} {o : Oper} {a : Act} {Q : Exit → Act → World → Prop}
  (hg : o.guard = none) (m x : Operand) (hop : o.op = Op.lookup 69 m x false) (b s : Nat) (f : Hd → Option Nd) (X : Hd → Value)
  (hm : a.eval m = .map (some b)) (M : MapH (ndX X) w b s f) (h : Hd) (hh : HIn h) (hx : a.eval x = h.v)
  (hK : wpList Tryz.prog ops Q rest (a.put o.dst (atX f X h)) w) :
  wpList Tryz.prog ops Q (o :: rest) a w := by
 refine wpList_plain hg fun K' hK' => ?_
 obtain ⟨v, hrun, r1, r2⟩ := M.look Tryz.underlying69 (zeroNd w) hh
 obtain rfl : v = atX f X h := by
  unfold atX
  cases hf : f h with
  | none => exact r1 hf
  | some n => exact r2 n hf
 unfold Oper.wp
 simp [execOp, hop, hm, hx, hrun, Result.andThen]
 exact hK' _ _ hK
theorem wpList_lookOkX (w : World) {ops : Array Oper} {rest : List Oper} {o : Oper} {a : Act} {Q : Exit → Act → World → Prop}
  (hg : o.guard = none) (m x : Operand) (hop : o.op = Op.lookup 69 m x true) (b s : Nat) (f : Hd → Option Nd) (X : Hd → Value)
  (hm : a.eval m = .map (some b)) (M : MapH (ndX X) w b s f) (h : Hd) (hh : HIn h) (hx : a.eval x = h.v)
  (hK : wpList Tryz.prog ops Q rest (a.put o.dst (.tuple #[atX f X h, .bool (f h).isSome])) w) :
  wpList Tryz.prog ops Q (o :: rest) a w := by
 refine wpList_plain hg fun K' hK' => ?_
 obtain ⟨v, hrun, r1, r2⟩ := M.look_ok Tryz.underlying69 (zeroNd w) hh
 obtain rfl : v = atX f X h := by
  unfold atX
  cases hf : f h with
  | none => exact r1 hf
  | some n => exact r2 n hf
 unfold Oper.wp
 simp [execOp, hop, hm, hx, hrun, Result.andThen]
 exact hK' _ _ hK
theorem atX_form (f : Hd → Option Nd) (X : Hd → Value) (h : Hd) (hX : ∀ n, f h = some n → ∃ a m c, X n.h = .slice a m c) : ∃ n a m c, atX f X h = ndV n (.slice a m c) := by
 unfold atX
 cases hf : f h with
 | none => exact ⟨_, _, _, _, rfl⟩
 | some n => obtain ⟨a, m, c, e⟩ := hX n hf; exact ⟨n, a, m, c, by show ndV n (X n.h) = _; rw [e]⟩
def dirC (k : Int) (d there : Bool) : Int := if (k = 2 ∨ k = 3) ∧ d = true then 6 else if ¬ (k = 2 ∨ k = 3) ∧ d = false then 2 else if there = false then 1 else 0
set_option maxHeartbeats 4000000 in
theorem dirCode_any (b s : Nat) (f : Hd → Option Nd) (X : Hd → Value) (o : OpD) (ya za : Option Addr) (yn yc zn zc : Nat) (w : World) (M : MapH (ndX X) w b s f) (hin : HIn o.dir) (hX : ∀ n, f o.dir = some n → ∃ a m c, X n.h = .slice a m c) :
  Calls Tryz.prog 85 #[.map (some b), opV o (.slice ya yn yc) (.slice za zn zc)] w fun e w' => e = .returned (.i (dirC o.kind o.dir.dir (f o.dir).isSome)) ∧ Below w.heap.size w w' := by
 obtain ⟨kd, ⟨p, q, d⟩, nm, ⟨p2, q2, d2⟩, asn, vl⟩ := o
 dsimp only at hin hX ⊢
 obtain ⟨n, na, nm_, nc, hat⟩ := atX_form f X (p, q, d) hX
 obtain ⟨⟨s0, s1, s2⟩, ⟨s3, s4, s5⟩, lk, vl2, es⟩ := n
 have HM : Hid (MapH (ndX X) w b s f) := M
 have HI : Hid (HIn (p, q, d)) := hin
 have HA : Hid _ := hat
 have HB : Hid (b < w.heap.size) := M.lt
 generalize hth : (f (p, q, d)).isSome = th
 have HT : Hid ((f (p, q, d)).isSome = th) := hth
 clear M hin hX hat hth
 show Calls _ _ _ _ fun e w' => e = .returned (.i (dirC kd d th)) ∧ Below w.heap.size w w'
 obtain ⟨res, hres⟩ : ∃ r, dirC kd d th = r := ⟨_, rfl⟩
 rw [hres]
 have HRES : Hid _ := hres
 clear hres
 go_enter Tryz.func85, Tryz.ntmps85
 rcases (show kd = 2 ∨ kd = 3 ∨ (¬ kd = 2 ∧ ¬ kd = 3) by omega) with rfl | rfl | ⟨h2, h3⟩
 all_goals cases d
 all_goals cases th
 all_goals
  try have hk2 : (kd == 2) = false := by simpa using h2
  try have hk3 : (kd == 3) = false := by simpa using h3
  go_wp2_with (at_lookup; refine wpList_lookOkX _ rfl (.tmp 17) (.tmp 19) rfl b s f X rfl (HM.out.alloc _) (p, q, _) HI.out rfl ?_; rw [HA.out, HT.out])
  go_ret
  refine ⟨?_, (Below.newH2 _ _)⟩
  rw [← HRES.out]
  simp [dirC, *]
end
section
def takesB (fr tq : Hd) (i1 i2 : Bool) (s : Nat) : Bool := HOk fr && (decide (fr.sh = tq.sh) && (decide (fr.dir = tq.dir) && (!i1 && (!i2 && decide ((s : Int) < 240)))))
set_option maxHeartbeats 8000000 in
theorem takes_any (b s : Nat) (f : Hd → Option Nd) (X : Hd → Value) (fr tq : Hd) (w : World) (M : MapH (ndX X) w b s f) (hin : HIn fr) (hX : ∀ h n, f h = some n → ∃ a m c, X n.h = .slice a m c) :
  Calls Tryz.prog 84 #[.map (some b), fr.v, tq.v] w fun e w' => e = .returned (.bool (takesB fr tq (f (fr.sh, fr.ino, false)).isSome (f (fr.sh, fr.ino, true)).isSome s)) ∧ Below w.heap.size w w' := by
 obtain ⟨p, q, d⟩ := fr
 obtain ⟨p2, q2, d2⟩ := tq
 show Calls _ _ _ _ fun e w' => e = .returned (.bool (takesB (p, q, d) (p2, q2, d2) (f (p, q, false)).isSome (f (p, q, true)).isSome s)) ∧ Below w.heap.size w w'
 have hi1 : HIn (p, q, false) := hin
 have hi2 : HIn (p, q, true) := hin
 obtain ⟨n, na, nm_, nc, hat⟩ := atX_form f X (p, q, false) (fun n h => hX _ n h)
 obtain ⟨⟨s0, s1, s2⟩, ⟨s3, s4, s5⟩, lk, vl2, es⟩ := n
 obtain ⟨n', na', nm', nc', hat'⟩ := atX_form f X (p, q, true) (fun n h => hX _ n h)
 obtain ⟨⟨t0, t1, t2⟩, ⟨t3, t4, t5⟩, lk', vl2', es'⟩ := n'
 have HM : Hid (∀ W, Below w.heap.size w W → MapH (ndX X) W b s f) := fun W hW => M.blk (hW.block b M.lt)
 have HI1 : Hid (HIn (p, q, false)) := hi1
 have HI2 : Hid (HIn (p, q, true)) := hi2
 have HA : Hid _ := hat
 have HA' : Hid _ := hat'
 have HHO : Hid (∀ W, _) := fun W => implHandleOk_w (p, q, d) W
 generalize hth : (f (p, q, false)).isSome = i1
 generalize hth' : (f (p, q, true)).isSome = i2
 have HT : Hid ((f (p, q, false)).isSome = i1) := hth
 have HT' : Hid ((f (p, q, true)).isSome = i2) := hth'
 clear M hin hX hat hat' hth hth' hi1 hi2
 obtain ⟨res, hres⟩ : ∃ r, takesB (p, q, d) (p2, q2, d2) i1 i2 s = r := ⟨_, rfl⟩
 rw [hres]
 have hres2 : (HOk (p, q, d) && (decide (p = p2) && (decide (d = d2) && (!i1 && (!i2 && decide ((s : Int) < 240)))))) = res := hres
 have HRES : Hid _ := hres2
 clear hres hres2
 generalize HOk (p, q, d) = c1 at HHO HRES
 go_enter Tryz.func84, Tryz.ntmps84
 go_wp2_with (first | (at_lookup; first | (refine wpList_lookOkX _ rfl (.tmp 12) (.tmp 17) rfl b s f X rfl (HM.out _ ?_) (p, q, false) HI1.out rfl ?_; (repeat (first | exact Below.refl _ _ | refine Below.al2 ?_ _)); rw [HA.out, HT.out]) | (refine wpList_lookOkX _ rfl (.tmp 22) (.tmp 27) rfl b s f X rfl (HM.out _ ?_) (p, q, true) HI2.out rfl ?_; (repeat (first | exact Below.refl _ _ | refine Below.al2 ?_ _)); rw [HA'.out, HT'.out])))
 go_at_call 57
 refine Calls.mono (HHO.out _) ?_
 rintro e w2 ⟨rfl, rfl⟩
 rcases (show c1 = false ∨ c1 = true ∧ (¬ p = p2 ∨ p = p2 ∧ (¬ d = d2 ∨ d = d2 ∧ (i1 = true ∨ i1 = false ∧ (i2 = true ∨ i2 = false ∧ (¬ (s : Int) < 240 ∨ (s : Int) < 240))))) by by_cases h1 : p = p2 <;> by_cases h2 : d = d2 <;> by_cases h3 : (s : Int) < 240 <;> cases c1 <;> cases i1 <;> cases i2 <;> simp [h1, h2, h3]) with rfl | ⟨rfl, hp | ⟨rfl, hd | ⟨rfl, rfl | ⟨rfl, rfl | ⟨rfl, hs | hs⟩⟩⟩⟩⟩
 all_goals
  try have hp1 : (p == p2) = false := by simpa using hp
  try have hd1 : (d == d2) = false := by simpa using hd
  try have hs1 : decide ((s : Int) < 240) = false := by simpa using hs
  try have hs1 : decide ((s : Int) < 240) = true := by simpa using hs
  have hlen := fun o1 o2 o3 o4 o5 => (HM.out ((((w.alloc o1).alloc o2).alloc o3).alloc o4 |>.alloc o5) (by repeat (first | exact Below.refl _ _ | refine Below.al2 ?_ _))).len Tryz.underlying69
  go_wp2
  try go_ret
 all_goals (refine ⟨?_, ?_⟩; (rw [← HRES.out]; simp [*]); (repeat (first | exact Below.refl _ _ | refine Below.al2 ?_ _)))
end
section
open Go.Maps
def wayI (f : Hd → Option Nd) (h : Hd) : Nat → Hd → Int
  | 0, _ => 9
  | k + 1, g => if g = h then 8 else if g = rootH then 0 else wayI f h k ((f g).getD nd0).par
set_option maxRecDepth 100000 in
set_option maxHeartbeats 1000000 in
theorem wayCode_any (b s : Nat) (f : Hd → Option Nd) (h g0 : Hd) (w : World) (M : MapH ndP w b s f) (hh : HIn g0) (hp : ∀ g n, f g = some n → HIn n.par) :
    Calls Tryz.prog 135 #[.map (some b), h.v, g0.v] w fun e w' => e = .returned (.i (wayI f h 12 g0)) ∧ Below w.heap.size w w' := by
  have hbs := M.lt
  have HM : Hid (∀ W, Below w.heap.size w W → MapH ndP W b s f) := fun W hW => M.blk (hW.block b hbs)
  have HP : Hid (∀ g, HIn ((f g).getD nd0).par) := fun g => by
    cases hf : f g with
    | none => exact hd0_in
    | some n => exact hp g n hf
  have HRT : Hid (∀ W, _) := fun W => implRootH_any W
  obtain ⟨res, hres⟩ : ∃ res, wayI f h 12 g0 = res := ⟨_, rfl⟩
  have HC : Hid (wayI f h (12 - 0) g0 = res) := hres
  have HH : Hid (HIn g0) := hh
  rw [hres]
  obtain ⟨ph, qh, dh⟩ := h
  obtain ⟨p0, q0, d0⟩ := g0
  clear M hp hres hh
  go_enter Tryz.func135, Tryz.ntmps135
  go_wp2
  go_loopw [7] (fun i wr => ∃ k : Nat, k ≤ 12 ∧ i = .i k ∧ Below w.heap.size w wr ∧ VarA wr w.heap.size 27 #[.i ph, .i qh, .bool dh] ∧ ∃ g : Hd, VarA wr (w.heap.size + 1) 27 #[.i g.sh, .i g.ino, .bool g.dir] ∧ Hid (HIn g) ∧ Hid (wayI f (ph, qh, dh) (12 - k) g = res)) (fun i _ => 12 - (intOf i).toNat)
  case atStart => exact ⟨0, Nat.zero_le _, rfl, Below.newH2 _ _, (VarA.new w _ _).alloc _, (p0, q0, d0), (by simpa using VarA.new (w.alloc _) 27 _), HH.out, HC.out⟩
  case round =>
    clear HH HC
    obtain ⟨k, hk, rfl, hbel, vh, ⟨p, q, d⟩, v0, HG, HC⟩ := hrel
    replace v0 : VarA wr (w.heap.size + 1) 27 #[.i p, .i q, .bool d] := v0
    by_cases hlt : k < 12
    case neg =>
      have HF : Hid (9 = res) := by rw [← HC.out]; show _ = _; rw [show 12 - k = 0 by omega]; rfl
      clear v0 vh
      go_wp2
      go_ret
      exact ⟨by rw [← HF.out]; rfl, hbel⟩
    have HC2 : Hid ((if ((p, q, d) : Hd) = (ph, qh, dh) then 8 else if ((p, q, d) : Hd) = rootH then 0 else wayI f (ph, qh, dh) (12 - (k + 1)) ((f (p, q, d)).getD nd0).par) = res) := by
      rw [← HC.out]; show _ = _; rw [show 12 - k = (12 - (k + 1)) + 1 by omega]; rfl
    clear HC
    obtain ⟨b0, b1, b2⟩ := v0.l3
    obtain ⟨c0, c1, c2⟩ := vh.l3
    have hl0 := v0.lt
    haveI : Nonempty (Cls wr) := Cls.ne wr
    have k0 := Cls.cell hl0 b0
    have k1 := Cls.cell hl0 b1
    have k2 := Cls.cell hl0 b2
    by_cases hx : ((p, q, d) : Hd) = (ph, qh, dh)
    · have HF : Hid (8 = res) := by rw [← HC2.out, if_pos hx]; rfl
      have heq : ∀ W : World, (binOp .eql 27 (.agg #[.i p, .i q, .bool d]) (.agg #[.i ph, .i qh, .bool dh])).run Tryz.prog W = .ok (.bool true) W := fun W => by rw [eqH_run, decH_true hx]
      clear HC2 hx k0 k1 k2
      go_wp2
      go_ret
      exact ⟨by rw [← HF.out]; rfl, hbel⟩
    have hne : ∀ W : World, (binOp .eql 27 (.agg #[.i p, .i q, .bool d]) (.agg #[.i ph, .i qh, .bool dh])).run Tryz.prog W = .ok (.bool false) W := fun W => by rw [eqH_run, decH_false hx]
    by_cases hr : ((p, q, d) : Hd) = rootH
    · have HF : Hid (0 = res) := by rw [← HC2.out, if_neg hx, if_pos hr]; rfl
      have heq : ∀ W : World, (binOp .eql 27 (.agg #[.i p, .i q, .bool d]) (.agg #[.i 0, .i 1, .bool true])).run Tryz.prog W = .ok (.bool true) W := fun W => by rw [eqH_run, decH_true hr]
      clear HC2 hr hx
      go_wp2
      refine wp_region_cls (by kernel_rfl) (by kernel_rfl) ?_
      clear b0 b1 b2 c0 c1 c2
      repeat (go_big_quiet_step (first | (go_at_call 49; exact Calls.cls_new (HRT.out _))))
      refine wpQuiet_nil ?_
      rintro w' ⟨⟨w', hb'⟩, rfl⟩
      go_wp2
      go_ret
      exact ⟨by rw [← HF.out]; rfl, hbel.trans (hb'.mono hbel.size)⟩
    have HF : Hid (wayI f (ph, qh, dh) (12 - (k + 1)) ((f (p, q, d)).getD nd0).par = res) := by rw [← HC2.out, if_neg hx, if_neg hr]; rfl
    have heq : ∀ W : World, (binOp .eql 27 (.agg #[.i p, .i q, .bool d]) (.agg #[.i 0, .i 1, .bool true])).run Tryz.prog W = .ok (.bool false) W := fun W => by rw [eqH_run, decH_false hr]
    clear HC2 hr hx
    go_wp2
    refine wp_region_cls (by kernel_rfl) (by kernel_rfl) ?_
    clear b0 b1 b2 c0 c1 c2
    repeat (go_big_quiet_step (first | (go_at_call 49; exact Calls.cls_new (HRT.out _))))
    refine wpQuiet_nil ?_
    rintro w' ⟨⟨w', hb'⟩, rfl⟩
    have v1 := v0.step hb'
    have VH : Hid (VarA w' w.heap.size 27 _) := vh.step hb'
    have hb3 := hbel.trans (hb'.mono hbel.size)
    clear k0 k1 k2 v0 hbel hb' heq hne hl0 vh
    obtain ⟨b0, b1, b2⟩ := v1.l3
    have fz := v1.fz
    have HP2 := HP.out (p, q, d)
    obtain ⟨nd, hnd⟩ : ∃ nd, (f (p, q, d)).getD nd0 = nd := ⟨_, rfl⟩
    rw [hnd] at HP2 HF
    have HND : Hid _ := hnd
    have HPP : Hid (HIn nd.par) := HP2
    clear hnd HP2
    obtain ⟨hh9, ⟨p2, q2, d2⟩, lk, vl, es⟩ := nd
    have V1 : Hid (VarA w' (w.heap.size + 1) 27 _) := v1
    clear v1
    go_wp2_with (first | (at_lookup; refine wpList_lookN _ rfl _ _ rfl b s f rfl (HM.out _ hb3) (p, q, d) HG.out rfl ?_; intro la ln lc; rw [HND.out]) | (refine wpList_parN _ rfl (.tmp 17) rfl (Nd.mk hh9 (p2, q2, d2) lk vl es) _ rfl ?_))
    have hne9 : w.heap.size ≠ w.heap.size + 1 := by omega
    first
    | exact ⟨⟨k + 1, by omega, by go_num, Below.set3 hb3 (by omega), ((VH.out.aside (p := ⟨_, 0, none⟩) hne9 _).aside (p := ⟨_, 1, none⟩) hne9 _).aside (p := ⟨_, 2, none⟩) hne9 _, (p2, q2, d2), VarA.set3 V1.out, HPP.out, HF.out⟩, by simp [intOf]; omega⟩
    | (go_roundw
       case rel => exact ⟨k + 1, by omega, by go_num, Below.set3 hb3 (by omega), ((VH.out.aside (p := ⟨_, 0, none⟩) hne9 _).aside (p := ⟨_, 1, none⟩) hne9 _).aside (p := ⟨_, 2, none⟩) hne9 _, (p2, q2, d2), VarA.set3 V1.out, HPP.out, HF.out⟩
       case measure => simp [intOf]; omega)
end
section
theorem findC_any (vb : Nat) (x0 y : Value) (p q : Int) (d : Bool) (nm1 nm : List Int) (S S2 : Nat → Prop) (w : World) (r : RdV w S x0 (.bytes nm1)) (r2 : RdV w S2 y (.bytes nm)) (v : VarA w vb 22 #[y]) :
  Calls Tryz.prog 130 #[.agg #[x0, .i p, .i q, .bool d], .pointer (some ⟨vb, 0, none⟩)] w fun e w' => e = .returned (.bool (decide (nm1 = nm))) ∧ Below w.heap.size w w' := by
 obtain ⟨xa, xc, rfl⟩ := r.sliceB
 obtain ⟨ya, yc, rfl⟩ := r2.sliceB
 have HE : Hid (∀ o, Calls Tryz.prog 131 #[.slice xa nm1.length xc, .slice ya nm.length yc] (w.alloc o) fun e w' => e = .returned (.bool (decide (nm1 = nm))) ∧ w' = w.alloc o) := fun o => bytesEq_any _ _ _ _ _ _ _ (r.step (Below.newH _)) (r2.step (Below.newH _))
 have c0 := fun o => (v.alloc o).l1
 clear r r2 v
 generalize nm1.length = xn at *
 generalize nm.length = yn at *
 generalize decide (nm1 = nm) = bb at *
 go_enter Tryz.func130, Tryz.ntmps130
 go_wp2_with (go_at_call 131; refine Calls.mono (HE.out _) ?_; rintro e w2 ⟨rfl, rfl⟩)
 go_ret
 exact ⟨rfl, Below.newH _⟩

set_option maxHeartbeats 1000000 in
theorem idxEn_any (vb : Nat) (x y : Value) (es : List En) (nm : List Int) (S S2 : Nat → Prop) (w : World) (r : RdV w S x (ensDt es)) (r2 : RdV w S2 y (.bytes nm)) (v : VarA w vb 22 #[y]) (hl : es.length ≤ 2097152) :
  Calls Tryz.prog 129 #[x, .func (.func 130) #[] #[.pointer (some ⟨vb, 0, none⟩)]] w fun e w' => e = .returned (.i (findE es nm)) ∧ Below w.heap.size w w' := by
 obtain ⟨a, cap, rfl, _⟩ := RdV.sliced r
 have HR : Hid (∀ W, Below w.heap.size w W → RdV W S (.slice a es.length cap) (.rows 81 4 es.length (fun i j => enCell (es[i]?.getD en0) j))) := RdV.old r
 have HC : Hid (∀ (x0 : Value) p q d nm1 W, Below w.heap.size w W → RdV W S x0 (.bytes nm1) → _) := fun x0 p q d nm1 W hW hr => findC_any vb x0 y p q d nm1 nm S S2 W hr (r2.step hW) (v.step hW)
 obtain ⟨m, hm⟩ : ∃ m, es.length = m := ⟨_, rfl⟩
 rw [hm] at hl HR ⊢
 have HN : Hid _ := hm
 clear r r2 hm v
 go_enter Tryz.func129, Tryz.ntmps129
 go_wp2
 go_loopw [8] (fun i wr => ∃ k : Nat, k ≤ m ∧ i = .i k ∧ Below w.heap.size w wr ∧ Hid (∀ i, i < k → (es[i]?.getD en0).nm ≠ nm)) (fun i _ => m - (intOf i).toNat)
 case atStart => exact ⟨0, Nat.zero_le _, rfl, Below.refl _ _, fun i hi => absurd hi (Nat.not_lt_zero _)⟩
 case round =>
  obtain ⟨k, hk, rfl, hbel, HA⟩ := hrel
  by_cases hlt : k < m
  ·obtain ⟨b, off, rfl, hbl, _, hx⟩ := RdV.at (HR.out wr hbel) hlt
   obtain ⟨e, he⟩ : ∃ e, es[k]?.getD en0 = e := ⟨_, rfl⟩
   obtain ⟨x0, c0, r0⟩ := hx 0 (by omega)
   obtain ⟨x1, c1, r1⟩ := hx 1 (by omega)
   obtain ⟨x2, c2, r2⟩ := hx 2 (by omega)
   obtain ⟨x3, c3, r3⟩ := hx 3 (by omega)
   rw [he] at r0 r1 r2 r3
   have HE : Hid _ := he
   clear hx he
   obtain ⟨nm1, ⟨p, q, d⟩⟩ := e
   simp only [Nat.add_zero] at c0
   have RB : RdV wr S x0 (.bytes nm1) := r0
   obtain rfl : x1 = .i p := r1
   obtain rfl : x2 = .i q := r2
   obtain rfl : x3 = .bool d := r3
   have HCC : Hid (Calls Tryz.prog 130 #[.agg #[x0, .i p, .i q, .bool d], .pointer (some ⟨vb, 0, none⟩)] wr fun e w' => e = .returned (.bool (decide (nm1 = nm))) ∧ Below wr.heap.size wr w') := HC.out x0 p q d nm1 wr hbel RB
   obtain ⟨xa, xc, rfl⟩ := RB.sliceB
   generalize nm1.length = xn at *
   clear r0 RB
   by_cases heq : nm1 = nm
   ·have HF : Hid (findE es nm = (k : Int)) := by
     have := ei_at es nm k (by rw [HN.out]; exact hlt) (by rw [HE.out]; exact heq) HA.out
     show _ = _
     unfold findE
     rw [this, if_pos (by rw [HN.out]; exact hlt)]
    simp only [heq, decide_true] at HCC
    clear HA
    go_wp2_with (go_at_call 130; refine Calls.mono HCC.out ?_; rintro e w2 ⟨rfl, hb2⟩)
    go_ret
    exact ⟨by rw [HF.out]; rfl, hbel.trans (hb2.mono hbel.size)⟩
   ·have HF : Hid (∀ i, i < k + 1 → (es[i]?.getD en0).nm ≠ nm) := fun i hi => by
     by_cases h1 : i < k
     ·exact HA.out i h1
     ·obtain rfl : i = k := by omega
      rw [HE.out]; exact heq
    simp only [heq, decide_false] at HCC
    clear HA
    go_wp2_with (go_at_call 130; refine Calls.mono HCC.out ?_; rintro e w2 ⟨rfl, hb2⟩)
    go_roundw
    case rel => exact ⟨k + 1, by omega, by go_num, hbel.trans (hb2.mono hbel.size), HF.out⟩
    case measure => simp [intOf]; omega
  ·have he : k = m := by omega
   subst he
   have HF : Hid (findE es nm = -1) := ei_none es _ (fun i hi => HA.out i (by rw [HN.out] at hi; exact hi))
   go_wp2
   go_ret
   exact ⟨by rw [HF.out]; rfl, hbel⟩
end
section
theorem results_rowIC {fn : Func} {p u : Tmp} {ty : TypeId} (h : fn.results = #[.cell p ty, .tmp u]) (tmps : Array Value) (w : World) (g : Nat) (t : TypeId) (cs : Array Value) (d : TypeDesc)
  (hp : tmps.getD p undef = .pointer (some ⟨g, 0, none⟩)) (hg : VarA w g t cs)
  (hu : Tryz.prog.underlying ty = some d) (hd : d.isRow = true) (hi : (Tryz.prog.info? ty).map (·.size) = some cs.size) :
  (results fn tmps).run Tryz.prog w = .ok (.tuple #[.agg cs, tmps.getD u undef]) w := by
 rw [results_cell_tmp h, hp]
 simp [asAddr, loadA_run hg hu hd hi]
def fdH (es : List En) (nm : List Int) : Hd := if ei es nm < es.length then (es[ei es nm]?.getD en0).h else hd0
def fdB (es : List En) (nm : List Int) : Bool := decide (ei es nm < es.length)
set_option maxHeartbeats 1000000 in
theorem find_any (x y : Value) (n : Nd) (nm : List Int) (S S2 : Nat → Prop) (w : World) (r : RdV w S x (ensDt n.es)) (r2 : RdV w S2 y (.bytes nm)) (hl : n.es.length ≤ 2097152) :
  Calls Tryz.prog 114 #[ndV n x, y] w fun e w' => e = .returned (.tuple #[(fdH n.es nm).v, .bool (fdB n.es nm)]) ∧ Below w.heap.size w w' := by
 obtain ⟨a, cap, rfl, _⟩ := RdV.sliced r
 obtain ⟨ya, yc, rfl⟩ := r2.sliceB
 obtain ⟨⟨p, q, d⟩, ⟨p2, q2, d2⟩, lk, vl, es⟩ := n
 dsimp only at r hl ⊢
 have HR : Hid (∀ W, Below w.heap.size w W → RdV W S (.slice a es.length cap) (.rows 81 4 es.length (fun i j => enCell (es[i]?.getD en0) j))) := RdV.old r
 have HI : Hid (∀ vb W, Below w.heap.size w W → VarA W vb 22 #[.slice ya nm.length yc] → _) := fun vb W hW hv => idxEn_any vb (.slice a es.length cap) (.slice ya nm.length yc) es nm S S2 W (HR.out W hW) (r2.step hW) hv hl
 obtain ⟨m, hm⟩ : ∃ m, es.length = m := ⟨_, rfl⟩
 have HN : Hid _ := hm
 generalize nm.length = yn at *
 obtain ⟨⟨ph, qh, dh⟩, hres⟩ : ∃ r, fdH es nm = r := ⟨_, rfl⟩
 obtain ⟨bh, hbh⟩ : ∃ r, fdB es nm = r := ⟨_, rfl⟩
 rw [hres, hbh]
 have HF : Hid (fdH es nm = (ph, qh, dh)) := hres
 have HB : Hid (fdB es nm = bh) := hbh
 obtain ⟨t, ht⟩ : ∃ t, findE es nm = t := ⟨_, rfl⟩
 rw [ht, hm] at HI
 rw [hm] at HR hl ⊢
 have HT : Hid (findE es nm = t) := ht
 clear r r2 hm hres hbh ht
 go_enter Tryz.func114, Tryz.ntmps114
 go_wp2_with fail
 go_at_call 129
 refine Calls.mono (HI.out (w.heap.size + 1) _ (by repeat (first | exact Below.refl _ _ | refine Below.al2 ?_ _)) ((by simpa using VarA.new (w.alloc _) 22 _ : VarA ((w.alloc _).alloc (.cells #[.slice ya yn yc] 22)) (w.heap.size + 1) _ _).alloc _)) ?_
 rintro e w1 ⟨rfl, hb1⟩
 have vN : VarA w1 w.heap.size 75 #[.i p, .i q, .bool d, .i p2, .i q2, .bool d2, .i lk, .i vl, .slice a m cap] := (((VarA.new w _ _).alloc _).alloc _).step hb1
 have vR : VarA w1 (w.heap.size + 2) 27 #[.i 0, .i 0, .bool false] := (by simpa using VarA.new ((w.alloc _).alloc _) 27 _ : VarA (((w.alloc _).alloc _).alloc (.cells #[.i 0, .i 0, .bool false] 27)) (w.heap.size + 2) _ _).step hb1
 have HB1 : Hid (Below w.heap.size w w1) := (show Below w.heap.size w (((w.alloc _).alloc _).alloc _) by repeat (first | exact Below.refl _ _ | refine Below.al2 ?_ _)).trans (hb1.mono (by simp <;> omega))
 clear HI hb1
 by_cases hlt : ei es nm < es.length
 ·have hk : t = ((ei es nm : Nat) : Int) := by rw [← HT.out]; unfold findE; rw [if_pos hlt]
  obtain ⟨k, hk2⟩ : ∃ k, ei es nm = k := ⟨_, rfl⟩
  rw [hk2] at hk hlt
  rw [HN.out] at hlt
  subst hk
  have hh : (es[k]?.getD en0).h = (ph, qh, dh) := by rw [← HF.out]; unfold fdH; rw [hk2, HN.out, if_pos hlt]
  have hbt : true = bh := by rw [← HB.out]; unfold fdB; rw [hk2, HN.out]; simp [hlt]
  subst hbt
  obtain ⟨b, off, rfl, hbl, _, hx⟩ := RdV.at (HR.out w1 HB1.out) hlt
  obtain ⟨x1, c1, r1⟩ := hx 1 (by omega)
  obtain ⟨x2, c2, r2⟩ := hx 2 (by omega)
  obtain ⟨x3, c3, r3⟩ := hx 3 (by omega)
  obtain rfl : x1 = .i ph := by have h9 : x1 = .i (es[k]?.getD en0).h.1 := r1; rw [hh] at h9; exact h9
  obtain rfl : x2 = .i qh := by have h9 : x2 = .i (es[k]?.getD en0).h.2.1 := r2; rw [hh] at h9; exact h9
  obtain rfl : x3 = .bool dh := by have h9 : x3 = .bool (es[k]?.getD en0).h.2.2 := r3; rw [hh] at h9; exact h9
  clear hx HT HF HB hh hk2
  have c8 := vN.c 8 rfl
  dsimp at c8
  obtain ⟨b0, b1, b2⟩ := vR.l3
  have fz := vR.fz
  have VR : Hid (VarA w1 (w.heap.size + 2) 27 _) := vR
  clear vR vN
  go_wp2
  refine bodyPost_ret (results_rowIC Tryz.results114 _ _ _ _ _ _ rfl (VarA.set3 VR.out) Tryz.underlying27 rfl (by kernel_rfl)) rfl ?_
  exact ⟨rfl, Below.set3 HB1.out (by omega)⟩
 ·have hk : t = -1 := by rw [← HT.out]; unfold findE; rw [if_neg hlt]
  subst hk
  have hh : hd0 = (ph, qh, dh) := by rw [← HF.out]; unfold fdH; rw [if_neg hlt]
  have hbt : false = bh := by rw [← HB.out]; unfold fdB; simp [hlt]
  subst hbt
  obtain ⟨rfl, rfl, rfl⟩ : (0 : Int) = ph ∧ (0 : Int) = qh ∧ false = dh := by have h9 := hh; unfold hd0 at h9; simpa using h9
  clear HT HF HB hh HN hlt
  obtain ⟨b0, b1, b2⟩ := vR.l3
  have fz := vR.fz
  have VR : Hid (VarA w1 (w.heap.size + 2) 27 _) := vR
  clear vR vN HR
  go_wp2
  refine bodyPost_ret (results_rowIC Tryz.results114 _ _ _ _ _ _ rfl (VarA.set3 VR.out) Tryz.underlying27 rfl (by kernel_rfl)) rfl ?_
  exact ⟨rfl, Below.set3 HB1.out (by omega)⟩
end
section
theorem has_any (x y : Value) (n : Nd) (nm : List Int) (S S2 : Nat → Prop) (w : World) (r : RdV w S x (ensDt n.es)) (r2 : RdV w S2 y (.bytes nm)) (hl : n.es.length ≤ 2097152) :
  Calls Tryz.prog 132 #[ndV n x, y] w fun e w' => e = .returned (.bool (fdB n.es nm)) ∧ Below w.heap.size w w' := by
 obtain ⟨a, cap, rfl, _⟩ := RdV.sliced r
 obtain ⟨ya, yc, rfl⟩ := r2.sliceB
 have HF : Hid (∀ o, _) := fun o => find_any (.slice a n.es.length cap) (.slice ya nm.length yc) n nm S S2 (w.alloc o) (r.step (Below.newH _)) (r2.step (Below.newH _)) hl
 obtain ⟨⟨p, q, d⟩, ⟨p2, q2, d2⟩, lk, vl, es⟩ := n
 dsimp only at HF ⊢
 obtain ⟨⟨ph, qh, dh⟩, hres⟩ : ∃ r, fdH es nm = r := ⟨_, rfl⟩
 rw [hres] at HF
 generalize fdB es nm = bh at HF ⊢
 clear r r2 hl hres
 generalize nm.length = yn at *
 generalize es.length = m at *
 go_enter Tryz.func132, Tryz.ntmps132
 go_wp2_with (go_at_call 114; refine Calls.mono (HF.out _) ?_; rintro e w1 ⟨rfl, hb1⟩)
 go_ret
 exact ⟨rfl, Below.al2 ((Below.newH (w := w) _).trans (hb1.mono (by simp))) _⟩
theorem atX_rd (f : Hd → Option Nd) (X : Hd → Value) (g : Hd) (S : Nat → Prop) (w : World) (hX : ∀ n, f g = some n → RdV w S (X n.h) (ensDt n.es)) : ∃ a c, atX f X g = ndV ((f g).getD nd0) (.slice a ((f g).getD nd0).es.length c) ∧ RdV w S (.slice a ((f g).getD nd0).es.length c) (ensDt ((f g).getD nd0).es) := by
 unfold atX
 cases hf : f g with
 | none => exact ⟨none, 0, rfl, OwV.rd (OwV.nilR _ _ _ _ _)⟩
 | some n =>
  have r := hX n hf
  obtain ⟨a, c, e, _⟩ := RdV.sliced r
  exact ⟨a, c, by show ndV n (X n.h) = _; rw [e]; rfl, by rw [e] at r; exact r⟩
def roomI (f : Hd → Option Nd) (g : Hd) (nm : List Int) : Int := if fdB ((f g).getD nd0).es nm = true then 4 else if 12 ≤ ((f g).getD nd0).es.length then 5 else 0
set_option maxHeartbeats 1000000 in
theorem roomCode_any (b s : Nat) (f : Hd → Option Nd) (X : Hd → Value) (g : Hd) (y : Value) (nm : List Int) (S S2 : Nat → Prop) (w : World) (M : MapH (ndX X) w b s f) (hin : HIn g) (hX : ∀ n, f g = some n → RdV w S (X n.h) (ensDt n.es)) (r2 : RdV w S2 y (.bytes nm)) (hl : ((f g).getD nd0).es.length ≤ 2097152) :
  Calls Tryz.prog 115 #[.map (some b), g.v, y] w fun e w' => e = .returned (.i (roomI f g nm)) ∧ Below w.heap.size w w' := by
 obtain ⟨a, cap, hat, rx⟩ := atX_rd f X g S w hX
 obtain ⟨ya, yc, rfl⟩ := r2.sliceB
 have hbs := M.lt
 have HM : Hid (∀ W, Below w.heap.size w W → MapH (ndX X) W b s f) := fun W hW => M.blk (hW.block b hbs)
 have HH : Hid (∀ W, Below w.heap.size w W → _) := fun W hW => has_any (.slice a ((f g).getD nd0).es.length cap) (.slice ya nm.length yc) ((f g).getD nd0) nm S S2 W (rx.step hW) (r2.step hW) hl
 have HI : Hid (HIn g) := hin
 obtain ⟨res, hres⟩ : ∃ r, roomI f g nm = r := ⟨_, rfl⟩
 have HRES : Hid ((if fdB ((f g).getD nd0).es nm = true then 4 else if 12 ≤ ((f g).getD nd0).es.length then 5 else 0) = res) := hres
 rw [hres]
 have HA : Hid _ := hat
 obtain ⟨nd, hnd⟩ : ∃ nd, (f g).getD nd0 = nd := ⟨_, rfl⟩
 rw [hnd] at HH HRES HA hl
 clear M hin hX r2 rx hat hres hnd
 obtain ⟨p, q, d⟩ := g
 obtain ⟨⟨s0, s1, s2⟩, ⟨s3, s4, s5⟩, lk, vl, es⟩ := nd
 dsimp only at HH HRES HA hl
 generalize fdB es nm = bh at HH HRES
 generalize nm.length = yn at *
 generalize es.length = m at *
 go_enter Tryz.func115, Tryz.ntmps115
 go_wp2_with (first | (at_lookup; refine wpList_lookX _ rfl (.tmp 8) (.tmp 9) rfl b s f X rfl (HM.out _ (by repeat (first | exact Below.refl _ _ | refine Below.al2 ?_ _))) (p, q, d) HI.out rfl ?_; rw [HA.out]))
 go_at_call 132
 refine Calls.mono (HH.out _ (by repeat (first | exact Below.refl _ _ | refine Below.al2 ?_ _))) ?_
 rintro e w1 ⟨rfl, hb1⟩
 have vN : VarA w1 (w.heap.size + 1) 75 #[.i s0, .i s1, .bool s2, .i s3, .i s4, .bool s5, .i lk, .i vl, .slice a m cap] := (by simpa using VarA.new (w.alloc _) 75 _ : VarA ((w.alloc _).alloc (.cells #[.i s0, .i s1, .bool s2, .i s3, .i s4, .bool s5, .i lk, .i vl, .slice a m cap] 75)) (w.heap.size + 1) _ _).step hb1
 have HB1 : Hid (Below w.heap.size w w1) := (show Below w.heap.size w ((w.alloc _).alloc _) by repeat (first | exact Below.refl _ _ | refine Below.al2 ?_ _)).trans (hb1.mono (by simp <;> omega))
 have c8 := vN.c 8 rfl
 dsimp at c8
 clear vN hb1
 rcases (show bh = true ∨ bh = false ∧ (12 ≤ m ∨ m < 12) by cases bh <;> simp <;> omega) with rfl | ⟨rfl, hm | hm⟩
 all_goals
  go_wp2
  go_ret
  exact ⟨by rw [← HRES.out]; simp [*] <;> omega, HB1.out⟩
end
section
def setX (X : Hd → Value) (h : Hd) (x : Value) : Hd → Value := fun g => if g = h then x else X g
def setN (f : Hd → Option Nd) (h : Hd) (n : Nd) : Hd → Option Nd := fun g => if g = h then some n else f g
theorem MapH.putX {w : World} {b s : Nat} {f : Hd → Option Nd} {X : Hd → Value} {t e : TypeId} (M : MapH (ndX X) w b s f) (hk : ∀ g n, f g = some n → n.h = g) (ht : Tryz.prog.underlying t = some (.map 27 e)) (hn : s < maxLen) {h : Hd} (hh : HIn h) (n : Nd) (x : Value) (hnh : n.h = h) :
  ∃ w', (Instr.mapUpdate t (.map (some b)) h.v (ndV n x)).run Tryz.prog w = .ok () w' ∧ MapH (ndX (setX X h x)) w' b (if (f h).isSome then s else s + 1) (setN f h n) ∧ w.grownBy w' (some b) := by
 have M2 : MapH (fun (c : Nd × Value) v => v = ndV c.1 c.2) w b s (fun g => (f g).map fun n => (n, X n.h)) := M.to _ (fun g hg => by simpa using hg) (fun g c hc => by
  cases hf : f g with
  | none => simp [hf] at hc
  | some a => simp [hf] at hc; subst hc; exact ⟨a, rfl, fun v hv => hv⟩)
 obtain ⟨w', hrun, M3, hg⟩ := M2.put ht hn hh (a := (n, x)) (v := ndV n x) rfl
 refine ⟨w', hrun, ?_, hg⟩
 have hs : ((fun g => (f g).map fun n => (n, X n.h)) h).isSome = (f h).isSome := by simp
 rw [hs] at M3
 refine M3.to _ (fun g hg => ?_) (fun g c hc => ?_)
 ·by_cases e : g = h
  ·simp [setN, e] at hg
  ·simp [setN, e] at hg; simp [e, hg]
 ·by_cases e : g = h
  ·simp [setN, e] at hc
   subst hc
   exact ⟨(n, x), by simp [e], fun v hv => by rw [hv]; show _ = ndV n (setX X h x n.h); simp [setX, hnh]⟩
  ·simp [setN, e] at hc
   refine ⟨(c, X c.h), by simp [e, hc], fun v hv => ?_⟩
   rw [hv]
   show _ = ndV c (setX X h x c.h)
   have := hk g c hc
   simp [setX, this, e]
theorem setN_key {f : Hd → Option Nd} {h : Hd} {n : Nd} (hk : ∀ g n, f g = some n → n.h = g) (hn : n.h = h) : ∀ g m, setN f h n g = some m → m.h = g := by
 intro g m hg
 by_cases e : g = h
 ·simp [setN, e] at hg; subst hg; rw [hn, e]
 ·simp [setN, e] at hg; exact hk g m hg
theorem wpList_putX (w : World) {ops : Array Oper} {rest : List Oper} {o : Oper} {a : Act} {Q : Exit → Act → World → Prop}
  (hg : o.guard = none) (m x v : Operand) (hop : o.op = Op.mapUpdate 69 m x v) (b s : Nat) (f : Hd → Option Nd) (X : Hd → Value)
  (hm : a.eval m = .map (some b)) (M : MapH (ndX X) w b s f) (hk : ∀ g n, f g = some n → n.h = g) (hn : s < maxLen) (h : Hd) (hh : HIn h) (hx : a.eval x = h.v) (n : Nd) (y : Value) (hnh : n.h = h) (hv : a.eval v = ndV n y)
  (hK : ∀ w', MapH (ndX (setX X h y)) w' b (if (f h).isSome then s else s + 1) (setN f h n) → w.grownBy w' (some b) → wpList Tryz.prog ops Q rest (a.put o.dst undef) w') :
  wpList Tryz.prog ops Q (o :: rest) a w := by
 refine wpList_plain hg fun K' hK' => ?_
 obtain ⟨w', hrun, r1, r2⟩ := M.putX hk Tryz.underlying69 hn hh n y hnh
 unfold Oper.wp
 simp [execOp, hop, hm, hx, hv, hrun, Result.andThen]
 exact hK' _ _ (hK w' r1 r2)
end
section
open Go.Maps
def delN (f : Hd → Option Nd) (h : Hd) : Hd → Option Nd := fun g => if g = h then none else f g
theorem MapH.drop {α : Type} {V : α → Value → Prop} {w : World} {b s : Nat} {f : Hd → Option α} {t e : TypeId} (m : MapH V w b s f) (ht : Tryz.prog.underlying t = some (.map 27 e)) {h : Hd} (hh : HIn h) (ty : TypeId) :
  ∃ w', (Builtin.delete_ #[t, 27] ty #[.map (some b), h.v]).run Tryz.prog w = .ok (.tuple #[]) w' ∧ MapH V w' b (if (f h).isSome then s - 1 else s) (fun g => if g = h then none else f g) ∧ w.grownBy w' (some b) := by
 obtain ⟨D, hD, h1, h2⟩ := m
 obtain ⟨w', hrun, ho, hg⟩ := hD.drop lawHd ht (keyHd hh) ty
 have hty := hD.tidy lawHd
 have hsz := Maps.size_del (k := klH h) hty
 have hss : Maps.size (D.del (klH h)) = if (f h).isSome then s - 1 else s := by
  cases hf : f h with
  | none => rw [(h2 h hh).1 hf] at hsz; simp at hsz ⊢; omega
  | some a => rw [((h2 h hh).2 a hf).1] at hsz; simp at hsz ⊢; omega
 refine ⟨w', hrun, ⟨D.del (klH h), ?_, hss, ?_⟩, hg.grown⟩
 ·have h3 := ownsMap_tight ho
  rw [hss] at h3
  exact h3
 ·intro g hgi
  by_cases hgh : g = h
  ·subst hgh
   exact ⟨fun _ => Maps.has_del_same, fun c hc => by simp at hc⟩
  ·have hne := klH_ne hgi hh hgh
   simp only [if_neg hgh]
   refine ⟨fun hc => ?_, fun c hc => ?_⟩
   ·rw [Maps.has_del_other hne]; exact (h2 g hgi).1 hc
   ·obtain ⟨x1, u, x2, x3⟩ := (h2 g hgi).2 c hc
    exact ⟨by rw [Maps.has_del_other hne]; exact x1, u, x2, fun z => by rw [Maps.atKey_del_other hne]; exact x3 z⟩
theorem wpList_dropX (w : World) {ops : Array Oper} {rest : List Oper} {o : Oper} {a : Act} {Q : Exit → Act → World → Prop}
  (hg : o.guard = none) (m x : Operand) (hop : o.op = Op.call { callee := Callee.builtin Builtin.delete, args := #[m, x], argTypes := #[69, 27] }) (b s : Nat) (f : Hd → Option Nd) (X : Hd → Value)
  (hm : a.eval m = .map (some b)) (M : MapH (ndX X) w b s f) (h : Hd) (hh : HIn h) (hx : a.eval x = h.v)
  (hK : ∀ w', MapH (ndX X) w' b (if (f h).isSome then s - 1 else s) (delN f h) → w.grownBy w' (some b) → wpList Tryz.prog ops Q rest (a.put o.dst (.tuple #[])) w') :
  wpList Tryz.prog ops Q (o :: rest) a w := by
 refine wpList_plain hg fun K' hK' => ?_
 obtain ⟨w', hrun, r1, r2⟩ := M.drop Tryz.underlying69 hh o.type
 unfold Oper.wp
 simp [execOp, hop, resolve, invoke, builtin, hm, hx, hrun, Result.andThen]
 exact hK' _ _ (hK w' r1 r2)
theorem setX_same (X : Hd → Value) (h : Hd) : setX X h (X h) = X := by
 funext g
 unfold setX
 by_cases e : g = h
 ·rw [if_pos e, e]
 ·rw [if_neg e]
end
section
open Go.Maps
def unlN (f : Hd → Option Nd) (h : Hd) (n : Nd) : Hd → Option Nd := if n.links - 1 ≤ 0 then delN f h else setN f h { n with links := n.links - 1 }
def unlS (s : Nat) (n : Nd) : Nat := if n.links - 1 ≤ 0 then s - 1 else s
set_option maxHeartbeats 1000000 in
theorem unlink_any (b s : Nat) (f : Hd → Option Nd) (X : Hd → Value) (g : Hd) (n : Nd) (w : World) (M : MapH (ndX X) w b s f) (hk : ∀ g n, f g = some n → n.h = g) (hin : HIn g) (hf : f g = some n) (hX : ∃ a m c, X g = .slice a m c) (hs : s ≤ 2097152) (hlk : -1000000000000 ≤ n.links ∧ n.links ≤ 1000000000000) :
  Calls Tryz.prog 118 #[.map (some b), g.v] w fun e w' => e = .returned (.tuple #[]) ∧ MapH (ndX X) w' b (unlS s n) (unlN f g n) ∧ Turned (fun c => c = b) w w' := by
 obtain ⟨a, m, c, hx⟩ := hX
 have hnh := hk g n hf
 have hat : atX f X g = ndV n (.slice a m c) := by unfold atX; rw [hf]; show ndV n (X n.h) = _; rw [hnh, hx]
 have HA : Hid _ := hat
 have hbs := M.lt
 have HM : Hid (∀ W, Below w.heap.size w W → MapH (ndX X) W b s f) := fun W hW => M.blk (hW.block b hbs)
 have HK : Hid _ := hk
 have HI : Hid (HIn g) := hin
 have HNH : Hid (n.h = g) := hnh
 have HX : Hid (X g = .slice a m c) := hx
 have HF : Hid (f g = some n) := hf
 have hsm : s < maxLen := by unfold maxLen; omega
 obtain ⟨p, q, d⟩ := g
 obtain ⟨⟨s0, s1, s2⟩, ⟨s3, s4, s5⟩, lk, vl, es⟩ := n
 dsimp only at hlk
 clear M hk hin hf hx hnh hat
 go_enter Tryz.func118, Tryz.ntmps118
 by_cases hl : lk - 1 ≤ 0
 ·go_wp2_with (first | (at_lookup; refine wpList_lookX _ rfl (.tmp 5) (.tmp 6) rfl b s f X rfl (HM.out _ (by repeat (first | exact Below.refl _ _ | refine Below.al2 ?_ _))) (p, q, d) HI.out rfl ?_; rw [HA.out]) | (at_delete; refine wpList_dropX _ rfl (.tmp 15) (.tmp 16) rfl b s f X rfl (HM.out _ (by repeat (first | exact Below.refl _ _ | refine Below.al2 ?_ _))) (p, q, d) HI.out rfl ?_; intro w9 M9 g9))
  refine bodyPost_ret (results_none (by first | rfl | kernel_rfl) _ _ _) rfl ?_
  refine ⟨rfl, ?_, (Turned.ofBelow (by repeat (first | exact Below.refl _ _ | refine Below.al2 ?_ _))).trans (Turned.ofGrown g9 (fun k hk => by simpa using hk.symm))⟩
  rw [HF.out] at M9
  unfold unlS unlN
  rw [if_pos hl, if_pos hl]
  exact M9
 ·go_wp2_with (first | (at_lookup; refine wpList_lookX _ rfl (.tmp 5) (.tmp 6) rfl b s f X rfl (HM.out _ (by repeat (first | exact Below.refl _ _ | refine Below.al2 ?_ _))) (p, q, d) HI.out rfl ?_; rw [HA.out]) | (at_mapUpdate; refine wpList_putX _ rfl (.tmp 17) (.tmp 18) (.tmp 19) rfl b s f X rfl (HM.out _ (by repeat (first | exact Below.refl _ _ | refine Below.al2 ?_ _))) HK.out hsm (p, q, d) HI.out rfl (Nd.mk (s0, s1, s2) (s3, s4, s5) (lk - 1) vl es) (.slice a m c) HNH.out rfl ?_; intro w9 M9 g9))
  go_end0
  refine ⟨rfl, ?_, (Turned.ofBelow (by repeat (first | exact Below.refl _ _ | refine Below.al2 ?_ _))).trans (Turned.ofGrown g9 (fun k hk => by simpa using hk.symm))⟩
  rw [HF.out, ← HX.out, setX_same] at M9
  unfold unlS unlN
  rw [if_neg (by show ¬ lk - 1 ≤ 0; omega), if_neg (by show ¬ lk - 1 ≤ 0; omega)]
  exact M9
end
section
open Go.Maps
theorem Turned.past {S : Nat → Prop} {w w1 w2 : World} {r : Nat} (b : Turned S w w1) (t : Turned (fun k => k = r) w1 w2) (hr : w.heap.size ≤ r) : Turned S w w2 :=
 ⟨t.os.trans b.os, t.tape.trans b.tape, t.output.trans b.output, Nat.le_trans b.size t.size, fun k hk hs => (t.block k (Nat.lt_of_lt_of_le hk b.size) (fun e => by omega)).trans (b.block k hk hs)⟩
set_option maxHeartbeats 1000000 in
theorem write_any (b s : Nat) (f : Hd → Option Nd) (X : Hd → Value) (o : OpD) (ya za : Option Addr) (yn yc zn zc : Nat) (n : Nd) (w : World) (M : MapH (ndX X) w b s f) (hk : ∀ g n, f g = some n → n.h = g) (hin : HIn o.dir) (hf : f o.dir = some n) (hX : ∃ a m c, X o.dir = .slice a m c) (hs : s ≤ 2097152) :
  Calls Tryz.prog 87 #[.map (some b), opV o (.slice ya yn yc) (.slice za zn zc)] w fun e w' => e = .returned (rpV rp0 (.n0)) ∧ MapH (ndX X) w' b s (setN f o.dir { n with val := o.val }) ∧ Turned (fun c => c = b) w w' := by
 obtain ⟨kd, ⟨p, q, d⟩, nm, ⟨p2, q2, d2⟩, asn, ov⟩ := o
 dsimp only at hin hf hX ⊢
 obtain ⟨a, m, c, hx⟩ := hX
 have hnh := hk _ n hf
 have hat : atX f X (p, q, d) = ndV n (.slice a m c) := by unfold atX; rw [hf]; show ndV n (X n.h) = _; rw [hnh, hx]
 have HA : Hid _ := hat
 have hbs := M.lt
 have HM : Hid (∀ W, Below w.heap.size w W → MapH (ndX X) W b s f) := fun W hW => M.blk (hW.block b hbs)
 have HK : Hid _ := hk
 have HI : Hid (HIn (p, q, d)) := hin
 have HNH : Hid (n.h = (p, q, d)) := hnh
 have HX : Hid (X (p, q, d) = .slice a m c) := hx
 have HF : Hid (f (p, q, d) = some n) := hf
 have hsm : s < maxLen := by unfold maxLen; omega
 obtain ⟨⟨s0, s1, s2⟩, ⟨s3, s4, s5⟩, lk, vl, es⟩ := n
 clear M hk hin hf hx hnh hat
 go_enter Tryz.func87, Tryz.ntmps87
 go_wp2_with (first | (at_lookup; refine wpList_lookX _ rfl (.tmp 6) (.tmp 8) rfl b s f X rfl (HM.out _ (by repeat (first | exact Below.refl _ _ | refine Below.al2 ?_ _))) (p, q, d) HI.out rfl ?_; rw [HA.out]) | (at_mapUpdate; refine wpList_putX _ rfl (.tmp 13) (.tmp 15) (.tmp 16) rfl b s f X rfl (HM.out _ (by repeat (first | exact Below.refl _ _ | refine Below.al2 ?_ _))) HK.out hsm (p, q, d) HI.out rfl (Nd.mk (s0, s1, s2) (s3, s4, s5) lk ov es) (.slice a m c) HNH.out rfl ?_; intro w9 M9 g9; have v9 : VarA w9 (w.heap.size + 1) 34 #[.i 0, .i 0, .i 0, .bool false, .i 0, .n0] := ((by simpa using VarA.new (w.alloc _) 34 _ : VarA ((w.alloc _).alloc (.cells #[.i 0, .i 0, .i 0, .bool false, .i 0, .n0] 34)) (w.heap.size + 1) _ _).alloc _).turn (Turned.ofGrown (S := fun c => c = b) g9 (fun k hk => by simpa using hk.symm)) (by show ¬ w.heap.size + 1 = b; omega)) | ((with_reducible refine gS 34 ?_); refine sF v9 rfl rfl (by kernel_rfl) rfl rfl ?_; intro w8 v8 t8))
 refine bpR Tryz.results87 v8 Tryz.underlying34 rfl rfl (by kernel_rfl) rfl ?_
 have M8 := M9
 rw [HF.out, ← HX.out, setX_same] at M8
 exact ⟨rfl, M8.blk (t8.block b M9.lt (by show ¬ b = w.heap.size + 1; omega)), Turned.past ((Turned.ofBelow (by repeat (first | exact Below.refl _ _ | refine Below.al2 ?_ _))).trans (Turned.ofGrown g9 (fun k hk => by simpa using hk.symm))) t8 (by omega)⟩
end
section
open Go.Maps
theorem gen_world {P : World → Prop} {W : World} (I : World → Prop) (hI : I W) (h : ∀ W', I W' → P W') : P W := h W hI
theorem lookX_run {w : World} {b s : Nat} {f : Hd → Option Nd} {X : Hd → Value} (M : MapH (ndX X) w b s f) {h : Hd} (hh : HIn h) : (Instr.lookup 69 (.map (some b)) h.v false).run Tryz.prog w = .ok (atX f X h) w := by
 obtain ⟨v, hrun, r1, r2⟩ := M.look Tryz.underlying69 (zeroNd w) hh
 obtain rfl : v = atX f X h := by
  unfold atX
  cases hf : f h with
  | none => exact r1 hf
  | some n => exact r2 n hf
 exact hrun
def moveI (f : Hd → Option Nd) (dir tq : Hd) (asn : List Int) (h : Hd) : Int :=
 if tq.dir = false then 2 else if (f tq).isSome = false then 1 else if tq = dir then (if fdB ((f tq).getD nd0).es asn = true then 4 else 0)
 else if roomI f tq asn ≠ 0 ∨ h.dir = false then roomI f tq asn else wayI f h 12 tq
set_option maxHeartbeats 2000000 in
theorem moveCode_any (b s : Nat) (f : Hd → Option Nd) (X : Hd → Value) (o : OpD) (h : Hd) (y : Value) (za : Option Addr) (zn zc : Nat) (S S2 : Nat → Prop) (w : World) (M : MapH (ndX X) w b s f) (hin : HIn o.to)
  (hX : ∀ g n, f g = some n → RdV w S (X n.h) (ensDt n.es)) (hp : ∀ g n, f g = some n → HIn n.par) (r2 : RdV w S2 y (.bytes o.asn)) (hl : ((f o.to).getD nd0).es.length ≤ 2097152) :
  Calls Tryz.prog 119 #[.map (some b), opV o (.slice za zn zc) y, h.v] w fun e w' => e = .returned (.i (moveI f o.dir o.to o.asn h)) ∧ Below w.heap.size w w' := by
 obtain ⟨kd, ⟨p, q, d⟩, nm, ⟨p2, q2, d2⟩, asn, ov⟩ := o
 obtain ⟨ph, qh, dh⟩ := h
 dsimp only at hin r2 hl ⊢
 obtain ⟨a, cap, hat, rx⟩ := atX_rd f X (p2, q2, d2) S w (hX _)
 obtain ⟨ya, yc, rfl⟩ := r2.sliceB
 have hbs := M.lt
 have HM : Hid (∀ W, Below w.heap.size w W → MapH (ndX X) W b s f) := fun W hW => M.blk (hW.block b hbs)
 have HH : Hid (∀ W, Below w.heap.size w W → _) := fun W hW => has_any (.slice a ((f (p2, q2, d2)).getD nd0).es.length cap) (.slice ya asn.length yc) ((f (p2, q2, d2)).getD nd0) asn S S2 W (rx.step hW) (r2.step hW) hl
 have HR : Hid (∀ W, Below w.heap.size w W → _) := fun W hW => roomCode_any b s f X (p2, q2, d2) (.slice ya asn.length yc) asn S S2 W (HM.out W hW) hin (fun n hn => (hX _ n hn).step hW) (r2.step hW) hl
 have HW : Hid (∀ W, Below w.heap.size w W → _) := fun W hW => wayCode_any b s f (ph, qh, dh) (p2, q2, d2) W ((HM.out W hW).to f (fun _ h => h) (fun g n hn => ⟨n, hn, fun v hv => by
  obtain ⟨a9, c9, e9, _⟩ := RdV.sliced (hX g n hn)
  exact ⟨a9, _, c9, by rw [hv, e9]⟩⟩)) hin hp
 have HI : Hid (HIn (p2, q2, d2)) := hin
 have HA : Hid _ := hat
 obtain ⟨res, hres⟩ : ∃ r, moveI f (p, q, d) (p2, q2, d2) asn (ph, qh, dh) = r := ⟨_, rfl⟩
 have HRES : Hid ((if d2 = false then 2 else if (f (p2, q2, d2)).isSome = false then 1 else if ((p2, q2, d2) : Hd) = (p, q, d) then (if fdB ((f (p2, q2, d2)).getD nd0).es asn = true then 4 else 0)
  else if roomI f (p2, q2, d2) asn ≠ 0 ∨ dh = false then roomI f (p2, q2, d2) asn else wayI f (ph, qh, dh) 12 (p2, q2, d2)) = res) := hres
 rw [hres]
 generalize hth : (f (p2, q2, d2)).isSome = th at HRES
 have HT : Hid ((f (p2, q2, d2)).isSome = th) := hth
 obtain ⟨nd, hnd⟩ : ∃ nd, (f (p2, q2, d2)).getD nd0 = nd := ⟨_, rfl⟩
 rw [hnd] at HH HRES HA hl
 clear M hin hX r2 rx hat hres hnd hp hth
 obtain ⟨⟨s0, s1, s2⟩, ⟨s3, s4, s5⟩, lk, vl, es⟩ := nd
 dsimp only at HH HRES HA hl
 generalize fdB es asn = bh at HH HRES
 generalize roomI f (p2, q2, d2) asn = rm at HR HRES
 generalize wayI f (ph, qh, dh) 12 (p2, q2, d2) = wy at HW HRES
 generalize asn.length = yn at *
 generalize es.length = m at *
 have hdec : d2 = false ∨ d2 = true ∧ (th = false ∨ th = true ∧ (((p2, q2, d2) : Hd) = (p, q, d) ∨ ¬ ((p2, q2, d2) : Hd) = (p, q, d))) := by cases d2 <;> cases th <;> simp <;> exact Classical.em _
 go_enter Tryz.func119, Tryz.ntmps119
 rcases hdec with rfl | ⟨rfl, rfl | ⟨rfl, hq | hq⟩⟩
 case inl =>
  go_wp2_with (at_lookup; refine wpList_lookOkX _ rfl (.tmp 11) (.tmp 13) rfl b s f X rfl (HM.out _ (by repeat (first | exact Below.refl _ _ | refine Below.al2 ?_ _))) (p2, q2, _) HI.out rfl ?_; rw [HA.out, HT.out])
  go_ret
  exact ⟨by rw [← HRES.out]; rfl, by repeat (first | exact Below.refl _ _ | refine Below.al2 ?_ _)⟩
 case inr.inl =>
  go_wp2_with (at_lookup; refine wpList_lookOkX _ rfl (.tmp 11) (.tmp 13) rfl b s f X rfl (HM.out _ (by repeat (first | exact Below.refl _ _ | refine Below.al2 ?_ _))) (p2, q2, _) HI.out rfl ?_; rw [HA.out, HT.out])
  go_ret
  exact ⟨by rw [← HRES.out]; rfl, by repeat (first | exact Below.refl _ _ | refine Below.al2 ?_ _)⟩
 case inr.inr.inl =>
  have heq : ∀ W : World, (binOp .eql 27 (.agg #[.i p2, .i q2, .bool true]) (.agg #[.i p, .i q, .bool d])).run Tryz.prog W = .ok (.bool true) W := fun W => by rw [eqH_run, decH_true hq]
  have HRES2 : Hid ((if bh = true then 4 else 0) = res) := by have h9 := HRES.out; rw [if_pos hq] at h9; exact h9
  clear HRES hq
  go_wp2_with (at_lookup; refine wpList_lookOkX _ rfl (.tmp 11) (.tmp 13) rfl b s f X rfl (HM.out _ (by repeat (first | exact Below.refl _ _ | refine Below.al2 ?_ _))) (p2, q2, _) HI.out rfl ?_; rw [HA.out, HT.out])
  refine gen_world (P := fun W => Code.wp _ _ _ _ W) (fun W => VarA W w.heap.size 29 #[.i kd, .i p, .i q, .bool d, .slice za zn zc, .i p2, .i q2, .bool true, .slice ya yn yc, .i ov] ∧ Below w.heap.size w W) ⟨((VarA.new w _ _).alloc _).alloc _, (by repeat (first | exact Below.refl _ _ | refine Below.al2 ?_ _))⟩ ?_
  rintro wr ⟨vO, hbel⟩
  haveI : Nonempty (Cls wr) := Cls.ne wr
  have k5 := Cls.cell vO.lt (vO.c 5 rfl)
  have k6 := Cls.cell vO.lt (vO.c 6 rfl)
  have k7 := Cls.cell vO.lt (vO.c 7 rfl)
  have k8 := Cls.cell vO.lt (vO.c 8 rfl)
  have kl : ∀ i : Cls wr, (Instr.lookup 69 (.map (some b)) (.agg #[.i p2, .i q2, .bool true]) false).run Tryz.prog i.W = .ok (.agg #[.i s0, .i s1, .bool s2, .i s3, .i s4, .bool s5, .i lk, .i vl, .slice a m cap]) i.W := fun i => by
   have h9 := lookX_run (HM.out _ (hbel.trans (i.h.mono hbel.size))) HI.out
   rw [HA.out] at h9
   exact h9
  clear vO
  refine wp_region_cls (by kernel_rfl) (by kernel_rfl) ?_
  repeat (go_big_quiet_step (first | (go_at_call 132; exact Calls.cls (HH.out _ (hbel.trans ((Cls.h _).mono hbel.size))))))
  refine wpQuiet_nil ?_
  rintro w' ⟨⟨w', hb'⟩, rfl⟩
  clear k5 k6 k7 k8 kl
  cases bh
  all_goals
   go_wp2
   go_ret
   exact ⟨by rw [← HRES2.out]; rfl, hbel.trans (hb'.mono hbel.size)⟩
 case inr.inr.inr =>
  have hne : ∀ W : World, (binOp .eql 27 (.agg #[.i p2, .i q2, .bool true]) (.agg #[.i p, .i q, .bool d])).run Tryz.prog W = .ok (.bool false) W := fun W => by rw [eqH_run, decH_false hq]
  have HRES2 : Hid ((if rm ≠ 0 ∨ dh = false then rm else wy) = res) := by have h9 := HRES.out; rw [if_neg hq] at h9; exact h9
  clear HRES hq
  go_wp2_with (at_lookup; refine wpList_lookOkX _ rfl (.tmp 11) (.tmp 13) rfl b s f X rfl (HM.out _ (by repeat (first | exact Below.refl _ _ | refine Below.al2 ?_ _))) (p2, q2, _) HI.out rfl ?_; rw [HA.out, HT.out])
  go_at_call 115
  refine Calls.mono (HR.out _ (by repeat (first | exact Below.refl _ _ | refine Below.al2 ?_ _))) ?_
  rintro e w1 ⟨rfl, hb1⟩
  have vO : VarA w1 w.heap.size 29 #[.i kd, .i p, .i q, .bool d, .slice za zn zc, .i p2, .i q2, .bool true, .slice ya yn yc, .i ov] := (((VarA.new w _ _).alloc _).alloc _).step hb1
  have vH : VarA w1 (w.heap.size + 1) 27 #[.i ph, .i qh, .bool dh] := ((by simpa using VarA.new (w.alloc _) 27 _ : VarA ((w.alloc _).alloc (.cells #[.i ph, .i qh, .bool dh] 27)) (w.heap.size + 1) _ _).alloc _).step hb1
  have HB1 : Hid (Below w.heap.size w w1) := (show Below w.heap.size w (((w.alloc _).alloc _).alloc _) by repeat (first | exact Below.refl _ _ | refine Below.al2 ?_ _)).trans (hb1.mono (by simp <;> omega))
  have k5 := vO.c 5 rfl
  have k6 := vO.c 6 rfl
  have k7 := vO.c 7 rfl
  obtain ⟨c0, c1, c2⟩ := vH.l3
  dsimp at k5 k6 k7
  clear vO vH hb1
  rcases (show ¬ rm = 0 ∨ rm = 0 ∧ (dh = false ∨ dh = true) by cases dh <;> simp <;> omega) with hr | ⟨rfl, rfl | rfl⟩
  ·have HF : Hid (rm = res) := by have h9 := HRES2.out; rw [if_pos (Or.inl hr)] at h9; exact h9
   have hr1 : (rm == 0) = false := by simpa using hr
   have hr2 : (rm != 0) = true := by simpa using hr
   go_wp2
   go_ret
   exact ⟨by rw [← HF.out]; rfl, HB1.out⟩
  ·have HF : Hid ((0 : Int) = res) := by have h9 := HRES2.out; rw [if_pos (Or.inr rfl)] at h9; exact h9
   go_wp2
   go_ret
   exact ⟨by rw [← HF.out]; rfl, HB1.out⟩
  ·have HF : Hid (wy = res) := by have h9 := HRES2.out; rw [if_neg (by simp)] at h9; exact h9
   go_wp2_with (go_at_call 135; refine Calls.mono (HW.out _ HB1.out) ?_; rintro e w2 ⟨rfl, hb2⟩)
   go_ret
   exact ⟨by rw [← HF.out]; rfl, HB1.out.trans (hb2.mono HB1.out.size)⟩
end
section
open Go.Maps
def climbAt (f : Hd → Option Nd) (s : Nat) (l : List Nd) (i : Nat) : Bool := !(l[i]?.getD nd0).h.dir || climb f s (l[i]?.getD nd0).h

set_option maxRecDepth 100000 in
set_option maxHeartbeats 1000000 in
theorem allCome_any (x : Value) (l : List Nd) (S : Nat → Prop) (b0 s : Nat) (f : Hd → Option Nd) (w : World) (r : RdV w S x (ndsDt l)) (hl : l.length ≤ 2097152) (M : MapH ndP w b0 s f) (hs : s ≤ 2097152) (hin : ∀ i, i < l.length → HIn (l[i]?.getD nd0).h) (hp : ∀ g n, f g = some n → HIn n.par) :
    Calls Tryz.prog 52 #[.map (some b0), x] w fun e w' => e = .returned (.bool ((List.range l.length).all (climbAt f s l))) ∧ Below w.heap.size w w' := by
  obtain ⟨a, cap, rfl, _⟩ := RdV.sliced r
  have HR : Hid (∀ W, Below w.heap.size w W → RdV W S (.slice a l.length cap) (.rows 75 9 l.length (fun i j => ndCell (l[i]?.getD nd0) j))) := RdV.old r
  have hbs := M.lt
  have HC : Hid (∀ W, Below w.heap.size w W → ∀ h, HIn h → Calls Tryz.prog 98 #[.map (some b0), h.v] W fun e w' => e = .returned (.bool (climb f s h)) ∧ Below W.heap.size W w') := fun W hW h hh => comesToRoot_any b0 s f h W (M.blk (hW.block b0 hbs)) hs hh hp
  obtain ⟨n, hn⟩ : ∃ n, l.length = n := ⟨_, rfl⟩
  have HIN : Hid (∀ i, i < l.length → HIn (l[i]?.getD nd0).h) := hin
  rw [hn] at hl HR HIN ⊢
  clear r hn hin hp M hs hbs
  go_enter Tryz.func52, Tryz.ntmps52
  go_wp2
  go_loopw [9] (fun i wr => ∃ k : Nat, k ≤ n ∧ i = .i k ∧ Below w.heap.size w wr ∧ Hid ((List.range k).all (climbAt f s l) = true)) (fun i _ => n - (intOf i).toNat)
  case atStart => exact ⟨0, Nat.zero_le _, rfl, Below.refl _ _, by show _ = _; simp⟩
  case round =>
    obtain ⟨k, hk, rfl, hbel, HA⟩ := hrel
    by_cases hlt : k < n
    case neg =>
      have he : k = n := by omega
      subst he
      go_wp2
      go_ret
      exact ⟨by rw [HA.out]; rfl, hbel⟩
    obtain ⟨b, off, rfl, hbl, _, hx⟩ := RdV.at (HR.out wr hbel) hlt
    obtain ⟨x0, g0, s0⟩ := hx 0 (by omega)
    obtain ⟨x1, g1, s1⟩ := hx 1 (by omega)
    obtain ⟨x2, g2, s2⟩ := hx 2 (by omega)
    obtain ⟨x3, g3, s3⟩ := hx 3 (by omega)
    obtain ⟨x4, g4, s4⟩ := hx 4 (by omega)
    obtain ⟨x5, g5, s5⟩ := hx 5 (by omega)
    obtain ⟨x6, g6, s6⟩ := hx 6 (by omega)
    obtain ⟨x7, g7, s7⟩ := hx 7 (by omega)
    obtain ⟨x8, g8, s8⟩ := hx 8 (by omega)
    have HIK := HIN.out k hlt
    have HAT : Hid (climbAt f s l k = (!(l[k]?.getD nd0).h.dir || climb f s (l[k]?.getD nd0).h)) := by show _ = _; rfl
    generalize l[k]?.getD nd0 = e at *
    obtain ⟨⟨p, q, d⟩, ⟨p2, q2, d2⟩, lk, vl, es⟩ := e
    obtain rfl : x0 = .i p := s0
    obtain rfl : x1 = .i q := s1
    obtain rfl : x2 = .bool d := s2
    obtain rfl : x3 = .i p2 := s3
    obtain rfl : x4 = .i q2 := s4
    obtain rfl : x5 = .bool d2 := s5
    obtain rfl : x6 = .i lk := s6
    obtain rfl : x7 = .i vl := s7
    obtain ⟨xa, xc, rfl, _⟩ := RdV.sliced s8
    simp only [Nat.add_zero] at g0
    generalize es.length = xn at *
    have HI : Hid (HIn (p, q, d)) := HIK
    clear HIK hx s8 HIN
    cases d with
    | false =>
      have HF : Hid ((List.range (k + 1)).all (climbAt f s l) = true) := range_all_next _ _ HA.out (by rw [HAT.out]; rfl)
      clear HAT HA HC
      go_wp2
      first
      | exact ⟨⟨k + 1, by omega, by go_num, hbel.alloc hbel.size _, HF.out⟩, by simp [intOf]; omega⟩
      | (go_roundw
         case rel => exact ⟨k + 1, by omega, by go_num, hbel.alloc hbel.size _, HF.out⟩
         case measure => simp [intOf]; omega)
    | true =>
      have HX : Hid (∀ W, Below w.heap.size w W → _) := fun W hW => HC.out W hW (p, q, true) HI.out
      obtain ⟨bc, hbc⟩ : ∃ bc, climb f s (p, q, true) = bc := ⟨_, rfl⟩
      have HAT2 : Hid (climbAt f s l k = bc) := by rw [HAT.out]; show _ = _; rw [← hbc]; rfl
      rw [hbc] at HX
      clear hbc HAT HC
      have HB : Hid (Below w.heap.size w (wr.alloc (.cells #[.i p, .i q, .bool true, .i p2, .i q2, .bool d2, .i lk, .i vl, .slice xa xn xc] 75))) := hbel.alloc hbel.size _
      go_wp2_with fail
      refine Calls.mono (HX.out _ HB.out) ?_
      rintro e w3 ⟨rfl, b_⟩
      have hb4 := HB.out.trans (b_.mono HB.out.size)
      clear HX HB b_ g0 g1 g2 g3 g4 g5 g6 g7 g8
      cases bc with
      | false =>
        have HF : Hid ((List.range n).all (climbAt f s l) = false) := range_all_false _ _ k hlt HAT2.out
        clear HAT2 HA
        go_wp2
        go_ret
        exact ⟨by rw [HF.out]; rfl, hb4⟩
      | true =>
        have HF : Hid ((List.range (k + 1)).all (climbAt f s l) = true) := range_all_next _ _ HA.out HAT2.out
        clear HAT2 HA
        go_wp2
        first
        | exact ⟨⟨k + 1, by omega, by go_num, hb4, HF.out⟩, by simp [intOf]; omega⟩
        | (go_roundw
           case rel => exact ⟨k + 1, by omega, by go_num, hb4, HF.out⟩
           case measure => simp [intOf]; omega)
end
section
open Go.Maps
def intP (n : Nat) (v : Value) : Prop := v = .i n
def cmap (es : List En) (h : Hd) : Option Nat := if cntE es h = 0 then none else some (cntE es h)
def seen (l : List Nd) (k m : Nat) : List En := (l.take k).flatMap (·.es) ++ ((l[k]?.getD nd0).es.take m)
def leadE (f : Hd → Option Nd) (n : Nd) (e : En) : Bool := match f e.h with | none => false | some a => !e.h.dir || decide (a.par = n.h)
def leadN (f : Hd → Option Nd) (l : List Nd) (i : Nat) : Bool := (l[i]?.getD nd0).es.all (leadE f (l[i]?.getD nd0))
def wantN (n : Nd) : Int := if n.h = rootH then 0 else n.links
def ledN (l : List Nd) (i : Nat) : Bool := decide ((cntE (l.flatMap (·.es)) (l[i]?.getD nd0).h : Int) = wantN (l[i]?.getD nd0))
def leadR (f : Hd → Option Nd) (l : List Nd) : Bool := (List.range l.length).all (leadN f l) && (List.range l.length).all (ledN l)

theorem cmap_next (es : List En) (e : En) : (fun g => if g = e.h then some (cntE es e.h + 1) else cmap es g) = cmap (es ++ [e]) := by
 funext g
 unfold cmap cntE
 by_cases h : g = e.h
 ·subst h; simp [List.countP_append]
 ·have h2 : ¬ e.h = g := fun x => h x.symm
  simp [List.countP_append, h, h2]
theorem zeroI (w : World) : (zeroValue 3).run Tryz.prog w = .ok (.i 0) w := by kernel_rfl
theorem MapH.lookI {w : World} {b s : Nat} {es : List En} (m : MapH intP w b s (cmap es)) {t : TypeId} (ht : Tryz.prog.underlying t = some (.map 27 3)) {h : Hd} (hh : HIn h) : (Instr.lookup t (.map (some b)) h.v false).run Tryz.prog w = .ok (.i (cntE es h)) w := by
 obtain ⟨v, hrun, r1, r2⟩ := m.look ht (zeroI w) hh
 have hv : v = .i (cntE es h) := by
  by_cases hc : cntE es h = 0
  ·rw [r1 (by unfold cmap; rw [if_pos hc]), hc]; rfl
  ·exact r2 _ (by unfold cmap; rw [if_neg hc])
 rw [hrun, hv]
theorem seen_next (l : List Nd) (k m : Nat) (hm : m < (l[k]?.getD nd0).es.length) : seen l k (m + 1) = seen l k m ++ [(l[k]?.getD nd0).es[m]?.getD en0] := by
 unfold seen
 rw [List.append_assoc, ← List.take_append_getElem hm, List.getElem?_eq_getElem hm]; rfl
theorem seen_row (l : List Nd) (k : Nat) (hk : k < l.length) : seen l k (l[k]?.getD nd0).es.length = seen l (k + 1) 0 := by
 unfold seen
 rw [List.take_length, List.take_zero, List.append_nil, ← List.take_append_getElem hk, List.flatMap_append, List.getElem?_eq_getElem hk]; simp
theorem seen_all (l : List Nd) : seen l l.length 0 = l.flatMap (·.es) := by unfold seen; simp
theorem cmap_nil (l : List Nd) : cmap (seen l 0 0) = fun _ => none := by funext g; simp [seen, cmap, cntE]
theorem flat_len (l : List Nd) (h : ∀ i, i < l.length → (l[i]?.getD nd0).es.length ≤ 12) : ∀ k, k ≤ l.length → ((l.take k).flatMap (·.es)).length ≤ 12 * k
 | 0, _ => by simp
 | k + 1, hk => by
  have ih := flat_len l h k (by omega)
  have h1 := h k (by omega)
  rw [List.getElem?_eq_getElem (by omega)] at h1
  have h2 : l.take (k + 1) = l.take k ++ [l[k]] := (List.take_append_getElem (by omega)).symm
  rw [h2, List.flatMap_append, List.length_append]
  have h3 : ([l[k]].flatMap (·.es)).length ≤ 12 := by simpa using h1
  omega
theorem cnt_seen (l : List Nd) (h : ∀ i, i < l.length → (l[i]?.getD nd0).es.length ≤ 12) (k m : Nat) (hk : k < l.length) (g : Hd) : cntE (seen l k m) g ≤ 12 * k + 12 := by
 have h1 := flat_len l h k (by omega)
 have h2 : cntE (seen l k m) g ≤ (seen l k m).length := List.countP_le_length
 have h3 : (seen l k m).length ≤ 12 * k + 12 := by
  unfold seen
  rw [List.length_append, List.length_take]
  have := h k hk
  omega
 omega
end
end Go.Proofs.YtcicadfhfojdpaaGreat
