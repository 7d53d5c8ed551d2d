/- Joined: SpecD12 WMsg0 WMsg1h WMsg1a WMsg1d PBackS. -/
import Derived.Test.YtklhikadhohjbaaGreatMSpecD11
import Derived.Test.YtklhikadhohjbaaGreatMA01
import Derived.Test.YtklhikadhohjbaaGreatMA03
import Derived.Test.YtklhikadhohjbaaGreatMWOk3
import Derived.Test.YtklhikadhohjbaaGreatMA02

namespace Go.Proofs.YtklhikadhohjbaaGreat
open Go.RowKit
set_option linter.unusedVariables false
set_option linter.unusedSimpArgs false
set_option maxRecDepth 100000
section
abbrev LT (lo tb : Nat) : Nat → Prop := fun b => lo ≤ b ∧ b ≠ tb
def TV (w : World) (tb lo : Nat) (L : Nat → Prop) (l : List Nd) : Prop := ∃ v, VarA w tb 55 #[v] ∧ SG w lo L v l ∧ v.ownBlock ≠ some tb
def Small (l : List Nd) : Prop := l.length ≤ 3000 ∧ ∀ i : Nat, (l[i]?.getD nd0).es.length ≤ 4000 ∧ 0 ≤ (l[i]?.getD nd0).links ∧ (l[i]?.getD nd0).links ≤ 2147483647
theorem SG.rd {w : World} {lo : Nat} {L : Nat → Prop} {v : Value} {l : List Nd} (s : SG w lo L v l) : RdV w (fun b => b < w.heap.size) v (ndsDt l) := by
 obtain ⟨V, C, h1, h2, h3⟩ := s
 unfold ndsDt
 refine RdV.mkRows _ ?_
 rcases h1.2 with ⟨hv, h0⟩ | ⟨g, c, cur, hv, hg, hh, hnc, hm, _⟩
 ·subst hv
  rw [h0]
  exact ⟨none, 0, fun _ _ => undef, rfl, ⟨Nat.le_refl _, Nat.zero_le _, fun _ => ⟨rfl, rfl⟩⟩, .inl rfl, fun i j hi => absurd hi (Nat.not_lt_zero _)⟩
 ·subst hv
  refine ⟨some ⟨g, 0, none⟩, c, fun i j => ndVal (l[i]?.getD nd0) (V i) j, rfl, ⟨hnc, hm, fun e => by cases e⟩, .inr ⟨g, 0, rfl, lt_of_block hh, lt_of_block hh, fun i j hi hj => ?_⟩, fun i j hi hj => ?_⟩
  ·rw [Nat.zero_add, World.ownsRow.cellAt h1 (i * 9 + j) (place_lt hi hj)]
   exact h2 i j hi hj
  ·match j, hj with
   | 0, _ => rfl
   | 1, _ => rfl
   | 2, _ => rfl
   | 3, _ => rfl
   | 4, _ => rfl
   | 5, _ => rfl
   | 6, _ => rfl
   | 7, _ => rfl
   | 8, _ => exact RdV.mono (fun b hb => hb.2.1) (h3 i hi)
theorem SG.callE {w W : World} {lo g cap : Nat} {L : Nat → Prop} {l : List Nd} (s : SG w lo L (.slice (some ⟨g, 0, none⟩) l.length cap) l) (hL : ∀ b, w.heap.size ≤ b → L b) {d : Nat} (hd : d < l.length) {x : Value} {es : List En} (hB : Below w.heap.size w W) (hg : g < w.heap.size)
  (hx : RdV W (fun b => ((L b ∧ b < w.heap.size ∧ b ≠ g) ∨ w.heap.size ≤ b) ∧ b < W.heap.size) x (ensDt es)) : SG (W.setCell ⟨g, d * 9 + 8, none⟩ x) lo L (.slice (some ⟨g, 0, none⟩) l.length cap) (l.set d ((l[d]?.getD nd0).setEs es)) :=
 SG.setE (s.step hB) hd (RdV.mono (fun b hb => ⟨hb.1.elim (fun h => h.1) (fun h => hL b h), hb.2, hb.1.elim (fun h => h.2.2) (fun h => by omega)⟩) hx)
theorem length_cutE (es : List En) (e : Nat) : (cutE es e).length ≤ es.length := by unfold cutE; simp; omega
def Nd.setLk (n : Nd) (k : Int) : Nd := ⟨n.h, n.par, k, n.val, n.es⟩
def Nd.setVal (n : Nd) (k : Int) : Nd := ⟨n.h, n.par, n.links, k, n.es⟩
def Nd.setPar (n : Nd) (h : Hd) : Nd := ⟨n.h, h, n.links, n.val, n.es⟩
theorem SG.setLk {L : Nat → Prop} {w : World} {lo g cap m : Nat} {l : List Nd} (s : SG w lo L (.slice (some ⟨g, 0, none⟩) m cap) l) {d : Nat} (hd : d < l.length) (k : Int) : SG (w.setCell ⟨g, d * 9 + 6, none⟩ (.i k)) lo L (.slice (some ⟨g, 0, none⟩) m cap) (l.set d ((l[d]?.getD nd0).setLk k)) :=
 SG.setN s hd (by omega) rfl (fun _ => rfl) (fun x j' h1 h2 => by
  match j', h1 with
  | 0, _ => rfl
  | 1, _ => rfl
  | 2, _ => rfl
  | 3, _ => rfl
  | 4, _ => rfl
  | 5, _ => rfl
  | 6, _ => omega
  | 7, _ => rfl)
theorem SG.setVal {L : Nat → Prop} {w : World} {lo g cap m : Nat} {l : List Nd} (s : SG w lo L (.slice (some ⟨g, 0, none⟩) m cap) l) {d : Nat} (hd : d < l.length) (k : Int) : SG (w.setCell ⟨g, d * 9 + 7, none⟩ (.i k)) lo L (.slice (some ⟨g, 0, none⟩) m cap) (l.set d ((l[d]?.getD nd0).setVal k)) :=
 SG.setN s hd (by omega) rfl (fun _ => rfl) (fun x j' h1 h2 => by
  match j', h1 with
  | 0, _ => rfl
  | 1, _ => rfl
  | 2, _ => rfl
  | 3, _ => rfl
  | 4, _ => rfl
  | 5, _ => rfl
  | 6, _ => rfl
  | 7, _ => omega)
theorem SG.setPar {L : Nat → Prop} {w : World} {lo g cap m : Nat} {l : List Nd} (s : SG w lo L (.slice (some ⟨g, 0, none⟩) m cap) l) {d : Nat} (hd : d < l.length) (h : Hd) : SG (((w.setCell ⟨g, d * 9 + 3, none⟩ (.i h.sh)).setCell ⟨g, d * 9 + 4, none⟩ (.i h.ino)).setCell ⟨g, d * 9 + 5, none⟩ (.bool h.dir)) lo L (.slice (some ⟨g, 0, none⟩) m cap) (l.set d ((l[d]?.getD nd0).setPar h)) := by
 have s1 := SG.setN s hd (j := 3) (u := .i h.sh) (n := (l[d]?.getD nd0).setPar (h.sh, (l[d]?.getD nd0).par.ino, (l[d]?.getD nd0).par.dir)) (by omega) rfl (fun _ => rfl) (fun x j' h1 h2 => by
  match j', h1 with
  | 0, _ => rfl
  | 1, _ => rfl
  | 2, _ => rfl
  | 3, _ => omega
  | 4, _ => rfl
  | 5, _ => rfl
  | 6, _ => rfl
  | 7, _ => rfl)
 have s2 := SG.setN s1 (d := d) (by simpa using hd) (j := 4) (u := .i h.ino) (n := (l[d]?.getD nd0).setPar (h.sh, h.ino, (l[d]?.getD nd0).par.dir)) (by omega) (by rw [List.getElem?_set_self hd]; rfl) (fun _ => rfl) (fun x j' h1 h2 => by
  rw [List.getElem?_set_self hd]
  match j', h1 with
  | 0, _ => rfl
  | 1, _ => rfl
  | 2, _ => rfl
  | 3, _ => rfl
  | 4, _ => omega
  | 5, _ => rfl
  | 6, _ => rfl
  | 7, _ => rfl)
 rw [List.set_set] at s2
 have s3 := SG.setN s2 (d := d) (by simpa using hd) (j := 5) (u := .bool h.dir) (n := (l[d]?.getD nd0).setPar h) (by omega) (by rw [List.getElem?_set_self hd]; rfl) (fun _ => rfl) (fun x j' h1 h2 => by
  rw [List.getElem?_set_self hd]
  match j', h1 with
  | 0, _ => rfl
  | 1, _ => rfl
  | 2, _ => rfl
  | 3, _ => rfl
  | 4, _ => rfl
  | 5, _ => omega
  | 6, _ => rfl
  | 7, _ => rfl)
 rw [List.set_set] at s3
 exact s3
def cutN (l : List Nd) (d e : Nat) : List Nd := l.set d ((l[d]?.getD nd0).setEs (cutE (l[d]?.getD nd0).es e))
def addN (l : List Nd) (d : Nat) (nm : List Int) (h : Hd) : List Nd := l.set d ((l[d]?.getD nd0).setEs (addE (l[d]?.getD nd0).es nm h))
def lkN (l : List Nd) (k : Nat) (c : Int) : List Nd := l.set k ((l[k]?.getD nd0).setLk ((l[k]?.getD nd0).links + c))
def outN (l : List Nd) (k : Nat) : List Nd := l.take k ++ l.drop (k + 1)
def dropD (l : List Nd) (d e : Nat) (h : Hd) : List Nd × Int :=
 if h.dir = true ∧ 0 < (l[fi l h]?.getD nd0).es.length then (l, 7) else
 if ((cutN l d e)[fi l h]?.getD nd0).links - 1 = 0 then (outN (lkN (cutN l d e) (fi l h) (-1)) (fi l h), 0) else (lkN (cutN l d e) (fi l h) (-1), 0)
end
section
def isEndB (n : Int) : Bool := decide (0 ≤ n) && decide (n < 8)
def isCd (n : Int) : Bool := decide (0 ≤ n) && decide (n ≤ 11)
def zOp (o : OpD) : Bool := decide (o.kind = 0) && (decide (o.dir = hd0) && (decide (o.nm.length = 0) && (decide (o.to = hd0) && (decide (o.asn.length = 0) && decide (o.val = 0)))))
def zRp (r : RpD) : Bool := decide (r.code = 0) && (decide (r.h = hd0) && (decide (r.val = 0) && decide (r.list.length = 0)))
def zPt (p : PtD) : Bool := decide (p.kind = 0) && (decide (p.h = hd0) && (decide (p.asn.length = 0) && decide (p.to = hd0)))
def zTx (t : TxD) : Bool := decide (t = tx0)
def MBody (m : MsD) : Bool :=
 if m.kind = 0 then (num m.req && OOk m.op) && (zRp m.rp && (zTx m.tx && (zPt m.pt && (decide (m.code = 0) && decide (m.h = hd0)))))
 else if m.kind = 1 then (num m.req && ROk m.rp) && (zOp m.op && (zTx m.tx && (zPt m.pt && (decide (m.code = 0) && decide (m.h = hd0)))))
 else if m.kind = 2 then (TOk m.tx && POk m.pt) && (decide (m.req = 0) && (zOp m.op && (zRp m.rp && (decide (m.code = 0) && decide (m.h = hd0)))))
 else if m.kind = 3 then (TOk m.tx && (POk m.pt && (isCd m.code && noneOk m.h))) && (decide (m.req = 0) && (zOp m.op && zRp m.rp))
 else if m.kind = 4 then TOk m.tx && (decide (m.req = 0) && (zOp m.op && (zRp m.rp && (zPt m.pt && (decide (m.code = 0) && decide (m.h = hd0))))))
 else if m.kind = 5 then (TOk m.tx && (decide (m.code = 0) || decide (m.code = 1))) && (decide (m.req = 0) && (zOp m.op && (zRp m.rp && (zPt m.pt && decide (m.h = hd0)))))
 else if m.kind = 6 then (TOk m.tx && (num m.req && (HOk m.h && m.h.dir))) && (zOp m.op && (zRp m.rp && (zPt m.pt && decide (m.code = 0))))
 else (TOk m.tx && (num m.req && (isCd m.code && noneOk m.h))) && (zOp m.op && (zRp m.rp && zPt m.pt))
def MOk (m : MsD) : Bool := (decide (0 ≤ m.kind) && decide (m.kind ≤ 7)) && ((isEndB m.fr && isEndB m.to) && MBody m)
theorem zOp_not {o : OpD} (h : zOp o = true) : OOk o = false := by
 simp only [zOp, Bool.and_eq_true, decide_eq_true_eq] at h
 have h1 : HOk o.dir = false := by rw [h.2.1]; decide
 simp [OOk, h1]
theorem specNode_w (n : Int) (w : World) : Calls Tryz.prog 55 #[.i n] w fun e w' => e = .returned (.bool (isEndB n)) ∧ w' = w := by
 go_enter Tryz.func55, Tryz.ntmps55
 go_wp2
 all_goals (go_ret; exact ⟨by first | rfl | (simp_all [isEndB]; done) | (simp_all [isEndB]; omega), rfl⟩)
set_option maxHeartbeats 2000000 in
theorem specZOp_any (x y : Value) (o : OpD) (S : Nat → Prop) (w : World) (r : RdV w S x (.bytes o.nm)) (r2 : RdV w S y (.bytes o.asn)) :
  Calls Tryz.prog 57 #[opV o x y] w fun e w' => e = .returned (.bool (zOp o)) ∧ Below w.heap.size w w' := by
 obtain ⟨a, cap, rfl⟩ := r.sliceB
 obtain ⟨a2, cap2, rfl⟩ := r2.sliceB
 obtain ⟨kd, ⟨p, q, d⟩, nm, ⟨p2, q2, d2⟩, asn, vl⟩ := o
 clear r r2
 simp only [zOp]
 generalize nm.length = n0 at *
 generalize asn.length = n1 at *
 go_enter Tryz.func57, Tryz.ntmps57
 go_wp2
 all_goals (go_ret; refine ⟨?_, by repeat (first | exact Below.refl _ _ | refine Below.al ?_ _ | refine below_drewN2 ?_ _)⟩; first | rfl | (simp_all [hd0, Hd.sh, Hd.ino, Hd.dir]; done) | (simp_all [hd0, Hd.sh, Hd.ino, Hd.dir]; omega) | (simp_all [hd0, Hd.sh, Hd.ino, Hd.dir]; rw [Bool.eq_iff_iff]; simp; done))
set_option maxHeartbeats 2000000 in
theorem specZPt_any (x : Value) (o : PtD) (S : Nat → Prop) (w : World) (r : RdV w S x (.bytes o.asn)) :
  Calls Tryz.prog 62 #[ptV o x] w fun e w' => e = .returned (.bool (zPt o)) ∧ Below w.heap.size w w' := by
 obtain ⟨a, cap, rfl⟩ := r.sliceB
 obtain ⟨kd, ⟨p, q, d⟩, nm, ⟨p2, q2, d2⟩⟩ := o
 clear r
 simp only [zPt]
 generalize nm.length = n0 at *
 go_enter Tryz.func62, Tryz.ntmps62
 go_wp2
 all_goals (go_ret; refine ⟨?_, by repeat (first | exact Below.refl _ _ | refine Below.al ?_ _ | refine below_drewN2 ?_ _)⟩; first | rfl | (simp_all [hd0, Hd.sh, Hd.ino, Hd.dir]; done) | (simp_all [hd0, Hd.sh, Hd.ino, Hd.dir]; omega) | (simp_all [hd0, Hd.sh, Hd.ino, Hd.dir]; rw [Bool.eq_iff_iff]; simp; done))
set_option maxHeartbeats 2000000 in
theorem specZRp_any (x : Value) (o : RpD) (S : Nat → Prop) (w : World) (r : RdV w S x (ensDt o.list)) :
  Calls Tryz.prog 59 #[rpV o x] w fun e w' => e = .returned (.bool (zRp o)) ∧ Below w.heap.size w w' := by
 obtain ⟨a, cap, rfl, _⟩ := RdV.sliced r
 obtain ⟨kd, ⟨p, q, d⟩, vl, es⟩ := o
 clear r
 simp only [zRp]
 generalize es.length = n0 at *
 go_enter Tryz.func59, Tryz.ntmps59
 go_wp2
 all_goals (go_ret; refine ⟨?_, by repeat (first | exact Below.refl _ _ | refine Below.al ?_ _ | refine below_drewN2 ?_ _)⟩; first | rfl | (simp_all [hd0, Hd.sh, Hd.ino, Hd.dir]; done) | (simp_all [hd0, Hd.sh, Hd.ino, Hd.dir]; omega) | (simp_all [hd0, Hd.sh, Hd.ino, Hd.dir]; rw [Bool.eq_iff_iff]; simp; done))
end
section
theorem VarA.ne {w : World} {b : Nat} {T : TypeId} {cs : Array Value} (h : VarA w b T cs) : Nonempty (Cls w) := Cls.ne w
theorem neT_run (p q d s i e : Int) (w : World) : (binOp .neq 31 (.agg #[.i p, .i q, .i d]) (.agg #[.i s, .i i, .i e])).run Tryz.prog w = .ok (.bool (!decide (p = s ∧ q = i ∧ d = e))) w := by
 by_cases h1 : p = s
 ·subst h1
  by_cases h2 : q = i
  ·subst h2
   by_cases h3 : d = e
   ·subst h3
    simp [go_sem]
   ·have g : (d == e) = false := by simpa using h3
    simp [go_sem, g, h3]
  ·have g : (q == i) = false := by simpa using h2
   simp [go_sem, g, h2]
 ·have g : (p == s) = false := by simpa using h1
  simp [go_sem, g, h1]
theorem vaOf {w w2 : World} {T : TypeId} {cs : Array Value} (h : w2 = w.alloc (.cells cs T)) : VarA w2 w.heap.size T cs := by rw [h]; exact VarA.new _ _ _
end
section
set_option maxRecDepth 100000
end
section
set_option maxRecDepth 100000
end
section
theorem Stands.pos {zs B : List Int} {p : Int} (h : Stands zs p B) : 0 ≤ p := by obtain ⟨A, r, _, rfl⟩ := h; omega
theorem took_end {zs : List Int} {s : Int} (t : Took zs 0 zs s) : s = zs.length := by
 obtain ⟨_, h1, h2, h3⟩ := t
 have := congrArg List.length h3
 simp at this
 omega
theorem num_r {n : Int} (h : num n = true) : NumR n := by simpa [num, NumR] using h
theorem cd_r {n : Int} (h : isCd n = true) : NumR n := by simp only [isCd, Bool.and_eq_true, decide_eq_true_eq] at h; exact ⟨h.1, by omega⟩
theorem bit_r {n : Int} (h : (decide (n = 0) || decide (n = 1)) = true) : NumR n := by simp only [Bool.or_eq_true, decide_eq_true_eq] at h; constructor <;> omega
theorem hd0_n : HdN hd0 := ⟨⟨by decide, by decide⟩, ⟨by decide, by decide⟩⟩
theorem HOk_n {h : Hd} (k : HOk h = true) : HdN h := by
 simp only [HOk, Bool.and_eq_true, decide_eq_true_eq] at k
 exact ⟨⟨k.1, by omega⟩, ⟨by omega, k.2.2.2⟩⟩
theorem none_n {h : Hd} (k : noneOk h = true) : HdN h := by
 simp only [noneOk, Bool.or_eq_true, decide_eq_true_eq] at k
 rcases k with rfl | k
 ·exact hd0_n
 ·exact HOk_n k
theorem TOk_n {t : TxD} (k : TOk t = true) : TxN t := by
 simp only [TOk, Bool.and_eq_true, decide_eq_true_eq] at k
 exact ⟨⟨k.1.1, by omega⟩, num_r k.2.1, num_r k.2.2⟩
theorem nm_40 {l : List Int} (k : isNm l = true) : l.length ≤ 40 := by
 simp only [isNm, Bool.and_eq_true, decide_eq_true_eq] at k
 omega
theorem OOk_n {o : OpD} (k : OOk o = true) : OpN o := by
 simp only [OOk, Bool.and_eq_true, decide_eq_true_eq] at k
 obtain ⟨⟨⟨k0, k1⟩, k2⟩, k3, k4, k5, k6⟩ := k
 refine ⟨⟨k0, by omega⟩, HOk_n k2, ?_, ?_, ?_, ?_⟩
 ·unfold nmB at k3
  split at k3
  ·exact nm_40 k3
  ·simp at k3; simp [k3]
 ·unfold toB at k4
  split at k4
  ·simp only [Bool.and_eq_true, decide_eq_true_eq] at k4
   exact ⟨⟨k4.1.1, by omega⟩, ⟨by omega, by omega⟩⟩
  ·split at k4
   ·exact HOk_n k4
   ·simp only [decide_eq_true_eq] at k4; rw [k4]; exact hd0_n
 ·unfold asB at k5
  split at k5
  ·exact nm_40 k5
  ·simp at k5; simp [k5]
 ·unfold vlB at k6
  split at k6
  ·simp only [Bool.and_eq_true, decide_eq_true_eq] at k6; exact k6
  ·simp only [decide_eq_true_eq] at k6; rw [k6]; exact ⟨by decide, by decide⟩
theorem POk_n {p : PtD} (k : POk p = true) : PtN p := by
 unfold POk at k
 have z : ∀ {l : List Int}, l.length = 0 → l.length ≤ 40 := fun h => by omega
 by_cases h0 : p.kind = 0
 ·rw [if_pos h0] at k
  simp only [Bool.and_eq_true, decide_eq_true_eq] at k
  exact ⟨⟨by omega, by omega⟩, HOk_n k.1, z k.2.1, by rw [k.2.2]; exact hd0_n⟩
 rw [if_neg h0] at k
 by_cases h1 : p.kind = 1
 ·rw [if_pos h1] at k
  simp only [Bool.and_eq_true, decide_eq_true_eq] at k
  exact ⟨⟨by omega, by omega⟩, HOk_n k.1.1, z k.2.1, by rw [k.2.2]; exact hd0_n⟩
 rw [if_neg h1] at k
 by_cases h2 : p.kind = 2
 ·rw [if_pos h2] at k
  simp only [Bool.and_eq_true, decide_eq_true_eq] at k
  exact ⟨⟨by omega, by omega⟩, ⟨⟨k.1.1.1, by omega⟩, ⟨by omega, by omega⟩⟩, z k.2.1, HOk_n k.2.2.1⟩
 rw [if_neg h2] at k
 by_cases h3 : p.kind = 3
 ·rw [if_pos h3] at k
  simp only [Bool.and_eq_true, decide_eq_true_eq] at k
  exact ⟨⟨by omega, by omega⟩, HOk_n k.1.1, nm_40 k.2.1, HOk_n k.2.2⟩
 rw [if_neg h3] at k
 by_cases h4 : p.kind = 4
 ·rw [if_pos h4] at k
  simp only [Bool.and_eq_true, decide_eq_true_eq] at k
  exact ⟨⟨by omega, by omega⟩, HOk_n k.1.1, z k.2.1, HOk_n k.2.2.1⟩
 rw [if_neg h4] at k
 by_cases h5 : p.kind = 5
 ·rw [if_pos h5] at k
  simp only [Bool.and_eq_true, decide_eq_true_eq] at k
  exact ⟨⟨by omega, by omega⟩, by rw [k.1]; exact hd0_n, z k.2.1, by rw [k.2.2]; exact hd0_n⟩
 ·rw [if_neg h5] at k; cases k
theorem ROk_n {r : RpD} (k : ROk r = true) : RpN r := by
 simp only [ROk, Bool.and_eq_true, decide_eq_true_eq] at k
 obtain ⟨⟨⟨c0, c1⟩, k1, k2, k3⟩, k4⟩ := k
 refine ⟨⟨c0, by omega⟩, none_n k2, num_r k1, k3, fun e he => ?_⟩
 obtain ⟨i, hi⟩ := List.getElem?_of_mem he
 have hl : i < r.list.length := by
  rcases Nat.lt_or_ge i r.list.length with h | h
  ·exact h
  ·rw [List.getElem?_eq_none h] at hi; cases hi
 have h := List.all_eq_true.1 k4 i (List.mem_range.2 hl)
 unfold enOkAt at h
 rw [hi] at h
 simp only [Option.getD_some, enOk, Bool.and_eq_true] at h
 exact ⟨nm_40 h.1, HOk_n h.2⟩
theorem zOp_eq {o : OpD} (h : zOp o = true) : o = op0 := by
 obtain ⟨a, b, c, d, e, f⟩ := o
 simp only [zOp, Bool.and_eq_true, decide_eq_true_eq, List.length_eq_zero_iff] at h
 obtain ⟨rfl, rfl, rfl, rfl, rfl, rfl⟩ := h
 rfl
theorem zRp_eq {o : RpD} (h : zRp o = true) : o = rp0 := by
 obtain ⟨a, b, c, d⟩ := o
 simp only [zRp, Bool.and_eq_true, decide_eq_true_eq, List.length_eq_zero_iff] at h
 obtain ⟨rfl, rfl, rfl, rfl⟩ := h
 rfl
theorem zPt_eq {o : PtD} (h : zPt o = true) : o = pt0 := by
 obtain ⟨a, b, c, d⟩ := o
 simp only [zPt, Bool.and_eq_true, decide_eq_true_eq, List.length_eq_zero_iff] at h
 obtain ⟨rfl, rfl, rfl, rfl⟩ := h
 rfl
theorem zTx_eq {t : TxD} (h : zTx t = true) : t = tx0 := by simpa [zTx] using h
end
end Go.Proofs.YtklhikadhohjbaaGreat
