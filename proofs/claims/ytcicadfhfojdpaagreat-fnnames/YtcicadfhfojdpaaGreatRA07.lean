/- Joined: DW7 IC29 DP7 DP8 DP9 TP1 TP2 TP3 TP4 TP6. -/
import Derived.Test.YtcicadfhfojdpaaGreatRDW4
import Derived.Test.YtcicadfhfojdpaaGreatRA06
import Derived.Test.YtcicadfhfojdpaaGreatRSpecD18
import Derived.Test.YtcicadfhfojdpaaGreatRA01
import Derived.Test.YtcicadfhfojdpaaGreatRA05
import Derived.Test.YtcicadfhfojdpaaGreatRImplT10
import Derived.Test.YtcicadfhfojdpaaGreatRTP5

namespace Go.Proofs.YtcicadfhfojdpaaGreat
open Go.RowKit
set_option linter.unusedVariables false
set_option linter.unusedSimpArgs false
set_option maxRecDepth 100000
section
def TrSaid (w : World) (pb : Nat) (e : Ending) (w' : World) : Prop :=
 ∃ ta tn tc l, e = .returned (.agg #[.slice ta tn tc]) ∧ RdV w' (fun b => w.heap.size ≤ b ∧ b < w'.heap.size) (.slice ta tn tc) (ndsO l) ∧ Sm (l, rc 0) ∧ CurAt w' pb ∧ w.grownBy w' (some pb)
structure TR (w wr : World) (pb tb N : Nat) (v : Value) (l : List Nd) : Prop where
 c : CurAt wr pb
 g : w.grownBy wr (some pb)
 vR : VarA wr w.heap.size 25 #[.n0]
 vT : VarA wr tb 25 #[v]
 r : RdV wr (fun b => w.heap.size < b ∧ b ≠ tb ∧ b < N) v (ndsO l)
 n : N ≤ wr.heap.size
 s : Sm (l, rc 0)
theorem TR.grow {w wc wd : World} {pb tb N : Nat} {v : Value} {l : List Nd} (m : TR w wc pb tb N v l) (hc : CurAt wd pb) (hg : wc.grownBy wd (some pb)) (hp : pb < w.heap.size) (hO : w.heap.size < tb) : TR w wd pb tb N v l :=
 have T := Turned.ofGrown (S := fun b => b = pb) hg (fun k hk => by cases hk; rfl)
 ⟨hc, grown_trans m.g hg, m.vR.turn T (by show w.heap.size ≠ pb; omega), m.vT.turn T (by show tb ≠ pb; omega), RdV.keep (T.keeps (fun b hb e => by omega)) m.r, Nat.le_trans m.n hg.size, m.s⟩
theorem TR.step {w wc wd : World} {pb tb N : Nat} {v : Value} {l : List Nd} (m : TR w wc pb tb N v l) (h : Below wc.heap.size wc wd) (hp : pb < w.heap.size) (hO : w.heap.size < tb) : TR w wd pb tb N v l := m.grow (m.c.below h) (grown_below h) hp hO
theorem TR.hP {w wc : World} {pb tb N : Nat} {v : Value} {l : List Nd} (m : TR w wc pb tb N v l) : ∀ i : Nat, i < l.length → HdR (l[i]?.getD nd0).h := fun i hi => (m.s.1 _ (getD_mem hi)).1
theorem TR.put3 {w wc wd : World} {pb tb N q : Nat} {v : Value} {l : List Nd} (m : TR w wc pb tb N v l) (t : Turned (fun b => b = q) wc wd) (hp : pb < w.heap.size) (hq : w.heap.size < q) (hqt : tb < q) (hN : N ≤ q) : TR w wd pb tb N v l :=
 ⟨cur_keep m.c t (by omega), grown_keep m.g t (by omega), m.vR.turn t (by show w.heap.size ≠ q; omega), m.vT.turn t (by show tb ≠ q; omega), RdV.keep (t.keeps (fun b hb e => by omega)) m.r, Nat.le_trans m.n t.size, m.s⟩
end
section
open Go.Maps
structure DoAg (l : List Nd) (o : OpD) (fr : Hd) : Prop where
 ok : FOk (atH l l.length)
 one : OneH l
 ins : ∀ i, i < l.length → HIn (l[i]?.getD nd0).h
 rep : (doF (atH l l.length) l.length o fr).2.2 = (dO l o fr).2
 mem : ∀ n, n ∈ (dO l o fr).1 ↔ (doF (atH l l.length) l.length o fr).1 n.h = some n
 srt : (dO l o fr).1.Pairwise (fun a b => byHd a.h b.h < 0)
 len : (dO l o fr).1.length ≤ 3000 ∧ (doF (atH l l.length) l.length o fr).2.1 ≤ 3000
 hin : ∀ g n, (doF (atH l l.length) l.length o fr).1 g = some n → HIn g
 op : OOk o = true
theorem implDoA (b s : Nat) (f : Hd → Option Nd) (o : OpD) (fr : Hd) (y z : Value) (S2 P : Nat → Prop) (w : World) (N : NM w b s f P) (ok : FOk f) (hin : HIn o.dir) (hito : HIn o.to) (hfr : HIn fr) (r2 : RdV w S2 y (.bytes o.nm)) (r3 : RdV w S2 z (.bytes o.asn)) (hS2 : ∀ c, S2 c → ¬ P c) (hSS : ∀ c, S2 c → c < w.heap.size) (hnm : o.nm.length ≤ 2097152) (hna : o.asn.length ≤ 2097152) (hs : s ≤ 2097000) (hok : OOk o = true) :
  Calls Tryz.prog 37 #[.map (some b), opV o y z, fr.v] w (DSub w b P (doF f s o fr)) := by
 have hk := OOk_kind hok
 rcases kinds hk.1 hk.2 with h | h | h | h | h | h | h | h
 ·exact implDo0 b s f o fr y z S2 P w N ok hin hito hfr r2 r3 hS2 hSS hnm hna hs hok h
 ·exact implDo1 b s f o fr y z S2 P w N ok hin hito hfr r2 r3 hS2 hSS hnm hna hs hok h
 ·exact implDo2 b s f o fr y z S2 P w N ok hin hito hfr r2 r3 hS2 hSS hnm hna hs hok h
 ·exact implDo3 b s f o fr y z S2 P w N ok hin hito hfr r2 r3 hS2 hSS hnm hna hs hok h
 ·exact implDo4 b s f o fr y z S2 P w N ok hin hito hfr r2 r3 hS2 hSS hnm hna hs hok h
 ·exact implDo5 b s f o fr y z S2 P w N ok hin hito hfr r2 r3 hS2 hSS hnm hna hs hok h
 ·exact implDo6 b s f o fr y z S2 P w N ok hin hito hfr r2 r3 hS2 hSS hnm hna hs hok h
 ·exact implDo7 b s f o fr y z S2 P w N ok hin hito hfr r2 r3 hS2 hSS hnm hna hs hok h
theorem NM.copied {w w' : World} {a : Option Addr} {n c : Nat} {l : List Nd} {lo : Nat} (ho : OneH l) (o : OwV w (fun b => lo ≤ b ∧ b < w.heap.size) (.slice a n c) (ndsDt l)) (hin : ∀ i, i < l.length → HIn (l[i]?.getD nd0).h) (hl : l.length ≤ 2097152) :
  ∃ X, EntsAt w (.slice a n c) l X ∧ ∀ w', Below w.heap.size w w' → w.heap.size < w'.heap.size → MapH (ndX X) w' w.heap.size l.length (atH l l.length) → NM w' w.heap.size l.length (atH l l.length) (fun c => lo ≤ c ∧ c < w.heap.size ∨ c = w.heap.size) := by
 obtain ⟨X, Q, h1, h2, h3, h4⟩ := entsX ho o
 refine ⟨X, h1, fun w' hb hlt M => ?_⟩
 have key : ∀ g k, atH l l.length g = some k → ∃ i, i < l.length ∧ l[i]?.getD nd0 = k ∧ k.h = g := by
  intro g k hk
  rw [atH_fi] at hk
  by_cases hfi : fi l g < l.length
  ·rw [if_pos hfi] at hk
   exact ⟨fi l g, hfi, Option.some.inj hk, by rw [← Option.some.inj hk]; exact fi_h hfi⟩
  ·rw [if_neg hfi] at hk; cases hk
 refine ⟨X, Q, M, ?_, ?_, ?_, ?_, .inr rfl, ?_⟩
 ·intro g k hk
  obtain ⟨i, _, _, h⟩ := key g k hk
  exact h
 ·intro g k hk
  obtain ⟨i, hi, he, h⟩ := key g k hk
  have := h2 i hi
  rw [he, h] at this
  exact this.step hb
 ·intro g k c hk hc
  obtain ⟨i, hi, he, h⟩ := key g k hk
  have := h3 i c hi (by rw [he, h]; exact hc)
  exact ⟨.inl this.1, by have := this.1.2; omega⟩
 ·intro g g' k k' c hk hk' hc hc'
  obtain ⟨i, hi, he, h⟩ := key g k hk
  obtain ⟨i', hi', he', h'⟩ := key g' k' hk'
  have := h4 i i' c hi hi' (by rw [he, h]; exact hc) (by rw [he', h']; exact hc')
  subst this
  rw [← h, ← h', ← he, ← he']
 ·intro c hc
  rcases hc with hc | hc <;> omega
theorem op_in {o : OpD} (h : OOk o = true) : HIn o.dir ∧ HIn o.to := by
 unfold OOk at h
 simp only [Bool.and_eq_true] at h
 refine ⟨HOk.inn h.1.2, ?_⟩
 have ht := h.2.2.1
 unfold toB at ht
 split at ht
 ·simp only [Bool.and_eq_true, decide_eq_true_eq] at ht
  exact ⟨WalkArith.wf_i64 (by omega), WalkArith.wf_i64 (by omega)⟩
 split at ht
 ·exact HOk.inn ht
 ·rw [of_decide_eq_true ht]; exact hd0_in
def DoI (w : World) (res : List Nd × RpD) (e : Ending) (w' : World) : Prop :=
 ∃ ta tn tc ra rn rc, ∃ (R1 R2 : Nat → Prop), e = .returned (.tuple #[.agg #[.slice ta tn tc], rpV res.2 (.slice ra rn rc)]) ∧ OwV w' R1 (.slice ta tn tc) (ndsDt res.1) ∧ OwV w' R2 (.slice ra rn rc) (ensDt res.2.list) ∧ (∀ c, R1 c → R2 c → False) ∧ (∀ c, R1 c → w.heap.size ≤ c ∧ c < w'.heap.size) ∧ (∀ c, R2 c → w.heap.size ≤ c ∧ c < w'.heap.size) ∧ Below w.heap.size w w'
set_option maxHeartbeats 4000000 in
theorem implDo_any (x y z : Value) (l : List Nd) (o : OpD) (fr : Hd) (S : Nat → Prop) (w : World) (r : RdV w S x (ndsDt l)) (r1 : RdV w S y (.bytes o.nm)) (r2 : RdV w S z (.bytes o.asn)) (hS : ∀ b, S b → b < w.heap.size) (hsz : szNds l ≤ 2097152) (hn1 : o.nm.length ≤ 2097152) (hn2 : o.asn.length ≤ 2097152) (hfr : HIn fr)
  (hag : (treeOk l && OOk o) = true → DoAg l o fr) :
  Calls Tryz.prog 7 #[.agg #[x], opV o y z, fr.v] w (DoI w (dO l o fr)) := by
 obtain ⟨xa, xc, rfl, _⟩ := RdV.sliced r
 obtain ⟨ya, yc, rfl⟩ := r1.sliceB
 obtain ⟨za, zc, rfl⟩ := r2.sliceB
 have HTO : Hid (∀ W, Below w.heap.size w W → _) := fun W hW => implTree_any (.slice xa l.length xc) l S W (r.step hW) hsz
 have HOO : Hid (∀ W, Below w.heap.size w W → _) := fun W hW => implOpOk_any (.slice ya o.nm.length yc) (.slice za o.asn.length zc) o S W (r1.step hW) (r2.step hW) hn1 hn2
 have hn : l.length ≤ 2097152 := by have : l.length ≤ szNds l := Nat.le_add_right _ _; omega
 have HCN : Hid (treeOk l = true → ∀ W, Below w.heap.size w W → _) := fun ht W hW => implCopyNd_any (.slice xa l.length xc) l S W (r.step hW) hsz (by have := (treeOk_small ht).1; omega) (fun i => ((treeOk_small ht).2 i).1)
 have HN3 : Hid (treeOk l = true → l.length ≤ 3000) := fun ht => (treeOk_small ht).1
 have HAGR : Hid ((treeOk l && OOk o) = true → DoAg l o fr) := hag
 have HR1 : Hid (RdV w S (.slice ya o.nm.length yc) (.bytes o.nm)) := r1
 have HR2 : Hid (RdV w S (.slice za o.asn.length zc) (.bytes o.asn)) := r2
 have HSS : Hid (∀ b, S b → b < w.heap.size) := hS
 have HLN : Hid (l.length ≤ 2097152 ∧ o.nm.length ≤ 2097152 ∧ o.asn.length ≤ 2097152) := ⟨hn, hn1, hn2⟩
 obtain ⟨tv, htv⟩ : ∃ t, treeI l = t := ⟨_, rfl⟩
 rw [htv] at HTO
 have HTV : Hid (treeOk l = tv) := (tree_same l).trans htv
 obtain ⟨ov_, hov⟩ : ∃ t, OOk o = t := ⟨_, rfl⟩
 rw [hov] at HOO
 have HOV : Hid (OOk o = ov_) := hov
 have HSB : Hid (∀ (ag : DoAg l o fr) (hl3 : l.length ≤ 3000) W b P, NM W b l.length (atH l l.length) P → RdV W S (.slice ya o.nm.length yc) (.bytes o.nm) → RdV W S (.slice za o.asn.length zc) (.bytes o.asn) → (∀ c, S c → ¬ P c) → (∀ c, S c → c < W.heap.size) → _) := fun ag hl3 W b P N q1 q2 h1 h2 => implDoA b l.length (atH l l.length) o fr (.slice ya o.nm.length yc) (.slice za o.asn.length zc) S P W N ag.ok (op_in ag.op).1 (op_in ag.op).2 hfr q1 q2 h1 h2 hn1 hn2 (by omega) ag.op
 have HBAD : Hid ((treeOk l && OOk o) = false → dO l o fr = ([], rc 11)) := fun h => by unfold dO; rw [if_neg (by rw [h]; simp)]
 clear r r1 r2 hsz htv hov hfr hag hS
 obtain ⟨kd, ⟨p, q, d⟩, nm, ⟨p2, q2, d2⟩, asn, ov⟩ := o
 obtain ⟨pf, qf, df⟩ := fr
 dsimp only at HTO HOO HCN HR1 HR2 HSB HLN hn1 hn2
 generalize hyn : nm.length = yn at *
 generalize hzn : asn.length = zn at *
 generalize hxn : l.length = xn at *
 go_enter Tryz.func7, Tryz.ntmps7
 go_wp2_with fail
 go_at_call 10
 refine Calls.mono (HTO.out _ (by repeat (first | exact Below.refl _ _ | refine Below.al2 ?_ _))) ?_
 rintro e w1 ⟨rfl, hb1⟩
 have m1 : DS w w1 (.slice xa xn xc) #[.i kd, .i p, .i q, .bool d, .slice ya yn yc, .i p2, .i q2, .bool d2, .slice za zn zc, .i ov] #[.i pf, .i qf, .bool df] := DS.step (wc := (((((w.alloc _).alloc _).alloc _).alloc _).alloc _)) ⟨(by repeat (first | exact Below.refl _ _ | refine Below.al2 ?_ _)), ((((VarA.new w _ _).alloc _).alloc _).alloc _).alloc _, (((by simpa using VarA.new (w.alloc _) 29 _ : VarA ((w.alloc _).alloc (.cells #[.i kd, .i p, .i q, .bool d, .slice ya yn yc, .i p2, .i q2, .bool d2, .slice za zn zc, .i ov] 29)) (w.heap.size + 1) _ _).alloc _).alloc _).alloc _, ((by simpa using VarA.new ((w.alloc _).alloc _) 27 _ : VarA (((w.alloc _).alloc _).alloc (.cells #[.i pf, .i qf, .bool df] 27)) (w.heap.size + 2) _ _).alloc _).alloc _, (by simpa using VarA.new (((w.alloc _).alloc _).alloc _) 25 _ : VarA ((((w.alloc _).alloc _).alloc _).alloc (.cells #[.n0] 25)) (w.heap.size + 3) _ _).alloc _, (by simpa using VarA.new ((((w.alloc _).alloc _).alloc _).alloc _) 34 _ : VarA (((((w.alloc _).alloc _).alloc _).alloc _).alloc (.cells #[.i 0, .i 0, .i 0, .bool false, .i 0, .n0] 34)) (w.heap.size + 4) _ _)⟩ hb1
 clear hb1
 have HM1 : Hid (DS w w1 (.slice xa xn xc) #[.i kd, .i p, .i q, .bool d, .slice ya yn yc, .i p2, .i q2, .bool d2, .slice za zn zc, .i ov] #[.i pf, .i qf, .bool df]) := m1
 have s1 := m1.vR.lt
 obtain ⟨q0, q1, q2_, q3, q4, q5, q6, q7, q8, q9⟩ := m1.vO.l10
 have k0 := m1.vT.l1
 clear m1
 cases tv
 case false =>
  have HBD : Hid (dO l ⟨kd, (p, q, d), nm, (p2, q2, d2), asn, ov⟩ (pf, qf, df) = ([], rc 11)) := HBAD.out (by rw [HTV.out]; rfl)
  go_wp2_with (first | ((with_reducible refine gS 25 ?_); refine sF HM1.out.vX rfl rfl (by kernel_rfl) rfl rfl ?_; intro wy vY tY; have rY := HM1.out.vR.turn tY (by show w.heap.size + 4 ≠ w.heap.size + 3; omega)) | ((with_reducible refine gS 34 ?_); refine sF rY rfl rfl (by kernel_rfl) rfl rfl ?_; intro wz vZ t_))
  refine bodyPost_ret (results_two Tryz.results7 _ _ _ _ _ _ _ _ _ _ rfl rfl (vY.turn t_ (by show w.heap.size + 3 ≠ w.heap.size + 4; omega)) vZ Tryz.underlying25 rfl (by kernel_rfl) Tryz.underlying34 rfl (by kernel_rfl)) rfl ?_
  rw [HBD.out]
  exact ⟨none, 0, 0, none, 0, 0, fun _ => False, fun _ => False, rfl, OwV.nilR _ _ _ _ _, OwV.nilR _ _ _ _ _, fun c hc => hc.elim, fun c hc => hc.elim, fun c hc => hc.elim, below2 HM1.out.B tY t_ (by omega) (by omega)⟩
 cases ov_
 case false =>
  have HBD : Hid (dO l ⟨kd, (p, q, d), nm, (p2, q2, d2), asn, ov⟩ (pf, qf, df) = ([], rc 11)) := HBAD.out (by rw [HTV.out, HOV.out]; rfl)
  go_wp2_with (first | (go_at_call 34; refine Calls.mono (HOO.out _ HM1.out.B) ?_; rintro e w2 ⟨rfl, hb2⟩; have HM2 : Hid (DS w w2 (.slice xa xn xc) #[.i kd, .i p, .i q, .bool d, .slice ya yn yc, .i p2, .i q2, .bool d2, .slice za zn zc, .i ov] #[.i pf, .i qf, .bool df]) := HM1.out.step hb2; clear hb2) | ((with_reducible refine gS 25 ?_); refine sF HM2.out.vX rfl rfl (by kernel_rfl) rfl rfl ?_; intro wy vY tY; have rY := HM2.out.vR.turn tY (by show w.heap.size + 4 ≠ w.heap.size + 3; omega)) | ((with_reducible refine gS 34 ?_); refine sF rY rfl rfl (by kernel_rfl) rfl rfl ?_; intro wz vZ t_))
  refine bodyPost_ret (results_two Tryz.results7 _ _ _ _ _ _ _ _ _ _ rfl rfl (vY.turn t_ (by show w.heap.size + 3 ≠ w.heap.size + 4; omega)) vZ Tryz.underlying25 rfl (by kernel_rfl) Tryz.underlying34 rfl (by kernel_rfl)) rfl ?_
  rw [HBD.out]
  exact ⟨none, 0, 0, none, 0, 0, fun _ => False, fun _ => False, rfl, OwV.nilR _ _ _ _ _, OwV.nilR _ _ _ _ _, fun c hc => hc.elim, fun c hc => hc.elim, fun c hc => hc.elim, below2 HM2.out.B tY t_ (by omega) (by omega)⟩
 have ag := HAGR.out (by rw [HTV.out, HOV.out]; rfl)
 obtain ⟨rp, hrp⟩ : ∃ r, (doF (atH l xn) xn ⟨kd, (p, q, d), nm, (p2, q2, d2), asn, ov⟩ (pf, qf, df)) = r := ⟨_, rfl⟩
 obtain ⟨f7, sz7, ⟨rcode, ⟨rh1, rh2, rh3⟩, rval, rlist⟩⟩ := rp
 have hrep := ag.rep
 have hmem := ag.mem
 have hlen := ag.len
 have hhin := ag.hin
 rw [hxn, hrp] at hrep hmem hlen hhin
 have HREP : Hid ((dO l ⟨kd, (p, q, d), nm, (p2, q2, d2), asn, ov⟩ (pf, qf, df)).2 = ⟨rcode, (rh1, rh2, rh3), rval, rlist⟩) := hrep.symm
 have HAS : Hid (∀ b P W, NM W b sz7 f7 P → _) := fun b P W N => ascending_any2 b sz7 f7 P W N hhin (dO l ⟨kd, (p, q, d), nm, (p2, q2, d2), asn, ov⟩ (pf, qf, df)).1 hmem ag.srt hlen.1 hlen.2
 have HSB2 : Hid (∀ W b P, NM W b xn (atH l xn) P → RdV W S (.slice ya yn yc) (.bytes nm) → RdV W S (.slice za zn zc) (.bytes asn) → (∀ c, S c → ¬ P c) → (∀ c, S c → c < W.heap.size) → Calls Tryz.prog 37 #[.map (some b), .agg #[.i kd, .i p, .i q, .bool d, .slice ya yn yc, .i p2, .i q2, .bool d2, .slice za zn zc, .i ov], .agg #[.i pf, .i qf, .bool df]] W (DSub W b P (f7, sz7, ⟨rcode, (rh1, rh2, rh3), rval, rlist⟩))) := fun W b P N q1 q2 h1 h2 => by have h9 := HSB.out ag (HN3.out HTV.out) W b P N q1 q2 h1 h2; rw [hrp] at h9; exact h9
 have HONE : Hid (OneH l) := ag.one
 have HINS : Hid (∀ i, i < xn → HIn (l[i]?.getD nd0).h) := by show ∀ i, _; rw [← hxn]; exact ag.ins
 clear HAGR HSB HBAD ag hrep hmem hlen hhin hrp
 go_wp2_with (first | (go_at_call 34; refine Calls.mono (HOO.out _ HM1.out.B) ?_; rintro e w2 ⟨rfl, hb2⟩; have m2 := HM1.out.step hb2; have HM2 : Hid (DS w w2 (.slice xa xn xc) #[.i kd, .i p, .i q, .bool d, .slice ya yn yc, .i p2, .i q2, .bool d2, .slice za zn zc, .i ov] #[.i pf, .i qf, .bool df]) := m2; have s2 := hb2.size; have k2 := m2.vT.l1; clear hb2 m2) | (go_at_call 36; refine Calls.mono (HCN.out HTV.out _ HM2.out.B) ?_; rintro e w3 ⟨ca, cn, cc, rfl, o3, b3⟩; have s3 := b3.size; have HB3 : Hid (Below w2.heap.size w2 w3) := b3; have HO3 : Hid (OwV w3 (fun b => w2.heap.size ≤ b ∧ b < w3.heap.size) (.slice ca cn cc) (ndsDt l)) := o3; clear o3 b3) | (go_at_call 35; obtain ⟨X3, hX3, hN3⟩ := NM.copied (w' := w3) (lo := w2.heap.size) HONE.out HO3.out (by rw [hxn]; exact HINS.out) (by rw [hxn]; omega); have hq := nodesX_any (.slice ca cn cc) l _ w3 (OwV.rd HO3.out) X3 hX3 (by rw [hxn]; omega) HONE.out (by rw [hxn]; exact HINS.out); rw [hxn] at hq hN3; refine Calls.mono hq ?_; rintro e w4 ⟨rfl, b4, M4⟩; have s4 := b4.size; have l4 := M4.lt; have HM4 : Hid (DS w w4 (.slice xa xn xc) #[.i kd, .i p, .i q, .bool d, .slice ya yn yc, .i p2, .i q2, .bool d2, .slice za zn zc, .i ov] #[.i pf, .i qf, .bool df]) := (HM2.out.step HB3.out).step b4; have HN4 : Hid (NM w4 w3.heap.size xn (atH l xn) (fun c => w2.heap.size ≤ c ∧ c < w3.heap.size ∨ c = w3.heap.size)) := hN3 w4 b4 l4 M4; obtain ⟨p0, p1, p2_, p3, p4, p5, p6, p7, p8, p9⟩ := HM4.out.vO.l10; obtain ⟨f0, f1, f2⟩ := HM4.out.vF.l3; clear hX3 hN3 hq b4 M4) | (go_at_call 37; refine Calls.mono (HSB2.out w4 _ _ HN4.out (HR1.out.step HM4.out.B) (HR2.out.step HM4.out.B) (fun c hc hp => by have := HSS.out c hc; have := HM2.out.B.size; omega) (fun c hc => by have := HSS.out c hc; have := HM4.out.B.size; omega)) ?_; rintro e w6 ⟨ra, rn_, rcp, R7, P7, rfl, o7, n7, d7, r7, p7_, t7⟩; have s7 := t7.size; have HT7 : Hid (Turned _ w4 w6) := t7; have HO6 : Hid (OwV w6 R7 (.slice ra rn_ rcp) (ensDt rlist)) := o7; have HN6 : Hid (NM w6 w3.heap.size sz7 f7 P7) := n7; have HD7 : Hid (∀ c, R7 c → ¬ P7 c) := d7; have HR7 : Hid (∀ c, R7 c → w4.heap.size ≤ c ∧ c < w6.heap.size) := r7; have HP7a : Hid (∀ c, P7 c → (w2.heap.size ≤ c ∧ c < w3.heap.size ∨ c = w3.heap.size) ∨ w4.heap.size ≤ c) := p7_; clear o7 n7 d7 r7 p7_ t7))
 case _ =>
  have HP7 : Hid (∀ c, P7 c → (w.heap.size + 5 ≤ c ∧ True) ∨ w.heap.size + 5 ≤ c) := fun c hc => by have := HP7a.out c hc; exact .inr (by omega)
  refine gen_world (P := fun W => Code.wp _ _ _ _ W) (fun W => VarA W w6.heap.size 34 #[.i rcode, .i rh1, .i rh2, .bool rh3, .i rval, .slice ra rn_ rcp] ∧ Below w6.heap.size w6 W ∧ W.heap.size = w6.heap.size + 1) ⟨VarA.new w6 _ _, (by repeat (first | exact Below.refl _ _ | refine Below.al2 ?_ _)), by simp⟩ ?_
  rintro w7 ⟨vP, b7, s77⟩
  have nP : ∀ k, k ≤ w.heap.size + 4 → ¬ (w2.heap.size ≤ k ∧ k < w3.heap.size ∨ k = w3.heap.size) := fun k hk h => by omega
  have HVT : Hid (VarA w7 (w.heap.size + 3) 25 #[.n0]) := (HM4.out.vX.turn HT7.out (nP _ (by omega))).step b7
  have HVR : Hid (VarA w7 (w.heap.size + 4) 34 #[.i 0, .i 0, .i 0, .bool false, .i 0, .n0]) := (HM4.out.vR.turn HT7.out (nP _ (by omega))).step b7
  have HVP : Hid (VarA w7 w6.heap.size 34 #[.i rcode, .i rh1, .i rh2, .bool rh3, .i rval, .slice ra rn_ rcp]) := vP
  have HO7 : Hid (OwV w7 R7 (.slice ra rn_ rcp) (ensDt rlist)) := OwV.step HO6.out b7
  have HN7 : Hid (NM w7 w3.heap.size sz7 f7 P7) := HN6.out.step b7
  have HB7 : Hid (Below w.heap.size w w7) := (Turned.below HM4.out.B HT7.out HM4.out.B.size (fun i hi => by have := HM2.out.B.size; omega)).trans (b7.mono (by have := HM4.out.B.size; omega))
  have HS : Hid (∀ W : World, Below w7.heap.size w7 W → W.cell? ⟨w6.heap.size, 0, none⟩ = some (.i rcode) ∧ W.cell? ⟨w6.heap.size, 1, none⟩ = some (.i rh1) ∧ W.cell? ⟨w6.heap.size, 2, none⟩ = some (.i rh2) ∧ W.cell? ⟨w6.heap.size, 3, none⟩ = some (.bool rh3) ∧ W.cell? ⟨w6.heap.size, 4, none⟩ = some (.i rval) ∧ W.cell? ⟨w6.heap.size, 5, none⟩ = some (.slice ra rn_ rcp)) := fun W hW => ⟨(HVP.out.step hW).c 0 rfl, (HVP.out.step hW).c 1 rfl, (HVP.out.step hW).c 2 rfl, (HVP.out.step hW).c 3 rfl, (HVP.out.step hW).c 4 rfl, (HVP.out.step hW).c 5 rfl⟩
  have hw7 := HB7.out.size
  clear vP nP p0 p1 p2_ p3 p4 p5 p6 p7 p8 p9 f0 f1 f2 k2 q0 q1 q2_ q3 q4 q5 q6 q7 q8 q9 k0
  refine wp_region_noPanic ?_
  refine wp_region_held_drew (S := fun W => W.cell? ⟨w6.heap.size, 0, none⟩ = some (.i rcode) ∧ W.cell? ⟨w6.heap.size, 1, none⟩ = some (.i rh1) ∧ W.cell? ⟨w6.heap.size, 2, none⟩ = some (.i rh2) ∧ W.cell? ⟨w6.heap.size, 3, none⟩ = some (.bool rh3) ∧ W.cell? ⟨w6.heap.size, 4, none⟩ = some (.i rval) ∧ W.cell? ⟨w6.heap.size, 5, none⟩ = some (.slice ra rn_ rcp)) (by kernel_rfl) (HS.out _ (Below.drew (Below.refl w7.heap.size w7))) (fun hHeld => ?_)
  apply tkh 0 _ rfl (by kernel_rfl) rfl (by assumption)
  ·(intro _ h; (try dsimp only at h); go_simp; try with_reducible rfl)
  try simp only [qz]
  apply tkh 3 _ rfl (by kernel_rfl) rfl (by assumption)
  ·(intro _ h; (try dsimp only at h); go_simp; try with_reducible rfl)
  try simp only [qz]
  refine doH 1 (by kernel_rfl) rfl fun K hK => ?_
  go_simp
  refine Calls.mono (HAS.out _ _ w7.drew (HN7.out.step (Below.drew (Below.refl w7.heap.size w7)))) ?_
  rintro e w8 ⟨ta, tn, tc, rfl, o8, b8⟩
  have b8p : Below w7.heap.size w7 w8 := (Below.drew (Below.refl w7.heap.size w7)).trans b8
  have s8 := b8p.size
  dsimp only
  refine hK.out _ _ (HS.out _ b8p) (fun hHeld => ?_)
  clear hK K
  try simp only [qz]
  apply tkh 2 _ rfl (by kernel_rfl) rfl (by assumption)
  ·(intro _ h; (try dsimp only at h); go_simp; try with_reducible rfl)
  try simp only [qz]
  refine doH 4 (by kernel_rfl) rfl fun K hK => ?_
  refine step_stF ((HVT.out).step b8p) (by rfl) (by rfl) (by kernel_rfl) rfl (of_decide_eq_true rfl) rfl ?_
  intro wy vY tY
  have pY := (HVP.out.step b8p).turn tY (by show w6.heap.size ≠ w.heap.size + 3; omega)
  have rY := (HVR.out.step b8p).turn tY (by show w.heap.size + 4 ≠ w.heap.size + 3; omega)
  refine hK.out _ _ ⟨VarA.c pY 0 rfl, VarA.c pY 1 rfl, VarA.c pY 2 rfl, VarA.c pY 3 rfl, VarA.c pY 4 rfl, VarA.c pY 5 rfl⟩ (fun hHeld => ?_)
  clear hK K
  try simp only [qz]
  refine doH 5 (by kernel_rfl) rfl fun K hK => ?_
  refine step_stF rY (by rfl) (by rfl) (by kernel_rfl) rfl (of_decide_eq_true rfl) rfl ?_
  intro wz vZ t_
  have pZ := pY.turn t_ (by show w6.heap.size ≠ w.heap.size + 4; omega)
  refine hK.out _ _ ⟨VarA.c pZ 0 rfl, VarA.c pZ 1 rfl, VarA.c pZ 2 rfl, VarA.c pZ 3 rfl, VarA.c pZ 4 rfl, VarA.c pZ 5 rfl⟩ (fun hHeld => ?_)
  clear hK K
  try simp only [qz]
  refine wpAnyH_done (by kernel_rfl) (NoPanic.normal ?_) _
  clear hHeld pZ pY rY
  go_wp2
  refine bodyPost_ret (results_two Tryz.results7 _ _ _ _ _ _ _ _ _ _ rfl rfl (vY.turn t_ (by show w.heap.size + 3 ≠ w.heap.size + 4; omega)) vZ Tryz.underlying25 rfl (by kernel_rfl) Tryz.underlying34 rfl (by kernel_rfl)) rfl ?_
  have sy := tY.size
  have sz := t_.size
  refine ⟨ta, tn, tc, ra, rn_, rcp, (fun c => P7 c ∨ w7.heap.size ≤ c ∧ c < w8.heap.size), R7, ?_, ?_, ?_, ?_, ?_, ?_, ?_⟩
  ·rw [HREP.out]; rfl
  ·exact OwV.keep (t_.keeps (fun c hc e => by subst e; rcases hc with hc | hc; (rcases HP7.out _ hc with h | h; (have := h.1; omega); omega); omega)) (OwV.keep (tY.keeps (fun c hc e => by subst e; rcases hc with hc | hc; (rcases HP7.out _ hc with h | h; (have := h.1; omega); omega); omega)) o8)
  ·rw [HREP.out]
   exact OwV.keep (t_.keeps (fun c hc e => by have := (HR7.out c hc).1; omega)) (OwV.keep (tY.keeps (fun c hc e => by have := (HR7.out c hc).1; omega)) (OwV.step HO7.out b8p))
  ·intro c hc hr
   rcases hc with hc | hc
   ·exact HD7.out c hr hc
   ·have := (HR7.out c hr).2; omega
  ·intro c hc
   rcases hc with hc | hc
   ·have h9 := HN7.out.sm c hc
    rcases HP7.out _ hc with h | h
    ·exact ⟨by have := h.1; omega, by omega⟩
    ·exact ⟨by omega, by omega⟩
   ·exact ⟨by omega, by omega⟩
  ·intro c hc
   have := HR7.out c hc
   exact ⟨by omega, by omega⟩
  ·exact below2 (HB7.out.trans (b8p.mono HB7.out.size)) tY t_ (by omega) (by omega)
end
section
theorem agK5 {l : List Nd} (ht : treeOk l = true) (dir tt fr : Hd) (nm asn : List Int) (ov : Int) : Ag (doD l ⟨5, dir, nm, tt, asn, ov⟩ fr) (doF (atH l l.length) l.length ⟨5, dir, nm, tt, asn, ov⟩ fr) := by
 by_cases hd : dir.dir = true
 ·by_cases hf : fi l dir < l.length
  ·exact ag5 ht dir tt fr nm asn ov hd hf rfl
  ·have hD : doD l ⟨5, dir, nm, tt, asn, ov⟩ fr = (l, rc 1) := by unfold doD; simp [hd, hf]
   have hF : doF (atH l l.length) l.length ⟨5, dir, nm, tt, asn, ov⟩ fr = (atH l l.length, l.length, rc 1) := by unfold doF dirC; simp [at_is, hd, hf]; rfl
   rw [hD, hF]; exact ag_same ht _
 ·have hD : doD l ⟨5, dir, nm, tt, asn, ov⟩ fr = (l, rc 2) := by unfold doD; simp [hd]
  have hF : doF (atH l l.length) l.length ⟨5, dir, nm, tt, asn, ov⟩ fr = (atH l l.length, l.length, rc 2) := by unfold doF dirC; simp [at_is, hd]; rfl
  rw [hD, hF]; exact ag_same ht _
theorem agK7 {l : List Nd} (ht : treeOk l = true) (dir tt fr : Hd) (nm asn : List Int) (ov : Int) : Ag (doD l ⟨7, dir, nm, tt, asn, ov⟩ fr) (doF (atH l l.length) l.length ⟨7, dir, nm, tt, asn, ov⟩ fr) := by
 by_cases hd : dir.dir = true
 ·by_cases hf : fi l dir < l.length
  ·exact ag7 ht dir tt fr nm asn ov hd hf rfl
  ·have hD : doD l ⟨7, dir, nm, tt, asn, ov⟩ fr = (l, rc 1) := by unfold doD; simp [hd, hf]
   have hF : doF (atH l l.length) l.length ⟨7, dir, nm, tt, asn, ov⟩ fr = (atH l l.length, l.length, rc 1) := by unfold doF dirC; simp [at_is, hd, hf]; rfl
   rw [hD, hF]; exact ag_same ht _
 ·have hD : doD l ⟨7, dir, nm, tt, asn, ov⟩ fr = (l, rc 2) := by unfold doD; simp [hd]
  have hF : doF (atH l l.length) l.length ⟨7, dir, nm, tt, asn, ov⟩ fr = (atH l l.length, l.length, rc 2) := by unfold doF dirC; simp [at_is, hd]; rfl
  rw [hD, hF]; exact ag_same ht _
theorem ag_do {l : List Nd} (ht : treeOk l = true) (o : OpD) (ho : OOk o = true) (fr : Hd) : Ag (dO l o fr) (doF (atH l l.length) l.length o fr) := by
 have hk := OOk_kind ho
 have htb := takes_bad l o fr
 obtain ⟨kd, dir, nm, tt, asn, ov⟩ := o
 dsimp only at hk htb
 have hdO : dO l ⟨kd, dir, nm, tt, asn, ov⟩ fr = if kd = 4 ∧ badFr l ⟨kd, dir, nm, tt, asn, ov⟩ fr = true then (l, rc 11) else doD l ⟨kd, dir, nm, tt, asn, ov⟩ fr := by
  unfold dO
  rw [if_pos (by rw [ht, ho]; rfl)]
 rcases kinds hk.1 hk.2 with rfl | rfl | rfl | rfl | rfl | rfl | rfl | rfl
 case inr.inr.inr.inr.inl =>
  cases hb : badFr l ⟨4, dir, nm, tt, asn, ov⟩ fr
  ·rw [hdO, hb, if_neg (by simp)]
   rw [hb] at htb
   have htb2 : takesB fr tt (atH l l.length (fr.sh, fr.ino, false)).isSome (atH l l.length (fr.sh, fr.ino, true)).isSome l.length = true := htb
   have hpl : ∀ c, ¬ fi l (fr.sh, fr.ino, c) < l.length := fun c hc => by
    unfold takesB at htb2
    simp only [Bool.and_eq_true, Bool.not_eq_true', decide_eq_true_eq, at_is, decide_eq_false_iff_not] at htb2
    cases c
    ·exact htb2.2.2.2.1 hc
    ·exact htb2.2.2.2.2.1 hc
   have hok : HOk fr = true := by
    unfold takesB at htb2
    simp only [Bool.and_eq_true] at htb2
    exact htb2.1
   refine agK4 ht dir tt fr nm asn ov htb2 (HOk.inn hok) ?_ hpl
   rw [atH_fi, if_neg (by have := hpl fr.dir; exact this)]
  ·rw [hdO, hb, if_pos ⟨rfl, rfl⟩]
   have hF : doF (atH l l.length) l.length ⟨4, dir, nm, tt, asn, ov⟩ fr = (atH l l.length, l.length, rc 11) := by
    unfold doF
    dsimp only
    rw [htb, hb, if_pos ⟨rfl, rfl⟩]
    rfl
   rw [hF]
   exact ag_same ht _
 all_goals rw [hdO, if_neg (by simp)]
 ·exact agK0 ht dir tt fr nm asn ov
 ·exact agK1 ht dir tt fr nm asn ov
 ·exact agK2 ht dir tt fr nm asn ov
 ·exact agK3 ht dir tt fr nm asn ov
 ·exact agK5 ht dir tt fr nm asn ov
 ·exact agK6 ht dir tt fr nm asn ov
 ·exact agK7 ht dir tt fr nm asn ov
theorem do_ag {l : List Nd} (hsz : szNds l ≤ 2097152) (o : OpD) (fr : Hd) (h : (treeOk l && OOk o) = true) : DoAg l o fr := by
 rw [Bool.and_eq_true] at h
 obtain ⟨r, e, h1, h2, h3⟩ := ag_do h.1 o h.2 fr
 refine ⟨tree_fok h.1 hsz, tree_one h.1, fun i hi => ?_, e, r.mem, ?_, ⟨h1, h2⟩, h3, h.2⟩
 ·exact ndI_h (by rw [← nd_same]; exact tree_nd h.1 (node_mem hi))
 ·refine r.asc.imp (fun {a b} hx => (byHd_lt _ _).2 ?_)
  simp only [lessH, Bool.or_eq_true, Bool.and_eq_true, decide_eq_true_eq] at hx
  dsimp only [Hd.sh, Hd.ino] at hx
  omega
end
section
def Sh (k : Nat) (es : List En) : Prop := es.length ≤ k ∧ ∀ e ∈ es, e.nm.length ≤ 6
theorem Sh.sz {k : Nat} {es : List En} (h : Sh k es) : szEns es ≤ 7 * k := by
 obtain ⟨h1, h2⟩ := h
 have h3 : (es.map (fun e => e.nm.length)).sum ≤ 6 * es.length := by
  clear h1
  induction es with
  | nil => simp
  | cons x r ih =>
   have a := h2 x List.mem_cons_self
   have b := ih (fun e he => h2 e (List.mem_cons_of_mem _ he))
   simp only [List.map_cons, List.sum_cons, List.length_cons]
   omega
 unfold szEns
 omega
theorem Sh.mono {k m : Nat} {es : List En} (h : Sh k es) (hk : k ≤ m) : Sh m es := ⟨by have := h.1; omega, h.2⟩
theorem Sh.out {k : Nat} {es : List En} (h : Sh k es) (nm : List Int) : Sh k (outE es nm) := ⟨Nat.le_trans (outE_len _ _) h.1, fun e he => h.2 e (List.mem_filter.1 he).1⟩
theorem Sh.add {k : Nat} {es : List En} (h : Sh k es) {nm : List Int} (hn : nm.length ≤ 6) (hd : Hd) : Sh (k + 1) (addE es nm hd) := by
 have hp := addE_perm es nm hd
 refine ⟨by rw [← hp.length_eq]; simp; exact h.1, fun e he => ?_⟩
 rcases List.mem_append.1 (hp.mem_iff.2 he) with h1 | h1
 ·exact h.2 e h1
 ·rw [List.mem_singleton] at h1; subst h1; exact hn
theorem nm_short {nm : List Int} (h : isNm nm = true) : nm.length ≤ 6 := by
 simp only [isNm, Bool.and_eq_true, decide_eq_true_eq] at h
 exact h.1.2
def ShF (f : Hd → Option Nd) : Prop := ∀ g n, f g = some n → Sh 13 n.es
theorem ShF.set {f : Hd → Option Nd} (h : ShF f) {k : Hd} {m : Nd} (hm : Sh 13 m.es) : ShF (setN f k m) := by
 intro g n e
 unfold setN at e
 by_cases x : g = k
 ·rw [if_pos x] at e; rw [← Option.some.inj e]; exact hm
 ·rw [if_neg x] at e; exact h g n e
theorem ShF.del {f : Hd → Option Nd} (h : ShF f) (k : Hd) : ShF (delN f k) := fun g n e => h g n (delN_at e).2
theorem ShF.get {f : Hd → Option Nd} (h : ShF f) (g : Hd) : Sh 13 ((f g).getD nd0).es := by
 cases hf : f g with
 | none => exact ⟨by simp [nd0], fun e he => by simp [nd0] at he⟩
 | some n => exact h g n hf
theorem do_shf {f : Hd → Option Nd} (h : ShF f) (h12 : ∀ g, Sh 12 ((f g).getD nd0).es) (s : Nat) (o : OpD) (ho : OOk o = true) (fr : Hd) : ShF (doF f s o fr).1 := by
 have hk := OOk_kind ho
 have hnm : o.kind = 4 ∨ o.kind = 6 → o.nm.length ≤ 6 := by
  intro hx
  refine nm_short ?_
  rcases hx with hx | hx <;> simp [OOk, nmB, nmP, hx] at ho <;> exact ho.2.1
 have hna : o.kind = 7 → o.asn.length ≤ 6 := fun hx => nm_short (by simp [OOk, asB, asP, hx] at ho; exact ho.2.2.2.1)
 unfold doF
 split
 ·exact h
 split
 ·exact h
 unfold doF2
 split
 ·exact h
 split
 ·exact h
 split
 ·exact h
 split
 ·exact h.set (h.get _)
 split
 ·rename_i h4
  unfold makeF
  split
  ·exact h
  ·refine ShF.set (ShF.set h ?_) ?_
   ·exact ⟨by simp, fun e he => by simp at he⟩
   ·exact (h12 _).add (hnm (.inl h4)) _
 split
 ·unfold dropF
  split
  ·exact h
  split
  ·exact h
  ·have h1 : ShF (setN f o.dir { (f o.dir).getD nd0 with es := outE ((f o.dir).getD nd0).es o.nm }) := h.set ((h.get _).out _)
   unfold unlN
   dsimp only
   split
   ·exact h1.del _
   ·exact h1.set (h1.get _)
 split
 ·rename_i h6
  unfold linkF
  split
  ·exact h
  split
  ·exact h
  split
  ·exact h
  ·refine ShF.set (ShF.set h ?_) ?_
   ·exact h.get _
   ·exact (h12 _).add (hnm (.inr h6)) _
 ·have h7 : o.kind = 7 := by omega
  unfold moveF
  split
  ·exact h
  split
  ·exact h
  ·have hm : ShF (mvF f o.dir o.to o.nm o.asn (fdH ((f o.dir).getD nd0).es o.nm)) := by
    unfold mvF
    refine (h.set ((h.get _).out _)).set (Sh.add ?_ (hna h7) _)
    unfold setN
    by_cases x : o.to = o.dir
    ·rw [if_pos x]; exact (h12 _).out _
    ·rw [if_neg x]; exact h12 _
   dsimp only
   split
   ·exact hm.set (hm.get _)
   ·exact hm
theorem sz_short : ∀ {l : List Nd}, (∀ n ∈ l, Sh 13 n.es) → szNds l ≤ 92 * l.length := by
 intro l h
 have h3 : (l.map (fun n => szEns n.es)).sum ≤ 91 * l.length := by
  induction l with
  | nil => simp
  | cons x r ih =>
   have a := (h x List.mem_cons_self).sz
   have b := ih (fun e he => h e (List.mem_cons_of_mem _ he))
   simp only [List.map_cons, List.sum_cons, List.length_cons]
   omega
 unfold szNds
 omega
theorem do_small {l : List Nd} (hsz : szNds l ≤ 2097152) (o : OpD) (fr : Hd) (h : (treeOk l && OOk o) = true) : (∀ n ∈ (dO l o fr).1, Sh 13 n.es) ∧ szNds (dO l o fr).1 ≤ 300000 := by
 have ag := do_ag hsz o fr h
 rw [Bool.and_eq_true] at h
 have h12 : ∀ g, Sh 12 ((atH l l.length g).getD nd0).es := fun g => by
  cases hf : atH l l.length g with
  | none => exact ⟨by simp [nd0], fun e he => by simp [nd0] at he⟩
  | some n =>
   have hn := tree_nd h.1 (atH_mem hf)
   exact ⟨(ndOk_small hn).1, fun e he => nm_short ((nd_asc hn).2 e he)⟩
 have hs : ShF (atH l l.length) := fun g n e => by have := h12 g; rw [e] at this; exact this.mono (by omega)
 have h1 : ∀ n ∈ (dO l o fr).1, Sh 13 n.es := fun n hn => do_shf hs h12 _ o h.2 fr _ _ ((ag.mem n).1 hn)
 refine ⟨h1, Nat.le_trans (sz_short h1) ?_⟩
 have := ag.len.1
 omega
end
section
theorem doF_list (f : Hd → Option Nd) (s : Nat) (o : OpD) (fr : Hd) : (doF f s o fr).2.2.list = [] ∨ (doF f s o fr).2.2.list = ((f o.dir).getD nd0).es := by
 unfold doF
 split
 ·exact .inl rfl
 split
 ·exact .inl rfl
 unfold doF2
 split
 ·left; unfold lookF; split <;> rfl
 split
 ·exact .inr rfl
 split
 ·exact .inl rfl
 split
 ·left; unfold writeF; rfl
 split
 ·left; unfold makeF; split <;> rfl
 split
 ·left; unfold dropF; split; rfl; split <;> rfl
 split
 ·left; unfold linkF; split; rfl; split; rfl; split <;> rfl
 ·left; unfold moveF; split; rfl; split <;> rfl
theorem do_sizes {l : List Nd} (hsz : szNds l ≤ 2097152) (o : OpD) (fr : Hd) : szNds (dO l o fr).1 ≤ 300000 ∧ szEns (dO l o fr).2.list ≤ 300000 := by
 by_cases h : (treeOk l && OOk o) = true
 ·have h1 := do_small hsz o fr h
  refine ⟨h1.2, ?_⟩
  have ag := do_ag hsz o fr h
  rw [← ag.rep]
  rcases doF_list (atH l l.length) l.length o fr with e | e
  ·rw [e]; simp [szEns]
  ·rw [e]
   rw [Bool.and_eq_true] at h
   cases hf : atH l l.length o.dir with
   | none => simp [nd0, szEns]
   | some n =>
    have hn := tree_nd h.1 (atH_mem hf)
    have : Sh 12 n.es := ⟨(ndOk_small hn).1, fun e he => nm_short ((nd_asc hn).2 e he)⟩
    have := this.sz
    simp only [Option.getD_some]
    omega
 ·have : dO l o fr = ([], rc 11) := by unfold dO; rw [if_neg h]
  rw [this]
  simp [szNds, szEns, rc]
end
section
def cs (l : List Nd) (h : Hd) : Nat := (l.map (fun n => cntE n.es h)).sum
theorem cs_cnt (l : List Nd) (h : Hd) : cntH l h = cs l h := psum_all _ _
theorem cs_cons (n : Nd) (l : List Nd) (h : Hd) : cs (n :: l) h = cntE n.es h + cs l h := by simp [cs]
theorem perm_sum {l l' : List Nat} (p : l.Perm l') : l.sum = l'.sum := by
 induction p with
 | nil => rfl
 | cons x _ ih => simp [ih]
 | swap x y l => simp; omega
 | trans _ _ a b => exact a.trans b
theorem cs_perm {l l' : List Nd} (p : l.Perm l') (h : Hd) : cs l h = cs l' h := perm_sum (p.map _)
theorem cs_zero {l : List Nd} {h : Hd} (h0 : cs l h = 0) {n : Nd} (hn : n ∈ l) {e : En} (he : e ∈ n.es) : e.h ≠ h := by
 intro e1
 obtain ⟨A, B, rfl⟩ := List.append_of_mem hn
 have : 0 < cntE n.es h := List.countP_pos_iff.2 ⟨e, he, by simpa using e1⟩
 simp [cs] at h0
 omega
theorem cs_pos {l : List Nd} {h : Hd} {n : Nd} (hn : n ∈ l) {e : En} (he : e ∈ n.es) (e1 : e.h = h) : 0 < cs l h := by
 rcases Nat.eq_zero_or_pos (cs l h) with h0 | h0
 ·exact absurd e1 (cs_zero h0 hn he)
 ·exact h0
theorem cs_ex {l : List Nd} {h : Hd} (h0 : 0 < cs l h) : ∃ n ∈ l, ∃ e ∈ n.es, e.h = h := by
 induction l with
 | nil => simp [cs] at h0
 | cons n r ih =>
  rw [cs_cons] at h0
  rcases Nat.eq_zero_or_pos (cntE n.es h) with h1 | h1
  ·obtain ⟨m, hm, e, he, hh⟩ := ih (by omega)
   exact ⟨m, List.mem_cons_of_mem _ hm, e, he, hh⟩
  ·obtain ⟨e, he, hh⟩ := List.countP_pos_iff.1 h1
   exact ⟨n, List.mem_cons_self, e, he, by simpa using hh⟩
theorem cs_le {l : List Nd} (h : ∀ n ∈ l, n.es.length ≤ 12) (g : Hd) : cs l g ≤ 12 * l.length := by
 induction l with
 | nil => simp [cs]
 | cons n r ih =>
  have h1 := ih (fun m hm => h m (List.mem_cons_of_mem _ hm))
  have h2 := h n List.mem_cons_self
  have h3 : cntE n.es g ≤ n.es.length := List.countP_le_length
  rw [cs_cons, List.length_cons]
  omega
/- one entry more, one less -/
theorem cnt_add (es : List En) (nm : List Int) (x g : Hd) : cntE (addE es nm x) g = cntE es g + if x = g then 1 else 0 := by
 have h := (addE_perm es nm x).countP_eq (fun e => decide (e.h = g))
 unfold cntE
 rw [← h, List.countP_append]
 by_cases e : x = g
 ·simp [e]
 ·simp [e]
theorem mem_add {es : List En} {nm : List Int} {x : Hd} {e : En} (h : e ∈ addE es nm x) : e ∈ es ∨ e = ⟨nm, x⟩ := by
 have := (addE_perm es nm x).mem_iff.2 h
 simpa using this
theorem cnt_out {es : List En} (h : AscE es) {nm : List Int} (hf : fdB es nm = true) (g : Hd) : cntE es g = cntE (outE es nm) g + if fdH es nm = g then 1 else 0 := by
 have hf' : ei es nm < es.length := of_decide_eq_true hf
 rw [← cut_out h hf']
 have e1 : fdH es nm = (es[ei es nm]'hf').h := by unfold fdH; rw [if_pos hf', List.getElem?_eq_getElem hf']; rfl
 rw [e1]
 have hsp : es = es.take (ei es nm) ++ es[ei es nm]'hf' :: es.drop (ei es nm + 1) := by rw [List.getElem_cons_drop, List.take_append_drop]
 obtain ⟨k, hk⟩ : ∃ k, ei es nm = k := ⟨_, rfl⟩
 simp only [hk] at hf' hsp ⊢
 unfold cntE cutE
 conv => lhs; rw [hsp]
 rw [List.countP_append, List.countP_cons, List.countP_append]
 by_cases e : (es[k]'hf').h = g
 ·simp [e]; omega
 ·simp [e]
theorem fd_mem {es : List En} {nm : List Int} (hf : fdB es nm = true) : (⟨nm, fdH es nm⟩ : En) ∈ es := by
 have hf' : ei es nm < es.length := of_decide_eq_true hf
 have hat : (es[ei es nm]'hf').nm = nm := by
  have := List.findIdx_getElem (p := fun e : En => decide (e.nm = nm)) (w := hf')
  exact of_decide_eq_true this
 have e1 : fdH es nm = (es[ei es nm]'hf').h := by unfold fdH; rw [if_pos hf', List.getElem?_eq_getElem hf']; rfl
 have : (⟨nm, fdH es nm⟩ : En) = es[ei es nm]'hf' := by rw [e1]; exact (congrArg (fun x => (⟨x, (es[ei es nm]'hf').h⟩ : En)) hat).symm
 rw [this]
 exact List.getElem_mem hf'
/- rows of the same map -/
theorem Rp.nodup {l : List Nd} {f : Hd → Option Nd} (r : Rp l f) : l.Nodup := List.Pairwise.imp (fun {a b} (h : lessH a.h b.h = true) (e : a = b) => less_ne h (by rw [e])) r.asc
theorem setN_at (f : Hd → Option Nd) (k : Hd) (m : Nd) : setN f k m k = some m := by simp [setN]
theorem setN_ne {f : Hd → Option Nd} {k g : Hd} (h : g ≠ k) (m : Nd) : setN f k m g = f g := by simp [setN, h]
theorem perm_set {l l' : List Nd} {f : Hd → Option Nd} {k : Hd} {x m : Nd} (r : Rp l f) (r' : Rp l' (setN f k m)) (hx : f k = some x) (hm : m.h = k) : (x :: l').Perm (m :: l) := by
 have hxk := r.key _ _ hx
 by_cases e : x = m
 ·subst e
  rw [setN_self hx] at r'
  exact ((List.perm_ext_iff_of_nodup r'.nodup r.nodup).2 (fun a => by rw [r'.mem, r.mem])).cons _
 ·have n1 : x ∉ l' := fun h => by
   have := (r'.mem x).1 h
   rw [hxk, setN_at] at this
   exact e (Option.some.inj this).symm
  have n2 : m ∉ l := fun h => by
   have := (r.mem m).1 h
   rw [hm, hx] at this
   exact e (Option.some.inj this)
  refine (List.perm_ext_iff_of_nodup (List.nodup_cons.2 ⟨n1, r'.nodup⟩) (List.nodup_cons.2 ⟨n2, r.nodup⟩)).2 (fun a => ?_)
  rw [List.mem_cons, List.mem_cons, r'.mem, r.mem]
  by_cases ha : a.h = k
  ·rw [ha, setN_at, hx]
   constructor
   ·rintro (h | h)
    ·exact .inr (by rw [h])
    ·exact .inl (Option.some.inj h).symm
   ·rintro (h | h)
    ·exact .inr (by rw [h])
    ·exact .inl (Option.some.inj h).symm
  ·rw [setN_ne ha]
   constructor
   ·rintro (h | h)
    ·exact absurd (by rw [h]; exact hxk) ha
    ·exact .inr h
   ·rintro (h | h)
    ·exact absurd (by rw [h]; exact hm) ha
    ·exact .inr h
theorem perm_new {l l' : List Nd} {f : Hd → Option Nd} {k : Hd} {m : Nd} (r : Rp l f) (r' : Rp l' (setN f k m)) (hx : f k = none) (hm : m.h = k) : l'.Perm (m :: l) := by
 have n2 : m ∉ l := fun h => by
  have := (r.mem m).1 h
  rw [hm, hx] at this
  cases this
 refine (List.perm_ext_iff_of_nodup r'.nodup (List.nodup_cons.2 ⟨n2, r.nodup⟩)).2 (fun a => ?_)
 rw [List.mem_cons, r'.mem, r.mem]
 by_cases ha : a.h = k
 ·rw [ha, setN_at, hx]
  exact ⟨fun h => .inl (Option.some.inj h).symm, fun h => by rcases h with h | h; (rw [h]); cases h⟩
 ·rw [setN_ne ha]
  exact ⟨fun h => .inr h, fun h => by rcases h with h | h; exact absurd (by rw [h]; exact hm) ha; exact h⟩
theorem perm_del {l l' : List Nd} {f : Hd → Option Nd} {k : Hd} {x : Nd} (r : Rp l f) (r' : Rp l' (delN f k)) (hx : f k = some x) : l.Perm (x :: l') := by
 have hxk := r.key _ _ hx
 have n1 : x ∉ l' := fun h => (delN_at ((r'.mem x).1 h)).1 hxk
 refine (List.perm_ext_iff_of_nodup r.nodup (List.nodup_cons.2 ⟨n1, r'.nodup⟩)).2 (fun a => ?_)
 rw [List.mem_cons, r'.mem, r.mem]
 by_cases ha : a.h = k
 ·rw [ha, hx]
  exact ⟨fun h => .inl (Option.some.inj h).symm, fun h => by rcases h with h | h; (rw [h]); exact absurd rfl (delN_at h).1⟩
 ·have : delN f k a.h = f a.h := by simp [delN, ha]
  rw [this]
  exact ⟨fun h => .inr h, fun h => by rcases h with h | h; exact absurd (by rw [h]; exact hxk) ha; exact h⟩
theorem Rp.at {l : List Nd} {f : Hd → Option Nd} (r : Rp l f) : f = atH l l.length := by
 funext g
 unfold atH
 rw [List.take_length]
 cases hf : f g with
 | none =>
  symm
  rw [List.find?_eq_none]
  intro n hn e
  have h1 := (r.mem n).1 hn
  rw [of_decide_eq_true e, hf] at h1
  cases h1
 | some n =>
  have hk := r.key _ _ hf
  have hn : n ∈ l := (r.mem n).2 (by rw [hk]; exact hf)
  cases hq : l.find? (fun n => decide (n.h = g)) with
  | none =>
   rw [List.find?_eq_none] at hq
   exact absurd (by simpa using hk) (hq n hn)
  | some m =>
   have h1 := List.mem_of_find?_eq_some hq
   have h2 := List.find?_some hq
   have h3 := (r.mem m).1 h1
   rw [of_decide_eq_true h2, hf] at h3
   exact h3
theorem Rp.exSet {l : List Nd} {f : Hd → Option Nd} (r : Rp l f) {k : Hd} {x m : Nd} (hx : f k = some x) (hm : m.h = k) : ∃ l', Rp l' (setN f k m) ∧ l'.length = l.length := by
 have hxk := r.key _ _ hx
 have hn : x ∈ l := (r.mem x).2 (by rw [hxk]; exact hx)
 obtain ⟨i, hi, e⟩ := List.getElem_of_mem hn
 have e2 : l[i]?.getD nd0 = x := by rw [List.getElem?_eq_getElem hi]; exact e
 have h := r.set hi (n := m) (by rw [e2, hm, hxk])
 rw [hm] at h
 exact ⟨_, h, List.length_set⟩
theorem Rp.same {l l' : List Nd} {f : Hd → Option Nd} (r : Rp l f) (r' : Rp l' f) : l.Perm l' := (List.perm_ext_iff_of_nodup r.nodup r'.nodup).2 (fun a => by rw [r.mem, r'.mem])
structure TF (l : List Nd) (f : Hd → Option Nd) : Prop where
 rp : Rp l f
 len : l.length ≤ 240
 root : ∃ r, f rootH = some r ∧ r.par = rootH
 nd : ∀ g n, f g = some n → ndOk n = true
 lead : ∀ g n, f g = some n → ∀ e ∈ n.es, ∃ a, f e.h = some a ∧ (e.h.dir = true → a.par = g)
 cnt : ∀ g n, f g = some n → (cs l g : Int) = if g = rootH then 0 else n.links
 rank : ∃ ρ : Hd → Nat, ∀ g n, f g = some n → g.dir = true → g ≠ rootH → (∃ p, f n.par = some p) ∧ ρ n.par < ρ g
def dpt (l : List Nd) : Nat → Nd → Nat
 | 0, _ => 0
 | k + 1, n => if up n then 1 + dpt l k (l[fi l n.par]?.getD nd0) else 0
theorem dpt_still (l : List Nd) : ∀ (k : Nat) (n : Nd), rch l k n = true → dpt l (k + 1) n = dpt l k n
 | 0, n, h => by
  have h1 : up n = false := by simpa [rch] using h
  simp [dpt, h1]
 | k + 1, n, h => by
  by_cases hu : up n = true
  ·by_cases hf : fi l n.par < l.length
   ·rw [rch, if_pos hu, if_pos hf] at h
    rw [dpt, if_pos hu, dpt_still l k _ h, dpt, if_pos hu]
   ·rw [rch, if_pos hu, if_neg hf] at h; cases h
  ·rw [dpt, if_neg hu, dpt, if_neg hu]
theorem tf_of {l : List Nd} (ht : treeOk l = true) : TF l (atH l l.length) := by
 have r := tree_rp ht
 have hm : ∀ {g : Hd} {n : Nd}, atH l l.length g = some n → n ∈ l := fun h => atH_mem h
 have hl := treeOk_len ht
 have h0 : (l[0]?.getD nd0).h = rootH ∧ (l[0]?.getD nd0).par = rootH := by
  unfold treeOk headT at ht
  simp only [Bool.and_eq_true, decide_eq_true_eq] at ht
  exact ht.1.2
 have hd0 : atH l l.length rootH = some (l[0]?.getD nd0) := by have := (r.mem _).1 (node_mem (l := l) (i := 0) (by omega)); rw [h0.1] at this; exact this
 refine ⟨r, hl.2, ⟨_, hd0, h0.2⟩, fun g n h => tree_nd ht (hm h), fun g n h e he => ?_, fun g n h => ?_, ?_⟩
 ·have h1 := tree_lead ht (hm h) he
  unfold entLead at h1
  simp only [Bool.and_eq_true, Bool.or_eq_true, Bool.not_eq_true', decide_eq_true_eq] at h1
  refine ⟨_, at_so h1.1, fun hd => ?_⟩
  rcases h1.2 with h2 | h2
  ·rw [hd] at h2; cases h2
  ·rw [h2]; exact r.key _ _ h
 ·have h1 := tree_tail ht (hm h)
  have hk := r.key _ _ h
  unfold tailT at h1
  rw [hk] at h1
  by_cases e : g = rootH
  ·rw [if_pos e] at h1 ⊢
   rw [← cs_cnt, of_decide_eq_true h1]; rfl
  ·rw [if_neg e] at h1 ⊢
   rw [Bool.and_eq_true] at h1
   rw [← cs_cnt]; exact of_decide_eq_true h1.1
 ·refine ⟨fun g => dpt l (l.length + 1) (l[fi l g]?.getD nd0), fun g n h hd hr => ?_⟩
  have hk := r.key _ _ h
  have h1 := tree_tail ht (hm h)
  unfold tailT at h1
  rw [hk, if_neg hr, Bool.and_eq_true] at h1
  have hu : up n = true := by unfold up; rw [hk, hd]; simp [hr]
  have h2 := h1.2
  rw [rch, if_pos hu] at h2
  by_cases hf : fi l n.par < l.length
  ·rw [if_pos hf] at h2
   refine ⟨⟨_, at_so hf⟩, ?_⟩
   have hn : l[fi l g]?.getD nd0 = n := by rw [← at_get, h]; rfl
   dsimp only
   rw [hn, dpt_still l _ _ h2]
   conv => rhs; rw [dpt, if_pos hu]
   omega
  ·rw [if_neg hf] at h2; cases h2
theorem rch_low {l : List Nd} (h0 : ∃ n, n ∈ l ∧ up n = false) (hl : 1 ≤ l.length) {n : Nd} (hn : n ∈ l) (k : Nat) (h : rch l k n = true) : rch l (l.length + 1) n = true := by
 obtain ⟨m, hm⟩ : ∃ m, l.length = m + 1 := ⟨l.length - 1, by omega⟩
 have hs : ∀ n, n ∈ l → rch l (m + 1) n = true → rch l m n = true := by
  rcases rch_count l h0 m with h | h
  ·exact h
  ·have hc : l.countP (rch l m) = l.length := by
    have := List.countP_le_length (p := rch l m) (l := l)
    omega
   rw [List.countP_eq_length] at hc
   exact fun n hn _ => hc n hn
 have hall : ∀ j, ∀ n, n ∈ l → rch l (m + j + 1) n = true → rch l (m + j) n = true := by
  intro j
  induction j with
  | zero => exact hs
  | succ j ih => exact rch_still l (m + j) ih
 have hdn : ∀ j, rch l (m + j) n = true → rch l m n = true := by
  intro j
  induction j with
  | zero => exact id
  | succ j ih => exact fun h => ih (hall j n hn h)
 have hup : ∀ j i, rch l i n = true → rch l (i + j) n = true := by
  intro j
  induction j with
  | zero => exact fun i h => h
  | succ j ih => exact fun i h => rch_more l _ _ (ih i h)
 have h1 : rch l m n = true := hdn k (by have := hup m k h; rwa [Nat.add_comm] at this)
 rw [hm]
 exact rch_more l _ _ (rch_more l _ _ h1)
theorem tf_to {l : List Nd} {f : Hd → Option Nd} (t : TF l f) : treeOk l = true := by
 have r := t.rp
 have hf := r.at
 obtain ⟨rt, hr, hrp⟩ := t.root
 have hrk := r.key _ _ hr
 have hrm : rt ∈ l := (r.mem rt).2 (by rw [hrk]; exact hr)
 have hl1 : 1 ≤ l.length := List.length_pos_of_mem hrm
 have hl2 := t.len
 have hmem : ∀ n, n ∈ l → f n.h = some n := fun n hn => (r.mem n).1 hn
 obtain ⟨i0, hi0, e0⟩ := List.getElem_of_mem hrm
 have hz : i0 = 0 := by
  rcases Nat.eq_zero_or_pos i0 with h | h
  ·exact h
  ·have hp := r.asc
   rw [List.pairwise_iff_getElem] at hp
   have h1 := hp 0 i0 (by omega) hi0 h
   rw [e0, hrk] at h1
   have h2 := t.nd _ _ (hmem _ (List.getElem_mem (l := l) (n := 0) (by omega)))
   unfold ndOk baseOk HOk at h2
   simp only [Bool.and_eq_true, decide_eq_true_eq] at h2
   simp only [lessH, Bool.or_eq_true, Bool.and_eq_true, decide_eq_true_eq] at h1
   have a1 : rootH.sh = 0 := rfl
   have a2 : rootH.ino = 1 := rfl
   rw [a1, a2] at h1
   omega
 subst hz
 have hh : l[0]?.getD nd0 = rt := by rw [List.getElem?_eq_getElem hi0]; exact e0
 obtain ⟨ρ, hρ⟩ := t.rank
 have hroot : up rt = false := by unfold up; rw [hrk]; simp
 have hreach : ∀ (k : Nat) (n : Nd), f n.h = some n → ρ n.h < k → rch l k n = true := by
  intro k
  induction k with
  | zero => intro n _ h; omega
  | succ k ih =>
   intro n hn hk
   by_cases hu : up n = true
   ·have hd : n.h.dir = true ∧ n.h ≠ rootH := by unfold up at hu; simpa using hu
    obtain ⟨⟨p, hp⟩, hlt⟩ := hρ _ _ hn hd.1 hd.2
    have hpk := r.key _ _ hp
    have hfi : fi l n.par < l.length := by rw [hf] at hp; have := at_is l n.par; rw [hp] at this; exact of_decide_eq_true (by rw [← this]; rfl)
    rw [rch, if_pos hu, if_pos hfi]
    have hq : l[fi l n.par]?.getD nd0 = p := by rw [← at_get, ← hf, hp]; rfl
    rw [hq]
    exact ih p (by rw [hpk]; exact hp) (by rw [hpk]; omega)
   ·rw [rch, if_neg hu]
 unfold treeOk
 rw [Bool.and_eq_true, List.all_eq_true]
 refine ⟨?_, fun i hi => ?_⟩
 ·unfold headT
  simp only [Bool.and_eq_true, decide_eq_true_eq]
  rw [hh]
  exact ⟨⟨hl1, hl2⟩, hrk, hrp⟩
 ·have hi' : i < l.length := by simpa using hi
  have hn := hmem _ (node_mem hi')
  have hnm := node_mem hi'
  obtain ⟨n, hne⟩ : ∃ n, l[i]?.getD nd0 = n := ⟨_, rfl⟩
  unfold nodeT
  rw [hne] at hn hnm ⊢
  simp only [Bool.and_eq_true, Bool.or_eq_true, decide_eq_true_eq]
  refine ⟨t.nd _ _ hn, ?_, ?_, ?_⟩
  ·rcases Nat.eq_zero_or_pos i with h | h
   ·exact .inl h
   ·right
    have hp := r.asc
    rw [List.pairwise_iff_getElem] at hp
    have h1 := hp (i - 1) i (by omega) hi' (by omega)
    rw [List.getElem?_eq_getElem (by omega : i - 1 < l.length)]
    rw [List.getElem?_eq_getElem hi'] at hne
    simp only [Option.getD_some] at hne ⊢
    rw [hne] at h1
    exact h1
  ·rw [List.all_eq_true]
   intro e he
   obtain ⟨a, ha, hp⟩ := t.lead _ _ hn e he
   unfold entLead
   have hfi : fi l e.h < l.length := by rw [hf] at ha; have := at_is l e.h; rw [ha] at this; exact of_decide_eq_true (by rw [← this]; rfl)
   have hq : l[fi l e.h]?.getD nd0 = a := by rw [← at_get, ← hf, ha]; rfl
   simp only [Bool.and_eq_true, Bool.or_eq_true, Bool.not_eq_true', decide_eq_true_eq]
   refine ⟨hfi, ?_⟩
   cases hd : e.h.dir with
   | false => exact .inl rfl
   | true => right; rw [hq]; exact hp hd
  ·unfold tailT
   have hc := t.cnt _ _ hn
   rw [← cs_cnt] at hc
   by_cases e : n.h = rootH
   ·rw [if_pos e] at hc ⊢
    exact decide_eq_true (by omega)
   ·rw [if_neg e] at hc ⊢
    rw [Bool.and_eq_true]
    exact ⟨decide_eq_true hc, rch_low ⟨rt, hrm, hroot⟩ hl1 hnm _ (hreach (ρ n.h + 1) n hn (by omega))⟩
end
section
structure NdP (n : Nd) : Prop where
 h : HOk n.h = true
 lk : 1 ≤ n.links ∧ n.links ≤ 2147483647
 vl : 0 ≤ n.val ∧ n.val ≤ 2147483647
 es : n.es.length ≤ 12
 dir : n.h.dir = true → n.val = 0 ∧ n.links = 1 ∧ HOk n.par = true ∧ n.par.dir = true ∧ entsOk n.es = true
 fil : n.h.dir = false → n.es = [] ∧ n.par = hd0
theorem nd_parts {n : Nd} (h : ndOk n = true) : NdP n := by
 unfold ndOk baseOk at h
 rw [Bool.and_eq_true] at h
 obtain ⟨h1, h2⟩ := h
 simp only [Bool.and_eq_true, decide_eq_true_eq] at h1
 refine ⟨h1.1, ⟨h1.2.1, h1.2.2.1⟩, ⟨h1.2.2.2.1, h1.2.2.2.2.1⟩, h1.2.2.2.2.2, fun hd => ?_, fun hd => ?_⟩
 ·rw [if_pos hd] at h2
  simp only [dirOk, Bool.and_eq_true, decide_eq_true_eq] at h2
  exact ⟨h2.1.1, h2.1.2.1, h2.1.2.2.1, h2.1.2.2.2, h2.2⟩
 ·rw [if_neg (by rw [hd]; simp)] at h2
  simp only [fileOk, Bool.and_eq_true, decide_eq_true_eq] at h2
  exact ⟨List.eq_nil_of_length_eq_zero h2.1, h2.2⟩
theorem nd_mk {n : Nd} (p : NdP n) : ndOk n = true := by
 unfold ndOk baseOk
 rw [Bool.and_eq_true]
 refine ⟨?_, ?_⟩
 ·simp only [Bool.and_eq_true, decide_eq_true_eq]
  exact ⟨p.h, p.lk.1, p.lk.2, p.vl.1, p.vl.2, p.es⟩
 ·cases hd : n.h.dir with
  | true =>
   have := p.dir hd
   simp only [if_true, dirOk, Bool.and_eq_true, decide_eq_true_eq]
   exact ⟨⟨this.1, this.2.1, this.2.2.1, this.2.2.2.1⟩, this.2.2.2.2⟩
  | false =>
   have := p.fil hd
   simp [fileOk, this.1, this.2]
theorem ents_hok {es : List En} (h : entsOk es = true) {e : En} (he : e ∈ es) : HOk e.h = true := by
 rw [ents_same, List.all_eq_true] at h
 obtain ⟨i, hi, rfl⟩ := List.getElem_of_mem he
 have h1 := h i (by simpa using hi)
 unfold enAt at h1
 rw [List.getElem?_eq_getElem hi] at h1
 simp only [Bool.and_eq_true] at h1
 exact h1.2.1
theorem ents_mk {es : List En} (h : AscE es) (hh : ∀ e ∈ es, HOk e.h = true) : entsOk es = true := by
 rw [ents_same, List.all_eq_true]
 intro i hi
 have hi' : i < es.length := by simpa using hi
 unfold enAt
 rw [List.getElem?_eq_getElem hi']
 simp only [Option.getD_some, Bool.and_eq_true, Bool.or_eq_true, Bool.not_eq_true', decide_eq_true_eq]
 refine ⟨h.2 _ (List.getElem_mem hi'), hh _ (List.getElem_mem hi'), ?_⟩
 rcases Nat.eq_zero_or_pos i with h0 | h0
 ·exact .inl h0
 ·right
  have hp := h.1
  rw [List.pairwise_iff_getElem] at hp
  rw [List.getElem?_eq_getElem (by omega : i - 1 < es.length)]
  exact (geS_cmp _ _).2 (hp (i - 1) i (by omega) hi' (by omega))
theorem asc_add {es : List En} (h : AscE es) {nm : List Int} (hn : isNm nm = true) (hf : fdB es nm = false) (x : Hd) : AscE (addE es nm x) :=
 ⟨addE_asc h hn hf x, fun e he => by rcases mem_add he with h1 | h1; exact h.2 e h1; rw [h1]; exact hn⟩
theorem len_add (es : List En) (nm : List Int) (x : Hd) : (addE es nm x).length = es.length + 1 := by rw [← (addE_perm es nm x).length_eq]; simp
theorem nd_add {n : Nd} (h : ndOk n = true) (hd : n.h.dir = true) {nm : List Int} (hn : isNm nm = true) {x : Hd} (hx : HOk x = true) (hf : fdB n.es nm = false) (hl : n.es.length < 12) : ndOk { n with es := addE n.es nm x } = true := by
 have p := nd_parts h
 have q := p.dir hd
 refine nd_mk ⟨p.h, p.lk, p.vl, by show (addE n.es nm x).length ≤ 12; rw [len_add]; omega, fun _ => ⟨q.1, q.2.1, q.2.2.1, q.2.2.2.1, ents_mk (asc_add (nd_asc h) hn hf x) (fun e he => ?_)⟩, fun hf => by have := hd.symm.trans hf; cases this⟩
 rcases mem_add he with h1 | h1
 ·exact ents_hok q.2.2.2.2 h1
 ·rw [h1]; exact hx
theorem nd_out {n : Nd} (h : ndOk n = true) (nm : List Int) : ndOk { n with es := outE n.es nm } = true := by
 have p := nd_parts h
 refine nd_mk ⟨p.h, p.lk, p.vl, Nat.le_trans (outE_len _ _) p.es, fun hd => ?_, fun hd => ?_⟩
 ·have q := p.dir hd
  exact ⟨q.1, q.2.1, q.2.2.1, q.2.2.2.1, ents_mk (outE_asc (nd_asc h) nm) (fun e he => ents_hok q.2.2.2.2 (List.mem_filter.1 he).1)⟩
 ·have q := p.fil hd
  exact ⟨by show outE n.es nm = []; rw [q.1]; rfl, q.2⟩
theorem carry {l : List Nd} {f f' : Hd → Option Nd} (t : TF l f) (hp : ∀ g a, f g = some a → ∃ a', f' g = some a' ∧ a'.par = a.par)
  (he : ∀ g a', f' g = some a' → ∃ a, f g = some a ∧ a'.par = a.par ∧ ∀ e ∈ a'.es, e ∈ a.es ∨ ∃ b, f' e.h = some b ∧ (e.h.dir = true → b.par = g)) :
  (∃ r, f' rootH = some r ∧ r.par = rootH) ∧ (∀ g n, f' g = some n → ∀ e ∈ n.es, ∃ a, f' e.h = some a ∧ (e.h.dir = true → a.par = g)) ∧ (∃ ρ : Hd → Nat, ∀ g n, f' g = some n → g.dir = true → g ≠ rootH → (∃ p, f' n.par = some p) ∧ ρ n.par < ρ g) := by
 refine ⟨?_, fun g n hg e hee => ?_, ?_⟩
 ·obtain ⟨r, h1, h2⟩ := t.root
  obtain ⟨r', h3, h4⟩ := hp _ _ h1
  exact ⟨r', h3, h4.trans h2⟩
 ·obtain ⟨a, h1, h2, h3⟩ := he _ _ hg
  rcases h3 e hee with h4 | h4
  ·obtain ⟨b, h5, h6⟩ := t.lead _ _ h1 e h4
   obtain ⟨b', h7, h8⟩ := hp _ _ h5
   exact ⟨b', h7, fun hd => h8.trans (h6 hd)⟩
  ·exact h4
 ·obtain ⟨ρ, hρ⟩ := t.rank
  refine ⟨ρ, fun g n hg hd hr => ?_⟩
  obtain ⟨a, h1, h2, _⟩ := he _ _ hg
  obtain ⟨⟨p, h3⟩, h4⟩ := hρ _ _ h1 hd hr
  obtain ⟨p', h5, _⟩ := hp _ _ h3
  rw [h2]
  exact ⟨⟨p', h5⟩, h4⟩
theorem set2 {f : Hd → Option Nd} {a b g : Hd} {x y n : Nd} (h : setN (setN f a x) b y g = some n) : (g = b ∧ n = y) ∨ (g ≠ b ∧ g = a ∧ n = x) ∨ (g ≠ b ∧ g ≠ a ∧ f g = some n) := by
 by_cases h1 : g = b
 ·subst h1; rw [setN_at] at h; exact .inl ⟨rfl, (Option.some.inj h).symm⟩
 ·rw [setN_ne h1] at h
  by_cases h2 : g = a
  ·subst h2; rw [setN_at] at h; exact .inr (.inl ⟨h1, rfl, (Option.some.inj h).symm⟩)
  ·rw [setN_ne h2] at h; exact .inr (.inr ⟨h1, h2, h⟩)
theorem set1 {f : Hd → Option Nd} {b g : Hd} {y n : Nd} (h : setN f b y g = some n) : (g = b ∧ n = y) ∨ (g ≠ b ∧ f g = some n) := by
 by_cases h1 : g = b
 ·subst h1; rw [setN_at] at h; exact .inl ⟨rfl, (Option.some.inj h).symm⟩
 ·rw [setN_ne h1] at h; exact .inr ⟨h1, h⟩
variable {l l' : List Nd} {f : Hd → Option Nd}
theorem tf_num (t : TF l f) {k : Hd} {n m : Nd} (hk : f k = some n) (hm : m.h = k) (hes : m.es = n.es) (hpar : m.par = n.par) (hl : k = rootH ∨ m.links = n.links) (hnd : ndOk m = true) (r' : Rp l' (setN f k m)) : TF l' (setN f k m) := by
 have p := perm_set t.rp r' hk hm
 have hc : ∀ g, cs l' g = cs l g := fun g => by have := cs_perm p g; rw [cs_cons, cs_cons, hes] at this; omega
 have c := carry (f' := setN f k m) t (fun g a h => by
   by_cases e : g = k
   ·subst e; rw [hk] at h; rw [← Option.some.inj h]; exact ⟨m, setN_at _ _ _, hpar⟩
   ·exact ⟨a, by rw [setN_ne e]; exact h, rfl⟩) (fun g a' h => by
   rcases set1 h with ⟨rfl, rfl⟩ | ⟨_, h⟩
   ·exact ⟨n, hk, hpar, fun e he => .inl (by rw [hes] at he; exact he)⟩
   ·exact ⟨a', h, rfl, fun e he => .inl he⟩)
 refine ⟨r', ?_, c.1, fun g a h => ?_, c.2.1, fun g a h => ?_, c.2.2⟩
 ·have h1 := p.length_eq; have h2 := t.len; simp only [List.length_cons] at h1; omega
 ·rcases set1 h with ⟨rfl, rfl⟩ | ⟨_, h⟩
  ·exact hnd
  ·exact t.nd _ _ h
 ·rw [hc]
  rcases set1 h with ⟨rfl, rfl⟩ | ⟨_, h⟩
  ·rw [t.cnt _ _ hk]
   rcases hl with e | e
   ·simp [e]
   ·rw [e]
  ·exact t.cnt _ _ h
theorem cnt_small (t : TF l f) {g : Hd} {n : Nd} (h : f g = some n) (hr : g ≠ rootH) : n.links ≤ 2880 := by
 have h1 := t.cnt _ _ h
 rw [if_neg hr] at h1
 have h2 := cs_le (l := l) (fun m hm => (nd_parts (t.nd _ _ ((t.rp.mem m).1 hm))).es) g
 have h3 := t.len
 omega
theorem root_dir {g : Hd} (h : g.dir = false) : g ≠ rootH := fun e => by rw [e] at h; cases h
theorem tf_link (t : TF l f) {dir tt : Hd} {n x : Nd} {nm : List Int} (hd : f dir = some n) (ht : f tt = some x) (hdd : dir.dir = true) (htd : tt.dir = false) (hn : isNm nm = true) (hf : fdB n.es nm = false) (hl : n.es.length < 12)
  (r' : Rp l' (setN (setN f tt { x with links := x.links + 1 }) dir { n with es := addE n.es nm tt })) : TF l' (setN (setN f tt { x with links := x.links + 1 }) dir { n with es := addE n.es nm tt }) := by
 have hne : dir ≠ tt := fun e => by rw [e, htd] at hdd; cases hdd
 have kx := t.rp.key _ _ ht
 have kn := t.rp.key _ _ hd
 obtain ⟨l1, r1, _⟩ := t.rp.exSet ht (m := { x with links := x.links + 1 }) kx
 have p1 := perm_set t.rp r1 ht kx
 have p2 := perm_set r1 r' (by rw [setN_ne hne]; exact hd) kn
 have hc : ∀ g, cs l' g = cs l g + if tt = g then 1 else 0 := fun g => by
  have h1 := cs_perm p1 g
  have h2 := cs_perm p2 g
  simp only [cs_cons, cnt_add] at h1 h2
  omega
 have px := nd_parts (t.nd _ _ ht)
 have hxs := cnt_small t ht (root_dir htd)
 have hxt : setN (setN f tt { x with links := x.links + 1 }) dir { n with es := addE n.es nm tt } tt = some { x with links := x.links + 1 } := by rw [setN_ne hne.symm, setN_at]
 have c := carry (f' := setN (setN f tt { x with links := x.links + 1 }) dir { n with es := addE n.es nm tt }) t (fun g a h => by
   by_cases e : g = dir
   ·subst e; rw [hd] at h; rw [← Option.some.inj h]; exact ⟨_, setN_at _ _ _, rfl⟩
   ·rw [setN_ne e]
    by_cases e2 : g = tt
    ·subst e2; rw [ht] at h; rw [← Option.some.inj h]; exact ⟨_, setN_at _ _ _, rfl⟩
    ·exact ⟨a, by rw [setN_ne e2]; exact h, rfl⟩) (fun g a' h => by
   rcases set2 h with ⟨rfl, rfl⟩ | ⟨_, rfl, rfl⟩ | ⟨_, _, h⟩
   ·refine ⟨n, hd, rfl, fun e he => ?_⟩
    rcases mem_add he with h1 | h1
    ·exact .inl h1
    ·right
     rw [h1]
     exact ⟨_, hxt, fun h => by have := htd.symm.trans h; cases this⟩
   ·exact ⟨x, ht, rfl, fun e he => .inl he⟩
   ·exact ⟨a', h, rfl, fun e he => .inl he⟩)
 refine ⟨r', ?_, c.1, fun g a h => ?_, c.2.1, fun g a h => ?_, c.2.2⟩
 ·have h1 := p1.length_eq; have h2 := p2.length_eq; have h3 := t.len; simp only [List.length_cons] at h1 h2; omega
 ·rcases set2 h with ⟨rfl, rfl⟩ | ⟨_, rfl, rfl⟩ | ⟨_, _, h⟩
  ·exact nd_add (t.nd _ _ hd) (by rw [kn]; exact hdd) hn (by have := px.h; rw [kx] at this; exact this) hf hl
  ·have q := px.lk
   exact nd_mk ⟨px.h, (by dsimp only; omega), px.vl, px.es, (fun h => by dsimp only at h; rw [kx, htd] at h; cases h), px.fil⟩
  ·exact t.nd _ _ h
 ·rw [hc]
  rcases set2 h with ⟨rfl, rfl⟩ | ⟨_, rfl, rfl⟩ | ⟨_, e2, h⟩
  ·rw [if_neg (fun e => hne e.symm)]
   exact t.cnt _ n hd
  ·have h1 := t.cnt _ _ ht
   rw [if_neg (root_dir htd)] at h1 ⊢
   rw [if_pos rfl]
   dsimp only
   omega
  ·rw [if_neg (fun e => e2 e.symm)]
   exact t.cnt _ _ h
theorem cs_none (t : TF l f) {g : Hd} (h : f g = none) : cs l g = 0 := by
 rcases Nat.eq_zero_or_pos (cs l g) with h0 | h0
 ·exact h0
 ·obtain ⟨n, hn, e, he, hh⟩ := cs_ex h0
  obtain ⟨a, ha, _⟩ := t.lead _ _ ((t.rp.mem n).1 hn) e he
  rw [hh, h] at ha
  cases ha
theorem tf_make (t : TF l f) {dir fr : Hd} {n : Nd} {nm : List Int} (hd : f dir = some n) (hfr : f fr = none) (hdd : dir.dir = true) (hok : HOk fr = true) (hn : isNm nm = true) (hf : fdB n.es nm = false) (hl : n.es.length < 12) (hlen : l.length < 240)
  (hpl : ∀ m ∈ l, ¬ (m.h.sh = fr.sh ∧ m.h.ino = fr.ino)) (r' : Rp l' (setN (setN f fr ⟨fr, if fr.dir = true then dir else hd0, 1, 0, []⟩) dir { n with es := addE n.es nm fr })) :
  TF l' (setN (setN f fr ⟨fr, if fr.dir = true then dir else hd0, 1, 0, []⟩) dir { n with es := addE n.es nm fr }) := by
 have hne : dir ≠ fr := fun e => by rw [e, hfr] at hd; cases hd
 have kn := t.rp.key _ _ hd
 have r1 : Rp (insN l ⟨fr, if fr.dir = true then dir else hd0, 1, 0, []⟩) (setN f fr ⟨fr, if fr.dir = true then dir else hd0, 1, 0, []⟩) := t.rp.ins hpl
 have p1 := perm_new t.rp r1 hfr rfl
 have p2 := perm_set r1 r' (by rw [setN_ne hne]; exact hd) kn
 have hc : ∀ g, cs l' g = cs l g + if fr = g then 1 else 0 := fun g => by
  have h1 := cs_perm p1 g
  have h2 := cs_perm p2 g
  simp only [cs_cons, cnt_add] at h1 h2
  have h3 : cntE ([] : List En) g = 0 := rfl
  omega
 have hrt : fr ≠ rootH := fun e => by obtain ⟨r, h1, _⟩ := t.root; rw [← e, hfr] at h1; cases h1
 obtain ⟨ρ, hρ⟩ := t.rank
 have hat : ∀ {g : Hd} {a : Nd}, f g = some a → ∃ a', setN (setN f fr ⟨fr, if fr.dir = true then dir else hd0, 1, 0, []⟩) dir { n with es := addE n.es nm fr } g = some a' ∧ a'.par = a.par := fun {g a} h => by
  by_cases e : g = dir
  ·subst e; rw [hd] at h; rw [← Option.some.inj h]; exact ⟨_, setN_at _ _ _, rfl⟩
  ·have e2 : g ≠ fr := fun e2 => by rw [e2, hfr] at h; cases h
   exact ⟨a, by rw [setN_ne e, setN_ne e2]; exact h, rfl⟩
 have hfra : setN (setN f fr ⟨fr, if fr.dir = true then dir else hd0, 1, 0, []⟩) dir { n with es := addE n.es nm fr } fr = some ⟨fr, if fr.dir = true then dir else hd0, 1, 0, []⟩ := by rw [setN_ne hne.symm, setN_at]
 have hold : ∀ {g : Hd} {a : Nd}, f g = some a → ∀ e ∈ a.es, ∃ b, setN (setN f fr ⟨fr, if fr.dir = true then dir else hd0, 1, 0, []⟩) dir { n with es := addE n.es nm fr } e.h = some b ∧ (e.h.dir = true → b.par = g) := fun {g a} h e he => by
  obtain ⟨b, h1, h2⟩ := t.lead _ _ h e he
  obtain ⟨b', h3, h4⟩ := hat h1
  exact ⟨b', h3, fun k => h4.trans (h2 k)⟩
 refine ⟨r', ?_, ?_, fun g a h => ?_, fun g a h e he => ?_, fun g a h => ?_, ⟨fun g => if g = fr then ρ dir + 1 else ρ g, fun g a h hgd hgr => ?_⟩⟩
 ·have h1 := p1.length_eq; have h2 := p2.length_eq; simp only [List.length_cons] at h1 h2; omega
 ·obtain ⟨r, h1, h2⟩ := t.root
  obtain ⟨r', h3, h4⟩ := hat h1
  exact ⟨r', h3, h4.trans h2⟩
 ·rcases set2 h with ⟨rfl, rfl⟩ | ⟨_, rfl, rfl⟩ | ⟨_, _, h⟩
  ·exact nd_add (t.nd _ _ hd) (by rw [kn]; exact hdd) hn hok hf hl
  ·have q := nd_parts (t.nd _ _ hd)
   refine nd_mk ⟨hok, ⟨by dsimp only; omega, by dsimp only; omega⟩, ⟨by dsimp only; omega, by dsimp only; omega⟩, Nat.zero_le _, fun h => ?_, fun h => ?_⟩
   ·dsimp only at h ⊢
    rw [if_pos h]
    have q1 := q.h
    rw [kn] at q1
    exact ⟨rfl, rfl, q1, hdd, rfl⟩
   ·dsimp only at h ⊢
    rw [if_neg (by rw [h]; simp)]
    exact ⟨rfl, rfl⟩
  ·exact t.nd _ _ h
 ·rcases set2 h with ⟨rfl, rfl⟩ | ⟨_, rfl, rfl⟩ | ⟨_, _, h⟩
  ·rcases mem_add he with h1 | h1
   ·exact hold hd e h1
   ·rw [h1]
    refine ⟨_, hfra, fun k => ?_⟩
    dsimp only at k ⊢
    rw [if_pos k]
  ·cases he
  ·exact hold h e he
 ·rw [hc]
  rcases set2 h with ⟨rfl, rfl⟩ | ⟨_, rfl, rfl⟩ | ⟨_, e2, h⟩
  ·rw [if_neg (fun e => hne e.symm)]
   exact t.cnt _ n hd
  ·rw [if_pos rfl, if_neg hrt, cs_none t hfr]; rfl
  ·rw [if_neg (fun e => e2 e.symm)]
   exact t.cnt _ _ h
 ·have hstep : ∀ {a : Nd}, f g = some a → (∃ p, setN (setN f fr ⟨fr, if fr.dir = true then dir else hd0, 1, 0, []⟩) dir { n with es := addE n.es nm fr } a.par = some p) ∧ (if a.par = fr then ρ dir + 1 else ρ a.par) < (if g = fr then ρ dir + 1 else ρ g) := fun {a} h => by
   obtain ⟨⟨p, h1⟩, h2⟩ := hρ _ _ h hgd hgr
   obtain ⟨p', h3, _⟩ := hat h1
   have e1 : a.par ≠ fr := fun e => by rw [e, hfr] at h1; cases h1
   have e2 : g ≠ fr := fun e => by rw [e, hfr] at h; cases h
   rw [if_neg e1, if_neg e2]
   exact ⟨⟨p', h3⟩, h2⟩
  rcases set2 h with ⟨rfl, rfl⟩ | ⟨_, rfl, rfl⟩ | ⟨_, _, h⟩
  ·exact hstep (a := n) hd
  ·dsimp only
   rw [if_pos hgd, if_neg hne, if_pos rfl]
   exact ⟨⟨_, setN_at _ _ _⟩, by omega⟩
  ·exact hstep h
end
section
variable {l l' : List Nd} {f : Hd → Option Nd}
theorem TF.row (t : TF l f) (r' : Rp l' f) : TF l' f := by
 have p := t.rp.same r'
 refine ⟨r', by rw [← p.length_eq]; exact t.len, t.root, t.nd, t.lead, fun g n h => by rw [← cs_perm p]; exact t.cnt g n h, t.rank⟩
theorem TF.mem (t : TF l f) {g : Hd} {n : Nd} (h : f g = some n) : n ∈ l := (t.rp.mem n).2 (by rw [t.rp.key _ _ h]; exact h)
theorem no_root (t : TF l f) {g : Hd} {n : Nd} (h : f g = some n) {e : En} (he : e ∈ n.es) : e.h ≠ rootH := by
 intro e1
 have h1 := cs_pos (t.mem h) he e1
 obtain ⟨r, h2, _⟩ := t.root
 have h3 := t.cnt _ _ h2
 rw [if_pos rfl] at h3
 omega
theorem no_self (t : TF l f) {g : Hd} {n : Nd} (h : f g = some n) (hd : g.dir = true) {e : En} (he : e ∈ n.es) : e.h ≠ g := by
 intro e1
 have hr := no_root t h he
 rw [e1] at hr
 obtain ⟨a, h1, h2⟩ := t.lead _ _ h e he
 rw [e1, h] at h1
 have h3 := h2 (by rw [e1]; exact hd)
 rw [← Option.some.inj h1] at h3
 obtain ⟨ρ, hρ⟩ := t.rank
 have := (hρ _ _ h hd hr).2
 rw [h3] at this
 omega
theorem par_has (t : TF l f) {g p : Hd} {n x : Nd} (h : f g = some n) (hd : g.dir = true) (hr : g ≠ rootH) (hp : n.par = p) (hx : f p = some x) : x.es ≠ [] := by
 intro e0
 have hc := t.cnt _ _ h
 rw [if_neg hr] at hc
 have hl := (nd_parts (t.nd _ _ h)).lk
 obtain ⟨m, hm, e, he, hh⟩ := cs_ex (l := l) (h := g) (by omega)
 obtain ⟨a, h1, h2⟩ := t.lead _ _ ((t.rp.mem m).1 hm) e he
 rw [hh, h] at h1
 have h3 := h2 (by rw [hh]; exact hd)
 rw [← Option.some.inj h1, hp] at h3
 have h4 := (t.rp.mem m).1 hm
 rw [← h3, hx] at h4
 rw [Option.some.inj h4] at e0
 rw [e0] at he
 cases he
theorem tf_drop (t : TF l f) {dir h : Hd} {n x : Nd} {nm : List Int} (hd : f dir = some n) (hdd : dir.dir = true) (hf : fdB n.es nm = true) (hh : fdH n.es nm = h) (hx : f h = some x) (hes : h.dir = true → x.es = [])
  (r' : Rp l' (unlN (setN f dir { n with es := outE n.es nm }) h x)) : TF l' (unlN (setN f dir { n with es := outE n.es nm }) h x) := by
 have hem : (⟨nm, h⟩ : En) ∈ n.es := by rw [← hh]; exact fd_mem hf
 have hne : h ≠ dir := no_self t hd hdd hem
 have hr : h ≠ rootH := no_root t hd hem
 have kn := t.rp.key _ _ hd
 have kx := t.rp.key _ _ hx
 have px := nd_parts (t.nd _ _ hx)
 obtain ⟨l1, r1, hl1⟩ := t.rp.exSet hd (m := { n with es := outE n.es nm }) kn
 have p1 := perm_set t.rp r1 hd kn
 have hc1 : ∀ g, cs l g = cs l1 g + if h = g then 1 else 0 := fun g => by
  have h1 := cs_perm p1 g
  have h2 := cnt_out (nd_asc (t.nd _ _ hd)) hf g
  rw [hh] at h2
  simp only [cs_cons] at h1
  omega
 have hx1 : setN f dir { n with es := outE n.es nm } h = some x := by rw [setN_ne hne]; exact hx
 have hcx := t.cnt _ _ hx
 rw [if_neg hr] at hcx
 have hxe : x.links ≤ 1 → x.es = [] := fun _ => by
  cases hhd : h.dir with
  | true => exact hes hhd
  | false => exact (px.fil (by rw [kx]; exact hhd)).1
 by_cases hl : x.links - 1 ≤ 0
 ·have e1 : unlN (setN f dir { n with es := outE n.es nm }) h x = delN (setN f dir { n with es := outE n.es nm }) h := by unfold unlN; rw [if_pos hl]
  rw [e1] at r' ⊢
  have p2 := perm_del r1 r' hx1
  have hxes := hxe (by omega)
  have hc : ∀ g, cs l g = cs l' g + if h = g then 1 else 0 := fun g => by
   have h1 := cs_perm p2 g
   simp only [cs_cons, hxes] at h1
   have h3 : cntE ([] : List En) g = 0 := rfl
   have := hc1 g
   omega
  have hz : cs l' h = 0 := by have := hc h; rw [if_pos rfl] at this; have := px.lk; omega
  have hin : ∀ {g : Hd} {a : Nd}, delN (setN f dir { n with es := outE n.es nm }) h g = some a → g ≠ h ∧ ∃ b, f g = some b ∧ a.par = b.par ∧ a.links = b.links ∧ (∀ e ∈ a.es, e ∈ b.es) ∧ ndOk a = true := fun {g a} k => by
   obtain ⟨k1, k2⟩ := delN_at k
   refine ⟨k1, ?_⟩
   rcases set1 k2 with ⟨rfl, rfl⟩ | ⟨_, k3⟩
   ·exact ⟨n, hd, rfl, rfl, fun e he => (List.mem_filter.1 he).1, nd_out (t.nd _ _ hd) nm⟩
   ·exact ⟨a, k3, rfl, rfl, fun e he => he, t.nd _ _ k3⟩
  have hout : ∀ {g : Hd} {b : Nd}, f g = some b → g ≠ h → ∃ a, delN (setN f dir { n with es := outE n.es nm }) h g = some a ∧ a.par = b.par := fun {g b} k k1 => by
   have e2 : delN (setN f dir { n with es := outE n.es nm }) h g = setN f dir { n with es := outE n.es nm } g := by unfold delN; rw [if_neg k1]
   rw [e2]
   by_cases e3 : g = dir
   ·subst e3; rw [hd] at k; rw [← Option.some.inj k]; exact ⟨_, setN_at _ _ _, rfl⟩
   ·exact ⟨b, by rw [setN_ne e3]; exact k, rfl⟩
  refine ⟨r', ?_, ?_, fun g a k => (hin k).2.choose_spec.2.2.2.2, fun g a k e he => ?_, fun g a k => ?_, ?_⟩
  ·have h1 := p1.length_eq; have h2 := p2.length_eq; have h3 := t.len; simp only [List.length_cons] at h1 h2; omega
  ·obtain ⟨r, h1, h2⟩ := t.root
   obtain ⟨a, h3, h4⟩ := hout h1 hr.symm
   exact ⟨a, h3, h4.trans h2⟩
  ·obtain ⟨k1, b, k2, k3, _, k4, _⟩ := hin k
   obtain ⟨c, h1, h2⟩ := t.lead _ _ k2 e (k4 e he)
   have h3 : e.h ≠ h := cs_zero hz ((r'.mem a).2 (by rw [r'.key _ _ k]; exact k)) he
   obtain ⟨c', h4, h5⟩ := hout h1 h3
   exact ⟨c', h4, fun q => h5.trans (h2 q)⟩
  ·obtain ⟨k1, b, k2, k3, k5, _⟩ := hin k
   have h1 := t.cnt _ _ k2
   have h2 := hc g
   rw [if_neg (fun e => k1 e.symm)] at h2
   rw [k5, ← h1]
   omega
  ·obtain ⟨ρ, hρ⟩ := t.rank
   refine ⟨ρ, fun g a k hgd hgr => ?_⟩
   obtain ⟨k1, b, k2, k3, _⟩ := hin k
   obtain ⟨⟨p, h1⟩, h2⟩ := hρ _ _ k2 hgd hgr
   have h3 : b.par ≠ h := fun e => par_has t k2 hgd hgr e hx hxes
   obtain ⟨p', h4, _⟩ := hout h1 h3
   rw [k3]
   exact ⟨⟨p', h4⟩, h2⟩
 ·have e1 : unlN (setN f dir { n with es := outE n.es nm }) h x = setN (setN f dir { n with es := outE n.es nm }) h { x with links := x.links - 1 } := by unfold unlN; rw [if_neg hl]
  rw [e1] at r' ⊢
  have hhd : h.dir = false := by
   cases hhd : h.dir with
   | false => rfl
   | true => have := (px.dir (by rw [kx]; exact hhd)).2.1; omega
  have p2 := perm_set r1 r' hx1 kx
  have hc : ∀ g, cs l g = cs l' g + if h = g then 1 else 0 := fun g => by
   have h1 := cs_perm p2 g
   simp only [cs_cons] at h1
   have := hc1 g
   omega
  have c := carry (f' := setN (setN f dir { n with es := outE n.es nm }) h { x with links := x.links - 1 }) t (fun g a k => by
    by_cases e : g = h
    ·subst e; rw [hx] at k; rw [← Option.some.inj k]; exact ⟨_, setN_at _ _ _, rfl⟩
    ·rw [setN_ne e]
     by_cases e2 : g = dir
     ·subst e2; rw [hd] at k; rw [← Option.some.inj k]; exact ⟨_, setN_at _ _ _, rfl⟩
     ·exact ⟨a, by rw [setN_ne e2]; exact k, rfl⟩) (fun g a' k => by
    rcases set2 k with ⟨rfl, rfl⟩ | ⟨_, rfl, rfl⟩ | ⟨_, _, k⟩
    ·exact ⟨x, hx, rfl, fun e he => .inl he⟩
    ·exact ⟨n, hd, rfl, fun e he => .inl (List.mem_filter.1 he).1⟩
    ·exact ⟨a', k, rfl, fun e he => .inl he⟩)
  refine ⟨r', ?_, c.1, fun g a k => ?_, c.2.1, fun g a k => ?_, c.2.2⟩
  ·have h1 := p1.length_eq; have h2 := p2.length_eq; have h3 := t.len; simp only [List.length_cons] at h1 h2; omega
  ·rcases set2 k with ⟨rfl, rfl⟩ | ⟨_, rfl, rfl⟩ | ⟨_, _, k⟩
   ·have q := px.lk
    exact nd_mk ⟨px.h, (by dsimp only; omega), px.vl, px.es, (fun k => by dsimp only at k; rw [kx, hhd] at k; cases k), px.fil⟩
   ·exact nd_out (t.nd _ _ hd) nm
   ·exact t.nd _ _ k
  ·have h2 := hc g
   rcases set2 k with ⟨rfl, rfl⟩ | ⟨e9, rfl, rfl⟩ | ⟨e9, _, k⟩
   ·rw [if_pos rfl] at h2
    rw [if_neg hr]
    dsimp only
    omega
   ·rw [if_neg (fun e => e9 e.symm)] at h2
    have h3 := t.cnt _ _ hd
    dsimp only
    rw [← h3]; omega
   ·rw [if_neg (fun e => e9 e.symm)] at h2
    rw [← t.cnt _ _ k]; omega
/- the way up -/
def anc (f : Hd → Option Nd) : Nat → Hd → Hd
 | 0, g => g
 | k + 1, g => if g = rootH then g else anc f k ((f g).getD nd0).par
theorem way_no {h : Hd} (hr : h ≠ rootH) : ∀ (k : Nat) (g : Hd), wayI f h k g = 0 → ∀ j, anc f j g ≠ h
 | 0, g, e => by simp [wayI] at e
 | k + 1, g, e => by
  unfold wayI at e
  by_cases h1 : g = h
  ·rw [if_pos h1] at e; omega
  ·rw [if_neg h1] at e
   intro j
   cases j with
   | zero => exact h1
   | succ j =>
    unfold anc
    by_cases h2 : g = rootH
    ·rw [if_pos h2, h2]; exact hr.symm
    ·rw [if_neg h2] at e ⊢
     exact way_no hr k _ e j
theorem tf_moved (t : TF l f) {f' : Hd → Option Nd} {h tt : Hd} {x y : Nd} {asn : List Int} (r' : Rp l' f') (hx : f h = some x) (hy : f tt = some y) (htd : tt.dir = true) (hr : h ≠ rootH) (hway : h.dir = true → (x.par = tt ∨ ∀ j, anc f j tt ≠ h))
  (hc : ∀ g, cs l' g = cs l g) (hlen : l'.length = l.length)
  (h1 : ∀ g a', f' g = some a' → ndOk a' = true ∧ ∃ a, f g = some a ∧ a'.links = a.links ∧ (a'.par = if g = h ∧ h.dir = true then tt else a.par) ∧ ∀ e ∈ a'.es, (e ∈ a.es ∧ (h.dir = true → e.h ≠ h)) ∨ (g = tt ∧ e.h = h))
  (h2 : ∀ g a, f g = some a → ∃ a', f' g = some a' ∧ a'.par = if g = h ∧ h.dir = true then tt else a.par) : TF l' f' := by
 refine ⟨r', by rw [hlen]; exact t.len, ?_, fun g a k => (h1 g a k).1, fun g a' k e he => ?_, fun g a' k => ?_, ?_⟩
 ·obtain ⟨r, k1, k2⟩ := t.root
  obtain ⟨a, k3, k4⟩ := h2 _ _ k1
  rw [if_neg (fun k => hr k.1.symm)] at k4
  exact ⟨a, k3, k4.trans k2⟩
 ·obtain ⟨_, a, k1, _, _, k3⟩ := h1 _ _ k
  rcases k3 e he with ⟨k4, k5⟩ | ⟨rfl, k5⟩
  ·obtain ⟨b, k6, k7⟩ := t.lead _ _ k1 e k4
   obtain ⟨b', k8, k9⟩ := h2 _ _ k6
   refine ⟨b', k8, fun hd => ?_⟩
   rw [k9, if_neg (fun q => k5 q.2 q.1)]
   exact k7 hd
  ·obtain ⟨b', k8, k9⟩ := h2 _ _ hx
   rw [k5]
   refine ⟨b', k8, fun hd => ?_⟩
   rw [k9, if_pos ⟨rfl, hd⟩]
 ·obtain ⟨_, a, k1, k2, _⟩ := h1 _ _ k
  rw [hc, k2]
  exact t.cnt _ _ k1
 ·obtain ⟨ρ, hρ⟩ := t.rank
  by_cases hd : h.dir = true
  ·rcases hway hd with hw | hw
   ·refine ⟨ρ, fun g a' k hgd hgr => ?_⟩
    obtain ⟨_, a, k1, _, k2, _⟩ := h1 _ _ k
    have k3 : a'.par = a.par := by
     rw [k2]
     by_cases e : g = h
     ·rw [if_pos ⟨e, hd⟩, ← hw]; rw [e, hx] at k1; rw [Option.some.inj k1]
     ·rw [if_neg (fun q => e q.1)]
    obtain ⟨⟨p, k4⟩, k5⟩ := hρ _ _ k1 hgd hgr
    obtain ⟨p', k6, _⟩ := h2 _ _ k4
    rw [k3]
    exact ⟨⟨p', k6⟩, k5⟩
   ·have dec : ∀ g, Decidable (∃ j, anc f j g = h) := fun g => Classical.propDecidable _
    refine ⟨fun g => if ∃ j, anc f j g = h then ρ g + ρ tt + 1 else ρ g, fun g a' k hgd hgr => ?_⟩
    obtain ⟨_, a, k1, _, k2, _⟩ := h1 _ _ k
    dsimp only
    by_cases e : g = h
    ·rw [if_pos ⟨e, hd⟩] at k2
     rw [k2]
     obtain ⟨y', k6, _⟩ := h2 _ _ hy
     refine ⟨⟨y', k6⟩, ?_⟩
     rw [if_neg (fun ⟨j, hj⟩ => hw j hj), if_pos ⟨0, e⟩]
     omega
    ·rw [if_neg (fun q => e q.1)] at k2
     obtain ⟨⟨p, k4⟩, k5⟩ := hρ _ _ k1 hgd hgr
     obtain ⟨p', k6, _⟩ := h2 _ _ k4
     rw [k2]
     refine ⟨⟨p', k6⟩, ?_⟩
     have hs : (∃ j, anc f j g = h) ↔ ∃ j, anc f j a.par = h := by
      constructor
      ·rintro ⟨j, hj⟩
       cases j with
       | zero => exact absurd hj e
       | succ j =>
        unfold anc at hj
        rw [if_neg hgr, k1] at hj
        exact ⟨j, hj⟩
      ·rintro ⟨j, hj⟩
       refine ⟨j + 1, ?_⟩
       unfold anc
       rw [if_neg hgr, k1]
       exact hj
     by_cases hu : ∃ j, anc f j g = h
     ·rw [if_pos hu, if_pos (hs.1 hu)]; omega
     ·rw [if_neg hu, if_neg (fun q => hu (hs.2 q))]; exact k5
  ·refine ⟨ρ, fun g a' k hgd hgr => ?_⟩
   obtain ⟨_, a, k1, _, k2, _⟩ := h1 _ _ k
   rw [if_neg (fun q => hd q.2)] at k2
   obtain ⟨⟨p, k4⟩, k5⟩ := hρ _ _ k1 hgd hgr
   obtain ⟨p', k6, _⟩ := h2 _ _ k4
   rw [k2]
   exact ⟨⟨p', k6⟩, k5⟩
end
section
variable {l l' : List Nd} {f : Hd → Option Nd}
theorem out_short {es : List En} {nm : List Int} (hf : fdB es nm = true) : (outE es nm).length < es.length := by
 unfold outE
 exact List.length_filter_lt_length_iff_exists.2 ⟨_, fd_mem hf, by simp⟩
theorem tf_move (t : TF l f) {dir tt h : Hd} {n x y : Nd} {nm asn : List Int} (hd : f dir = some n) (hdd : dir.dir = true) (hf : fdB n.es nm = true) (hh : fdH n.es nm = h) (hx : f h = some x) (hy : f tt = some y) (htd : tt.dir = true) (hn : isNm asn = true) (hfree : fdB y.es asn = false) (hroom : tt ≠ dir → y.es.length < 12) (hway : h.dir = true → tt ≠ dir → wayI f h 12 tt = 0)
  (r' : Rp l' (if h.dir = true then setN (mvF f dir tt nm asn h) h { (mvF f dir tt nm asn h h).getD nd0 with par := tt } else mvF f dir tt nm asn h)) :
  TF l' (if h.dir = true then setN (mvF f dir tt nm asn h) h { (mvF f dir tt nm asn h h).getD nd0 with par := tt } else mvF f dir tt nm asn h) := by
 have hem : (⟨nm, h⟩ : En) ∈ n.es := by rw [← hh]; exact fd_mem hf
 have hne : h ≠ dir := no_self t hd hdd hem
 have hr : h ≠ rootH := no_root t hd hem
 have kn := t.rp.key _ _ hd
 have kx := t.rp.key _ _ hx
 have ky := t.rp.key _ _ hy
 have px := nd_parts (t.nd _ _ hx)
 have hnt : h ≠ tt := by
  by_cases e : tt = dir
  ·rw [e]; exact hne
  ·cases hhd : h.dir with
   | true => exact (way_no hr _ _ (hway hhd e) 0).symm
   | false => intro e2; rw [e2, htd] at hhd; cases hhd
 obtain ⟨F1, hF1⟩ : ∃ F, setN f dir { n with es := outE n.es nm } = F := ⟨_, rfl⟩
 obtain ⟨l1, r1, hl1⟩ := t.rp.exSet hd (m := { n with es := outE n.es nm }) kn
 have p1 := perm_set t.rp r1 hd kn
 have hc1 : ∀ g, cs l g = cs l1 g + if h = g then 1 else 0 := fun g => by
  have h1 := cs_perm p1 g
  have h2 := cnt_out (nd_asc (t.nd _ _ hd)) hf g
  rw [hh] at h2
  simp only [cs_cons] at h1
  omega
 have hz : h.dir = true → ∀ g a, F1 g = some a → ∀ e ∈ a.es, e.h ≠ h := by
  intro hhd g a ka e he
  have h1 := t.cnt _ _ hx
  rw [if_neg hr, (px.dir (by rw [kx]; exact hhd)).2.1] at h1
  have h2 := hc1 h
  rw [if_pos rfl] at h2
  rw [← hF1] at ka
  exact cs_zero (l := l1) (by omega) ((r1.mem a).2 (by rw [r1.key _ _ ka]; exact ka)) he
 have g1 : ∀ g a, F1 g = some a → ndOk a = true ∧ ∃ b, f g = some b ∧ a.links = b.links ∧ a.par = b.par ∧ ∀ e ∈ a.es, e ∈ b.es := by
  intro g a ka
  rw [← hF1] at ka
  rcases set1 ka with ⟨rfl, rfl⟩ | ⟨_, k⟩
  ·exact ⟨nd_out (t.nd _ _ hd) nm, n, hd, rfl, rfl, fun e he => (List.mem_filter.1 he).1⟩
  ·exact ⟨t.nd _ _ k, a, k, rfl, rfl, fun e he => he⟩
 have g1' : ∀ g b, f g = some b → ∃ a, F1 g = some a ∧ a.par = b.par := by
  intro g b kb
  rw [← hF1]
  by_cases e : g = dir
  ·subst e; rw [hd] at kb; rw [← Option.some.inj kb]; exact ⟨_, setN_at _ _ _, rfl⟩
  ·exact ⟨b, by rw [setN_ne e]; exact kb, rfl⟩
 obtain ⟨y1, hy1, hyf, hyl⟩ : ∃ y1, F1 tt = some y1 ∧ fdB y1.es asn = false ∧ y1.es.length < 12 := by
  rw [← hF1]
  by_cases e : tt = dir
  ·subst e
   rw [hd] at hy
   have hy' := Option.some.inj hy
   subst hy'
   refine ⟨_, setN_at _ _ _, ?_, ?_⟩
   ·rw [fdB_no] at hfree ⊢
    exact fun e he => hfree e (List.mem_filter.1 he).1
   ·have h1 := out_short hf
    have h2 := (nd_parts (t.nd _ _ hd)).es
    dsimp only
    omega
  ·exact ⟨y, by rw [setN_ne e]; exact hy, hfree, hroom e⟩
 have hmv : mvF f dir tt nm asn h = setN F1 tt { y1 with es := addE y1.es asn h } := by
  unfold mvF
  rw [hd]
  simp only [Option.getD_some]
  rw [hF1, hy1]
  rfl
 rw [hF1] at r1
 have ky1 := r1.key _ _ hy1
 obtain ⟨l2, r2, hl2⟩ := r1.exSet hy1 (m := { y1 with es := addE y1.es asn h }) ky1
 have p2 := perm_set r1 r2 hy1 ky1
 have hc2 : ∀ g, cs l2 g = cs l g := fun g => by
  have h1 := cs_perm p2 g
  have h2 := hc1 g
  simp only [cs_cons, cnt_add] at h1
  omega
 rw [← hmv] at r2
 have hx1 : F1 h = some x := by rw [← hF1, setN_ne hne]; exact hx
 have hx2 : mvF f dir tt nm asn h h = some x := by rw [hmv, setN_ne hnt]; exact hx1
 have g2 : ∀ g a', mvF f dir tt nm asn h g = some a' → ndOk a' = true ∧ ∃ a, f g = some a ∧ a'.links = a.links ∧ a'.par = a.par ∧ ∀ e ∈ a'.es, (e ∈ a.es ∧ (h.dir = true → e.h ≠ h)) ∨ (g = tt ∧ e.h = h) := by
  intro g a' ka
  rw [hmv] at ka
  rcases set1 ka with ⟨rfl, rfl⟩ | ⟨_, k⟩
  ·obtain ⟨k1, b, k2, k3, k4, k5⟩ := g1 _ _ hy1
   refine ⟨nd_add k1 (by rw [ky1]; exact htd) hn (by have := px.h; rw [kx] at this; exact this) hyf hyl, b, k2, k3, k4, fun e he => ?_⟩
   rcases mem_add he with q | q
   ·exact .inl ⟨k5 e q, fun hhd => hz hhd _ _ hy1 e q⟩
   ·exact .inr ⟨rfl, by rw [q]⟩
  ·obtain ⟨k1, b, k2, k3, k4, k5⟩ := g1 _ _ k
   exact ⟨k1, b, k2, k3, k4, fun e he => .inl ⟨k5 e he, fun hhd => hz hhd _ _ k e he⟩⟩
 have g2' : ∀ g b, f g = some b → ∃ a, mvF f dir tt nm asn h g = some a ∧ a.par = b.par := by
  intro g b kb
  obtain ⟨a, k1, k2⟩ := g1' _ _ kb
  rw [hmv]
  by_cases e : g = tt
  ·subst e; rw [hy1] at k1; rw [← Option.some.inj k1] at k2; exact ⟨_, setN_at _ _ _, k2⟩
  ·exact ⟨a, by rw [setN_ne e]; exact k1, k2⟩
 have hwy : h.dir = true → (x.par = tt ∨ ∀ j, anc f j tt ≠ h) := by
  intro hhd
  by_cases e : tt = dir
  ·left
   obtain ⟨a, k1, k2⟩ := t.lead _ _ hd _ hem
   dsimp only at k1 k2
   rw [hx] at k1
   rw [Option.some.inj k1, e]
   exact k2 hhd
  ·exact .inr (way_no hr _ _ (hway hhd e))
 cases hhd : h.dir with
 | false =>
  rw [hhd, if_neg (by simp)] at r'
  rw [if_neg (by simp)]
  have p3 := r2.same r'
  refine tf_moved (asn := asn) t r' hx hy htd hr hwy (fun g => by rw [← cs_perm p3]; exact hc2 g) (by rw [← p3.length_eq, hl2, hl1]) (fun g a' k => ?_) (fun g a k => ?_)
  ·obtain ⟨k1, a, k2, k3, k4, k5⟩ := g2 _ _ k
   exact ⟨k1, a, k2, k3, by rw [hhd, if_neg (by simp)]; exact k4, k5⟩
  ·obtain ⟨a', k1, k2⟩ := g2' _ _ k
   exact ⟨a', k1, by rw [hhd, if_neg (by simp)]; exact k2⟩
 | true =>
  rw [hhd, if_pos rfl, hx2] at r'
  rw [if_pos rfl, hx2]
  simp only [Option.getD_some] at r' ⊢
  have p3 := perm_set r2 r' hx2 kx
  have hc3 : ∀ g, cs l' g = cs l2 g := fun g => by have h1 := cs_perm p3 g; simp only [cs_cons] at h1; omega
  refine tf_moved (asn := asn) t r' hx hy htd hr hwy (fun g => by rw [hc3]; exact hc2 g) (by have h1 := p3.length_eq; simp only [List.length_cons] at h1; omega) (fun g a' k => ?_) (fun g a k => ?_)
  ·rcases set1 k with ⟨rfl, rfl⟩ | ⟨e, k⟩
   ·obtain ⟨k1, a, k2, k3, k4, k5⟩ := g2 _ _ hx2
    have q := px.dir (by rw [kx]; exact hhd)
    refine ⟨nd_mk ⟨px.h, px.lk, px.vl, px.es, fun _ => ⟨q.1, q.2.1, ?_, htd, q.2.2.2.2⟩, (fun k => by dsimp only at k; rw [kx, hhd] at k; cases k)⟩, a, k2, k3, by rw [if_pos ⟨rfl, hhd⟩], k5⟩
    have := (nd_parts (t.nd _ _ hy)).h
    rw [ky] at this
    exact this
   ·obtain ⟨k1, a, k2, k3, k4, k5⟩ := g2 _ _ k
    exact ⟨k1, a, k2, k3, by rw [if_neg (fun q => e q.1)]; exact k4, k5⟩
  ·by_cases e : g = h
   ·subst e
    exact ⟨_, setN_at _ _ _, by rw [if_pos ⟨rfl, hhd⟩]⟩
   ·obtain ⟨a', k1, k2⟩ := g2' _ _ k
    exact ⟨a', by rw [setN_ne e]; exact k1, by rw [if_neg (fun q => e q.1)]; exact k2⟩
theorem dirC_zero {k : Int} {d there : Bool} (h : dirC k d there = 0) : there = true ∧ ((k = 2 ∨ k = 3) → d = false) ∧ (¬ (k = 2 ∨ k = 3) → d = true) := by
 unfold dirC at h
 by_cases h1 : (k = 2 ∨ k = 3) ∧ d = true
 ·rw [if_pos h1] at h; omega
 ·rw [if_neg h1] at h
  by_cases h2 : ¬ (k = 2 ∨ k = 3) ∧ d = false
  ·rw [if_pos h2] at h; omega
  ·rw [if_neg h2] at h
   by_cases h3 : there = false
   ·rw [if_pos h3] at h; omega
   ·refine ⟨by simpa using h3, fun q => ?_, fun q => ?_⟩
    ·cases d with
     | false => rfl
     | true => exact absurd ⟨q, rfl⟩ h1
    ·cases d with
     | true => rfl
     | false => exact absurd ⟨q, rfl⟩ h2
theorem room_zero {g : Hd} {nm : List Int} (h : roomI f g nm = 0) : fdB ((f g).getD nd0).es nm = false ∧ ((f g).getD nd0).es.length < 12 := by
 unfold roomI at h
 by_cases h1 : fdB ((f g).getD nd0).es nm = true
 ·rw [if_pos h1] at h; omega
 ·rw [if_neg h1] at h
  by_cases h2 : 12 ≤ ((f g).getD nd0).es.length
  ·rw [if_pos h2] at h; omega
  ·exact ⟨by simpa using h1, by omega⟩
theorem do_tree {l l' : List Nd} (ht : treeOk l = true) (o : OpD) (ho : OOk o = true) (fr : Hd) (r' : Rp l' (doF (atH l l.length) l.length o fr).1) : treeOk l' = true := by
 have t := tf_of ht
 obtain ⟨f, hf⟩ : ∃ f, atH l l.length = f := ⟨_, rfl⟩
 rw [hf] at t r'
 have hk := OOk_kind ho
 have hnm : o.kind = 4 ∨ o.kind = 6 → isNm o.nm = true := fun hx => by rcases hx with hx | hx <;> simp [OOk, nmB, nmP, hx] at ho <;> exact ho.2.1
 have hna : o.kind = 7 → isNm o.asn = true := fun hx => by simp [OOk, asB, asP, hx] at ho; exact ho.2.2.2.1
 have hvl : o.kind = 3 → 0 ≤ o.val ∧ o.val ≤ 2147483647 := fun hx => by simp [OOk, vlB, hx] at ho; exact ho.2.2.2.2
 unfold doF at r'
 by_cases c1 : o.kind = 4 ∧ takesB fr o.to (f (fr.sh, fr.ino, false)).isSome (f (fr.sh, fr.ino, true)).isSome l.length = false
 ·rw [if_pos c1] at r'; exact tf_to (t.row r')
 rw [if_neg c1] at r'
 by_cases c2 : dirC o.kind o.dir.dir (f o.dir).isSome ≠ 0
 ·rw [if_pos c2] at r'; exact tf_to (t.row r')
 rw [if_neg c2] at r'
 have c3 := dirC_zero (Classical.not_not.1 c2)
 obtain ⟨n, hn⟩ := Option.isSome_iff_exists.1 c3.1
 unfold doF2 at r'
 by_cases k0 : o.kind = 0
 ·rw [if_pos k0] at r'; exact tf_to (t.row r')
 rw [if_neg k0] at r'
 by_cases k1 : o.kind = 1
 ·rw [if_pos k1] at r'; exact tf_to (t.row r')
 rw [if_neg k1] at r'
 by_cases k2 : o.kind = 2
 ·rw [if_pos k2] at r'; exact tf_to (t.row r')
 rw [if_neg k2] at r'
 have kn := t.rp.key _ _ hn
 by_cases k3 : o.kind = 3
 ·rw [if_pos k3] at r'
  unfold writeF at r'
  rw [hn] at r'
  simp only [Option.getD_some] at r'
  have hdd := c3.2.1 (.inr k3)
  have p := nd_parts (t.nd _ _ hn)
  have hv := hvl k3
  exact tf_to (tf_num t (m := { n with val := o.val }) hn kn rfl rfl (.inr rfl) (nd_mk ⟨p.h, p.lk, hv, p.es, (fun h => by dsimp only at h; rw [kn, hdd] at h; cases h), p.fil⟩) r')
 rw [if_neg k3] at r'
 have hdd := c3.2.2 (by omega)
 by_cases k4 : o.kind = 4
 ·rw [if_pos k4] at r'
  unfold makeF at r'
  by_cases q1 : roomI f o.dir o.nm ≠ 0
  ·rw [if_pos q1] at r'; exact tf_to (t.row r')
  rw [if_neg q1] at r'
  have q2 := room_zero (Classical.not_not.1 q1)
  rw [hn] at q2 r'
  simp only [Option.getD_some] at q2 r'
  have q3 : takesB fr o.to (f (fr.sh, fr.ino, false)).isSome (f (fr.sh, fr.ino, true)).isSome l.length = true := by
   cases h : takesB fr o.to (f (fr.sh, fr.ino, false)).isSome (f (fr.sh, fr.ino, true)).isSome l.length with
   | true => rfl
   | false => exact absurd ⟨k4, h⟩ c1
  unfold takesB at q3
  simp only [Bool.and_eq_true, Bool.not_eq_true', decide_eq_true_eq] at q3
  obtain ⟨s1, s2, s3, s4, s5, s6⟩ := q3
  have hno : ∀ b, f (fr.sh, fr.ino, b) = none := fun b => by cases b; exact (Option.isSome_eq_false_iff.1 s4 |> Option.isNone_iff_eq_none.1); exact (Option.isSome_eq_false_iff.1 s5 |> Option.isNone_iff_eq_none.1)
  have hfr : f fr = none := hno fr.dir
  refine tf_to (tf_make t hn hfr hdd s1 (hnm (.inl k4)) q2.1 q2.2 (by omega) (fun m hm e => ?_) r')
  have h1 := (t.rp.mem m).1 hm
  have h2 : m.h = (fr.sh, fr.ino, m.h.dir) := by rw [← e.1, ← e.2]
  rw [h2, hno] at h1
  cases h1
 rw [if_neg k4] at r'
 by_cases k5 : o.kind = 5
 ·rw [if_pos k5] at r'
  unfold dropF at r'
  rw [hn] at r'
  simp only [Option.getD_some] at r'
  by_cases q1 : fdB n.es o.nm = false
  ·rw [if_pos q1] at r'; exact tf_to (t.row r')
  rw [if_neg q1] at r'
  have q1' : fdB n.es o.nm = true := by simpa using q1
  obtain ⟨x, hx, _⟩ := t.lead _ _ hn _ (fd_mem q1')
  dsimp only at hx
  by_cases q2 : (fdH n.es o.nm).dir = true ∧ 0 < ((f (fdH n.es o.nm)).getD nd0).es.length
  ·rw [if_pos q2] at r'; exact tf_to (t.row r')
  rw [if_neg q2] at r'
  have hne : fdH n.es o.nm ≠ o.dir := no_self t hn hdd (fd_mem q1')
  have hx1 : setN f o.dir { n with es := outE n.es o.nm } (fdH n.es o.nm) = some x := by rw [setN_ne hne]; exact hx
  rw [hx1] at r'
  simp only [Option.getD_some] at r'
  refine tf_to (tf_drop t hn hdd q1' rfl hx (fun h => ?_) r')
  rw [hx] at q2
  simp only [Option.getD_some] at q2
  exact List.eq_nil_of_length_eq_zero (by have : ¬ 0 < x.es.length := fun k => q2 ⟨h, k⟩; omega)
 rw [if_neg k5] at r'
 by_cases k6 : o.kind = 6
 ·rw [if_pos k6] at r'
  unfold linkF at r'
  by_cases q1 : roomI f o.dir o.nm ≠ 0
  ·rw [if_pos q1] at r'; exact tf_to (t.row r')
  rw [if_neg q1] at r'
  have q2 := room_zero (Classical.not_not.1 q1)
  by_cases q3 : o.to.dir = true
  ·rw [if_pos q3] at r'; exact tf_to (t.row r')
  rw [if_neg q3] at r'
  by_cases q4 : (f o.to).isSome = false
  ·rw [if_pos q4] at r'; exact tf_to (t.row r')
  rw [if_neg q4] at r'
  obtain ⟨x, hx⟩ := Option.isSome_iff_exists (x := f o.to) |>.1 (by cases hq : (f o.to).isSome; exact absurd hq q4; rfl)
  rw [hn, hx] at r'
  rw [hn] at q2
  simp only [Option.getD_some] at q2 r'
  exact tf_to (tf_link t hn hx hdd (by simpa using q3) (hnm (.inr k6)) q2.1 q2.2 r')
 rw [if_neg k6] at r'
 have k7 : o.kind = 7 := by omega
 unfold moveF at r'
 rw [hn] at r'
 simp only [Option.getD_some] at r'
 by_cases q1 : fdB n.es o.nm = false
 ·rw [if_pos q1] at r'; exact tf_to (t.row r')
 rw [if_neg q1] at r'
 have q1' : fdB n.es o.nm = true := by simpa using q1
 obtain ⟨x, hx, _⟩ := t.lead _ _ hn _ (fd_mem q1')
 dsimp only at hx
 obtain ⟨h, hh⟩ : ∃ h, fdH n.es o.nm = h := ⟨_, rfl⟩
 rw [hh] at r' hx
 by_cases q2 : moveI f o.dir o.to o.asn h ≠ 0
 ·rw [if_pos q2] at r'; exact tf_to (t.row r')
 rw [if_neg q2] at r'
 have q3 := Classical.not_not.1 q2
 unfold moveI at q3
 by_cases s1 : o.to.dir = false
 ·rw [if_pos s1] at q3; omega
 rw [if_neg s1] at q3
 by_cases s2 : (f o.to).isSome = false
 ·rw [if_pos s2] at q3; omega
 rw [if_neg s2] at q3
 obtain ⟨y, hy⟩ := Option.isSome_iff_exists (x := f o.to) |>.1 (by cases hq : (f o.to).isSome; exact absurd hq s2; rfl)
 have htd : o.to.dir = true := by simpa using s1
 have hall : fdB y.es o.asn = false ∧ (o.to ≠ o.dir → y.es.length < 12) ∧ (h.dir = true → o.to ≠ o.dir → wayI f h 12 o.to = 0) := by
  by_cases s3 : o.to = o.dir
  ·rw [if_pos s3, hy] at q3
   simp only [Option.getD_some] at q3
   by_cases s4 : fdB y.es o.asn = true
   ·rw [if_pos s4] at q3; omega
   ·exact ⟨by simpa using s4, fun k => absurd s3 k, fun _ k => absurd s3 k⟩
  ·rw [if_neg s3] at q3
   by_cases s4 : roomI f o.to o.asn ≠ 0 ∨ h.dir = false
   ·rw [if_pos s4] at q3
    have s5 := room_zero q3
    rw [hy] at s5
    simp only [Option.getD_some] at s5
    rcases s4 with s4 | s4
    ·exact absurd q3 s4
    ·exact ⟨s5.1, fun _ => s5.2, fun k => by rw [s4] at k; cases k⟩
   ·rw [if_neg s4] at q3
    have s5 := room_zero (f := f) (g := o.to) (nm := o.asn) (by apply Classical.byContradiction; intro k; exact s4 (.inl k))
    rw [hy] at s5
    simp only [Option.getD_some] at s5
    exact ⟨s5.1, fun _ => s5.2, fun _ _ => q3⟩
 exact tf_to (tf_move t hn hdd q1' hh hx hy htd (hna k7) hall.1 hall.2.1 hall.2.2 r')
theorem dO_tree {l : List Nd} (o : OpD) (fr : Hd) (h : (treeOk l && OOk o) = true) : treeOk (dO l o fr).1 = true := by
 rw [Bool.and_eq_true] at h
 exact do_tree h.1 o h.2 fr (ag_do h.1 o h.2 fr).1
end
section
def lkO (g : Hd) (nm : List Int) : OpD := ⟨0, g, nm, hd0, [], 0⟩
def rdO (g : Hd) : OpD := ⟨2, g, [], hd0, [], 0⟩
theorem rp_one {l : List Nd} {f f' : Hd → Option Nd} (r : Rp l f) (r' : Rp l f') : f = f' := by
 have h : ∀ {f f' : Hd → Option Nd} (r : Rp l f) (r' : Rp l f') g n, f g = some n → f' g = some n := fun r r' g n e => by
  have e1 := r.key g n e
  have e2 := (r'.mem n).1 ((r.mem n).2 (by rw [e1]; exact e))
  rw [e1] at e2
  exact e2
 funext g
 cases e : f g with
 | some n => exact (h r r' g n e).symm
 | none =>
  cases e2 : f' g with
  | none => rfl
  | some n => rw [h r' r g n e2] at e; cases e
theorem look_is {l : List Nd} {f : Hd → Option Nd} (ht : treeOk l = true) (r : Rp l f) {g : Hd} {nm : List Int} {n : Nd} (hg : g.dir = true) (hok : HOk g = true) (hn : isNm nm = true) (hf : f g = some n) :
  (dO l (lkO g nm) hd0).2 = if fdB n.es nm = true then ⟨0, fdH n.es nm, 0, []⟩ else ⟨3, hd0, 0, []⟩ := by
 have ho : OOk (lkO g nm) = true := by simp [OOk, lkO, nmB, nmP, toB, toP, asB, asP, vlB, hok, hn]
 have e := (ag_do ht (lkO g nm) ho hd0).2.1
 rw [← e, rp_one (tree_rp ht) r]
 simp [doF, lkO, dirC, hg, hf, doF2, lookF]
theorem read_is {l : List Nd} {f : Hd → Option Nd} (ht : treeOk l = true) (r : Rp l f) {g : Hd} {n : Nd} (hg : g.dir = false) (hok : HOk g = true) (hf : f g = some n) : (dO l (rdO g) hd0).2.val = n.val := by
 have ho : OOk (rdO g) = true := by simp [OOk, rdO, nmB, nmP, toB, toP, asB, asP, vlB, hok]
 have e := (ag_do ht (rdO g) ho hd0).2.1
 rw [← e, rp_one (tree_rp ht) r]
 simp [doF, rdO, dirC, hg, hf, doF2]
theorem fd_out (es : List En) (nm : List Int) : fdB (outE es nm) nm = false := fdB_no.2 (fun e he h => by
 unfold outE at he
 have := (List.mem_filter.1 he).2
 simp [h] at this)
theorem fd_add {es : List En} {nm : List Int} (x : Hd) (hf : fdB es nm = false) : fdB (addE es nm x) nm = true ∧ fdH (addE es nm x) nm = x := by
 have h1 : fdB (addE es nm x) nm = true := by
  cases h : fdB (addE es nm x) nm with
  | true => rfl
  | false => exact absurd rfl (fdB_no.1 h ⟨nm, x⟩ ((addE_perm es nm x).mem_iff.1 (by simp)))
 refine ⟨h1, ?_⟩
 rcases mem_add (fd_mem h1) with h | h
 ·exact absurd rfl (fdB_no.1 hf _ h)
 ·injection h
theorem fd_other {es : List En} {nm asn : List Int} (x : Hd) (hf : fdB es nm = false) (hne : asn ≠ nm) : fdB (addE es asn x) nm = false := fdB_no.2 (fun e he h => by
 rcases mem_add he with h1 | h1
 ·exact fdB_no.1 hf e h1 h
 ·rw [h1] at h; exact hne h)
theorem fd_sub {es : List En} {nm asn : List Int} (hf : fdB es asn = false) : fdB (outE es nm) asn = false := fdB_no.2 (fun e he h => fdB_no.1 hf e (List.mem_filter.1 he).1 h)
theorem unl_at {f : Hd → Option Nd} {h g : Hd} (n : Nd) (hne : g ≠ h) : unlN f h n g = f g := by
 unfold unlN
 split
 ·unfold delN; rw [if_neg hne]
 ·exact setN_ne hne _
theorem ook_dir {o : OpD} (h : OOk o = true) : HOk o.dir = true := by
 unfold OOk at h
 simp only [Bool.and_eq_true] at h
 exact h.1.2
structure NmSaid (l l2 : List Nd) (o : OpD) (fr : Hd) : Prop where
 make : o.kind = 4 → (dO l (lkO o.dir o.nm) hd0).2.code = 3 ∧ (dO l2 (lkO o.dir o.nm) hd0).2.code = 0 ∧ (dO l2 (lkO o.dir o.nm) hd0).2.h = fr
 link : o.kind = 6 → (dO l (lkO o.dir o.nm) hd0).2.code = 3 ∧ (dO l2 (lkO o.dir o.nm) hd0).2.h = o.to
 drop : o.kind = 5 → (dO l (lkO o.dir o.nm) hd0).2.code = 0 ∧ (dO l2 (lkO o.dir o.nm) hd0).2.code = 3
 move : o.kind = 7 → (dO l (lkO o.dir o.nm) hd0).2.code = 0 ∧ (dO l2 (lkO o.dir o.nm) hd0).2.code = 3 ∧ (dO l2 (lkO o.to o.asn) hd0).2.h = (dO l (lkO o.dir o.nm) hd0).2.h
 write : o.kind = 3 → (dO l2 (rdO o.dir) hd0).2.val = o.val
theorem names_map {l l2 : List Nd} (ht : treeOk l = true) (ht2 : treeOk l2 = true) (o : OpD) (ho : OOk o = true) (fr : Hd) (r' : Rp l2 (doF (atH l l.length) l.length o fr).1) (hc : (doF (atH l l.length) l.length o fr).2.2.code = 0) : NmSaid l l2 o fr := by
 have t := tf_of ht
 have r0 := tree_rp ht
 obtain ⟨f, hf⟩ : ∃ f, atH l l.length = f := ⟨_, rfl⟩
 rw [hf] at t r' r0 hc
 clear hf
 have hk := OOk_kind ho
 have hdo := ook_dir ho
 have hnm : o.kind = 4 ∨ o.kind = 5 ∨ o.kind = 6 ∨ o.kind = 7 → isNm o.nm = true := fun hx => by rcases hx with hx | hx | hx | hx <;> simp [OOk, nmB, nmP, hx] at ho <;> exact ho.2.1
 have hna : o.kind = 7 → isNm o.asn = true := fun hx => by simp [OOk, asB, asP, hx] at ho; exact ho.2.2.2.1
 have hto : o.kind = 7 → HOk o.to = true := fun hx => by simp [OOk, toB, toP, hx] at ho; exact ho.2.2.1
 unfold doF at r' hc
 by_cases c1 : o.kind = 4 ∧ takesB fr o.to (f (fr.sh, fr.ino, false)).isSome (f (fr.sh, fr.ino, true)).isSome l.length = false
 ·rw [if_pos c1] at hc; exact absurd hc (by show ¬ (11 : Int) = 0; decide)
 rw [if_neg c1] at r' hc
 by_cases c2 : dirC o.kind o.dir.dir (f o.dir).isSome ≠ 0
 ·rw [if_pos c2] at hc; exact absurd hc c2
 rw [if_neg c2] at r' hc
 have c3 := dirC_zero (Classical.not_not.1 c2)
 obtain ⟨n, hn⟩ := Option.isSome_iff_exists.1 c3.1
 unfold doF2 at r' hc
 refine ⟨fun k4 => ?_, fun k6 => ?_, fun k5 => ?_, fun k7 => ?_, fun k3 => ?_⟩
 ·have hdd := c3.2.2 (by omega)
  rw [if_neg (by omega), if_neg (by omega), if_neg (by omega), if_neg (by omega), if_pos k4] at r' hc
  unfold makeF at r' hc
  by_cases q1 : roomI f o.dir o.nm ≠ 0
  ·rw [if_pos q1] at hc; exact absurd hc q1
  rw [if_neg q1] at r' hc
  have q2 := room_zero (Classical.not_not.1 q1)
  rw [hn] at q2 r'
  simp only [Option.getD_some] at q2 r'
  have e1 := look_is ht r0 hdd hdo (hnm (.inl k4)) hn
  have e2 := look_is ht2 r' hdd hdo (hnm (.inl k4)) (setN_at _ _ _)
  rw [e1, e2, if_neg (by rw [q2.1]; decide), if_pos (fd_add fr q2.1).1]
  exact ⟨rfl, rfl, (fd_add fr q2.1).2⟩
 ·have hdd := c3.2.2 (by omega)
  rw [if_neg (by omega), if_neg (by omega), if_neg (by omega), if_neg (by omega), if_neg (by omega), if_neg (by omega), if_pos k6] at r' hc
  unfold linkF at r' hc
  by_cases q1 : roomI f o.dir o.nm ≠ 0
  ·rw [if_pos q1] at hc; exact absurd hc q1
  rw [if_neg q1] at r' hc
  have q2 := room_zero (Classical.not_not.1 q1)
  by_cases q3 : o.to.dir = true
  ·rw [if_pos q3] at hc; exact absurd hc (by show ¬ (6 : Int) = 0; decide)
  rw [if_neg q3] at r' hc
  by_cases q4 : (f o.to).isSome = false
  ·rw [if_pos q4] at hc; exact absurd hc (by show ¬ (1 : Int) = 0; decide)
  rw [if_neg q4] at r' hc
  rw [hn] at q2 r'
  simp only [Option.getD_some] at q2 r'
  have e1 := look_is ht r0 hdd hdo (hnm (.inr (.inr (.inl k6)))) hn
  have e2 := look_is ht2 r' hdd hdo (hnm (.inr (.inr (.inl k6)))) (setN_at _ _ _)
  rw [e1, e2, if_neg (by rw [q2.1]; decide), if_pos (fd_add o.to q2.1).1]
  exact ⟨rfl, (fd_add o.to q2.1).2⟩
 ·have hdd := c3.2.2 (by omega)
  rw [if_neg (by omega), if_neg (by omega), if_neg (by omega), if_neg (by omega), if_neg (by omega), if_pos k5] at r' hc
  unfold dropF at r' hc
  rw [hn] at r' hc
  simp only [Option.getD_some] at r' hc
  by_cases q1 : fdB n.es o.nm = false
  ·rw [if_pos q1] at hc; exact absurd hc (by show ¬ (3 : Int) = 0; decide)
  rw [if_neg q1] at r' hc
  have q1' : fdB n.es o.nm = true := by simpa using q1
  by_cases q2 : (fdH n.es o.nm).dir = true ∧ 0 < ((f (fdH n.es o.nm)).getD nd0).es.length
  ·rw [if_pos q2] at hc; exact absurd hc (by show ¬ (7 : Int) = 0; decide)
  rw [if_neg q2] at r' hc
  have hne : fdH n.es o.nm ≠ o.dir := no_self t hn hdd (fd_mem q1')
  have e1 := look_is ht r0 hdd hdo (hnm (.inr (.inl k5))) hn
  have e2 := look_is ht2 r' hdd hdo (hnm (.inr (.inl k5))) (n := { n with es := outE n.es o.nm }) (by
   dsimp only
   rw [unl_at _ (fun e => hne e.symm)]
   exact setN_at _ _ _)
  rw [e1, e2, if_pos q1', if_neg (by rw [fd_out]; decide)]
  exact ⟨rfl, rfl⟩
 ·have hdd := c3.2.2 (by omega)
  rw [if_neg (by omega), if_neg (by omega), if_neg (by omega), if_neg (by omega), if_neg (by omega), if_neg (by omega), if_neg (by omega)] at r' hc
  unfold moveF at r' hc
  rw [hn] at r' hc
  simp only [Option.getD_some] at r' hc
  by_cases q1 : fdB n.es o.nm = false
  ·rw [if_pos q1] at hc; exact absurd hc (by show ¬ (3 : Int) = 0; decide)
  rw [if_neg q1] at r' hc
  have q1' : fdB n.es o.nm = true := by simpa using q1
  obtain ⟨h, hh⟩ : ∃ h, fdH n.es o.nm = h := ⟨_, rfl⟩
  have hne : h ≠ o.dir := by rw [← hh]; exact no_self t hn hdd (fd_mem q1')
  have e1 := look_is ht r0 hdd hdo (hnm (.inr (.inr (.inr k7)))) hn
  rw [if_pos q1', hh] at e1
  rw [hh] at r' hc
  by_cases q2 : moveI f o.dir o.to o.asn h ≠ 0
  ·rw [if_pos q2] at hc; exact absurd hc q2
  rw [if_neg q2] at r' hc
  have q3 := Classical.not_not.1 q2
  unfold moveI at q3
  by_cases s1 : o.to.dir = false
  ·rw [if_pos s1] at q3; omega
  rw [if_neg s1] at q3
  by_cases s2 : (f o.to).isSome = false
  ·rw [if_pos s2] at q3; omega
  rw [if_neg s2] at q3
  obtain ⟨y, hy⟩ := Option.isSome_iff_exists (x := f o.to) |>.1 (by cases hq : (f o.to).isSome; exact absurd hq s2; rfl)
  have htd : o.to.dir = true := by simpa using s1
  have hfree : fdB y.es o.asn = false := by
   by_cases s3 : o.to = o.dir
   ·rw [if_pos s3, hy] at q3
    simp only [Option.getD_some] at q3
    by_cases s4 : fdB y.es o.asn = true
    ·rw [if_pos s4] at q3; omega
    ·simpa using s4
   ·rw [if_neg s3] at q3
    by_cases s4 : roomI f o.to o.asn ≠ 0 ∨ h.dir = false
    ·rw [if_pos s4] at q3
     have s5 := room_zero q3
     rw [hy] at s5
     exact s5.1
    ·have s5 := room_zero (f := f) (g := o.to) (nm := o.asn) (by apply Classical.byContradiction; intro k; exact s4 (.inl k))
     rw [hy] at s5
     exact s5.1
  obtain ⟨F, hF⟩ : ∃ F, mvF f o.dir o.to o.nm o.asn h = F := ⟨_, rfl⟩
  have hat : ∃ a b, F o.dir = some a ∧ fdB a.es o.nm = false ∧ F o.to = some b ∧ fdB b.es o.asn = true ∧ fdH b.es o.asn = h := by
   rw [← hF]
   unfold mvF
   by_cases s3 : o.to = o.dir
   ·rw [s3, hn] at hy
    obtain rfl := Option.some.inj hy
    rw [s3, hn]
    simp only [setN_at, Option.getD_some]
    have hna : o.asn ≠ o.nm := fun e => by rw [e, q1'] at hfree; cases hfree
    exact ⟨_, _, rfl, fd_other h (fd_out _ _) hna, rfl, (fd_add h (fd_sub hfree)).1, (fd_add h (fd_sub hfree)).2⟩
   ·rw [hn]
    simp only [Option.getD_some]
    rw [setN_ne (g := o.to) s3, hy]
    simp only [Option.getD_some]
    rw [setN_ne (g := o.dir) (fun e => s3 e.symm), setN_at, setN_at]
    exact ⟨_, _, rfl, fd_out _ _, rfl, (fd_add h hfree).1, (fd_add h hfree).2⟩
  obtain ⟨a, b, ha, ha2, hb, hb2, hb3⟩ := hat
  rw [hF] at r'
  have fin : ∀ {F' : Hd → Option Nd} {a b : Nd}, Rp l2 F' → F' o.dir = some a → fdB a.es o.nm = false → F' o.to = some b → fdB b.es o.asn = true → fdH b.es o.asn = h → (dO l (lkO o.dir o.nm) hd0).2.code = 0 ∧ (dO l2 (lkO o.dir o.nm) hd0).2.code = 3 ∧ (dO l2 (lkO o.to o.asn) hd0).2.h = (dO l (lkO o.dir o.nm) hd0).2.h := fun rr ha ha2 hb hb2 hb3 => by
   have e2 := look_is ht2 rr hdd hdo (hnm (.inr (.inr (.inr k7)))) ha
   have e3 := look_is ht2 rr htd (hto k7) (hna k7) hb
   rw [e1, e2, e3, if_neg (by rw [ha2]; decide), if_pos hb2]
   exact ⟨rfl, rfl, hb3⟩
  by_cases hhd : h.dir = true
  ·rw [if_pos hhd] at r'
   dsimp only at r'
   by_cases s4 : h = o.to
   ·rw [← s4] at hb
    rw [hb] at r'
    simp only [Option.getD_some] at r'
    refine fin (b := { b with par := o.to }) r' ?_ ha2 ?_ hb2 hb3
    ·rw [setN_ne (fun e => hne e.symm)]; exact ha
    ·rw [← s4]; exact setN_at _ _ _
   ·refine fin r' ?_ ha2 ?_ hb2 hb3
    ·rw [setN_ne (fun e => hne e.symm)]; exact ha
    ·rw [setN_ne (fun e => s4 e.symm)]; exact hb
  ·rw [if_neg hhd] at r'
   exact fin r' ha ha2 hb hb2 hb3
 ·have hdd := c3.2.1 (.inr k3)
  rw [if_neg (by omega), if_neg (by omega), if_neg (by omega), if_pos k3] at r' hc
  unfold writeF at r'
  exact read_is ht2 r' hdd hdo (setN_at _ _ _)
theorem dO_names {l : List Nd} (o : OpD) (fr : Hd) (h : (treeOk l && OOk o) = true) (hc : (dO l o fr).2.code = 0) : NmSaid l (dO l o fr).1 o fr := by
 have h2 := dO_tree o fr h
 rw [Bool.and_eq_true] at h
 have a := ag_do h.1 o h.2 fr
 exact names_map h.1 h2 o h.2 fr a.1 (by rw [a.2.1]; exact hc)
theorem dO_well {l : List Nd} {o : OpD} {fr : Hd} (hc : (dO l o fr).2.code = 0) : (treeOk l && OOk o) = true := by
 by_cases h : (treeOk l && OOk o) = true
 ·exact h
 ·rw [dO_bad h] at hc; exact absurd hc (by show ¬ (11 : Int) = 0; decide)
end
end Go.Proofs.YtcicadfhfojdpaaGreat
