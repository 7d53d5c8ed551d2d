/- Joined: SpecD16 SpecD16k1 SpecD16k2 SpecD16k3 SpecD16k7 RDat WMsg3 RIm1 RIm3 WPut0. -/
import Derived.Test.YtklhikadhohjbaaGreatRSpecD15
import Derived.Test.YtklhikadhohjbaaGreatRA03
import Derived.Test.YtklhikadhohjbaaGreatRWMsg2
import Derived.Test.YtklhikadhohjbaaGreatRA00
import Derived.Test.YtklhikadhohjbaaGreatROpOks2
import Derived.Test.YtklhikadhohjbaaGreatRA02

namespace Go.Proofs.YtklhikadhohjbaaGreat
open Go.RowKit
set_option linter.unusedVariables false
set_option linter.unusedSimpArgs false
set_option maxRecDepth 100000
section
def rc (c : Int) : RpD := ⟨c, hd0, 0, []⟩
def valN (l : List Nd) (d : Nat) (x : Int) : List Nd := l.set d ((l[d]?.getD nd0).setVal x)
def doD (l : List Nd) (o : OpD) (fr : Hd) : List Nd × RpD :=
 if o.kind = 2 ∨ o.kind = 3 then
  if o.dir.dir = true then (l, rc 6) else
  if ¬ fi l o.dir < l.length then (l, rc 1) else
  if o.kind = 3 then (valN l (fi l o.dir) o.val, rc 0) else (l, ⟨0, hd0, (l[fi l o.dir]?.getD nd0).val, []⟩)
 else
 if o.dir.dir = false then (l, rc 2) else
 if ¬ fi l o.dir < l.length then (l, rc 1) else
 if o.kind = 1 then (l, ⟨0, hd0, 0, (l[fi l o.dir]?.getD nd0).es⟩) else
 if o.kind = 7 then ((moveD l o (fi l o.dir)).1, rc (moveD l o (fi l o.dir)).2) else
 if o.kind = 0 ∨ o.kind = 5 then
  if ¬ ei (l[fi l o.dir]?.getD nd0).es o.nm < (l[fi l o.dir]?.getD nd0).es.length then (l, rc 3) else
  if o.kind = 0 then (l, ⟨0, ((l[fi l o.dir]?.getD nd0).es[ei (l[fi l o.dir]?.getD nd0).es o.nm]?.getD en0).h, 0, []⟩) else
  ((dropD l (fi l o.dir) (ei (l[fi l o.dir]?.getD nd0).es o.nm) ((l[fi l o.dir]?.getD nd0).es[ei (l[fi l o.dir]?.getD nd0).es o.nm]?.getD en0).h).1, rc (dropD l (fi l o.dir) (ei (l[fi l o.dir]?.getD nd0).es o.nm) ((l[fi l o.dir]?.getD nd0).es[ei (l[fi l o.dir]?.getD nd0).es o.nm]?.getD en0).h).2)
 else
 if refD (l[fi l o.dir]?.getD nd0).es o.nm ≠ 0 then (l, rc (refD (l[fi l o.dir]?.getD nd0).es o.nm)) else
 if o.kind = 4 then (insN (addN l (fi l o.dir) o.nm fr) ⟨fr, if fr.dir = true then o.dir else hd0, 1, 0, []⟩, ⟨0, fr, 0, []⟩) else
 if o.to.dir = true then (l, rc 6) else
 if ¬ fi l o.to < l.length then (l, rc 1) else
 (addN (lkN l (fi l o.to) 1) (fi l o.dir) o.nm o.to, rc 0)
structure MD (F : Nat → Prop) (w wc : World) (tb lo : Nat) (v : Value) (L1 : Nat → Prop) (l : List Nd) (oc fc : Array Value) : Prop where
 t : Turned F w wc
 vT : VarA wc tb 55 #[v]
 s : SG wc lo L1 v l
 vO : VarA wc w.heap.size 26 oc
 vF : VarA wc (w.heap.size + 1) 24 fc
 vR : VarA wc (w.heap.size + 2) 29 #[.int .i64 0, .int .i64 0, .int .i64 0, .bool false, .int .i64 0, .slice none 0 0]
theorem MD.step {F : Nat → Prop} {w wc wd : World} {tb lo : Nat} {v : Value} {L1 : Nat → Prop} {l : List Nd} {oc fc : Array Value} (m : MD F w wc tb lo v L1 l oc fc) (h : Below wc.heap.size wc wd) : MD F w wd tb lo v L1 l oc fc :=
 ⟨m.t.andThen h, m.vT.step h, m.s.step h, m.vO.step h, m.vF.step h, m.vR.step h⟩
theorem MD.turn {F : Nat → Prop} {w wc wd : World} {tb lo g : Nat} {v : Value} {L1 : Nat → Prop} {l l' : List Nd} {oc fc : Array Value} (m : MD F w wc tb lo v L1 l oc fc) (t : Turned (fun b => b = g) wc wd) (s : SG wd lo L1 v l') (hF : F g) (hg : g < w.heap.size) (hgt : g ≠ tb) : MD F w wd tb lo v L1 l' oc fc :=
 ⟨m.t.trans (t.wide (fun b e => by subst e; exact hF)), m.vT.turn t (fun e => hgt e.symm), s, m.vO.turn t (fun e => by omega), m.vF.turn t (fun e => by omega), m.vR.turn t (fun e => by omega)⟩
theorem MD.fin {F L : Nat → Prop} {w wc wz : World} {tb lo : Nat} {v : Value} {L1 : Nat → Prop} {l : List Nd} {oc fc : Array Value} (m : MD F w wc tb lo v L1 l oc fc) (hvt : v.ownBlock ≠ some tb) (t_ : Turned (fun b => b = w.heap.size + 2) wc wz) (hR : ¬ L1 (w.heap.size + 2)) (hRt : tb ≠ w.heap.size + 2) (hRv : v.ownBlock ≠ some (w.heap.size + 2)) (hL : ∀ b, L1 b → L b) :
  TV wz tb lo L l ∧ Turned F w wz :=
 ⟨TV.ret m.vT m.s hvt t_ hR hRt hRv hL, m.t.trans2 t_ (by omega)⟩
theorem rd_nil (w : World) (S : Nat → Prop) : RdV w S (.slice none 0 0) (ensDt []) := OwV.rd (OwV.nilR _ _ _ _ _)
def DoPost (w : World) (tb lo : Nat) (L : Nat → Prop) (res : List Nd × RpD) (r : Ending) (w' : World) : Prop :=
 ∃ z, r = .returned (rpV res.2 z) ∧ RdV w' (fun b => w.heap.size ≤ b ∧ b < w'.heap.size) z (ensDt res.2.list) ∧ TV w' tb lo L res.1 ∧ ∀ v', VarA w tb 55 #[v'] → Turned (fun b => b = tb ∨ v'.ownBlock = some b) w w'
end
section
set_option maxHeartbeats 8000000 in
theorem specDo1 (tb lo : Nat) (o : OpD) (fr : Hd) (y z : Value) (l : List Nd) (S2 L : Nat → Prop) (w : World) (tv : TV w tb lo L l) (hLt : ¬ L tb) (hLn : ∀ b, w.heap.size ≤ b → L b) (h0 : 0 < l.length) (hlo : lo ≤ w.heap.size) (htbl : lo ≤ tb) (sm : Small l) (hsz : szNds l ≤ 2097152) (r1 : RdV w S2 y (.bytes o.nm)) (r2 : RdV w S2 z (.bytes o.asn)) (hS2 : ∀ b, S2 b → b < lo) (hn1 : o.nm.length ≤ 2097152) (hn2 : o.asn.length ≤ 2097152)
  (hin : ∀ i j, i < l.length → j < (l[i]?.getD nd0).es.length → fi l ((l[i]?.getD nd0).es[j]?.getD en0).h < l.length) (hkd : o.kind = 1) :
  Calls Tryz.prog 114 #[.pointer (some ⟨tb, 0, none⟩), opV o y z, fr.v] w (DoPost w tb lo L (doD l o fr)) := by
 obtain ⟨v, vT, s, hvt⟩ := tv
 obtain ⟨g, cap, rfl, hg1, hg2, hgf, hcap⟩ := s.head h0
 have htb := vT.lt
 have hgt : g ≠ tb := fun e => hvt (by rw [e]; rfl)
 have HVW : Hid (VarA w tb 55 #[.slice (some ⟨g, 0, none⟩) l.length cap]) := vT
 obtain ⟨ya, yc, rfl⟩ := r1.sliceB
 obtain ⟨za, zc, rfl⟩ := r2.sliceB
 obtain ⟨kd, ⟨p1, q1, d1⟩, nm, ⟨p2, q2, d2⟩, asn, vl⟩ := o
 obtain ⟨fp, fq, fd⟩ := fr
 dsimp only at r1 r2 hn1 hn2 hkd ⊢
 subst hkd
 obtain ⟨res, hres⟩ : ∃ r, doD l ⟨1, (p1, q1, d1), nm, (p2, q2, d2), asn, vl⟩ (fp, fq, fd) = r := ⟨_, rfl⟩
 rw [hres]
 have HRES : Hid (doD l ⟨1, (p1, q1, d1), nm, (p2, q2, d2), asn, vl⟩ (fp, fq, fd) = res) := hres
 clear hres
 have hl := sm.1
 have HEL : Hid (∀ i : Nat, (l[i]?.getD nd0).es.length ≤ 4000 ∧ 0 ≤ (l[i]?.getD nd0).links ∧ (l[i]?.getD nd0).links ≤ 2147483647) := sm.2
 have HFT : Hid (∀ W, Below w.heap.size w W → _) := fun W hW => specFind_any _ l (p1, q1, d1) _ W (RdV.step s.rd hW) (by omega)
 have HRY : Hid (∀ W, Turned (fun b => b = tb ∨ b = g) w W → RdV W S2 (.slice ya nm.length yc) (.bytes nm)) := fun W t => RdV.keep (t.keeps (fun b hb h => by have := hS2 b hb; rcases h with h | h <;> omega)) r1
 have HRZ : Hid (∀ W, Turned (fun b => b = tb ∨ b = g) w W → RdV W S2 (.slice za asn.length zc) (.bytes asn)) := fun W t => RdV.keep (t.keeps (fun b hb h => by have := hS2 b hb; rcases h with h | h <;> omega)) r2
 have HS2 : Hid (∀ b, S2 b → b < lo) := hS2
 have HSM : Hid (Small l) := sm
 have HIN : Hid (∀ i j, i < l.length → j < (l[i]?.getD nd0).es.length → fi l ((l[i]?.getD nd0).es[j]?.getD en0).h < l.length) := hin
 have sL : SG w lo (fun b => L b ∧ b ≠ w.heap.size + 2) _ l := s.mono (fun b hb h => ⟨h, by omega⟩)
 obtain ⟨L1, hL1⟩ : ∃ M : Nat → Prop, M = fun b => L b ∧ b ≠ w.heap.size + 2 := ⟨_, rfl⟩
 rw [← hL1] at sL
 have HLR : Hid (¬ L1 (w.heap.size + 2)) := by rw [hL1]; exact fun h => h.2 rfl
 have HLL : Hid (∀ b, L1 b → L b) := by rw [hL1]; exact fun b h => h.1
 have HLT1 : Hid (¬ L1 tb) := by rw [hL1]; exact fun h => hLt h.1
 have HLN : Hid (∀ b, w.heap.size + 3 ≤ b → L1 b) := by rw [hL1]; exact fun b h => ⟨hLn b (by omega), by omega⟩
 clear hL1 s sm hin r1 r2 hS2
 go_enter Tryz.func114, Tryz.ntmps114
 go_wp2
 obtain ⟨w0, hw0⟩ : ∃ W, W = ((w.alloc (.cells #[.int .i64 1, .int .i64 p1, .int .i64 q1, .bool d1, .slice ya nm.length yc, .int .i64 p2, .int .i64 q2, .bool d2, .slice za asn.length zc, .int .i64 vl] 26)).alloc (.cells #[.int .i64 fp, .int .i64 fq, .bool fd] 24)).alloc (.cells #[.int .i64 0, .int .i64 0, .int .i64 0, .bool false, .int .i64 0, .slice none 0 0] 29) := ⟨_, rfl⟩
 have B0 : Below w.heap.size w w0 := by rw [hw0]; exact (((Below.refl _ _).alloc (Nat.le_refl _) _).alloc (by simp) _).alloc (by simp; omega) _
 have HM0 : Hid (MD (fun b => b = tb ∨ b = g) w w0 tb lo (.slice (some ⟨g, 0, none⟩) l.length cap) L1 l #[.int .i64 1, .int .i64 p1, .int .i64 q1, .bool d1, .slice ya nm.length yc, .int .i64 p2, .int .i64 q2, .bool d2, .slice za asn.length zc, .int .i64 vl] #[.int .i64 fp, .int .i64 fq, .bool fd]) := ⟨Turned.ofBelow B0, vT.step B0, sL.step B0, by rw [hw0]; exact ((VarA.new w _ _).alloc _).alloc _, by rw [hw0]; have := (VarA.new (w.alloc (.cells #[.int .i64 1, .int .i64 p1, .int .i64 q1, .bool d1, .slice ya nm.length yc, .int .i64 p2, .int .i64 q2, .bool d2, .slice za asn.length zc, .int .i64 vl] 26)) 24 #[.int .i64 fp, .int .i64 fq, .bool fd]).alloc (.cells #[.int .i64 0, .int .i64 0, .int .i64 0, .bool false, .int .i64 0, .slice none 0 0] 29); simpa using this, by rw [hw0]; have := VarA.new ((w.alloc (.cells #[.int .i64 1, .int .i64 p1, .int .i64 q1, .bool d1, .slice ya nm.length yc, .int .i64 p2, .int .i64 q2, .bool d2, .slice za asn.length zc, .int .i64 vl] 26)).alloc (.cells #[.int .i64 fp, .int .i64 fq, .bool fd] 24)) 29 #[.int .i64 0, .int .i64 0, .int .i64 0, .bool false, .int .i64 0, .slice none 0 0]; simpa using this⟩
 have HB0 : Hid (Below w.heap.size w w0) := B0
 have z0 := HM0.out.vR.lt
 rw [← hw0]
 clear hw0 vT sL B0
 have HF0 : Hid (∀ W, Below w0.heap.size w0 W → _) := fun W hW => HFT.out W (HB0.out.trans (hW.mono HB0.out.size))
 haveI : Nonempty (Cls w0) := Cls.ne w0
 have kt := Cls.cell HM0.out.vT.lt HM0.out.vT.l1
 have k1 := Cls.cell HM0.out.vO.lt (HM0.out.vO.c 1 rfl)
 have k2 := Cls.cell HM0.out.vO.lt (HM0.out.vO.c 2 rfl)
 have k3 := Cls.cell HM0.out.vO.lt (HM0.out.vO.c 3 rfl)
 refine wp_region_cls (by kernel_rfl) (by kernel_rfl) ?_
 repeat (go_big_quiet_step (first | (go_at_call 96; exact Calls.cls (HF0.out _ (Cls.h _)))))
 refine wpQuiet_nil ?_
 rintro w1 ⟨⟨w1, hb_⟩, rfl⟩
 have HM_w1 : Hid (MD (fun b => b = tb ∨ b = g) w w1 tb lo (.slice (some ⟨g, 0, none⟩) l.length cap) L1 l #[.int .i64 1, .int .i64 p1, .int .i64 q1, .bool d1, .slice ya nm.length yc, .int .i64 p2, .int .i64 q2, .bool d2, .slice za asn.length zc, .int .i64 vl] #[.int .i64 fp, .int .i64 fq, .bool fd]) := HM0.out.step hb_
 have HB1 : Hid (Below w.heap.size w w1) := HB0.out.trans (hb_.mono HB0.out.size)
 have z1 := hb_.size
 clear kt k1 k2 k3 this hb_
 clear HF0 HFT HM0 HB0
 have o0 := HM_w1.out.vO.c 0 rfl
 have o3 := HM_w1.out.vO.c 3 rfl
 cases d1 with
 | false =>
  have HC : Hid (res = (l, rc 2)) := by show res = _; rw [← HRES.out]; rfl
  clear HRES
  go_wp2_with ((with_reducible refine guardStore (ty := 29) ?_); refine wpList_storeF HM_w1.out.vR rfl rfl (by kernel_rfl) rfl (of_decide_eq_true rfl) rfl ?_; intro wz vR t_)
  refine bodyPost_ret (results_cell_row Tryz.results114 _ _ _ _ _ _ _ rfl vR Tryz.underlying29 rfl (by kernel_rfl)) rfl ?_
  unfold DoPost
  rw [HC.out]
  exact ⟨_, rfl, rd_nil _ _, Turned.own2 HVW.out (HM_w1.out.fin hvt t_ HLR.out (by omega) (fun e => by have e3 : g = w.heap.size + 2 := (by simpa [Value.ownBlock] using e); omega) HLL.out)⟩
 | true =>
  rcases findH_cases l (p1, q1, true) with ⟨hd, hf⟩ | ⟨hd, hf⟩
  case inr =>
   rw [hf]
   have HC : Hid (res = (l, rc 1)) := by show res = _; rw [← HRES.out]; unfold doD; simp [hd]
   clear HRES hd hf
   go_wp2_with ((with_reducible refine guardStore (ty := 29) ?_); refine wpList_storeF HM_w1.out.vR rfl rfl (by kernel_rfl) rfl (of_decide_eq_true rfl) rfl ?_; intro wz vR t_)
   refine bodyPost_ret (results_cell_row Tryz.results114 _ _ _ _ _ _ _ rfl vR Tryz.underlying29 rfl (by kernel_rfl)) rfl ?_
   unfold DoPost
   rw [HC.out]
   exact ⟨_, rfl, rd_nil _ _, Turned.own2 HVW.out (HM_w1.out.fin hvt t_ HLR.out (by omega) (fun e => by have e3 : g = w.heap.size + 2 := (by simpa [Value.ownBlock] using e); omega) HLL.out)⟩
  rw [hf]
  clear hf
  unfold doD at HRES
  dsimp only at HRES
  generalize fi l (p1, q1, true) = d at *
  have hdi : (d : Int) < (l.length : Int) := by omega
  have t1 := HM_w1.out.vT.l1
  obtain ⟨xd, rd, cd⟩ := HM_w1.out.s.at hd
  have HRD : Hid _ := rd
  have HCD : Hid _ := cd
  clear rd cd
  have hgw : g < w1.heap.size := Nat.lt_of_lt_of_le hg2 HB1.out.size
  obtain ⟨xa, xc, rfl, _⟩ := RdV.sliced (HRD.out)
  have c8 : w1.cell? ⟨g, d * 9 + 8, none⟩ = some (.slice xa (l[d]?.getD nd0).es.length xc) := HCD.out 8 (by omega)
  have HC : Hid (res = (l, ⟨0, hd0, 0, (l[d]?.getD nd0).es⟩)) := by show res = _; rw [← HRES.out]; simp [hd]
  clear HRES
  have HCE : Hid _ := specCopyEn_any _ (l[d]?.getD nd0).es _ w1 HRD.out (Nat.le_trans (szNds_at l d) hsz) (HEL.out d).1
  generalize hnd : l[d]?.getD nd0 = nd at *
  generalize hln : nd.es.length = eln at *
  clear hln hnd
  go_wp2_with fail
  refine Calls.mono HCE.out ?_
  rintro r2 w2 ⟨ea, en, ec, rfl, oE, b2⟩
  have HM2 : Hid (MD (fun b => b = tb ∨ b = g) w w2 tb lo (.slice (some ⟨g, 0, none⟩) l.length cap) L1 l #[.int .i64 1, .int .i64 p1, .int .i64 q1, .bool true, .slice ya nm.length yc, .int .i64 p2, .int .i64 q2, .bool d2, .slice za asn.length zc, .int .i64 vl] #[.int .i64 fp, .int .i64 fq, .bool fd]) := HM_w1.out.step b2
  have HOE : Hid _ := oE
  have z2 := b2.size
  have zw := HB1.out.size
  clear HCE oE b2 c8 t1 o0 o3
  go_wp2_with ((with_reducible refine guardStore (ty := 29) ?_); refine wpList_storeF HM2.out.vR rfl rfl (by kernel_rfl) rfl (of_decide_eq_true rfl) rfl ?_; intro wz vR t_)
  refine bodyPost_ret (results_cell_row Tryz.results114 _ _ _ _ _ _ _ rfl vR Tryz.underlying29 rfl (by kernel_rfl)) rfl ?_
  unfold DoPost
  rw [HC.out]
  exact ⟨_, rfl, RdV.mono (fun b hb => ⟨by omega, Nat.lt_of_lt_of_le hb.2 t_.size⟩) (RdV.keep (t_.keeps (fun b hb e => by have e2 : b = w.heap.size + 2 := e; omega)) (OwV.rd HOE.out)), Turned.own2 HVW.out (HM2.out.fin hvt t_ HLR.out (by omega) (fun e => by have e3 : g = w.heap.size + 2 := (by simpa [Value.ownBlock] using e); omega) HLL.out)⟩
end
section
set_option maxHeartbeats 8000000 in
theorem specDo2 (tb lo : Nat) (o : OpD) (fr : Hd) (y z : Value) (l : List Nd) (S2 L : Nat → Prop) (w : World) (tv : TV w tb lo L l) (hLt : ¬ L tb) (hLn : ∀ b, w.heap.size ≤ b → L b) (h0 : 0 < l.length) (hlo : lo ≤ w.heap.size) (htbl : lo ≤ tb) (sm : Small l) (hsz : szNds l ≤ 2097152) (r1 : RdV w S2 y (.bytes o.nm)) (r2 : RdV w S2 z (.bytes o.asn)) (hS2 : ∀ b, S2 b → b < lo) (hn1 : o.nm.length ≤ 2097152) (hn2 : o.asn.length ≤ 2097152)
  (hin : ∀ i j, i < l.length → j < (l[i]?.getD nd0).es.length → fi l ((l[i]?.getD nd0).es[j]?.getD en0).h < l.length) (hkd : o.kind = 2) :
  Calls Tryz.prog 114 #[.pointer (some ⟨tb, 0, none⟩), opV o y z, fr.v] w (DoPost w tb lo L (doD l o fr)) := by
 obtain ⟨v, vT, s, hvt⟩ := tv
 obtain ⟨g, cap, rfl, hg1, hg2, hgf, hcap⟩ := s.head h0
 have htb := vT.lt
 have hgt : g ≠ tb := fun e => hvt (by rw [e]; rfl)
 have HVW : Hid (VarA w tb 55 #[.slice (some ⟨g, 0, none⟩) l.length cap]) := vT
 obtain ⟨ya, yc, rfl⟩ := r1.sliceB
 obtain ⟨za, zc, rfl⟩ := r2.sliceB
 obtain ⟨kd, ⟨p1, q1, d1⟩, nm, ⟨p2, q2, d2⟩, asn, vl⟩ := o
 obtain ⟨fp, fq, fd⟩ := fr
 dsimp only at r1 r2 hn1 hn2 hkd ⊢
 subst hkd
 obtain ⟨res, hres⟩ : ∃ r, doD l ⟨2, (p1, q1, d1), nm, (p2, q2, d2), asn, vl⟩ (fp, fq, fd) = r := ⟨_, rfl⟩
 rw [hres]
 have HRES : Hid (doD l ⟨2, (p1, q1, d1), nm, (p2, q2, d2), asn, vl⟩ (fp, fq, fd) = res) := hres
 clear hres
 have hl := sm.1
 have HEL : Hid (∀ i : Nat, (l[i]?.getD nd0).es.length ≤ 4000 ∧ 0 ≤ (l[i]?.getD nd0).links ∧ (l[i]?.getD nd0).links ≤ 2147483647) := sm.2
 have HFT : Hid (∀ W, Below w.heap.size w W → _) := fun W hW => specFind_any _ l (p1, q1, d1) _ W (RdV.step s.rd hW) (by omega)
 have HRY : Hid (∀ W, Turned (fun b => b = tb ∨ b = g) w W → RdV W S2 (.slice ya nm.length yc) (.bytes nm)) := fun W t => RdV.keep (t.keeps (fun b hb h => by have := hS2 b hb; rcases h with h | h <;> omega)) r1
 have HRZ : Hid (∀ W, Turned (fun b => b = tb ∨ b = g) w W → RdV W S2 (.slice za asn.length zc) (.bytes asn)) := fun W t => RdV.keep (t.keeps (fun b hb h => by have := hS2 b hb; rcases h with h | h <;> omega)) r2
 have HS2 : Hid (∀ b, S2 b → b < lo) := hS2
 have HSM : Hid (Small l) := sm
 have HIN : Hid (∀ i j, i < l.length → j < (l[i]?.getD nd0).es.length → fi l ((l[i]?.getD nd0).es[j]?.getD en0).h < l.length) := hin
 have sL : SG w lo (fun b => L b ∧ b ≠ w.heap.size + 2) _ l := s.mono (fun b hb h => ⟨h, by omega⟩)
 obtain ⟨L1, hL1⟩ : ∃ M : Nat → Prop, M = fun b => L b ∧ b ≠ w.heap.size + 2 := ⟨_, rfl⟩
 rw [← hL1] at sL
 have HLR : Hid (¬ L1 (w.heap.size + 2)) := by rw [hL1]; exact fun h => h.2 rfl
 have HLL : Hid (∀ b, L1 b → L b) := by rw [hL1]; exact fun b h => h.1
 have HLT1 : Hid (¬ L1 tb) := by rw [hL1]; exact fun h => hLt h.1
 have HLN : Hid (∀ b, w.heap.size + 3 ≤ b → L1 b) := by rw [hL1]; exact fun b h => ⟨hLn b (by omega), by omega⟩
 clear hL1 s sm hin r1 r2 hS2
 go_enter Tryz.func114, Tryz.ntmps114
 go_wp2
 obtain ⟨w0, hw0⟩ : ∃ W, W = ((w.alloc (.cells #[.int .i64 2, .int .i64 p1, .int .i64 q1, .bool d1, .slice ya nm.length yc, .int .i64 p2, .int .i64 q2, .bool d2, .slice za asn.length zc, .int .i64 vl] 26)).alloc (.cells #[.int .i64 fp, .int .i64 fq, .bool fd] 24)).alloc (.cells #[.int .i64 0, .int .i64 0, .int .i64 0, .bool false, .int .i64 0, .slice none 0 0] 29) := ⟨_, rfl⟩
 have B0 : Below w.heap.size w w0 := by rw [hw0]; exact (((Below.refl _ _).alloc (Nat.le_refl _) _).alloc (by simp) _).alloc (by simp; omega) _
 have HM0 : Hid (MD (fun b => b = tb ∨ b = g) w w0 tb lo (.slice (some ⟨g, 0, none⟩) l.length cap) L1 l #[.int .i64 2, .int .i64 p1, .int .i64 q1, .bool d1, .slice ya nm.length yc, .int .i64 p2, .int .i64 q2, .bool d2, .slice za asn.length zc, .int .i64 vl] #[.int .i64 fp, .int .i64 fq, .bool fd]) := ⟨Turned.ofBelow B0, vT.step B0, sL.step B0, by rw [hw0]; exact ((VarA.new w _ _).alloc _).alloc _, by rw [hw0]; have := (VarA.new (w.alloc (.cells #[.int .i64 2, .int .i64 p1, .int .i64 q1, .bool d1, .slice ya nm.length yc, .int .i64 p2, .int .i64 q2, .bool d2, .slice za asn.length zc, .int .i64 vl] 26)) 24 #[.int .i64 fp, .int .i64 fq, .bool fd]).alloc (.cells #[.int .i64 0, .int .i64 0, .int .i64 0, .bool false, .int .i64 0, .slice none 0 0] 29); simpa using this, by rw [hw0]; have := VarA.new ((w.alloc (.cells #[.int .i64 2, .int .i64 p1, .int .i64 q1, .bool d1, .slice ya nm.length yc, .int .i64 p2, .int .i64 q2, .bool d2, .slice za asn.length zc, .int .i64 vl] 26)).alloc (.cells #[.int .i64 fp, .int .i64 fq, .bool fd] 24)) 29 #[.int .i64 0, .int .i64 0, .int .i64 0, .bool false, .int .i64 0, .slice none 0 0]; simpa using this⟩
 have HB0 : Hid (Below w.heap.size w w0) := B0
 have z0 := HM0.out.vR.lt
 rw [← hw0]
 clear hw0 vT sL B0
 have HF0 : Hid (∀ W, Below w0.heap.size w0 W → _) := fun W hW => HFT.out W (HB0.out.trans (hW.mono HB0.out.size))
 haveI : Nonempty (Cls w0) := Cls.ne w0
 have kt := Cls.cell HM0.out.vT.lt HM0.out.vT.l1
 have k1 := Cls.cell HM0.out.vO.lt (HM0.out.vO.c 1 rfl)
 have k2 := Cls.cell HM0.out.vO.lt (HM0.out.vO.c 2 rfl)
 have k3 := Cls.cell HM0.out.vO.lt (HM0.out.vO.c 3 rfl)
 refine wp_region_cls (by kernel_rfl) (by kernel_rfl) ?_
 repeat (go_big_quiet_step (first | (go_at_call 96; exact Calls.cls (HF0.out _ (Cls.h _)))))
 refine wpQuiet_nil ?_
 rintro w1 ⟨⟨w1, hb_⟩, rfl⟩
 have HM_w1 : Hid (MD (fun b => b = tb ∨ b = g) w w1 tb lo (.slice (some ⟨g, 0, none⟩) l.length cap) L1 l #[.int .i64 2, .int .i64 p1, .int .i64 q1, .bool d1, .slice ya nm.length yc, .int .i64 p2, .int .i64 q2, .bool d2, .slice za asn.length zc, .int .i64 vl] #[.int .i64 fp, .int .i64 fq, .bool fd]) := HM0.out.step hb_
 have HB1 : Hid (Below w.heap.size w w1) := HB0.out.trans (hb_.mono HB0.out.size)
 have z1 := hb_.size
 clear kt k1 k2 k3 this hb_
 clear HF0 HFT HM0 HB0
 have o0 := HM_w1.out.vO.c 0 rfl
 have o3 := HM_w1.out.vO.c 3 rfl
 cases d1 with
 | true =>
  have HC : Hid (res = (l, rc 6)) := by show res = _; rw [← HRES.out]; rfl
  clear HRES
  go_wp2_with ((with_reducible refine guardStore (ty := 29) ?_); refine wpList_storeF HM_w1.out.vR rfl rfl (by kernel_rfl) rfl (of_decide_eq_true rfl) rfl ?_; intro wz vR t_)
  refine bodyPost_ret (results_cell_row Tryz.results114 _ _ _ _ _ _ _ rfl vR Tryz.underlying29 rfl (by kernel_rfl)) rfl ?_
  unfold DoPost
  rw [HC.out]
  exact ⟨_, rfl, rd_nil _ _, Turned.own2 HVW.out (HM_w1.out.fin hvt t_ HLR.out (by omega) (fun e => by have e3 : g = w.heap.size + 2 := (by simpa [Value.ownBlock] using e); omega) HLL.out)⟩
 | false =>
  rcases findH_cases l (p1, q1, false) with ⟨hd, hf⟩ | ⟨hd, hf⟩
  case inr =>
   rw [hf]
   have HC : Hid (res = (l, rc 1)) := by show res = _; rw [← HRES.out]; unfold doD; simp [hd]
   clear HRES hd hf
   go_wp2_with ((with_reducible refine guardStore (ty := 29) ?_); refine wpList_storeF HM_w1.out.vR rfl rfl (by kernel_rfl) rfl (of_decide_eq_true rfl) rfl ?_; intro wz vR t_)
   refine bodyPost_ret (results_cell_row Tryz.results114 _ _ _ _ _ _ _ rfl vR Tryz.underlying29 rfl (by kernel_rfl)) rfl ?_
   unfold DoPost
   rw [HC.out]
   exact ⟨_, rfl, rd_nil _ _, Turned.own2 HVW.out (HM_w1.out.fin hvt t_ HLR.out (by omega) (fun e => by have e3 : g = w.heap.size + 2 := (by simpa [Value.ownBlock] using e); omega) HLL.out)⟩
  rw [hf]
  clear hf
  unfold doD at HRES
  dsimp only at HRES
  generalize fi l (p1, q1, false) = d at *
  have hdi : (d : Int) < (l.length : Int) := by omega
  have t1 := HM_w1.out.vT.l1
  obtain ⟨xd, rd, cd⟩ := HM_w1.out.s.at hd
  have HRD : Hid _ := rd
  have HCD : Hid _ := cd
  clear rd cd
  have hgw : g < w1.heap.size := Nat.lt_of_lt_of_le hg2 HB1.out.size
  have c7 : w1.cell? ⟨g, d * 9 + 7, none⟩ = some (.int .i64 (l[d]?.getD nd0).val) := HCD.out 7 (by omega)
  have HC : Hid (res = (l, ⟨0, hd0, (l[d]?.getD nd0).val, []⟩)) := by show res = _; rw [← HRES.out]; simp [hd]
  clear HRES
  generalize (l[d]?.getD nd0).val = vv at *
  go_wp2_with ((with_reducible refine guardStore (ty := 29) ?_); refine wpList_storeF HM_w1.out.vR rfl rfl (by kernel_rfl) rfl (of_decide_eq_true rfl) rfl ?_; intro wz vR t_)
  refine bodyPost_ret (results_cell_row Tryz.results114 _ _ _ _ _ _ _ rfl vR Tryz.underlying29 rfl (by kernel_rfl)) rfl ?_
  unfold DoPost
  rw [HC.out]
  exact ⟨_, rfl, rd_nil _ _, Turned.own2 HVW.out (HM_w1.out.fin hvt t_ HLR.out (by omega) (fun e => by have e3 : g = w.heap.size + 2 := (by simpa [Value.ownBlock] using e); omega) HLL.out)⟩
end
section
set_option maxHeartbeats 8000000 in
theorem specDo3 (tb lo : Nat) (o : OpD) (fr : Hd) (y z : Value) (l : List Nd) (S2 L : Nat → Prop) (w : World) (tv : TV w tb lo L l) (hLt : ¬ L tb) (hLn : ∀ b, w.heap.size ≤ b → L b) (h0 : 0 < l.length) (hlo : lo ≤ w.heap.size) (htbl : lo ≤ tb) (sm : Small l) (hsz : szNds l ≤ 2097152) (r1 : RdV w S2 y (.bytes o.nm)) (r2 : RdV w S2 z (.bytes o.asn)) (hS2 : ∀ b, S2 b → b < lo) (hn1 : o.nm.length ≤ 2097152) (hn2 : o.asn.length ≤ 2097152)
  (hin : ∀ i j, i < l.length → j < (l[i]?.getD nd0).es.length → fi l ((l[i]?.getD nd0).es[j]?.getD en0).h < l.length) (hkd : o.kind = 3) :
  Calls Tryz.prog 114 #[.pointer (some ⟨tb, 0, none⟩), opV o y z, fr.v] w (DoPost w tb lo L (doD l o fr)) := by
 obtain ⟨v, vT, s, hvt⟩ := tv
 obtain ⟨g, cap, rfl, hg1, hg2, hgf, hcap⟩ := s.head h0
 have htb := vT.lt
 have hgt : g ≠ tb := fun e => hvt (by rw [e]; rfl)
 have HVW : Hid (VarA w tb 55 #[.slice (some ⟨g, 0, none⟩) l.length cap]) := vT
 obtain ⟨ya, yc, rfl⟩ := r1.sliceB
 obtain ⟨za, zc, rfl⟩ := r2.sliceB
 obtain ⟨kd, ⟨p1, q1, d1⟩, nm, ⟨p2, q2, d2⟩, asn, vl⟩ := o
 obtain ⟨fp, fq, fd⟩ := fr
 dsimp only at r1 r2 hn1 hn2 hkd ⊢
 subst hkd
 obtain ⟨res, hres⟩ : ∃ r, doD l ⟨3, (p1, q1, d1), nm, (p2, q2, d2), asn, vl⟩ (fp, fq, fd) = r := ⟨_, rfl⟩
 rw [hres]
 have HRES : Hid (doD l ⟨3, (p1, q1, d1), nm, (p2, q2, d2), asn, vl⟩ (fp, fq, fd) = res) := hres
 clear hres
 have hl := sm.1
 have HEL : Hid (∀ i : Nat, (l[i]?.getD nd0).es.length ≤ 4000 ∧ 0 ≤ (l[i]?.getD nd0).links ∧ (l[i]?.getD nd0).links ≤ 2147483647) := sm.2
 have HFT : Hid (∀ W, Below w.heap.size w W → _) := fun W hW => specFind_any _ l (p1, q1, d1) _ W (RdV.step s.rd hW) (by omega)
 have HRY : Hid (∀ W, Turned (fun b => b = tb ∨ b = g) w W → RdV W S2 (.slice ya nm.length yc) (.bytes nm)) := fun W t => RdV.keep (t.keeps (fun b hb h => by have := hS2 b hb; rcases h with h | h <;> omega)) r1
 have HRZ : Hid (∀ W, Turned (fun b => b = tb ∨ b = g) w W → RdV W S2 (.slice za asn.length zc) (.bytes asn)) := fun W t => RdV.keep (t.keeps (fun b hb h => by have := hS2 b hb; rcases h with h | h <;> omega)) r2
 have HS2 : Hid (∀ b, S2 b → b < lo) := hS2
 have HSM : Hid (Small l) := sm
 have HIN : Hid (∀ i j, i < l.length → j < (l[i]?.getD nd0).es.length → fi l ((l[i]?.getD nd0).es[j]?.getD en0).h < l.length) := hin
 have sL : SG w lo (fun b => L b ∧ b ≠ w.heap.size + 2) _ l := s.mono (fun b hb h => ⟨h, by omega⟩)
 obtain ⟨L1, hL1⟩ : ∃ M : Nat → Prop, M = fun b => L b ∧ b ≠ w.heap.size + 2 := ⟨_, rfl⟩
 rw [← hL1] at sL
 have HLR : Hid (¬ L1 (w.heap.size + 2)) := by rw [hL1]; exact fun h => h.2 rfl
 have HLL : Hid (∀ b, L1 b → L b) := by rw [hL1]; exact fun b h => h.1
 have HLT1 : Hid (¬ L1 tb) := by rw [hL1]; exact fun h => hLt h.1
 have HLN : Hid (∀ b, w.heap.size + 3 ≤ b → L1 b) := by rw [hL1]; exact fun b h => ⟨hLn b (by omega), by omega⟩
 clear hL1 s sm hin r1 r2 hS2
 go_enter Tryz.func114, Tryz.ntmps114
 go_wp2
 obtain ⟨w0, hw0⟩ : ∃ W, W = ((w.alloc (.cells #[.int .i64 3, .int .i64 p1, .int .i64 q1, .bool d1, .slice ya nm.length yc, .int .i64 p2, .int .i64 q2, .bool d2, .slice za asn.length zc, .int .i64 vl] 26)).alloc (.cells #[.int .i64 fp, .int .i64 fq, .bool fd] 24)).alloc (.cells #[.int .i64 0, .int .i64 0, .int .i64 0, .bool false, .int .i64 0, .slice none 0 0] 29) := ⟨_, rfl⟩
 have B0 : Below w.heap.size w w0 := by rw [hw0]; exact (((Below.refl _ _).alloc (Nat.le_refl _) _).alloc (by simp) _).alloc (by simp; omega) _
 have HM0 : Hid (MD (fun b => b = tb ∨ b = g) w w0 tb lo (.slice (some ⟨g, 0, none⟩) l.length cap) L1 l #[.int .i64 3, .int .i64 p1, .int .i64 q1, .bool d1, .slice ya nm.length yc, .int .i64 p2, .int .i64 q2, .bool d2, .slice za asn.length zc, .int .i64 vl] #[.int .i64 fp, .int .i64 fq, .bool fd]) := ⟨Turned.ofBelow B0, vT.step B0, sL.step B0, by rw [hw0]; exact ((VarA.new w _ _).alloc _).alloc _, by rw [hw0]; have := (VarA.new (w.alloc (.cells #[.int .i64 3, .int .i64 p1, .int .i64 q1, .bool d1, .slice ya nm.length yc, .int .i64 p2, .int .i64 q2, .bool d2, .slice za asn.length zc, .int .i64 vl] 26)) 24 #[.int .i64 fp, .int .i64 fq, .bool fd]).alloc (.cells #[.int .i64 0, .int .i64 0, .int .i64 0, .bool false, .int .i64 0, .slice none 0 0] 29); simpa using this, by rw [hw0]; have := VarA.new ((w.alloc (.cells #[.int .i64 3, .int .i64 p1, .int .i64 q1, .bool d1, .slice ya nm.length yc, .int .i64 p2, .int .i64 q2, .bool d2, .slice za asn.length zc, .int .i64 vl] 26)).alloc (.cells #[.int .i64 fp, .int .i64 fq, .bool fd] 24)) 29 #[.int .i64 0, .int .i64 0, .int .i64 0, .bool false, .int .i64 0, .slice none 0 0]; simpa using this⟩
 have HB0 : Hid (Below w.heap.size w w0) := B0
 have z0 := HM0.out.vR.lt
 rw [← hw0]
 clear hw0 vT sL B0
 have HF0 : Hid (∀ W, Below w0.heap.size w0 W → _) := fun W hW => HFT.out W (HB0.out.trans (hW.mono HB0.out.size))
 haveI : Nonempty (Cls w0) := Cls.ne w0
 have kt := Cls.cell HM0.out.vT.lt HM0.out.vT.l1
 have k1 := Cls.cell HM0.out.vO.lt (HM0.out.vO.c 1 rfl)
 have k2 := Cls.cell HM0.out.vO.lt (HM0.out.vO.c 2 rfl)
 have k3 := Cls.cell HM0.out.vO.lt (HM0.out.vO.c 3 rfl)
 refine wp_region_cls (by kernel_rfl) (by kernel_rfl) ?_
 repeat (go_big_quiet_step (first | (go_at_call 96; exact Calls.cls (HF0.out _ (Cls.h _)))))
 refine wpQuiet_nil ?_
 rintro w1 ⟨⟨w1, hb_⟩, rfl⟩
 have HM_w1 : Hid (MD (fun b => b = tb ∨ b = g) w w1 tb lo (.slice (some ⟨g, 0, none⟩) l.length cap) L1 l #[.int .i64 3, .int .i64 p1, .int .i64 q1, .bool d1, .slice ya nm.length yc, .int .i64 p2, .int .i64 q2, .bool d2, .slice za asn.length zc, .int .i64 vl] #[.int .i64 fp, .int .i64 fq, .bool fd]) := HM0.out.step hb_
 have HB1 : Hid (Below w.heap.size w w1) := HB0.out.trans (hb_.mono HB0.out.size)
 have z1 := hb_.size
 clear kt k1 k2 k3 this hb_
 clear HF0 HFT HM0 HB0
 have o0 := HM_w1.out.vO.c 0 rfl
 have o3 := HM_w1.out.vO.c 3 rfl
 cases d1 with
 | true =>
  have HC : Hid (res = (l, rc 6)) := by show res = _; rw [← HRES.out]; rfl
  clear HRES
  go_wp2_with ((with_reducible refine guardStore (ty := 29) ?_); refine wpList_storeF HM_w1.out.vR rfl rfl (by kernel_rfl) rfl (of_decide_eq_true rfl) rfl ?_; intro wz vR t_)
  refine bodyPost_ret (results_cell_row Tryz.results114 _ _ _ _ _ _ _ rfl vR Tryz.underlying29 rfl (by kernel_rfl)) rfl ?_
  unfold DoPost
  rw [HC.out]
  exact ⟨_, rfl, rd_nil _ _, Turned.own2 HVW.out (HM_w1.out.fin hvt t_ HLR.out (by omega) (fun e => by have e3 : g = w.heap.size + 2 := (by simpa [Value.ownBlock] using e); omega) HLL.out)⟩
 | false =>
  rcases findH_cases l (p1, q1, false) with ⟨hd, hf⟩ | ⟨hd, hf⟩
  case inr =>
   rw [hf]
   have HC : Hid (res = (l, rc 1)) := by show res = _; rw [← HRES.out]; unfold doD; simp [hd]
   clear HRES hd hf
   go_wp2_with ((with_reducible refine guardStore (ty := 29) ?_); refine wpList_storeF HM_w1.out.vR rfl rfl (by kernel_rfl) rfl (of_decide_eq_true rfl) rfl ?_; intro wz vR t_)
   refine bodyPost_ret (results_cell_row Tryz.results114 _ _ _ _ _ _ _ rfl vR Tryz.underlying29 rfl (by kernel_rfl)) rfl ?_
   unfold DoPost
   rw [HC.out]
   exact ⟨_, rfl, rd_nil _ _, Turned.own2 HVW.out (HM_w1.out.fin hvt t_ HLR.out (by omega) (fun e => by have e3 : g = w.heap.size + 2 := (by simpa [Value.ownBlock] using e); omega) HLL.out)⟩
  rw [hf]
  clear hf
  unfold doD at HRES
  dsimp only at HRES
  generalize fi l (p1, q1, false) = d at *
  have hdi : (d : Int) < (l.length : Int) := by omega
  have t1 := HM_w1.out.vT.l1
  obtain ⟨xd, rd, cd⟩ := HM_w1.out.s.at hd
  have HRD : Hid _ := rd
  have HCD : Hid _ := cd
  clear rd cd
  have hgw : g < w1.heap.size := Nat.lt_of_lt_of_le hg2 HB1.out.size
  have HC : Hid (res = (valN l d vl, rc 0)) := by show res = _; rw [← HRES.out]; simp [hd]
  clear HRES
  go_wp2
  refine wp_region_noPanic ?_
  refine wp_region_held_drew (S := fun W => W.cell? ⟨tb, 0, none⟩ = some (.slice (some ⟨g, 0, none⟩) l.length cap) ∧ W.cell? ⟨w.heap.size, 9, none⟩ = some (.int .i64 vl)) (by kernel_rfl) ⟨(HM_w1.out.vT.step (Below.drew (Below.refl w1.heap.size w1))).l1, (HM_w1.out.vO.step (Below.drew (Below.refl w1.heap.size w1))).c 9 rfl⟩ (fun hHeld => ?_)
  refine wpAnyH_take (i := 0) (v := ?_) rfl (by kernel_rfl) (by kernel_rfl) (by kernel_rfl) (fun _ _ _ h => h) (Or.inl ⟨by rfl, ?_⟩) (by assumption) ?_
  rotate_left
  ·(intro _ h; (try dsimp only at h); go_simp; try with_reducible rfl)
  try simp only [Act.put, qz1, qz2, qz3, qz4, qz5, qz6]
  refine wpAnyH_take (i := 1) (v := ?_) rfl (by kernel_rfl) (by kernel_rfl) (by kernel_rfl) (fun _ _ _ h => h) (Or.inl ⟨by rfl, ?_⟩) (by assumption) ?_
  rotate_left
  ·(intro _ h; (try dsimp only at h); go_simp; try with_reducible rfl)
  try simp only [Act.put, qz1, qz2, qz3, qz4, qz5, qz6]
  refine wpAnyH_take (i := 2) (v := ?_) rfl (by kernel_rfl) (by kernel_rfl) (by kernel_rfl) (fun _ _ _ h => h) (Or.inl ⟨by rfl, ?_⟩) (by assumption) ?_
  rotate_left
  ·(intro _ h; (try dsimp only at h); go_simp; try with_reducible rfl)
  try simp only [Act.put, qz1, qz2, qz3, qz4, qz5, qz6]
  refine wpAnyH_take (i := 3) (v := ?_) rfl (by kernel_rfl) (by kernel_rfl) (by kernel_rfl) (fun _ _ _ h => h) (Or.inl ⟨by rfl, ?_⟩) (by assumption) ?_
  rotate_left
  ·(intro _ h; (try dsimp only at h); go_simp; try with_reducible rfl)
  try simp only [Act.put, qz1, qz2, qz3, qz4, qz5, qz6]
  refine wpAnyH_take (i := 4) (v := ?_) rfl (by kernel_rfl) (by kernel_rfl) (by kernel_rfl) (fun _ _ _ h => h) (Or.inl ⟨by rfl, ?_⟩) (by assumption) ?_
  rotate_left
  ·(intro _ h; (try dsimp only at h); go_simp; try with_reducible rfl)
  try simp only [Act.put, qz1, qz2, qz3, qz4, qz5, qz6]
  refine wpAnyH_take (i := 5) (v := ?_) rfl (by kernel_rfl) (by kernel_rfl) (by kernel_rfl) (fun _ _ _ h => h) (Or.inl ⟨by rfl, ?_⟩) (by assumption) ?_
  rotate_left
  ·(intro _ h; (try dsimp only at h); go_simp; try with_reducible rfl)
  try simp only [Act.put, qz1, qz2, qz3, qz4, qz5, qz6]
  refine wpAnyH_take (i := 6) (v := ?_) rfl (by kernel_rfl) (by kernel_rfl) (by kernel_rfl) (fun _ _ _ h => h) (Or.inl ⟨by rfl, ?_⟩) (by assumption) ?_
  rotate_left
  ·(intro _ h; (try dsimp only at h); go_simp; try with_reducible rfl)
  try simp only [Act.put, qz1, qz2, qz3, qz4, qz5, qz6]
  refine wpAnyH_take (i := 7) (v := ?_) rfl (by kernel_rfl) (by kernel_rfl) (by kernel_rfl) (fun _ _ _ h => h) (Or.inl ⟨by rfl, ?_⟩) (by assumption) ?_
  rotate_left
  ·(intro _ h; (try dsimp only at h); go_simp; try with_reducible rfl)
  try simp only [Act.put, qz1, qz2, qz3, qz4, qz5, qz6]
  refine wpAnyH_take (i := 8) (v := ?_) rfl (by kernel_rfl) (by kernel_rfl) (by kernel_rfl) (fun _ _ _ h => h) (Or.inl ⟨by rfl, ?_⟩) (by assumption) ?_
  rotate_left
  ·(intro _ h; (try dsimp only at h); go_simp; try with_reducible rfl)
  try simp only [Act.put, qz1, qz2, qz3, qz4, qz5, qz6]
  refine wpAnyH_ready (rs := [9]) (by kernel_rfl) (by simp) ?_
  refine AllReadyH.cons rfl (fun K hK => ?_) AllReadyH.nil
  have e7 : w1.drew.cell? ⟨g, d * 9 + 7, none⟩ = some (.int .i64 (l[d]?.getD nd0).val) := HCD.out 7 (by omega)
  have fk := SG.fz g HM_w1.out.s hd (d * 9 + 7)
  go_simp
  have T2 : Turned (fun b => b = g) w1.drew ((w1.setCell ⟨g, d * 9 + 7, none⟩ (.int .i64 vl)).drew) := Turned.set (Turned.refl (fun b => b = g) _) ⟨g, d * 9 + 7, none⟩ _ rfl
  have HM2 : Hid (MD (fun b => b = tb ∨ b = g) w ((w1.setCell ⟨g, d * 9 + 7, none⟩ (.int .i64 vl)).drew) tb lo (.slice (some ⟨g, 0, none⟩) l.length cap) L1 (valN l d vl) #[.int .i64 3, .int .i64 p1, .int .i64 q1, .bool false, .slice ya nm.length yc, .int .i64 p2, .int .i64 q2, .bool d2, .slice za asn.length zc, .int .i64 vl] #[.int .i64 fp, .int .i64 fq, .bool fd]) := MD.turn (HM_w1.out.step (Below.drew (Below.refl w1.heap.size w1))) T2 (SG.setVal (HM_w1.out.s.step (Below.drew (Below.refl w1.heap.size w1))) hd vl) (.inr rfl) hg2 hgt
  refine hK.out _ _ ⟨HM2.out.vT.l1, HM2.out.vO.c 9 rfl⟩ (fun hHeld => ?_)
  clear hK K
  try simp only [Act.put, qz1, qz2, qz3, qz4, qz5, qz6]
  refine wpAnyH_done (by kernel_rfl) (NoPanic.normal ?_) _
  clear hHeld T2 e7 fk
  obtain ⟨w2, hw2⟩ : ∃ W, W = ((w1.setCell ⟨g, d * 9 + 7, none⟩ (.int .i64 vl)).drew) := ⟨_, rfl⟩
  rw [← hw2] at HM2 ⊢
  clear hw2
  go_wp2_with ((with_reducible refine guardStore (ty := 29) ?_); refine wpList_storeF HM2.out.vR rfl rfl (by kernel_rfl) rfl (of_decide_eq_true rfl) rfl ?_; intro wz vR t_)
  refine bodyPost_ret (results_cell_row Tryz.results114 _ _ _ _ _ _ _ rfl vR Tryz.underlying29 rfl (by kernel_rfl)) rfl ?_
  unfold DoPost
  rw [HC.out]
  exact ⟨_, rfl, rd_nil _ _, Turned.own2 HVW.out (HM2.out.fin hvt t_ HLR.out (by omega) (fun e => by have e3 : g = w.heap.size + 2 := (by simpa [Value.ownBlock] using e); omega) HLL.out)⟩
end
section
set_option maxHeartbeats 8000000 in
theorem specDo7 (tb lo : Nat) (o : OpD) (fr : Hd) (y z : Value) (l : List Nd) (S2 L : Nat → Prop) (w : World) (tv : TV w tb lo L l) (hLt : ¬ L tb) (hLn : ∀ b, w.heap.size ≤ b → L b) (h0 : 0 < l.length) (hlo : lo ≤ w.heap.size) (htbl : lo ≤ tb) (sm : Small l) (hsz : szNds l ≤ 2097152) (r1 : RdV w S2 y (.bytes o.nm)) (r2 : RdV w S2 z (.bytes o.asn)) (hS2 : ∀ b, S2 b → b < lo) (hn1 : o.nm.length ≤ 2097152) (hn2 : o.asn.length ≤ 2097152)
  (hin : ∀ i j, i < l.length → j < (l[i]?.getD nd0).es.length → fi l ((l[i]?.getD nd0).es[j]?.getD en0).h < l.length) (hkd : o.kind = 7) :
  Calls Tryz.prog 114 #[.pointer (some ⟨tb, 0, none⟩), opV o y z, fr.v] w (DoPost w tb lo L (doD l o fr)) := by
 obtain ⟨v, vT, s, hvt⟩ := tv
 obtain ⟨g, cap, rfl, hg1, hg2, hgf, hcap⟩ := s.head h0
 have htb := vT.lt
 have hgt : g ≠ tb := fun e => hvt (by rw [e]; rfl)
 have HVW : Hid (VarA w tb 55 #[.slice (some ⟨g, 0, none⟩) l.length cap]) := vT
 obtain ⟨ya, yc, rfl⟩ := r1.sliceB
 obtain ⟨za, zc, rfl⟩ := r2.sliceB
 obtain ⟨kd, ⟨p1, q1, d1⟩, nm, ⟨p2, q2, d2⟩, asn, vl⟩ := o
 obtain ⟨fp, fq, fd⟩ := fr
 dsimp only at r1 r2 hn1 hn2 hkd ⊢
 subst hkd
 obtain ⟨res, hres⟩ : ∃ r, doD l ⟨7, (p1, q1, d1), nm, (p2, q2, d2), asn, vl⟩ (fp, fq, fd) = r := ⟨_, rfl⟩
 rw [hres]
 have HRES : Hid (doD l ⟨7, (p1, q1, d1), nm, (p2, q2, d2), asn, vl⟩ (fp, fq, fd) = res) := hres
 clear hres
 have hl := sm.1
 have HEL : Hid (∀ i : Nat, (l[i]?.getD nd0).es.length ≤ 4000 ∧ 0 ≤ (l[i]?.getD nd0).links ∧ (l[i]?.getD nd0).links ≤ 2147483647) := sm.2
 have HFT : Hid (∀ W, Below w.heap.size w W → _) := fun W hW => specFind_any _ l (p1, q1, d1) _ W (RdV.step s.rd hW) (by omega)
 have HRY : Hid (∀ W, Turned (fun b => b = tb ∨ b = g) w W → RdV W S2 (.slice ya nm.length yc) (.bytes nm)) := fun W t => RdV.keep (t.keeps (fun b hb h => by have := hS2 b hb; rcases h with h | h <;> omega)) r1
 have HRZ : Hid (∀ W, Turned (fun b => b = tb ∨ b = g) w W → RdV W S2 (.slice za asn.length zc) (.bytes asn)) := fun W t => RdV.keep (t.keeps (fun b hb h => by have := hS2 b hb; rcases h with h | h <;> omega)) r2
 have HS2 : Hid (∀ b, S2 b → b < lo) := hS2
 have HSM : Hid (Small l) := sm
 have HIN : Hid (∀ i j, i < l.length → j < (l[i]?.getD nd0).es.length → fi l ((l[i]?.getD nd0).es[j]?.getD en0).h < l.length) := hin
 have sL : SG w lo (fun b => L b ∧ b ≠ w.heap.size + 2) _ l := s.mono (fun b hb h => ⟨h, by omega⟩)
 obtain ⟨L1, hL1⟩ : ∃ M : Nat → Prop, M = fun b => L b ∧ b ≠ w.heap.size + 2 := ⟨_, rfl⟩
 rw [← hL1] at sL
 have HLR : Hid (¬ L1 (w.heap.size + 2)) := by rw [hL1]; exact fun h => h.2 rfl
 have HLL : Hid (∀ b, L1 b → L b) := by rw [hL1]; exact fun b h => h.1
 have HLT1 : Hid (¬ L1 tb) := by rw [hL1]; exact fun h => hLt h.1
 have HLN : Hid (∀ b, w.heap.size + 3 ≤ b → L1 b) := by rw [hL1]; exact fun b h => ⟨hLn b (by omega), by omega⟩
 clear hL1 s sm hin r1 r2 hS2
 go_enter Tryz.func114, Tryz.ntmps114
 go_wp2
 obtain ⟨w0, hw0⟩ : ∃ W, W = ((w.alloc (.cells #[.int .i64 7, .int .i64 p1, .int .i64 q1, .bool d1, .slice ya nm.length yc, .int .i64 p2, .int .i64 q2, .bool d2, .slice za asn.length zc, .int .i64 vl] 26)).alloc (.cells #[.int .i64 fp, .int .i64 fq, .bool fd] 24)).alloc (.cells #[.int .i64 0, .int .i64 0, .int .i64 0, .bool false, .int .i64 0, .slice none 0 0] 29) := ⟨_, rfl⟩
 have B0 : Below w.heap.size w w0 := by rw [hw0]; exact (((Below.refl _ _).alloc (Nat.le_refl _) _).alloc (by simp) _).alloc (by simp; omega) _
 have HM0 : Hid (MD (fun b => b = tb ∨ b = g) w w0 tb lo (.slice (some ⟨g, 0, none⟩) l.length cap) L1 l #[.int .i64 7, .int .i64 p1, .int .i64 q1, .bool d1, .slice ya nm.length yc, .int .i64 p2, .int .i64 q2, .bool d2, .slice za asn.length zc, .int .i64 vl] #[.int .i64 fp, .int .i64 fq, .bool fd]) := ⟨Turned.ofBelow B0, vT.step B0, sL.step B0, by rw [hw0]; exact ((VarA.new w _ _).alloc _).alloc _, by rw [hw0]; have := (VarA.new (w.alloc (.cells #[.int .i64 7, .int .i64 p1, .int .i64 q1, .bool d1, .slice ya nm.length yc, .int .i64 p2, .int .i64 q2, .bool d2, .slice za asn.length zc, .int .i64 vl] 26)) 24 #[.int .i64 fp, .int .i64 fq, .bool fd]).alloc (.cells #[.int .i64 0, .int .i64 0, .int .i64 0, .bool false, .int .i64 0, .slice none 0 0] 29); simpa using this, by rw [hw0]; have := VarA.new ((w.alloc (.cells #[.int .i64 7, .int .i64 p1, .int .i64 q1, .bool d1, .slice ya nm.length yc, .int .i64 p2, .int .i64 q2, .bool d2, .slice za asn.length zc, .int .i64 vl] 26)).alloc (.cells #[.int .i64 fp, .int .i64 fq, .bool fd] 24)) 29 #[.int .i64 0, .int .i64 0, .int .i64 0, .bool false, .int .i64 0, .slice none 0 0]; simpa using this⟩
 have HB0 : Hid (Below w.heap.size w w0) := B0
 have z0 := HM0.out.vR.lt
 rw [← hw0]
 clear hw0 vT sL B0
 have HF0 : Hid (∀ W, Below w0.heap.size w0 W → _) := fun W hW => HFT.out W (HB0.out.trans (hW.mono HB0.out.size))
 haveI : Nonempty (Cls w0) := Cls.ne w0
 have kt := Cls.cell HM0.out.vT.lt HM0.out.vT.l1
 have k1 := Cls.cell HM0.out.vO.lt (HM0.out.vO.c 1 rfl)
 have k2 := Cls.cell HM0.out.vO.lt (HM0.out.vO.c 2 rfl)
 have k3 := Cls.cell HM0.out.vO.lt (HM0.out.vO.c 3 rfl)
 refine wp_region_cls (by kernel_rfl) (by kernel_rfl) ?_
 repeat (go_big_quiet_step (first | (go_at_call 96; exact Calls.cls (HF0.out _ (Cls.h _)))))
 refine wpQuiet_nil ?_
 rintro w1 ⟨⟨w1, hb_⟩, rfl⟩
 have HM_w1 : Hid (MD (fun b => b = tb ∨ b = g) w w1 tb lo (.slice (some ⟨g, 0, none⟩) l.length cap) L1 l #[.int .i64 7, .int .i64 p1, .int .i64 q1, .bool d1, .slice ya nm.length yc, .int .i64 p2, .int .i64 q2, .bool d2, .slice za asn.length zc, .int .i64 vl] #[.int .i64 fp, .int .i64 fq, .bool fd]) := HM0.out.step hb_
 have HB1 : Hid (Below w.heap.size w w1) := HB0.out.trans (hb_.mono HB0.out.size)
 have z1 := hb_.size
 clear kt k1 k2 k3 this hb_
 clear HF0 HFT HM0 HB0
 have o0 := HM_w1.out.vO.c 0 rfl
 have o3 := HM_w1.out.vO.c 3 rfl
 cases d1 with
 | false =>
  have HC : Hid (res = (l, rc 2)) := by show res = _; rw [← HRES.out]; rfl
  clear HRES
  go_wp2_with ((with_reducible refine guardStore (ty := 29) ?_); refine wpList_storeF HM_w1.out.vR rfl rfl (by kernel_rfl) rfl (of_decide_eq_true rfl) rfl ?_; intro wz vR t_)
  refine bodyPost_ret (results_cell_row Tryz.results114 _ _ _ _ _ _ _ rfl vR Tryz.underlying29 rfl (by kernel_rfl)) rfl ?_
  unfold DoPost
  rw [HC.out]
  exact ⟨_, rfl, rd_nil _ _, Turned.own2 HVW.out (HM_w1.out.fin hvt t_ HLR.out (by omega) (fun e => by have e3 : g = w.heap.size + 2 := (by simpa [Value.ownBlock] using e); omega) HLL.out)⟩
 | true =>
  rcases findH_cases l (p1, q1, true) with ⟨hd, hf⟩ | ⟨hd, hf⟩
  case inr =>
   rw [hf]
   have HC : Hid (res = (l, rc 1)) := by show res = _; rw [← HRES.out]; unfold doD; simp [hd]
   clear HRES hd hf
   go_wp2_with ((with_reducible refine guardStore (ty := 29) ?_); refine wpList_storeF HM_w1.out.vR rfl rfl (by kernel_rfl) rfl (of_decide_eq_true rfl) rfl ?_; intro wz vR t_)
   refine bodyPost_ret (results_cell_row Tryz.results114 _ _ _ _ _ _ _ rfl vR Tryz.underlying29 rfl (by kernel_rfl)) rfl ?_
   unfold DoPost
   rw [HC.out]
   exact ⟨_, rfl, rd_nil _ _, Turned.own2 HVW.out (HM_w1.out.fin hvt t_ HLR.out (by omega) (fun e => by have e3 : g = w.heap.size + 2 := (by simpa [Value.ownBlock] using e); omega) HLL.out)⟩
  rw [hf]
  clear hf
  unfold doD at HRES
  dsimp only at HRES
  generalize fi l (p1, q1, true) = d at *
  have hdi : (d : Int) < (l.length : Int) := by omega
  have t1 := HM_w1.out.vT.l1
  obtain ⟨xd, rd, cd⟩ := HM_w1.out.s.at hd
  have HRD : Hid _ := rd
  have HCD : Hid _ := cd
  clear rd cd
  have hgw : g < w1.heap.size := Nat.lt_of_lt_of_le hg2 HB1.out.size
  have HC : Hid (res = ((moveD l ⟨7, (p1, q1, true), nm, (p2, q2, d2), asn, vl⟩ d).1, rc (moveD l ⟨7, (p1, q1, true), nm, (p2, q2, d2), asn, vl⟩ d).2)) := by show res = _; rw [← HRES.out]; simp [hd]
  clear HRES o0 o3
  obtain ⟨o0, o1, o2, o3, o4, o5, o6, o7, o8, o9⟩ := HM_w1.out.vO.l10
  have TW : TV w1 tb lo L1 l := ⟨_, HM_w1.out.vT, HM_w1.out.s, hvt⟩
  have HCA : Hid _ := specMove_any tb lo d ⟨7, (p1, q1, true), nm, (p2, q2, d2), asn, vl⟩ _ _ l S2 L1 w1 TW HLT1.out (fun b hb => HLN.out b (by omega)) (Nat.le_trans hlo HB1.out.size) htbl HSM.out hd (HRY.out _ HM_w1.out.t) (HRZ.out _ HM_w1.out.t) HS2.out hn1 hn2 (fun j hj => HIN.out d j hd hj)
  clear TW
  go_wp2_with fail
  refine Calls.mono HCA.out ?_
  rintro r4 w4 ⟨rfl, ⟨v4, vT4, s4, hv4⟩, T4⟩
  have T5 := T4 _ HM_w1.out.vT
  clear T4 HCA
  have T6 : Turned (fun b => b = tb ∨ b = g) w1 w4 := T5.wide (fun b h => h.imp id (fun e => by have e3 : g = b := (by simpa [Value.ownBlock] using e); exact e3.symm))
  have HV4 : Hid (VarA w4 (w.heap.size + 2) 29 #[.int .i64 0, .int .i64 0, .int .i64 0, .bool false, .int .i64 0, .slice none 0 0]) := HM_w1.out.vR.turn T6 (fun e => by rcases e with e | e <;> omega)
  have HT6 : Hid (Turned (fun b => b = tb ∨ b = g) w w4) := HM_w1.out.t.trans T6
  have HS4 : Hid (SG w4 lo L1 v4 _) := s4
  have HVT4 : Hid (VarA w4 tb 55 #[v4]) := vT4
  have HV4R : Hid (v4.ownBlock ≠ some (w.heap.size + 2)) := SG.ne_var s4 HV4.out (by decide)
  clear T5 T6 s4 vT4
  go_wp2_with ((with_reducible refine guardStore (ty := 29) ?_); refine wpList_storeF HV4.out rfl rfl (by kernel_rfl) rfl (of_decide_eq_true rfl) rfl ?_; intro wz vR t_)
  refine bodyPost_ret (results_cell_row Tryz.results114 _ _ _ _ _ _ _ rfl vR Tryz.underlying29 rfl (by kernel_rfl)) rfl ?_
  unfold DoPost
  rw [HC.out]
  exact ⟨_, rfl, rd_nil _ _, Turned.own2 HVW.out ⟨TV.ret HVT4.out HS4.out hv4 t_ HLR.out (by omega) HV4R.out HLL.out, HT6.out.trans2 t_ (by omega)⟩⟩
end
section
def clB (n : Int) : Bool := decide (0 ≤ n) && decide (n < 4)
def callB (m : MsD) : Bool := clB m.fr && (num m.req && (OOk m.op && (ROk m.rp && decide (m.rp.list.length = 0))))
def CBody (m : MsD) : Bool :=
 if m.kind = 0 then decide (m.fr = 0) && (decide (m.req = 0) && (zOp m.op && (decide (m.h = hd0) && (zRp m.rp && (zTx m.tx && (zPt m.pt && decide (m.code = 0)))))))
 else if m.kind = 1 then (callB m && noneOk m.h) && (zTx m.tx && (zPt m.pt && decide (m.code = 0)))
 else if m.kind = 2 then (TOk m.tx && (POk m.pt && (isCd m.code && noneOk m.h))) && (decide (m.fr = 0) && (decide (m.req = 0) && (zOp m.op && zRp m.rp)))
 else if m.kind = 3 then (callB m && (TOk m.tx && (decide (m.code = 0) || decide (m.code = 1)))) && (decide (m.h = hd0) && zPt m.pt)
 else (TOk m.tx && (decide (m.code = 0) || decide (m.code = 1))) && (decide (m.fr = 0) && (decide (m.req = 0) && (zOp m.op && (decide (m.h = hd0) && (zRp m.rp && zPt m.pt)))))
def COk (m : MsD) : Bool := (decide (0 ≤ m.kind) && decide (m.kind ≤ 4)) && CBody m
end
section
theorem VarA.new1 (w : World) (o : Obj) (T : TypeId) (cs : Array Value) : VarA ((w.alloc o).alloc (.cells cs T)) (w.heap.size + 1) T cs := by simpa using VarA.new (w.alloc o) T cs
theorem assert_hit {P : Program} {t xT : TypeId} {d : TypeDesc} (hu : P.underlying t = some d) (hd : (match d with | .interface _ => false | _ => true) = true) (v : Value) (w : World) :
  (Instr.typeAssert (.iface t v) xT t true).run P w = .ok (.tuple #[v, .bool true]) w := by
 cases d <;> simp_all [Instr.typeAssert, run_underlying hu]
theorem assert_miss {P : Program} {t a xT : TypeId} {d : TypeDesc} {z : Value} (hu : P.underlying a = some d) (hd : (match d with | .interface _ => false | _ => true) = true) (hne : t ≠ a) (hz : (P.info? a).map (·.zero) = some (some z)) (v : Value) (w : World) :
  (Instr.typeAssert (.iface t v) xT a true).run P w = .ok (.tuple #[z, .bool false]) w := by
 obtain ⟨j, hj, hz'⟩ := Option.map_eq_some_iff.1 hz
 cases d <;> simp_all [Instr.typeAssert, run_underlying hu, zeroValue, typeInfo]
end
section
set_option maxHeartbeats 8000000 in
theorem sameRecord_any (kd to fr fr2 rq rq2 cd cd2 : Int) (o oz : OpD) (r rz : RpD) (t tz : TxD) (p pz : PtD) (h hz : Hd) (a1 a2 a3 a4 : Option Addr) (n1 n2 n3 n4 c1 c2 c3 c4 : Nat) (a1z a2z a3z a4z : Option Addr) (n1z n2z n3z n4z c1z c2z c3z c4z : Nat) (bo br bp : Bool) (w : World)
    (H1 : ∀ W, Below w.heap.size w W → Calls Tryz.prog 148 #[opV o (.slice a1 n1 c1) (.slice a2 n2 c2), opV oz (.slice a1z n1z c1z) (.slice a2z n2z c2z)] W fun e w' => e = .returned (.bool bo) ∧ Below W.heap.size W w')
    (H2 : ∀ W, Below w.heap.size w W → Calls Tryz.prog 149 #[rpV r (.slice a3 n3 c3), rpV rz (.slice a3z n3z c3z)] W fun e w' => e = .returned (.bool br) ∧ Below W.heap.size W w')
    (H3 : ∀ W, Below w.heap.size w W → Calls Tryz.prog 150 #[ptV p (.slice a4 n4 c4), ptV pz (.slice a4z n4z c4z)] W fun e w' => e = .returned (.bool bp) ∧ Below W.heap.size W w') :
    Calls Tryz.prog 79 #[rcV ⟨kd, fr, to, rq, o, r, t, p, cd, h⟩ (.slice a1 n1 c1) (.slice a2 n2 c2) (.slice a3 n3 c3) (.slice a4 n4 c4), rcV ⟨kd, fr2, to, rq2, oz, rz, tz, pz, cd2, hz⟩ (.slice a1z n1z c1z) (.slice a2z n2z c2z) (.slice a3z n3z c3z) (.slice a4z n4z c4z)] w
      fun e w' => e = .returned (.bool (decide (fr = fr2) && (decide (rq = rq2) && (bo && (decide (h = hz) && (br && (decide (t = tz) && (bp && decide (cd = cd2))))))))) ∧ Below w.heap.size w w' := by
  obtain ⟨ok, ⟨op, oq, od⟩, nm, ⟨tp, tq, td⟩, asn, ov⟩ := o
  obtain ⟨rc, ⟨rhp, rhq, rhd⟩, rv, es⟩ := r
  obtain ⟨xs, xb, xn⟩ := t
  obtain ⟨pk, ⟨pp, pq, pd⟩, pas, ⟨sp, sq, sd⟩⟩ := p
  obtain ⟨hp, hq, hd⟩ := h
  obtain ⟨okz, ⟨opz, oqz, odz⟩, nmz, ⟨tpz, tqz, tdz⟩, asnz, ovz⟩ := oz
  obtain ⟨rcz, ⟨rhpz, rhqz, rhdz⟩, rvz, esz⟩ := rz
  obtain ⟨xsz, xbz, xnz⟩ := tz
  obtain ⟨pkz, ⟨ppz, pqz, pdz⟩, pasz, ⟨spz, sqz, sdz⟩⟩ := pz
  obtain ⟨hpz, hqz, hdz⟩ := hz
  try dsimp only at H1 H2 H3 ⊢
  have HC1 : Hid _ := H1
  have HC2 : Hid _ := H2
  have HC3 : Hid _ := H3
  clear H1 H2 H3
  have hT := fun W => eqT_run xs xb xn xsz xbz xnz W
  have hE := fun W => eqH_run hp hq hpz hqz hd hdz W
  obtain ⟨res, hres⟩ : ∃ res, (decide (fr = fr2) && (decide (rq = rq2) && (bo && (decide ((hp, hq, hd) = (hpz, hqz, hdz)) && (br && (decide ((xs, xb, xn) = (xsz, xbz, xnz)) && (bp && decide (cd = cd2)))))))) = res := ⟨_, rfl⟩
  rw [hres]
  simp only [Prod.mk.injEq] at hres
  have HRES : Hid _ := hres
  clear hres
  generalize hbt : decide (xs = xsz ∧ xb = xbz ∧ xn = xnz) = bt at hT HRES
  generalize hbh : decide (hp = hpz ∧ hq = hqz ∧ hd = hdz) = bh at hE HRES
  clear hbt hbh
  by_cases hfr : fr = fr2
  case neg =>
    go_enter Tryz.func79, Tryz.ntmps79
    go_wp2_with fail
    (clear HC1 HC2 HC3 hT hE; go_ret; refine ⟨?_, Below.newH2 _ _⟩; (rw [← HRES.out]; clear HRES; first | rfl | (simp_all; done) | (simp_all; omega) | (simp_all; rw [Bool.eq_iff_iff]; simp; done)))
  subst hfr
  by_cases hrq : rq = rq2
  case neg =>
    go_enter Tryz.func79, Tryz.ntmps79
    go_wp2_with fail
    (clear HC1 HC2 HC3 hT hE; go_ret; refine ⟨?_, Below.newH2 _ _⟩; (rw [← HRES.out]; clear HRES; first | rfl | (simp_all; done) | (simp_all; omega) | (simp_all; rw [Bool.eq_iff_iff]; simp; done)))
  subst hrq
  go_enter Tryz.func79, Tryz.ntmps79
  go_wp2_with fail
  all_goals first
    | (clear HC1 HC2 HC3 hT hE; go_ret; refine ⟨?_, Below.newH2 _ _⟩; (rw [← HRES.out]; clear HRES; first | rfl | (simp_all; done) | (simp_all; omega) | (simp_all; rw [Bool.eq_iff_iff]; simp; done)))
    | (refine Calls.mono (HC1.out _ (Below.newH2 _ _)) ?_; rintro e w2 ⟨rfl, b_⟩; have vA : VarA w2 w.heap.size 47 #[.int .i64 kd, .int .i64 fr, .int .i64 rq, .int .i64 ok, .int .i64 op, .int .i64 oq, .bool od, .slice a1 n1 c1, .int .i64 tp, .int .i64 tq, .bool td, .slice a2 n2 c2, .int .i64 ov, .int .i64 hp, .int .i64 hq, .bool hd, .int .i64 rc, .int .i64 rhp, .int .i64 rhq, .bool rhd, .int .i64 rv, .slice a3 n3 c3, .int .i64 xs, .int .i64 xb, .int .i64 xn, .int .i64 pk, .int .i64 pp, .int .i64 pq, .bool pd, .slice a4 n4 c4, .int .i64 sp, .int .i64 sq, .bool sd, .int .i64 cd] := VarA.step ((VarA.new w _ _).alloc _) b_; have vB : VarA w2 (w.heap.size + 1) 47 #[.int .i64 kd, .int .i64 fr, .int .i64 rq, .int .i64 okz, .int .i64 opz, .int .i64 oqz, .bool odz, .slice a1z n1z c1z, .int .i64 tpz, .int .i64 tqz, .bool tdz, .slice a2z n2z c2z, .int .i64 ovz, .int .i64 hpz, .int .i64 hqz, .bool hdz, .int .i64 rcz, .int .i64 rhpz, .int .i64 rhqz, .bool rhdz, .int .i64 rvz, .slice a3z n3z c3z, .int .i64 xsz, .int .i64 xbz, .int .i64 xnz, .int .i64 pkz, .int .i64 ppz, .int .i64 pqz, .bool pdz, .slice a4z n4z c4z, .int .i64 spz, .int .i64 sqz, .bool sdz, .int .i64 cd2] := (by have := VarA.step (VarA.new (w.alloc _) _ _) b_; simpa using this); have HB : Hid _ := (Below.newH2 (w := w) _ _).trans (b_.mono (by simp; omega)); clear b_; obtain ⟨a0_, a1_, a2_, a3_, a4_, a5_, a6_, a7_, a8_, a9_, a10_, a11_, a12_, a13_, a14_, a15_, a16_, a17_, a18_, a19_, a20_, a21_, a22_, a23_, a24_, a25_, a26_, a27_, a28_, a29_, a30_, a31_, a32_, a33_⟩ := vA.l34; obtain ⟨b0_, b1_, b2_, b3_, b4_, b5_, b6_, b7_, b8_, b9_, b10_, b11_, b12_, b13_, b14_, b15_, b16_, b17_, b18_, b19_, b20_, b21_, b22_, b23_, b24_, b25_, b26_, b27_, b28_, b29_, b30_, b31_, b32_, b33_⟩ := vB.l34; go_wp2_with fail
       all_goals first
        | (clear HC1 HC2 HC3 hT hE; go_ret; refine ⟨?_, HB.out⟩; (rw [← HRES.out]; clear HRES; first | rfl | (simp_all; done) | (simp_all; omega) | (simp_all; rw [Bool.eq_iff_iff]; simp; done)))
        | (refine Calls.mono (HC2.out _ HB.out) ?_; rintro e w3 ⟨rfl, b_⟩; have vA_ := vA.step b_; have vB_ := vB.step b_; have HB_ : Hid _ := HB.out.trans (b_.mono HB.out.size); clear vA vB HB b_ a0_ a1_ a2_ a3_ a4_ a5_ a6_ a7_ a8_ a9_ a10_ a11_ a12_ a13_ a14_ a15_ a16_ a17_ a18_ a19_ a20_ a21_ a22_ a23_ a24_ a25_ a26_ a27_ a28_ a29_ a30_ a31_ a32_ a33_ b0_ b1_ b2_ b3_ b4_ b5_ b6_ b7_ b8_ b9_ b10_ b11_ b12_ b13_ b14_ b15_ b16_ b17_ b18_ b19_ b20_ b21_ b22_ b23_ b24_ b25_ b26_ b27_ b28_ b29_ b30_ b31_ b32_ b33_; have vA := vA_; have vB := vB_; have HB := HB_; clear vA_ vB_ HB_; obtain ⟨a0_, a1_, a2_, a3_, a4_, a5_, a6_, a7_, a8_, a9_, a10_, a11_, a12_, a13_, a14_, a15_, a16_, a17_, a18_, a19_, a20_, a21_, a22_, a23_, a24_, a25_, a26_, a27_, a28_, a29_, a30_, a31_, a32_, a33_⟩ := vA.l34; obtain ⟨b0_, b1_, b2_, b3_, b4_, b5_, b6_, b7_, b8_, b9_, b10_, b11_, b12_, b13_, b14_, b15_, b16_, b17_, b18_, b19_, b20_, b21_, b22_, b23_, b24_, b25_, b26_, b27_, b28_, b29_, b30_, b31_, b32_, b33_⟩ := vB.l34; go_wp2_with fail
           all_goals first
            | (clear HC1 HC2 HC3 hT hE; go_ret; refine ⟨?_, HB.out⟩; (rw [← HRES.out]; clear HRES; first | rfl | (simp_all; done) | (simp_all; omega) | (simp_all; rw [Bool.eq_iff_iff]; simp; done)))
            | (refine Calls.mono (HC3.out _ HB.out) ?_; rintro e w4 ⟨rfl, b_⟩; have vA_ := vA.step b_; have vB_ := vB.step b_; have HB_ : Hid _ := HB.out.trans (b_.mono HB.out.size); clear vA vB HB b_ a0_ a1_ a2_ a3_ a4_ a5_ a6_ a7_ a8_ a9_ a10_ a11_ a12_ a13_ a14_ a15_ a16_ a17_ a18_ a19_ a20_ a21_ a22_ a23_ a24_ a25_ a26_ a27_ a28_ a29_ a30_ a31_ a32_ a33_ b0_ b1_ b2_ b3_ b4_ b5_ b6_ b7_ b8_ b9_ b10_ b11_ b12_ b13_ b14_ b15_ b16_ b17_ b18_ b19_ b20_ b21_ b22_ b23_ b24_ b25_ b26_ b27_ b28_ b29_ b30_ b31_ b32_ b33_; have vA := vA_; have vB := vB_; have HB := HB_; clear vA_ vB_ HB_; obtain ⟨a0_, a1_, a2_, a3_, a4_, a5_, a6_, a7_, a8_, a9_, a10_, a11_, a12_, a13_, a14_, a15_, a16_, a17_, a18_, a19_, a20_, a21_, a22_, a23_, a24_, a25_, a26_, a27_, a28_, a29_, a30_, a31_, a32_, a33_⟩ := vA.l34; obtain ⟨b0_, b1_, b2_, b3_, b4_, b5_, b6_, b7_, b8_, b9_, b10_, b11_, b12_, b13_, b14_, b15_, b16_, b17_, b18_, b19_, b20_, b21_, b22_, b23_, b24_, b25_, b26_, b27_, b28_, b29_, b30_, b31_, b32_, b33_⟩ := vB.l34; go_wp2_with fail
               all_goals (clear HC1 HC2 HC3 hT hE; go_ret; refine ⟨?_, HB.out⟩; (rw [← HRES.out]; clear HRES; first | rfl | (simp_all; done) | (simp_all; omega) | (simp_all; rw [Bool.eq_iff_iff]; simp; done))))))
end
section
theorem implClient_w (n : Int) (w : World) : Calls Tryz.prog 225 #[.int .i64 n] w fun e w' => e = .returned (.bool (clB n)) ∧ w' = w := by
  go_enter Tryz.func225, Tryz.ntmps225
  go_wp2
  all_goals (go_ret; exact ⟨by first | rfl | (simp_all [clB]; done) | (simp_all [clB]; omega), rfl⟩)
theorem implFlag_r (n : Int) (w : World) : Calls Tryz.prog 164 #[.int .i64 n] w fun e w' => e = .returned (.bool (decide (n = 0) || decide (n = 1))) ∧ w' = w := by
  go_enter Tryz.func164, Tryz.ntmps164
  go_wp2
  all_goals (go_ret; exact ⟨by first | rfl | (simp_all; done) | (simp_all; omega) | (simp_all; rw [Bool.eq_iff_iff]; simp; done), rfl⟩)
set_option maxHeartbeats 8000000 in
theorem callOk_any (x y z u : Value) (m : MsD) (S : Nat → Prop) (w : World) (r : RdM w S m x y z u) (hl : szMs m ≤ 2097152) :
    Calls Tryz.prog 161 #[rcV m x y z u] w fun e w' => e = .returned (.bool (callB m)) ∧ Below w.heap.size w w' := by
  obtain ⟨r1, r2, r3, r4⟩ := r
  obtain ⟨a1, cap1, rfl⟩ := r1.sliceB
  obtain ⟨a2, cap2, rfl⟩ := r2.sliceB
  obtain ⟨a3, cap3, rfl, _⟩ := RdV.sliced r3
  obtain ⟨a4, cap4, rfl⟩ := r4.sliceB
  obtain ⟨kd, fr, to, rq, ⟨ok, ⟨op_, oq, od⟩, nm, ⟨tp, tq, td⟩, asn, ov⟩, ⟨rc, ⟨rp_, rq_, rd⟩, rv, es⟩, ⟨xs, xb, xn⟩, ⟨pk, ⟨pp, pq, pd⟩, pas, ⟨sp, sq, sd⟩⟩, cd, ⟨hp, hq, hd⟩⟩ := m
  unfold szMs at hl
  dsimp only at r1 r2 r3 r4 hl ⊢
  have HOP : Hid (∀ W, Below w.heap.size w W → _) := fun W hW => implOpOk_any _ _ ⟨ok, (op_, oq, od), nm, (tp, tq, td), asn, ov⟩ S W (r1.step hW) (r2.step hW) (by dsimp only; omega) (by dsimp only; omega)
  have HRP : Hid (∀ W, Below w.heap.size w W → _) := fun W hW => implReplyOk_any _ ⟨rc, (rp_, rq_, rd), rv, es⟩ S W (r3.step hW) (by dsimp only; omega)
  have HCL : Hid (∀ (n : Int) (W : World), Calls Tryz.prog 225 #[.int .i64 n] W fun e w' => e = .returned (.bool (clB n)) ∧ w' = W) := fun n W => implClient_w n W
  have HNU : Hid (∀ (n : Int) (W : World), Calls Tryz.prog 107 #[.int .i64 n] W fun e w' => e = .returned (.bool (num n)) ∧ w' = W) := fun n W => isNumber_any n W
  obtain ⟨res, hres⟩ : ∃ res, callB ⟨kd, fr, to, rq, ⟨ok, (op_, oq, od), nm, (tp, tq, td), asn, ov⟩, ⟨rc, (rp_, rq_, rd), rv, es⟩, (xs, xb, xn), ⟨pk, (pp, pq, pd), pas, (sp, sq, sd)⟩, cd, (hp, hq, hd)⟩ = res := ⟨_, rfl⟩
  rw [hres]
  simp only [callB] at hres
  clear r1 r2 r3 r4 hl
  try dsimp only at HOP HRP ⊢
  generalize OOk ⟨ok, (op_, oq, od), nm, (tp, tq, td), asn, ov⟩ = bo at HOP hres
  generalize ROk ⟨rc, (rp_, rq_, rd), rv, es⟩ = br at HRP hres
  generalize nm.length = n1 at *
  generalize asn.length = n2 at *
  generalize es.length = n3 at *
  generalize pas.length = n4 at *
  have HRES : Hid _ := hres
  clear hres
  go_enter Tryz.func161, Tryz.ntmps161
  go_wp2_with (first | (go_at_call 225; refine Calls.mono (HCL.out _ _) ?_; rintro e w' ⟨rfl, rfl⟩) | (go_at_call 107; refine Calls.mono (HNU.out _ _) ?_; rintro e w' ⟨rfl, rfl⟩))
  all_goals first
    | (clear HOP HRP HCL HNU; go_ret; refine ⟨?_, Below.newH _⟩; rw [← HRES.out]; clear HRES; first | rfl | (simp_all; done) | (simp_all; omega) | (simp_all; rw [Bool.eq_iff_iff]; simp; done))
    | (refine Calls.mono (HOP.out _ (Below.newH _)) ?_
       rintro e w' ⟨rfl, b_⟩
       have vA : VarA w' w.heap.size 47 #[.int .i64 kd, .int .i64 fr, .int .i64 rq, .int .i64 ok, .int .i64 op_, .int .i64 oq, .bool od, .slice a1 n1 cap1, .int .i64 tp, .int .i64 tq, .bool td, .slice a2 n2 cap2, .int .i64 ov, .int .i64 hp, .int .i64 hq, .bool hd, .int .i64 rc, .int .i64 rp_, .int .i64 rq_, .bool rd, .int .i64 rv, .slice a3 n3 cap3, .int .i64 xs, .int .i64 xb, .int .i64 xn, .int .i64 pk, .int .i64 pp, .int .i64 pq, .bool pd, .slice a4 n4 cap4, .int .i64 sp, .int .i64 sq, .bool sd, .int .i64 cd] := VarA.step (VarA.new w _ _) b_; have HB : Hid (Below w.heap.size w w') := (Below.newH (w := w) _).trans (b_.mono (by simp)); clear b_; obtain ⟨a0_, a1_, a2_, a3_, a4_, a5_, a6_, a7_, a8_, a9_, a10_, a11_, a12_, a13_, a14_, a15_, a16_, a17_, a18_, a19_, a20_, a21_, a22_, a23_, a24_, a25_, a26_, a27_, a28_, a29_, a30_, a31_, a32_, a33_⟩ := vA.l34
       go_wp2_with (go_at_call 28; refine Calls.mono (HRP.out _ HB.out) ?_; rintro e w' ⟨rfl, b_⟩; have vA_ := vA.step b_; have HB_ : Hid _ := HB.out.trans (b_.mono HB.out.size); clear vA HB b_ a0_ a1_ a2_ a3_ a4_ a5_ a6_ a7_ a8_ a9_ a10_ a11_ a12_ a13_ a14_ a15_ a16_ a17_ a18_ a19_ a20_ a21_ a22_ a23_ a24_ a25_ a26_ a27_ a28_ a29_ a30_ a31_ a32_ a33_; have vA := vA_; have HB := HB_; clear vA_ HB_; obtain ⟨a0_, a1_, a2_, a3_, a4_, a5_, a6_, a7_, a8_, a9_, a10_, a11_, a12_, a13_, a14_, a15_, a16_, a17_, a18_, a19_, a20_, a21_, a22_, a23_, a24_, a25_, a26_, a27_, a28_, a29_, a30_, a31_, a32_, a33_⟩ := vA.l34)
       all_goals (clear HOP HRP HCL HNU; go_ret; refine ⟨?_, HB.out⟩; rw [← HRES.out]; clear HRES; first | rfl | (simp_all; done) | (simp_all; omega) | (simp_all; rw [Bool.eq_iff_iff]; simp; done)))
set_option maxHeartbeats 4000000 in
theorem hasOk0 (m : MsD) (a1 a2 a3 a4 : Option Addr) (n1 n2 n3 n4 c1 c2 c3 c4 : Nat) (S : Nat → Prop) (w : World) (r : RdM w S m (.slice a1 n1 c1) (.slice a2 n2 c2) (.slice a3 n3 c3) (.slice a4 n4 c4)) (hl : szMs m ≤ 2097152) (hk : m.kind = 0) :
    Calls Tryz.prog 78 #[rcV m (.slice a1 n1 c1) (.slice a2 n2 c2) (.slice a3 n3 c3) (.slice a4 n4 c4)] w fun e w' => e = .returned (.bool true) ∧ Below w.heap.size w w' := by
  obtain ⟨r1, r2, r3, r4⟩ := r
  unfold szMs at hl
  have HT : Hid (∀ (a b c : Int) (W : World), Calls Tryz.prog 162 #[.agg #[.int .i64 a, .int .i64 b, .int .i64 c]] W fun e w' => e = .returned (.bool (TOk (a, b, c))) ∧ w' = W.alloc (.cells #[.int .i64 a, .int .i64 b, .int .i64 c] 31)) := fun a b c W => implTxOk_w (a, b, c) W
  have HC : Hid (∀ (n : Int) (W : World), Calls Tryz.prog 106 #[.int .i64 n] W fun e w' => e = .returned (.bool (isCd n)) ∧ w' = W) := fun n W => implCode_w n W
  have HFL : Hid (∀ (n : Int) (W : World), Calls Tryz.prog 164 #[.int .i64 n] W fun e w' => e = .returned (.bool (decide (n = 0) || decide (n = 1))) ∧ w' = W) := fun n W => implFlag_r n W
  have HN : Hid (∀ (p q : Int) (d : Bool) (W : World), Calls Tryz.prog 108 #[.agg #[.int .i64 p, .int .i64 q, .bool d]] W fun e w' => e = .returned (.bool (noneOk (p, q, d))) ∧ Below W.heap.size W w') := fun p q d W => implNone_any (p, q, d) W
  clear r1 r2 r3 r4 hl
  obtain ⟨kd, fr, to, rq, ⟨ok, ⟨op_, oq, od⟩, nm, ⟨tp, tq, td⟩, asn, ov⟩, ⟨rc, ⟨rp_, rq_, rd⟩, rv, es⟩, ⟨xs, xb, xn⟩, ⟨pk, ⟨pp, pq, pd⟩, pas, ⟨sp, sq, sd⟩⟩, cd, ⟨hp, hq, hd⟩⟩ := m
  dsimp only at hk ⊢
  subst hk
  go_enter Tryz.func78, Tryz.ntmps78
  go_wp2
  go_ret
  exact ⟨rfl, by repeat (first | exact Below.refl _ _ | refine Below.al ?_ _ | refine Below.drew ?_ | refine below_drewN2 ?_ _)⟩
set_option maxHeartbeats 4000000 in
theorem hasOk1 (m : MsD) (a1 a2 a3 a4 : Option Addr) (n1 n2 n3 n4 c1 c2 c3 c4 : Nat) (S : Nat → Prop) (w : World) (r : RdM w S m (.slice a1 n1 c1) (.slice a2 n2 c2) (.slice a3 n3 c3) (.slice a4 n4 c4)) (hl : szMs m ≤ 2097152) (hk : m.kind = 1) :
    Calls Tryz.prog 78 #[rcV m (.slice a1 n1 c1) (.slice a2 n2 c2) (.slice a3 n3 c3) (.slice a4 n4 c4)] w fun e w' => e = .returned (.bool (callB m && noneOk m.h)) ∧ Below w.heap.size w w' := by
  have HCA : Hid (∀ W, Below w.heap.size w W → _) := fun W hW => callOk_any _ _ _ _ m S W (r.step hW) hl
  generalize callB m = bc at HCA ⊢
  obtain ⟨r1, r2, r3, r4⟩ := r
  unfold szMs at hl
  have HT : Hid (∀ (a b c : Int) (W : World), Calls Tryz.prog 162 #[.agg #[.int .i64 a, .int .i64 b, .int .i64 c]] W fun e w' => e = .returned (.bool (TOk (a, b, c))) ∧ w' = W.alloc (.cells #[.int .i64 a, .int .i64 b, .int .i64 c] 31)) := fun a b c W => implTxOk_w (a, b, c) W
  have HC : Hid (∀ (n : Int) (W : World), Calls Tryz.prog 106 #[.int .i64 n] W fun e w' => e = .returned (.bool (isCd n)) ∧ w' = W) := fun n W => implCode_w n W
  have HFL : Hid (∀ (n : Int) (W : World), Calls Tryz.prog 164 #[.int .i64 n] W fun e w' => e = .returned (.bool (decide (n = 0) || decide (n = 1))) ∧ w' = W) := fun n W => implFlag_r n W
  have HN : Hid (∀ (p q : Int) (d : Bool) (W : World), Calls Tryz.prog 108 #[.agg #[.int .i64 p, .int .i64 q, .bool d]] W fun e w' => e = .returned (.bool (noneOk (p, q, d))) ∧ Below W.heap.size W w') := fun p q d W => implNone_any (p, q, d) W
  clear r1 r2 r3 r4 hl
  obtain ⟨kd, fr, to, rq, ⟨ok, ⟨op_, oq, od⟩, nm, ⟨tp, tq, td⟩, asn, ov⟩, ⟨rc, ⟨rp_, rq_, rd⟩, rv, es⟩, ⟨xs, xb, xn⟩, ⟨pk, ⟨pp, pq, pd⟩, pas, ⟨sp, sq, sd⟩⟩, cd, ⟨hp, hq, hd⟩⟩ := m
  dsimp only at hk HCA ⊢
  subst hk
  go_enter Tryz.func78, Tryz.ntmps78
  repeat (first | ((with_reducible refine guardLoad (ty := 47) ?_); refine wpList_loadA (VarA.new w _ _) rfl Tryz.underlying47 rfl (by kernel_rfl) ?_) | go_values | go_skip | go_guarded | go_step)
  refine Calls.mono (HCA.out _ (Below.newH _)) ?_
  rintro e w2 ⟨rfl, b_⟩
  have vA : VarA w2 w.heap.size 47 #[.int .i64 1, .int .i64 fr, .int .i64 rq, .int .i64 ok, .int .i64 op_, .int .i64 oq, .bool od, .slice a1 n1 c1, .int .i64 tp, .int .i64 tq, .bool td, .slice a2 n2 c2, .int .i64 ov, .int .i64 hp, .int .i64 hq, .bool hd, .int .i64 rc, .int .i64 rp_, .int .i64 rq_, .bool rd, .int .i64 rv, .slice a3 n3 c3, .int .i64 xs, .int .i64 xb, .int .i64 xn, .int .i64 pk, .int .i64 pp, .int .i64 pq, .bool pd, .slice a4 n4 c4, .int .i64 sp, .int .i64 sq, .bool sd, .int .i64 cd] := VarA.step (VarA.new w _ _) b_; have HB : Hid (Below w.heap.size w w2) := Below.trans (by repeat (first | exact Below.refl _ _ | refine Below.al ?_ _ | refine Below.drew ?_ | refine below_drewN2 ?_ _)) (b_.mono (by simp <;> omega)); clear b_; obtain ⟨a0_, a1_, a2_, a3_, a4_, a5_, a6_, a7_, a8_, a9_, a10_, a11_, a12_, a13_, a14_, a15_, a16_, a17_, a18_, a19_, a20_, a21_, a22_, a23_, a24_, a25_, a26_, a27_, a28_, a29_, a30_, a31_, a32_, a33_⟩ := vA.l34
  cases bc
  all_goals (go_wp2_with fail; all_goals first | (go_ret; refine ⟨?_, HB.out⟩; first | rfl | (simp_all; done) | (simp_all; omega)) | (refine Calls.mono (HN.out _ _ _ _) ?_; rintro e w3 ⟨rfl, b_⟩; go_wp2; all_goals (go_ret; refine ⟨?_, HB.out.trans (b_.mono HB.out.size)⟩; first | rfl | (simp_all; done) | (simp_all; omega))))
set_option maxHeartbeats 4000000 in
theorem hasOk2 (m : MsD) (a1 a2 a3 a4 : Option Addr) (n1 n2 n3 n4 c1 c2 c3 c4 : Nat) (S : Nat → Prop) (w : World) (r : RdM w S m (.slice a1 n1 c1) (.slice a2 n2 c2) (.slice a3 n3 c3) (.slice a4 n4 c4)) (hl : szMs m ≤ 2097152) (hk : m.kind = 2) :
    Calls Tryz.prog 78 #[rcV m (.slice a1 n1 c1) (.slice a2 n2 c2) (.slice a3 n3 c3) (.slice a4 n4 c4)] w fun e w' => e = .returned (.bool (TOk m.tx && (POk m.pt && (isCd m.code && noneOk m.h)))) ∧ Below w.heap.size w w' := by
  obtain ⟨r1, r2, r3, r4⟩ := r
  unfold szMs at hl
  have HPT : Hid (∀ W, Below w.heap.size w W → _) := fun W hW => implPartOk_any _ m.pt S W (r4.step hW) (by omega)
  generalize POk m.pt = bp at HPT ⊢
  have HT : Hid (∀ (a b c : Int) (W : World), Calls Tryz.prog 162 #[.agg #[.int .i64 a, .int .i64 b, .int .i64 c]] W fun e w' => e = .returned (.bool (TOk (a, b, c))) ∧ w' = W.alloc (.cells #[.int .i64 a, .int .i64 b, .int .i64 c] 31)) := fun a b c W => implTxOk_w (a, b, c) W
  have HC : Hid (∀ (n : Int) (W : World), Calls Tryz.prog 106 #[.int .i64 n] W fun e w' => e = .returned (.bool (isCd n)) ∧ w' = W) := fun n W => implCode_w n W
  have HFL : Hid (∀ (n : Int) (W : World), Calls Tryz.prog 164 #[.int .i64 n] W fun e w' => e = .returned (.bool (decide (n = 0) || decide (n = 1))) ∧ w' = W) := fun n W => implFlag_r n W
  have HN : Hid (∀ (p q : Int) (d : Bool) (W : World), Calls Tryz.prog 108 #[.agg #[.int .i64 p, .int .i64 q, .bool d]] W fun e w' => e = .returned (.bool (noneOk (p, q, d))) ∧ Below W.heap.size W w') := fun p q d W => implNone_any (p, q, d) W
  clear r1 r2 r3 r4 hl
  obtain ⟨kd, fr, to, rq, ⟨ok, ⟨op_, oq, od⟩, nm, ⟨tp, tq, td⟩, asn, ov⟩, ⟨rc, ⟨rp_, rq_, rd⟩, rv, es⟩, ⟨xs, xb, xn⟩, ⟨pk, ⟨pp, pq, pd⟩, pas, ⟨sp, sq, sd⟩⟩, cd, ⟨hp, hq, hd⟩⟩ := m
  dsimp only at hk HPT ⊢
  subst hk
  go_enter Tryz.func78, Tryz.ntmps78
  go_wp2_with (go_at_call 162; refine Calls.mono (HT.out _ _ _ _) ?_; rintro e w' ⟨rfl, rfl⟩)
  all_goals first | (go_ret; refine ⟨?_, by repeat (first | exact Below.refl _ _ | refine Below.al ?_ _ | refine Below.drew ?_ | refine below_drewN2 ?_ _)⟩; first | rfl | (simp_all; done) | (simp_all; omega)) | (refine Calls.mono (HPT.out _ (by repeat (first | exact Below.refl _ _ | refine Below.al ?_ _ | refine Below.drew ?_ | refine below_drewN2 ?_ _))) ?_; rintro e w2 ⟨rfl, b_⟩; have vA : VarA w2 w.heap.size 47 #[.int .i64 2, .int .i64 fr, .int .i64 rq, .int .i64 ok, .int .i64 op_, .int .i64 oq, .bool od, .slice a1 n1 c1, .int .i64 tp, .int .i64 tq, .bool td, .slice a2 n2 c2, .int .i64 ov, .int .i64 hp, .int .i64 hq, .bool hd, .int .i64 rc, .int .i64 rp_, .int .i64 rq_, .bool rd, .int .i64 rv, .slice a3 n3 c3, .int .i64 xs, .int .i64 xb, .int .i64 xn, .int .i64 pk, .int .i64 pp, .int .i64 pq, .bool pd, .slice a4 n4 c4, .int .i64 sp, .int .i64 sq, .bool sd, .int .i64 cd] := VarA.step ((VarA.new w _ _).alloc _) b_; have HB : Hid (Below w.heap.size w w2) := Below.trans (by repeat (first | exact Below.refl _ _ | refine Below.al ?_ _ | refine Below.drew ?_ | refine below_drewN2 ?_ _)) (b_.mono (by simp <;> omega)); clear b_; obtain ⟨a0_, a1_, a2_, a3_, a4_, a5_, a6_, a7_, a8_, a9_, a10_, a11_, a12_, a13_, a14_, a15_, a16_, a17_, a18_, a19_, a20_, a21_, a22_, a23_, a24_, a25_, a26_, a27_, a28_, a29_, a30_, a31_, a32_, a33_⟩ := vA.l34; go_wp2_with (go_at_call 106; refine Calls.mono (HC.out _ _) ?_; rintro e w' ⟨rfl, rfl⟩); all_goals first | (go_ret; refine ⟨?_, HB.out⟩; first | rfl | (simp_all; done) | (simp_all; omega)) | (refine Calls.mono (HN.out _ _ _ _) ?_; rintro e w3 ⟨rfl, b_⟩; go_wp2; all_goals (go_ret; refine ⟨?_, HB.out.trans (b_.mono HB.out.size)⟩; first | rfl | (simp_all; done) | (simp_all; omega))))
set_option maxHeartbeats 4000000 in
theorem hasOk3 (m : MsD) (a1 a2 a3 a4 : Option Addr) (n1 n2 n3 n4 c1 c2 c3 c4 : Nat) (S : Nat → Prop) (w : World) (r : RdM w S m (.slice a1 n1 c1) (.slice a2 n2 c2) (.slice a3 n3 c3) (.slice a4 n4 c4)) (hl : szMs m ≤ 2097152) (hk : m.kind = 3) :
    Calls Tryz.prog 78 #[rcV m (.slice a1 n1 c1) (.slice a2 n2 c2) (.slice a3 n3 c3) (.slice a4 n4 c4)] w fun e w' => e = .returned (.bool (callB m && (TOk m.tx && (decide (m.code = 0) || decide (m.code = 1))))) ∧ Below w.heap.size w w' := by
  have HCA : Hid (∀ W, Below w.heap.size w W → _) := fun W hW => callOk_any _ _ _ _ m S W (r.step hW) hl
  generalize callB m = bc at HCA ⊢
  obtain ⟨r1, r2, r3, r4⟩ := r
  unfold szMs at hl
  have HT : Hid (∀ (a b c : Int) (W : World), Calls Tryz.prog 162 #[.agg #[.int .i64 a, .int .i64 b, .int .i64 c]] W fun e w' => e = .returned (.bool (TOk (a, b, c))) ∧ w' = W.alloc (.cells #[.int .i64 a, .int .i64 b, .int .i64 c] 31)) := fun a b c W => implTxOk_w (a, b, c) W
  have HC : Hid (∀ (n : Int) (W : World), Calls Tryz.prog 106 #[.int .i64 n] W fun e w' => e = .returned (.bool (isCd n)) ∧ w' = W) := fun n W => implCode_w n W
  have HFL : Hid (∀ (n : Int) (W : World), Calls Tryz.prog 164 #[.int .i64 n] W fun e w' => e = .returned (.bool (decide (n = 0) || decide (n = 1))) ∧ w' = W) := fun n W => implFlag_r n W
  have HN : Hid (∀ (p q : Int) (d : Bool) (W : World), Calls Tryz.prog 108 #[.agg #[.int .i64 p, .int .i64 q, .bool d]] W fun e w' => e = .returned (.bool (noneOk (p, q, d))) ∧ Below W.heap.size W w') := fun p q d W => implNone_any (p, q, d) W
  clear r1 r2 r3 r4 hl
  obtain ⟨kd, fr, to, rq, ⟨ok, ⟨op_, oq, od⟩, nm, ⟨tp, tq, td⟩, asn, ov⟩, ⟨rc, ⟨rp_, rq_, rd⟩, rv, es⟩, ⟨xs, xb, xn⟩, ⟨pk, ⟨pp, pq, pd⟩, pas, ⟨sp, sq, sd⟩⟩, cd, ⟨hp, hq, hd⟩⟩ := m
  dsimp only at hk HCA ⊢
  subst hk
  go_enter Tryz.func78, Tryz.ntmps78
  repeat (first | ((with_reducible refine guardLoad (ty := 47) ?_); refine wpList_loadA (VarA.new w _ _) rfl Tryz.underlying47 rfl (by kernel_rfl) ?_) | go_values | go_skip | go_guarded | go_step)
  refine Calls.mono (HCA.out _ (Below.newH _)) ?_
  rintro e w2 ⟨rfl, b_⟩
  have vA : VarA w2 w.heap.size 47 #[.int .i64 3, .int .i64 fr, .int .i64 rq, .int .i64 ok, .int .i64 op_, .int .i64 oq, .bool od, .slice a1 n1 c1, .int .i64 tp, .int .i64 tq, .bool td, .slice a2 n2 c2, .int .i64 ov, .int .i64 hp, .int .i64 hq, .bool hd, .int .i64 rc, .int .i64 rp_, .int .i64 rq_, .bool rd, .int .i64 rv, .slice a3 n3 c3, .int .i64 xs, .int .i64 xb, .int .i64 xn, .int .i64 pk, .int .i64 pp, .int .i64 pq, .bool pd, .slice a4 n4 c4, .int .i64 sp, .int .i64 sq, .bool sd, .int .i64 cd] := VarA.step (VarA.new w _ _) b_; have HB : Hid (Below w.heap.size w w2) := Below.trans (by repeat (first | exact Below.refl _ _ | refine Below.al ?_ _ | refine Below.drew ?_ | refine below_drewN2 ?_ _)) (b_.mono (by simp <;> omega)); clear b_; obtain ⟨a0_, a1_, a2_, a3_, a4_, a5_, a6_, a7_, a8_, a9_, a10_, a11_, a12_, a13_, a14_, a15_, a16_, a17_, a18_, a19_, a20_, a21_, a22_, a23_, a24_, a25_, a26_, a27_, a28_, a29_, a30_, a31_, a32_, a33_⟩ := vA.l34
  cases bc
  all_goals (go_wp2_with (first | (go_at_call 162; refine Calls.mono (HT.out _ _ _ _) ?_; rintro e w' ⟨rfl, hw'⟩; have b_ : Below w2.heap.size w2 w' := (by rw [hw']; exact Below.newH _); clear hw'; have vA_ := vA.step b_; have HB_ : Hid _ := HB.out.trans (b_.mono HB.out.size); clear vA HB b_ a0_ a1_ a2_ a3_ a4_ a5_ a6_ a7_ a8_ a9_ a10_ a11_ a12_ a13_ a14_ a15_ a16_ a17_ a18_ a19_ a20_ a21_ a22_ a23_ a24_ a25_ a26_ a27_ a28_ a29_ a30_ a31_ a32_ a33_; have vA := vA_; have HB := HB_; clear vA_ HB_; obtain ⟨a0_, a1_, a2_, a3_, a4_, a5_, a6_, a7_, a8_, a9_, a10_, a11_, a12_, a13_, a14_, a15_, a16_, a17_, a18_, a19_, a20_, a21_, a22_, a23_, a24_, a25_, a26_, a27_, a28_, a29_, a30_, a31_, a32_, a33_⟩ := vA.l34) | (go_at_call 164; refine Calls.mono (HFL.out _ _) ?_; rintro e w' ⟨rfl, rfl⟩)); all_goals (go_ret; refine ⟨?_, HB.out⟩; first | rfl | (simp_all; done) | (simp_all; omega)))
set_option maxHeartbeats 4000000 in
theorem hasOk4 (m : MsD) (a1 a2 a3 a4 : Option Addr) (n1 n2 n3 n4 c1 c2 c3 c4 : Nat) (S : Nat → Prop) (w : World) (r : RdM w S m (.slice a1 n1 c1) (.slice a2 n2 c2) (.slice a3 n3 c3) (.slice a4 n4 c4)) (hl : szMs m ≤ 2097152) (hk : m.kind = 4) :
    Calls Tryz.prog 78 #[rcV m (.slice a1 n1 c1) (.slice a2 n2 c2) (.slice a3 n3 c3) (.slice a4 n4 c4)] w fun e w' => e = .returned (.bool (TOk m.tx && (decide (m.code = 0) || decide (m.code = 1)))) ∧ Below w.heap.size w w' := by
  obtain ⟨r1, r2, r3, r4⟩ := r
  unfold szMs at hl
  have HT : Hid (∀ (a b c : Int) (W : World), Calls Tryz.prog 162 #[.agg #[.int .i64 a, .int .i64 b, .int .i64 c]] W fun e w' => e = .returned (.bool (TOk (a, b, c))) ∧ w' = W.alloc (.cells #[.int .i64 a, .int .i64 b, .int .i64 c] 31)) := fun a b c W => implTxOk_w (a, b, c) W
  have HC : Hid (∀ (n : Int) (W : World), Calls Tryz.prog 106 #[.int .i64 n] W fun e w' => e = .returned (.bool (isCd n)) ∧ w' = W) := fun n W => implCode_w n W
  have HFL : Hid (∀ (n : Int) (W : World), Calls Tryz.prog 164 #[.int .i64 n] W fun e w' => e = .returned (.bool (decide (n = 0) || decide (n = 1))) ∧ w' = W) := fun n W => implFlag_r n W
  have HN : Hid (∀ (p q : Int) (d : Bool) (W : World), Calls Tryz.prog 108 #[.agg #[.int .i64 p, .int .i64 q, .bool d]] W fun e w' => e = .returned (.bool (noneOk (p, q, d))) ∧ Below W.heap.size W w') := fun p q d W => implNone_any (p, q, d) W
  clear r1 r2 r3 r4 hl
  obtain ⟨kd, fr, to, rq, ⟨ok, ⟨op_, oq, od⟩, nm, ⟨tp, tq, td⟩, asn, ov⟩, ⟨rc, ⟨rp_, rq_, rd⟩, rv, es⟩, ⟨xs, xb, xn⟩, ⟨pk, ⟨pp, pq, pd⟩, pas, ⟨sp, sq, sd⟩⟩, cd, ⟨hp, hq, hd⟩⟩ := m
  dsimp only at hk ⊢
  subst hk
  go_enter Tryz.func78, Tryz.ntmps78
  go_wp2_with (first | (go_at_call 162; refine Calls.mono (HT.out _ _ _ _) ?_; rintro e w' ⟨rfl, rfl⟩) | (go_at_call 164; refine Calls.mono (HFL.out _ _) ?_; rintro e w' ⟨rfl, rfl⟩))
  all_goals (go_ret; refine ⟨?_, by repeat (first | exact Below.refl _ _ | refine Below.al ?_ _ | refine Below.drew ?_ | refine below_drewN2 ?_ _)⟩; first | rfl | (simp_all; done) | (simp_all; omega))
end
section
theorem implFlagR (v : Value) (xs : List Int) (d : Bool) (S : Nat → Prop) (w : World) (r : RdV w S v (.bytes xs)) (hl : xs.length ≤ 1900000) : Ap 146 #[v, .bool d] w (xs ++ flagB d) := by
 have H0 : Hid (∀ n W, Below w.heap.size w W → _) := fun n W hW => implPutR v xs n S W (r.step hW) (by omega)
 clear r
 cases d
 ·go_enter Tryz.func146, Tryz.ntmps146
  go_wp2_with fail
  refine Calls.mono (H0.out 0 _ (Below.refl _ _)) ?_
  rintro e w2 ⟨v1, rfl, z1, o1, b_⟩
  go_wp2
  go_ret
  exact ⟨_, rfl, z1, o1, b_⟩
 ·go_enter Tryz.func146, Tryz.ntmps146
  go_wp2_with fail
  refine Calls.mono (H0.out 1 _ (Below.refl _ _)) ?_
  rintro e w2 ⟨v1, rfl, z1, o1, b_⟩
  go_wp2
  go_ret
  exact ⟨_, rfl, z1, o1, b_⟩
def PutV (n : Nat) (w : World) (v : Value) (zs : List Int) : Prop :=
 (∃ k : Int, v = .iface 3 (.int .i64 k) ∧ zs = putB k) ∨
 (∃ (x : Value) (ts : List Int), v = .iface 22 x ∧ RdV w (fun _ => True) x (.bytes ts) ∧ ts.length ≤ 1048576 ∧ zs = textB ts) ∨
 (∃ d : Bool, v = .iface 4 (.bool d) ∧ zs = flagB d) ∨
 (1 ≤ n ∧ ∃ h : Hd, v = .iface 24 h.v ∧ zs = hdB h) ∨
 (1 ≤ n ∧ ∃ t : TxD, v = .iface 31 (txV t) ∧ zs = txB t) ∨
 (2 ≤ n ∧ ∃ (o : OpD) (x y : Value), v = .iface 26 (opV o x y) ∧ RdV w (fun _ => True) x (.bytes o.nm) ∧ RdV w (fun _ => True) y (.bytes o.asn) ∧ o.nm.length ≤ 1048576 ∧ o.asn.length ≤ 1048576 ∧ zs = opB o) ∨
 (2 ≤ n ∧ ∃ (o : PtD) (x : Value), v = .iface 33 (ptV o x) ∧ RdV w (fun _ => True) x (.bytes o.asn) ∧ o.asn.length ≤ 1048576 ∧ zs = ptB o) ∨
 (2 ≤ n ∧ ∃ (l : List En) (x : Value), v = .iface 27 x ∧ RdV w (fun _ => True) x (ensDt l) ∧ szEns l ≤ 1048576 ∧ l.length ≤ 12 ∧ zs = putB l.length ++ ensB l) ∨
 (3 ≤ n ∧ ∃ (o : RpD) (x : Value), v = .iface 29 (rpV o x) ∧ RdV w (fun _ => True) x (ensDt o.list) ∧ szEns o.list ≤ 1048576 ∧ o.list.length ≤ 12 ∧ zs = rpB o)
theorem PutV.step {n : Nat} {w w' : World} {v : Value} {zs : List Int} (h : PutV n w v zs) (hb : Below w.heap.size w w') : PutV n w' v zs := by
 rcases h with h | ⟨x, ts, h1, h2, h3⟩ | h | h | h | ⟨hn, o, x, y, h1, h2, h3, h4⟩ | ⟨hn, o, x, h1, h2, h3⟩ | ⟨hn, l, x, h1, h2, h3⟩ | ⟨hn, o, x, h1, h2, h3⟩
 ·exact .inl h
 ·exact .inr (.inl ⟨x, ts, h1, h2.step hb, h3⟩)
 ·exact .inr (.inr (.inl h))
 ·exact .inr (.inr (.inr (.inl h)))
 ·exact .inr (.inr (.inr (.inr (.inl h))))
 ·exact .inr (.inr (.inr (.inr (.inr (.inl ⟨hn, o, x, y, h1, h2.step hb, h3.step hb, h4⟩)))))
 ·exact .inr (.inr (.inr (.inr (.inr (.inr (.inl ⟨hn, o, x, h1, h2.step hb, h3⟩))))))
 ·exact .inr (.inr (.inr (.inr (.inr (.inr (.inr (.inl ⟨hn, l, x, h1, h2.step hb, h3⟩)))))))
 ·exact .inr (.inr (.inr (.inr (.inr (.inr (.inr (.inr ⟨hn, o, x, h1, h2.step hb, h3⟩)))))))
def PutL (n : Nat) (w : World) (g : Nat) (vs : List (Value × List Int)) : Prop := w.heap[g]? = some (.cells (vs.map (·.1)).toArray 20 (0, 0)) ∧ ∀ i, i < vs.length → PutV n w (vs[i]?.getD (undef, [])).1 (vs[i]?.getD (undef, [])).2
theorem PutL.step {n : Nat} {w w' : World} {g : Nat} {vs : List (Value × List Int)} (h : PutL n w g vs) (hb : Below w.heap.size w w') : PutL n w' g vs :=
 ⟨(hb.block g (lt_of_block h.1)).trans h.1, fun i hi => (h.2 i hi).step hb⟩
def sumB (vs : List (Value × List Int)) (k : Nat) : List Int := (vs.take k).flatMap (·.2)
theorem sumB_next (vs : List (Value × List Int)) (k : Nat) (h : k < vs.length) : sumB vs (k + 1) = sumB vs k ++ (vs[k]?.getD (undef, [])).2 := by
 unfold sumB
 rw [← List.take_append_getElem h, List.flatMap_append, List.getElem?_eq_getElem h]; simp
end
end Go.Proofs.YtklhikadhohjbaaGreat
