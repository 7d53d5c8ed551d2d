/- Joined: SpecD16 SpecD16k1 SpecD16k2 SpecD16k3 SpecD16k7 WMsg3 WPut0 MdX PBackM. -/
import Derived.Test.YtklhikadhohjbaaGreatMSpecD15
import Derived.Test.YtklhikadhohjbaaGreatMA01
import Derived.Test.YtklhikadhohjbaaGreatMWMsg2
import Derived.Test.YtklhikadhohjbaaGreatMA02
import Derived.Test.YtklhikadhohjbaaGreatMA05
import Derived.Laws.ResultCell
import Derived.Test.YtklhikadhohjbaaGreatMA04

namespace Go.Proofs.YtklhikadhohjbaaGreat
open Go.RowKit
set_option linter.unusedVariables false
set_option linter.unusedSimpArgs false
set_option maxRecDepth 100000
section
def rc (c : Int) : RpD := ⟨c, hd0, 0, []⟩
def valN (l : List Nd) (d : Nat) (x : Int) : List Nd := l.set d ((l[d]?.getD nd0).setVal x)
def doD (l : List Nd) (o : OpD) (fr : Hd) : List Nd × RpD :=
 if o.kind = 2 ∨ o.kind = 3 then
  if o.dir.dir = true then (l, rc 6) else
  if ¬ fi l o.dir < l.length then (l, rc 1) else
  if o.kind = 3 then (valN l (fi l o.dir) o.val, rc 0) else (l, ⟨0, hd0, (l[fi l o.dir]?.getD nd0).val, []⟩)
 else
 if o.dir.dir = false then (l, rc 2) else
 if ¬ fi l o.dir < l.length then (l, rc 1) else
 if o.kind = 1 then (l, ⟨0, hd0, 0, (l[fi l o.dir]?.getD nd0).es⟩) else
 if o.kind = 7 then ((moveD l o (fi l o.dir)).1, rc (moveD l o (fi l o.dir)).2) else
 if o.kind = 0 ∨ o.kind = 5 then
  if ¬ ei (l[fi l o.dir]?.getD nd0).es o.nm < (l[fi l o.dir]?.getD nd0).es.length then (l, rc 3) else
  if o.kind = 0 then (l, ⟨0, ((l[fi l o.dir]?.getD nd0).es[ei (l[fi l o.dir]?.getD nd0).es o.nm]?.getD en0).h, 0, []⟩) else
  ((dropD l (fi l o.dir) (ei (l[fi l o.dir]?.getD nd0).es o.nm) ((l[fi l o.dir]?.getD nd0).es[ei (l[fi l o.dir]?.getD nd0).es o.nm]?.getD en0).h).1, rc (dropD l (fi l o.dir) (ei (l[fi l o.dir]?.getD nd0).es o.nm) ((l[fi l o.dir]?.getD nd0).es[ei (l[fi l o.dir]?.getD nd0).es o.nm]?.getD en0).h).2)
 else
 if refD (l[fi l o.dir]?.getD nd0).es o.nm ≠ 0 then (l, rc (refD (l[fi l o.dir]?.getD nd0).es o.nm)) else
 if o.kind = 4 then (insN (addN l (fi l o.dir) o.nm fr) ⟨fr, if fr.dir = true then o.dir else hd0, 1, 0, []⟩, ⟨0, fr, 0, []⟩) else
 if o.to.dir = true then (l, rc 6) else
 if ¬ fi l o.to < l.length then (l, rc 1) else
 (addN (lkN l (fi l o.to) 1) (fi l o.dir) o.nm o.to, rc 0)
structure MD (F : Nat → Prop) (w wc : World) (tb lo : Nat) (v : Value) (L1 : Nat → Prop) (l : List Nd) (oc fc : Array Value) : Prop where
 t : Turned F w wc
 vT : VarA wc tb 55 #[v]
 s : SG wc lo L1 v l
 vO : VarA wc w.heap.size 26 oc
 vF : VarA wc (w.heap.size + 1) 24 fc
 vR : VarA wc (w.heap.size + 2) 29 #[.i 0, .i 0, .i 0, .bool false, .i 0, .slice none 0 0]
theorem MD.step {F : Nat → Prop} {w wc wd : World} {tb lo : Nat} {v : Value} {L1 : Nat → Prop} {l : List Nd} {oc fc : Array Value} (m : MD F w wc tb lo v L1 l oc fc) (h : Below wc.heap.size wc wd) : MD F w wd tb lo v L1 l oc fc :=
 ⟨m.t.andThen h, m.vT.step h, m.s.step h, m.vO.step h, m.vF.step h, m.vR.step h⟩
theorem MD.turn {F : Nat → Prop} {w wc wd : World} {tb lo g : Nat} {v : Value} {L1 : Nat → Prop} {l l' : List Nd} {oc fc : Array Value} (m : MD F w wc tb lo v L1 l oc fc) (t : Turned (fun b => b = g) wc wd) (s : SG wd lo L1 v l') (hF : F g) (hg : g < w.heap.size) (hgt : g ≠ tb) : MD F w wd tb lo v L1 l' oc fc :=
 ⟨m.t.trans (t.wide (fun b e => by subst e; exact hF)), m.vT.turn t (fun e => hgt e.symm), s, m.vO.turn t (fun e => by omega), m.vF.turn t (fun e => by omega), m.vR.turn t (fun e => by omega)⟩
theorem MD.fin {F L : Nat → Prop} {w wc wz : World} {tb lo : Nat} {v : Value} {L1 : Nat → Prop} {l : List Nd} {oc fc : Array Value} (m : MD F w wc tb lo v L1 l oc fc) (hvt : v.ownBlock ≠ some tb) (t_ : Turned (fun b => b = w.heap.size + 2) wc wz) (hR : ¬ L1 (w.heap.size + 2)) (hRt : tb ≠ w.heap.size + 2) (hRv : v.ownBlock ≠ some (w.heap.size + 2)) (hL : ∀ b, L1 b → L b) :
  TV wz tb lo L l ∧ Turned F w wz :=
 ⟨TV.ret m.vT m.s hvt t_ hR hRt hRv hL, m.t.trans2 t_ (by omega)⟩
theorem rd_nil (w : World) (S : Nat → Prop) : RdV w S (.slice none 0 0) (ensDt []) := OwV.rd (OwV.nilR _ _ _ _ _)
def DoPost (w : World) (tb lo : Nat) (L : Nat → Prop) (res : List Nd × RpD) (r : Ending) (w' : World) : Prop :=
 ∃ z, r = .returned (rpV res.2 z) ∧ RdV w' (fun b => w.heap.size ≤ b ∧ b < w'.heap.size) z (ensDt res.2.list) ∧ TV w' tb lo L res.1 ∧ ∀ v', VarA w tb 55 #[v'] → Turned (fun b => b = tb ∨ v'.ownBlock = some b) w w'
end
section
set_option maxHeartbeats 8000000 in
theorem specDo1 (tb lo : Nat) (o : OpD) (fr : Hd) (y z : Value) (l : List Nd) (S2 L : Nat → Prop) (w : World) (tv : TV w tb lo L l) (hLt : ¬ L tb) (hLn : ∀ b, w.heap.size ≤ b → L b) (h0 : 0 < l.length) (hlo : lo ≤ w.heap.size) (htbl : lo ≤ tb) (sm : Small l) (hsz : szNds l ≤ 2097152) (r1 : RdV w S2 y (.bytes o.nm)) (r2 : RdV w S2 z (.bytes o.asn)) (hS2 : ∀ b, S2 b → b < lo) (hn1 : o.nm.length ≤ 2097152) (hn2 : o.asn.length ≤ 2097152)
  (hin : ∀ i j, i < l.length → j < (l[i]?.getD nd0).es.length → fi l ((l[i]?.getD nd0).es[j]?.getD en0).h < l.length) (hkd : o.kind = 1) :
  Calls Tryz.prog 114 #[.pointer (some ⟨tb, 0, none⟩), opV o y z, fr.v] w (DoPost w tb lo L (doD l o fr)) := by
 obtain ⟨v, vT, s, hvt⟩ := tv
 obtain ⟨g, cap, rfl, hg1, hg2, hgf, hcap⟩ := s.head h0
 have htb := vT.lt
 have hgt : g ≠ tb := fun e => hvt (by rw [e]; rfl)
 have HVW : Hid (VarA w tb 55 #[.slice (some ⟨g, 0, none⟩) l.length cap]) := vT
 obtain ⟨ya, yc, rfl⟩ := r1.sliceB
 obtain ⟨za, zc, rfl⟩ := r2.sliceB
 obtain ⟨kd, ⟨p1, q1, d1⟩, nm, ⟨p2, q2, d2⟩, asn, vl⟩ := o
 obtain ⟨fp, fq, fd⟩ := fr
 dsimp only at r1 r2 hn1 hn2 hkd ⊢
 subst hkd
 obtain ⟨res, hres⟩ : ∃ r, doD l ⟨1, (p1, q1, d1), nm, (p2, q2, d2), asn, vl⟩ (fp, fq, fd) = r := ⟨_, rfl⟩
 rw [hres]
 have HRES : Hid (doD l ⟨1, (p1, q1, d1), nm, (p2, q2, d2), asn, vl⟩ (fp, fq, fd) = res) := hres
 clear hres
 have hl := sm.1
 have HEL : Hid (∀ i : Nat, (l[i]?.getD nd0).es.length ≤ 4000 ∧ 0 ≤ (l[i]?.getD nd0).links ∧ (l[i]?.getD nd0).links ≤ 2147483647) := sm.2
 have HFT : Hid (∀ W, Below w.heap.size w W → _) := fun W hW => specFind_any _ l (p1, q1, d1) _ W (RdV.step s.rd hW) (by omega)
 have HRY : Hid (∀ W, Turned (fun b => b = tb ∨ b = g) w W → RdV W S2 (.slice ya nm.length yc) (.bytes nm)) := fun W t => RdV.keep (t.keeps (fun b hb h => by have := hS2 b hb; rcases h with h | h <;> omega)) r1
 have HRZ : Hid (∀ W, Turned (fun b => b = tb ∨ b = g) w W → RdV W S2 (.slice za asn.length zc) (.bytes asn)) := fun W t => RdV.keep (t.keeps (fun b hb h => by have := hS2 b hb; rcases h with h | h <;> omega)) r2
 have HS2 : Hid (∀ b, S2 b → b < lo) := hS2
 have HSM : Hid (Small l) := sm
 have HIN : Hid (∀ i j, i < l.length → j < (l[i]?.getD nd0).es.length → fi l ((l[i]?.getD nd0).es[j]?.getD en0).h < l.length) := hin
 have sL : SG w lo (fun b => L b ∧ b ≠ w.heap.size + 2) _ l := s.mono (fun b hb h => ⟨h, by omega⟩)
 obtain ⟨L1, hL1⟩ : ∃ M : Nat → Prop, M = fun b => L b ∧ b ≠ w.heap.size + 2 := ⟨_, rfl⟩
 rw [← hL1] at sL
 have HLR : Hid (¬ L1 (w.heap.size + 2)) := by rw [hL1]; exact fun h => h.2 rfl
 have HLL : Hid (∀ b, L1 b → L b) := by rw [hL1]; exact fun b h => h.1
 have HLT1 : Hid (¬ L1 tb) := by rw [hL1]; exact fun h => hLt h.1
 have HLN : Hid (∀ b, w.heap.size + 3 ≤ b → L1 b) := by rw [hL1]; exact fun b h => ⟨hLn b (by omega), by omega⟩
 clear hL1 s sm hin r1 r2 hS2
 go_enter Tryz.func114, Tryz.ntmps114
 go_wp2
 obtain ⟨w0, hw0⟩ : ∃ W, W = ((w.alloc (.cells #[.i 1, .i p1, .i q1, .bool d1, .slice ya nm.length yc, .i p2, .i q2, .bool d2, .slice za asn.length zc, .i vl] 26)).alloc (.cells #[.i fp, .i fq, .bool fd] 24)).alloc (.cells #[.i 0, .i 0, .i 0, .bool false, .i 0, .slice none 0 0] 29) := ⟨_, rfl⟩
 have B0 : Below w.heap.size w w0 := by rw [hw0]; exact (((Below.refl _ _).alloc (Nat.le_refl _) _).alloc (by simp) _).alloc (by simp; omega) _
 have HM0 : Hid (MD (fun b => b = tb ∨ b = g) w w0 tb lo (.slice (some ⟨g, 0, none⟩) l.length cap) L1 l #[.i 1, .i p1, .i q1, .bool d1, .slice ya nm.length yc, .i p2, .i q2, .bool d2, .slice za asn.length zc, .i vl] #[.i fp, .i fq, .bool fd]) := ⟨Turned.ofBelow B0, vT.step B0, sL.step B0, by rw [hw0]; exact ((VarA.new w _ _).alloc _).alloc _, by rw [hw0]; have := (VarA.new (w.alloc (.cells #[.i 1, .i p1, .i q1, .bool d1, .slice ya nm.length yc, .i p2, .i q2, .bool d2, .slice za asn.length zc, .i vl] 26)) 24 #[.i fp, .i fq, .bool fd]).alloc (.cells #[.i 0, .i 0, .i 0, .bool false, .i 0, .slice none 0 0] 29); simpa using this, by rw [hw0]; have := VarA.new ((w.alloc (.cells #[.i 1, .i p1, .i q1, .bool d1, .slice ya nm.length yc, .i p2, .i q2, .bool d2, .slice za asn.length zc, .i vl] 26)).alloc (.cells #[.i fp, .i fq, .bool fd] 24)) 29 #[.i 0, .i 0, .i 0, .bool false, .i 0, .slice none 0 0]; simpa using this⟩
 have HB0 : Hid (Below w.heap.size w w0) := B0
 have z0 := HM0.out.vR.lt
 rw [← hw0]
 clear hw0 vT sL B0
 have HF0 : Hid (∀ W, Below w0.heap.size w0 W → _) := fun W hW => HFT.out W (HB0.out.trans (hW.mono HB0.out.size))
 haveI : Nonempty (Cls w0) := Cls.ne w0
 have kt := Cls.cell HM0.out.vT.lt HM0.out.vT.l1
 have k1 := Cls.cell HM0.out.vO.lt (HM0.out.vO.c 1 rfl)
 have k2 := Cls.cell HM0.out.vO.lt (HM0.out.vO.c 2 rfl)
 have k3 := Cls.cell HM0.out.vO.lt (HM0.out.vO.c 3 rfl)
 refine wp_region_cls (by kernel_rfl) (by kernel_rfl) ?_
 repeat (go_big_quiet_step (first | (go_at_call 96; exact Calls.cls (HF0.out _ (Cls.h _)))))
 refine wpQuiet_nil ?_
 rintro w1 ⟨⟨w1, hb_⟩, rfl⟩
 have HM_w1 : Hid (MD (fun b => b = tb ∨ b = g) w w1 tb lo (.slice (some ⟨g, 0, none⟩) l.length cap) L1 l #[.i 1, .i p1, .i q1, .bool d1, .slice ya nm.length yc, .i p2, .i q2, .bool d2, .slice za asn.length zc, .i vl] #[.i fp, .i fq, .bool fd]) := HM0.out.step hb_
 have HB1 : Hid (Below w.heap.size w w1) := HB0.out.trans (hb_.mono HB0.out.size)
 have z1 := hb_.size
 clear kt k1 k2 k3 this hb_
 clear HF0 HFT HM0 HB0
 have o0 := HM_w1.out.vO.c 0 rfl
 have o3 := HM_w1.out.vO.c 3 rfl
 cases d1 with
 | false =>
  have HC : Hid (res = (l, rc 2)) := by show res = _; rw [← HRES.out]; rfl
  clear HRES
  go_wp2_with ((with_reducible refine gS 29 ?_); refine sF HM_w1.out.vR rfl rfl (by kernel_rfl) rfl rfl ?_; intro wz vR t_)
  refine bpR Tryz.results114 vR Tryz.underlying29 rfl rfl (by kernel_rfl) rfl ?_
  unfold DoPost
  rw [HC.out]
  exact ⟨_, rfl, rd_nil _ _, Turned.own2 HVW.out (HM_w1.out.fin hvt t_ HLR.out (by omega) (fun e => by have e3 : g = w.heap.size + 2 := (by simpa [Value.ownBlock] using e); omega) HLL.out)⟩
 | true =>
  rcases findH_cases l (p1, q1, true) with ⟨hd, hf⟩ | ⟨hd, hf⟩
  case inr =>
   rw [hf]
   have HC : Hid (res = (l, rc 1)) := by show res = _; rw [← HRES.out]; unfold doD; simp [hd]
   clear HRES hd hf
   go_wp2_with ((with_reducible refine gS 29 ?_); refine sF HM_w1.out.vR rfl rfl (by kernel_rfl) rfl rfl ?_; intro wz vR t_)
   refine bpR Tryz.results114 vR Tryz.underlying29 rfl rfl (by kernel_rfl) rfl ?_
   unfold DoPost
   rw [HC.out]
   exact ⟨_, rfl, rd_nil _ _, Turned.own2 HVW.out (HM_w1.out.fin hvt t_ HLR.out (by omega) (fun e => by have e3 : g = w.heap.size + 2 := (by simpa [Value.ownBlock] using e); omega) HLL.out)⟩
  rw [hf]
  clear hf
  unfold doD at HRES
  dsimp only at HRES
  generalize fi l (p1, q1, true) = d at *
  have hdi : (d : Int) < (l.length : Int) := by omega
  have t1 := HM_w1.out.vT.l1
  obtain ⟨xd, rd, cd⟩ := HM_w1.out.s.at hd
  have HRD : Hid _ := rd
  have HCD : Hid _ := cd
  clear rd cd
  have hgw : g < w1.heap.size := Nat.lt_of_lt_of_le hg2 HB1.out.size
  obtain ⟨xa, xc, rfl, _⟩ := RdV.sliced (HRD.out)
  have c8 : w1.cell? ⟨g, d * 9 + 8, none⟩ = some (.slice xa (l[d]?.getD nd0).es.length xc) := HCD.out 8 (by omega)
  have HC : Hid (res = (l, ⟨0, hd0, 0, (l[d]?.getD nd0).es⟩)) := by show res = _; rw [← HRES.out]; simp [hd]
  clear HRES
  have HCE : Hid _ := specCopyEn_any _ (l[d]?.getD nd0).es _ w1 HRD.out (Nat.le_trans (szNds_at l d) hsz) (HEL.out d).1
  generalize hnd : l[d]?.getD nd0 = nd at *
  generalize hln : nd.es.length = eln at *
  clear hln hnd
  go_wp2_with fail
  refine Calls.mono HCE.out ?_
  rintro r2 w2 ⟨ea, en, ec, rfl, oE, b2⟩
  have HM2 : Hid (MD (fun b => b = tb ∨ b = g) w w2 tb lo (.slice (some ⟨g, 0, none⟩) l.length cap) L1 l #[.i 1, .i p1, .i q1, .bool true, .slice ya nm.length yc, .i p2, .i q2, .bool d2, .slice za asn.length zc, .i vl] #[.i fp, .i fq, .bool fd]) := HM_w1.out.step b2
  have HOE : Hid _ := oE
  have z2 := b2.size
  have zw := HB1.out.size
  clear HCE oE b2 c8 t1 o0 o3
  go_wp2_with ((with_reducible refine gS 29 ?_); refine sF HM2.out.vR rfl rfl (by kernel_rfl) rfl rfl ?_; intro wz vR t_)
  refine bpR Tryz.results114 vR Tryz.underlying29 rfl rfl (by kernel_rfl) rfl ?_
  unfold DoPost
  rw [HC.out]
  exact ⟨_, rfl, RdV.mono (fun b hb => ⟨by omega, Nat.lt_of_lt_of_le hb.2 t_.size⟩) (RdV.keep (t_.keeps (fun b hb e => by have e2 : b = w.heap.size + 2 := e; omega)) (OwV.rd HOE.out)), Turned.own2 HVW.out (HM2.out.fin hvt t_ HLR.out (by omega) (fun e => by have e3 : g = w.heap.size + 2 := (by simpa [Value.ownBlock] using e); omega) HLL.out)⟩
end
section
set_option maxHeartbeats 8000000 in
theorem specDo2 (tb lo : Nat) (o : OpD) (fr : Hd) (y z : Value) (l : List Nd) (S2 L : Nat → Prop) (w : World) (tv : TV w tb lo L l) (hLt : ¬ L tb) (hLn : ∀ b, w.heap.size ≤ b → L b) (h0 : 0 < l.length) (hlo : lo ≤ w.heap.size) (htbl : lo ≤ tb) (sm : Small l) (hsz : szNds l ≤ 2097152) (r1 : RdV w S2 y (.bytes o.nm)) (r2 : RdV w S2 z (.bytes o.asn)) (hS2 : ∀ b, S2 b → b < lo) (hn1 : o.nm.length ≤ 2097152) (hn2 : o.asn.length ≤ 2097152)
  (hin : ∀ i j, i < l.length → j < (l[i]?.getD nd0).es.length → fi l ((l[i]?.getD nd0).es[j]?.getD en0).h < l.length) (hkd : o.kind = 2) :
  Calls Tryz.prog 114 #[.pointer (some ⟨tb, 0, none⟩), opV o y z, fr.v] w (DoPost w tb lo L (doD l o fr)) := by
 obtain ⟨v, vT, s, hvt⟩ := tv
 obtain ⟨g, cap, rfl, hg1, hg2, hgf, hcap⟩ := s.head h0
 have htb := vT.lt
 have hgt : g ≠ tb := fun e => hvt (by rw [e]; rfl)
 have HVW : Hid (VarA w tb 55 #[.slice (some ⟨g, 0, none⟩) l.length cap]) := vT
 obtain ⟨ya, yc, rfl⟩ := r1.sliceB
 obtain ⟨za, zc, rfl⟩ := r2.sliceB
 obtain ⟨kd, ⟨p1, q1, d1⟩, nm, ⟨p2, q2, d2⟩, asn, vl⟩ := o
 obtain ⟨fp, fq, fd⟩ := fr
 dsimp only at r1 r2 hn1 hn2 hkd ⊢
 subst hkd
 obtain ⟨res, hres⟩ : ∃ r, doD l ⟨2, (p1, q1, d1), nm, (p2, q2, d2), asn, vl⟩ (fp, fq, fd) = r := ⟨_, rfl⟩
 rw [hres]
 have HRES : Hid (doD l ⟨2, (p1, q1, d1), nm, (p2, q2, d2), asn, vl⟩ (fp, fq, fd) = res) := hres
 clear hres
 have hl := sm.1
 have HEL : Hid (∀ i : Nat, (l[i]?.getD nd0).es.length ≤ 4000 ∧ 0 ≤ (l[i]?.getD nd0).links ∧ (l[i]?.getD nd0).links ≤ 2147483647) := sm.2
 have HFT : Hid (∀ W, Below w.heap.size w W → _) := fun W hW => specFind_any _ l (p1, q1, d1) _ W (RdV.step s.rd hW) (by omega)
 have HRY : Hid (∀ W, Turned (fun b => b = tb ∨ b = g) w W → RdV W S2 (.slice ya nm.length yc) (.bytes nm)) := fun W t => RdV.keep (t.keeps (fun b hb h => by have := hS2 b hb; rcases h with h | h <;> omega)) r1
 have HRZ : Hid (∀ W, Turned (fun b => b = tb ∨ b = g) w W → RdV W S2 (.slice za asn.length zc) (.bytes asn)) := fun W t => RdV.keep (t.keeps (fun b hb h => by have := hS2 b hb; rcases h with h | h <;> omega)) r2
 have HS2 : Hid (∀ b, S2 b → b < lo) := hS2
 have HSM : Hid (Small l) := sm
 have HIN : Hid (∀ i j, i < l.length → j < (l[i]?.getD nd0).es.length → fi l ((l[i]?.getD nd0).es[j]?.getD en0).h < l.length) := hin
 have sL : SG w lo (fun b => L b ∧ b ≠ w.heap.size + 2) _ l := s.mono (fun b hb h => ⟨h, by omega⟩)
 obtain ⟨L1, hL1⟩ : ∃ M : Nat → Prop, M = fun b => L b ∧ b ≠ w.heap.size + 2 := ⟨_, rfl⟩
 rw [← hL1] at sL
 have HLR : Hid (¬ L1 (w.heap.size + 2)) := by rw [hL1]; exact fun h => h.2 rfl
 have HLL : Hid (∀ b, L1 b → L b) := by rw [hL1]; exact fun b h => h.1
 have HLT1 : Hid (¬ L1 tb) := by rw [hL1]; exact fun h => hLt h.1
 have HLN : Hid (∀ b, w.heap.size + 3 ≤ b → L1 b) := by rw [hL1]; exact fun b h => ⟨hLn b (by omega), by omega⟩
 clear hL1 s sm hin r1 r2 hS2
 go_enter Tryz.func114, Tryz.ntmps114
 go_wp2
 obtain ⟨w0, hw0⟩ : ∃ W, W = ((w.alloc (.cells #[.i 2, .i p1, .i q1, .bool d1, .slice ya nm.length yc, .i p2, .i q2, .bool d2, .slice za asn.length zc, .i vl] 26)).alloc (.cells #[.i fp, .i fq, .bool fd] 24)).alloc (.cells #[.i 0, .i 0, .i 0, .bool false, .i 0, .slice none 0 0] 29) := ⟨_, rfl⟩
 have B0 : Below w.heap.size w w0 := by rw [hw0]; exact (((Below.refl _ _).alloc (Nat.le_refl _) _).alloc (by simp) _).alloc (by simp; omega) _
 have HM0 : Hid (MD (fun b => b = tb ∨ b = g) w w0 tb lo (.slice (some ⟨g, 0, none⟩) l.length cap) L1 l #[.i 2, .i p1, .i q1, .bool d1, .slice ya nm.length yc, .i p2, .i q2, .bool d2, .slice za asn.length zc, .i vl] #[.i fp, .i fq, .bool fd]) := ⟨Turned.ofBelow B0, vT.step B0, sL.step B0, by rw [hw0]; exact ((VarA.new w _ _).alloc _).alloc _, by rw [hw0]; have := (VarA.new (w.alloc (.cells #[.i 2, .i p1, .i q1, .bool d1, .slice ya nm.length yc, .i p2, .i q2, .bool d2, .slice za asn.length zc, .i vl] 26)) 24 #[.i fp, .i fq, .bool fd]).alloc (.cells #[.i 0, .i 0, .i 0, .bool false, .i 0, .slice none 0 0] 29); simpa using this, by rw [hw0]; have := VarA.new ((w.alloc (.cells #[.i 2, .i p1, .i q1, .bool d1, .slice ya nm.length yc, .i p2, .i q2, .bool d2, .slice za asn.length zc, .i vl] 26)).alloc (.cells #[.i fp, .i fq, .bool fd] 24)) 29 #[.i 0, .i 0, .i 0, .bool false, .i 0, .slice none 0 0]; simpa using this⟩
 have HB0 : Hid (Below w.heap.size w w0) := B0
 have z0 := HM0.out.vR.lt
 rw [← hw0]
 clear hw0 vT sL B0
 have HF0 : Hid (∀ W, Below w0.heap.size w0 W → _) := fun W hW => HFT.out W (HB0.out.trans (hW.mono HB0.out.size))
 haveI : Nonempty (Cls w0) := Cls.ne w0
 have kt := Cls.cell HM0.out.vT.lt HM0.out.vT.l1
 have k1 := Cls.cell HM0.out.vO.lt (HM0.out.vO.c 1 rfl)
 have k2 := Cls.cell HM0.out.vO.lt (HM0.out.vO.c 2 rfl)
 have k3 := Cls.cell HM0.out.vO.lt (HM0.out.vO.c 3 rfl)
 refine wp_region_cls (by kernel_rfl) (by kernel_rfl) ?_
 repeat (go_big_quiet_step (first | (go_at_call 96; exact Calls.cls (HF0.out _ (Cls.h _)))))
 refine wpQuiet_nil ?_
 rintro w1 ⟨⟨w1, hb_⟩, rfl⟩
 have HM_w1 : Hid (MD (fun b => b = tb ∨ b = g) w w1 tb lo (.slice (some ⟨g, 0, none⟩) l.length cap) L1 l #[.i 2, .i p1, .i q1, .bool d1, .slice ya nm.length yc, .i p2, .i q2, .bool d2, .slice za asn.length zc, .i vl] #[.i fp, .i fq, .bool fd]) := HM0.out.step hb_
 have HB1 : Hid (Below w.heap.size w w1) := HB0.out.trans (hb_.mono HB0.out.size)
 have z1 := hb_.size
 clear kt k1 k2 k3 this hb_
 clear HF0 HFT HM0 HB0
 have o0 := HM_w1.out.vO.c 0 rfl
 have o3 := HM_w1.out.vO.c 3 rfl
 cases d1 with
 | true =>
  have HC : Hid (res = (l, rc 6)) := by show res = _; rw [← HRES.out]; rfl
  clear HRES
  go_wp2_with ((with_reducible refine gS 29 ?_); refine sF HM_w1.out.vR rfl rfl (by kernel_rfl) rfl rfl ?_; intro wz vR t_)
  refine bpR Tryz.results114 vR Tryz.underlying29 rfl rfl (by kernel_rfl) rfl ?_
  unfold DoPost
  rw [HC.out]
  exact ⟨_, rfl, rd_nil _ _, Turned.own2 HVW.out (HM_w1.out.fin hvt t_ HLR.out (by omega) (fun e => by have e3 : g = w.heap.size + 2 := (by simpa [Value.ownBlock] using e); omega) HLL.out)⟩
 | false =>
  rcases findH_cases l (p1, q1, false) with ⟨hd, hf⟩ | ⟨hd, hf⟩
  case inr =>
   rw [hf]
   have HC : Hid (res = (l, rc 1)) := by show res = _; rw [← HRES.out]; unfold doD; simp [hd]
   clear HRES hd hf
   go_wp2_with ((with_reducible refine gS 29 ?_); refine sF HM_w1.out.vR rfl rfl (by kernel_rfl) rfl rfl ?_; intro wz vR t_)
   refine bpR Tryz.results114 vR Tryz.underlying29 rfl rfl (by kernel_rfl) rfl ?_
   unfold DoPost
   rw [HC.out]
   exact ⟨_, rfl, rd_nil _ _, Turned.own2 HVW.out (HM_w1.out.fin hvt t_ HLR.out (by omega) (fun e => by have e3 : g = w.heap.size + 2 := (by simpa [Value.ownBlock] using e); omega) HLL.out)⟩
  rw [hf]
  clear hf
  unfold doD at HRES
  dsimp only at HRES
  generalize fi l (p1, q1, false) = d at *
  have hdi : (d : Int) < (l.length : Int) := by omega
  have t1 := HM_w1.out.vT.l1
  obtain ⟨xd, rd, cd⟩ := HM_w1.out.s.at hd
  have HRD : Hid _ := rd
  have HCD : Hid _ := cd
  clear rd cd
  have hgw : g < w1.heap.size := Nat.lt_of_lt_of_le hg2 HB1.out.size
  have c7 : w1.cell? ⟨g, d * 9 + 7, none⟩ = some (.i (l[d]?.getD nd0).val) := HCD.out 7 (by omega)
  have HC : Hid (res = (l, ⟨0, hd0, (l[d]?.getD nd0).val, []⟩)) := by show res = _; rw [← HRES.out]; simp [hd]
  clear HRES
  generalize (l[d]?.getD nd0).val = vv at *
  go_wp2_with ((with_reducible refine gS 29 ?_); refine sF HM_w1.out.vR rfl rfl (by kernel_rfl) rfl rfl ?_; intro wz vR t_)
  refine bpR Tryz.results114 vR Tryz.underlying29 rfl rfl (by kernel_rfl) rfl ?_
  unfold DoPost
  rw [HC.out]
  exact ⟨_, rfl, rd_nil _ _, Turned.own2 HVW.out (HM_w1.out.fin hvt t_ HLR.out (by omega) (fun e => by have e3 : g = w.heap.size + 2 := (by simpa [Value.ownBlock] using e); omega) HLL.out)⟩
end
section
set_option maxHeartbeats 8000000 in
theorem specDo3 (tb lo : Nat) (o : OpD) (fr : Hd) (y z : Value) (l : List Nd) (S2 L : Nat → Prop) (w : World) (tv : TV w tb lo L l) (hLt : ¬ L tb) (hLn : ∀ b, w.heap.size ≤ b → L b) (h0 : 0 < l.length) (hlo : lo ≤ w.heap.size) (htbl : lo ≤ tb) (sm : Small l) (hsz : szNds l ≤ 2097152) (r1 : RdV w S2 y (.bytes o.nm)) (r2 : RdV w S2 z (.bytes o.asn)) (hS2 : ∀ b, S2 b → b < lo) (hn1 : o.nm.length ≤ 2097152) (hn2 : o.asn.length ≤ 2097152)
  (hin : ∀ i j, i < l.length → j < (l[i]?.getD nd0).es.length → fi l ((l[i]?.getD nd0).es[j]?.getD en0).h < l.length) (hkd : o.kind = 3) :
  Calls Tryz.prog 114 #[.pointer (some ⟨tb, 0, none⟩), opV o y z, fr.v] w (DoPost w tb lo L (doD l o fr)) := by
 obtain ⟨v, vT, s, hvt⟩ := tv
 obtain ⟨g, cap, rfl, hg1, hg2, hgf, hcap⟩ := s.head h0
 have htb := vT.lt
 have hgt : g ≠ tb := fun e => hvt (by rw [e]; rfl)
 have HVW : Hid (VarA w tb 55 #[.slice (some ⟨g, 0, none⟩) l.length cap]) := vT
 obtain ⟨ya, yc, rfl⟩ := r1.sliceB
 obtain ⟨za, zc, rfl⟩ := r2.sliceB
 obtain ⟨kd, ⟨p1, q1, d1⟩, nm, ⟨p2, q2, d2⟩, asn, vl⟩ := o
 obtain ⟨fp, fq, fd⟩ := fr
 dsimp only at r1 r2 hn1 hn2 hkd ⊢
 subst hkd
 obtain ⟨res, hres⟩ : ∃ r, doD l ⟨3, (p1, q1, d1), nm, (p2, q2, d2), asn, vl⟩ (fp, fq, fd) = r := ⟨_, rfl⟩
 rw [hres]
 have HRES : Hid (doD l ⟨3, (p1, q1, d1), nm, (p2, q2, d2), asn, vl⟩ (fp, fq, fd) = res) := hres
 clear hres
 have hl := sm.1
 have HEL : Hid (∀ i : Nat, (l[i]?.getD nd0).es.length ≤ 4000 ∧ 0 ≤ (l[i]?.getD nd0).links ∧ (l[i]?.getD nd0).links ≤ 2147483647) := sm.2
 have HFT : Hid (∀ W, Below w.heap.size w W → _) := fun W hW => specFind_any _ l (p1, q1, d1) _ W (RdV.step s.rd hW) (by omega)
 have HRY : Hid (∀ W, Turned (fun b => b = tb ∨ b = g) w W → RdV W S2 (.slice ya nm.length yc) (.bytes nm)) := fun W t => RdV.keep (t.keeps (fun b hb h => by have := hS2 b hb; rcases h with h | h <;> omega)) r1
 have HRZ : Hid (∀ W, Turned (fun b => b = tb ∨ b = g) w W → RdV W S2 (.slice za asn.length zc) (.bytes asn)) := fun W t => RdV.keep (t.keeps (fun b hb h => by have := hS2 b hb; rcases h with h | h <;> omega)) r2
 have HS2 : Hid (∀ b, S2 b → b < lo) := hS2
 have HSM : Hid (Small l) := sm
 have HIN : Hid (∀ i j, i < l.length → j < (l[i]?.getD nd0).es.length → fi l ((l[i]?.getD nd0).es[j]?.getD en0).h < l.length) := hin
 have sL : SG w lo (fun b => L b ∧ b ≠ w.heap.size + 2) _ l := s.mono (fun b hb h => ⟨h, by omega⟩)
 obtain ⟨L1, hL1⟩ : ∃ M : Nat → Prop, M = fun b => L b ∧ b ≠ w.heap.size + 2 := ⟨_, rfl⟩
 rw [← hL1] at sL
 have HLR : Hid (¬ L1 (w.heap.size + 2)) := by rw [hL1]; exact fun h => h.2 rfl
 have HLL : Hid (∀ b, L1 b → L b) := by rw [hL1]; exact fun b h => h.1
 have HLT1 : Hid (¬ L1 tb) := by rw [hL1]; exact fun h => hLt h.1
 have HLN : Hid (∀ b, w.heap.size + 3 ≤ b → L1 b) := by rw [hL1]; exact fun b h => ⟨hLn b (by omega), by omega⟩
 clear hL1 s sm hin r1 r2 hS2
 go_enter Tryz.func114, Tryz.ntmps114
 go_wp2
 obtain ⟨w0, hw0⟩ : ∃ W, W = ((w.alloc (.cells #[.i 3, .i p1, .i q1, .bool d1, .slice ya nm.length yc, .i p2, .i q2, .bool d2, .slice za asn.length zc, .i vl] 26)).alloc (.cells #[.i fp, .i fq, .bool fd] 24)).alloc (.cells #[.i 0, .i 0, .i 0, .bool false, .i 0, .slice none 0 0] 29) := ⟨_, rfl⟩
 have B0 : Below w.heap.size w w0 := by rw [hw0]; exact (((Below.refl _ _).alloc (Nat.le_refl _) _).alloc (by simp) _).alloc (by simp; omega) _
 have HM0 : Hid (MD (fun b => b = tb ∨ b = g) w w0 tb lo (.slice (some ⟨g, 0, none⟩) l.length cap) L1 l #[.i 3, .i p1, .i q1, .bool d1, .slice ya nm.length yc, .i p2, .i q2, .bool d2, .slice za asn.length zc, .i vl] #[.i fp, .i fq, .bool fd]) := ⟨Turned.ofBelow B0, vT.step B0, sL.step B0, by rw [hw0]; exact ((VarA.new w _ _).alloc _).alloc _, by rw [hw0]; have := (VarA.new (w.alloc (.cells #[.i 3, .i p1, .i q1, .bool d1, .slice ya nm.length yc, .i p2, .i q2, .bool d2, .slice za asn.length zc, .i vl] 26)) 24 #[.i fp, .i fq, .bool fd]).alloc (.cells #[.i 0, .i 0, .i 0, .bool false, .i 0, .slice none 0 0] 29); simpa using this, by rw [hw0]; have := VarA.new ((w.alloc (.cells #[.i 3, .i p1, .i q1, .bool d1, .slice ya nm.length yc, .i p2, .i q2, .bool d2, .slice za asn.length zc, .i vl] 26)).alloc (.cells #[.i fp, .i fq, .bool fd] 24)) 29 #[.i 0, .i 0, .i 0, .bool false, .i 0, .slice none 0 0]; simpa using this⟩
 have HB0 : Hid (Below w.heap.size w w0) := B0
 have z0 := HM0.out.vR.lt
 rw [← hw0]
 clear hw0 vT sL B0
 have HF0 : Hid (∀ W, Below w0.heap.size w0 W → _) := fun W hW => HFT.out W (HB0.out.trans (hW.mono HB0.out.size))
 haveI : Nonempty (Cls w0) := Cls.ne w0
 have kt := Cls.cell HM0.out.vT.lt HM0.out.vT.l1
 have k1 := Cls.cell HM0.out.vO.lt (HM0.out.vO.c 1 rfl)
 have k2 := Cls.cell HM0.out.vO.lt (HM0.out.vO.c 2 rfl)
 have k3 := Cls.cell HM0.out.vO.lt (HM0.out.vO.c 3 rfl)
 refine wp_region_cls (by kernel_rfl) (by kernel_rfl) ?_
 repeat (go_big_quiet_step (first | (go_at_call 96; exact Calls.cls (HF0.out _ (Cls.h _)))))
 refine wpQuiet_nil ?_
 rintro w1 ⟨⟨w1, hb_⟩, rfl⟩
 have HM_w1 : Hid (MD (fun b => b = tb ∨ b = g) w w1 tb lo (.slice (some ⟨g, 0, none⟩) l.length cap) L1 l #[.i 3, .i p1, .i q1, .bool d1, .slice ya nm.length yc, .i p2, .i q2, .bool d2, .slice za asn.length zc, .i vl] #[.i fp, .i fq, .bool fd]) := HM0.out.step hb_
 have HB1 : Hid (Below w.heap.size w w1) := HB0.out.trans (hb_.mono HB0.out.size)
 have z1 := hb_.size
 clear kt k1 k2 k3 this hb_
 clear HF0 HFT HM0 HB0
 have o0 := HM_w1.out.vO.c 0 rfl
 have o3 := HM_w1.out.vO.c 3 rfl
 cases d1 with
 | true =>
  have HC : Hid (res = (l, rc 6)) := by show res = _; rw [← HRES.out]; rfl
  clear HRES
  go_wp2_with ((with_reducible refine gS 29 ?_); refine sF HM_w1.out.vR rfl rfl (by kernel_rfl) rfl rfl ?_; intro wz vR t_)
  refine bpR Tryz.results114 vR Tryz.underlying29 rfl rfl (by kernel_rfl) rfl ?_
  unfold DoPost
  rw [HC.out]
  exact ⟨_, rfl, rd_nil _ _, Turned.own2 HVW.out (HM_w1.out.fin hvt t_ HLR.out (by omega) (fun e => by have e3 : g = w.heap.size + 2 := (by simpa [Value.ownBlock] using e); omega) HLL.out)⟩
 | false =>
  rcases findH_cases l (p1, q1, false) with ⟨hd, hf⟩ | ⟨hd, hf⟩
  case inr =>
   rw [hf]
   have HC : Hid (res = (l, rc 1)) := by show res = _; rw [← HRES.out]; unfold doD; simp [hd]
   clear HRES hd hf
   go_wp2_with ((with_reducible refine gS 29 ?_); refine sF HM_w1.out.vR rfl rfl (by kernel_rfl) rfl rfl ?_; intro wz vR t_)
   refine bpR Tryz.results114 vR Tryz.underlying29 rfl rfl (by kernel_rfl) rfl ?_
   unfold DoPost
   rw [HC.out]
   exact ⟨_, rfl, rd_nil _ _, Turned.own2 HVW.out (HM_w1.out.fin hvt t_ HLR.out (by omega) (fun e => by have e3 : g = w.heap.size + 2 := (by simpa [Value.ownBlock] using e); omega) HLL.out)⟩
  rw [hf]
  clear hf
  unfold doD at HRES
  dsimp only at HRES
  generalize fi l (p1, q1, false) = d at *
  have hdi : (d : Int) < (l.length : Int) := by omega
  have t1 := HM_w1.out.vT.l1
  obtain ⟨xd, rd, cd⟩ := HM_w1.out.s.at hd
  have HRD : Hid _ := rd
  have HCD : Hid _ := cd
  clear rd cd
  have hgw : g < w1.heap.size := Nat.lt_of_lt_of_le hg2 HB1.out.size
  have HC : Hid (res = (valN l d vl, rc 0)) := by show res = _; rw [← HRES.out]; simp [hd]
  clear HRES
  go_wp2
  refine wp_region_noPanic ?_
  refine wp_region_held_drew (S := fun W => W.cell? ⟨tb, 0, none⟩ = some (.slice (some ⟨g, 0, none⟩) l.length cap) ∧ W.cell? ⟨w.heap.size, 9, none⟩ = some (.i vl)) (by kernel_rfl) ⟨(HM_w1.out.vT.step (Below.drew (Below.refl w1.heap.size w1))).l1, (HM_w1.out.vO.step (Below.drew (Below.refl w1.heap.size w1))).c 9 rfl⟩ (fun hHeld => ?_)
  refine tkh 0 ?_ rfl (by kernel_rfl) rfl (by assumption) ?_ ?_
  rotate_left
  ·(intro _ h; (try dsimp only at h); go_simp; try with_reducible rfl)
  try simp only [Act.put, qz1, qz2, qz3, qz4, qz5, qz6]
  refine tkh 1 ?_ rfl (by kernel_rfl) rfl (by assumption) ?_ ?_
  rotate_left
  ·(intro _ h; (try dsimp only at h); go_simp; try with_reducible rfl)
  try simp only [Act.put, qz1, qz2, qz3, qz4, qz5, qz6]
  refine tkh 2 ?_ rfl (by kernel_rfl) rfl (by assumption) ?_ ?_
  rotate_left
  ·(intro _ h; (try dsimp only at h); go_simp; try with_reducible rfl)
  try simp only [Act.put, qz1, qz2, qz3, qz4, qz5, qz6]
  refine tkh 3 ?_ rfl (by kernel_rfl) rfl (by assumption) ?_ ?_
  rotate_left
  ·(intro _ h; (try dsimp only at h); go_simp; try with_reducible rfl)
  try simp only [Act.put, qz1, qz2, qz3, qz4, qz5, qz6]
  refine tkh 4 ?_ rfl (by kernel_rfl) rfl (by assumption) ?_ ?_
  rotate_left
  ·(intro _ h; (try dsimp only at h); go_simp; try with_reducible rfl)
  try simp only [Act.put, qz1, qz2, qz3, qz4, qz5, qz6]
  refine tkh 5 ?_ rfl (by kernel_rfl) rfl (by assumption) ?_ ?_
  rotate_left
  ·(intro _ h; (try dsimp only at h); go_simp; try with_reducible rfl)
  try simp only [Act.put, qz1, qz2, qz3, qz4, qz5, qz6]
  refine tkh 6 ?_ rfl (by kernel_rfl) rfl (by assumption) ?_ ?_
  rotate_left
  ·(intro _ h; (try dsimp only at h); go_simp; try with_reducible rfl)
  try simp only [Act.put, qz1, qz2, qz3, qz4, qz5, qz6]
  refine tkh 7 ?_ rfl (by kernel_rfl) rfl (by assumption) ?_ ?_
  rotate_left
  ·(intro _ h; (try dsimp only at h); go_simp; try with_reducible rfl)
  try simp only [Act.put, qz1, qz2, qz3, qz4, qz5, qz6]
  refine tkh 8 ?_ rfl (by kernel_rfl) rfl (by assumption) ?_ ?_
  rotate_left
  ·(intro _ h; (try dsimp only at h); go_simp; try with_reducible rfl)
  try simp only [Act.put, qz1, qz2, qz3, qz4, qz5, qz6]
  refine doH 9 (by kernel_rfl) rfl fun K hK => ?_
  have e7 : w1.drew.cell? ⟨g, d * 9 + 7, none⟩ = some (.i (l[d]?.getD nd0).val) := HCD.out 7 (by omega)
  have fk := SG.fz g HM_w1.out.s hd (d * 9 + 7)
  go_simp
  have T2 : Turned (fun b => b = g) w1.drew ((w1.setCell ⟨g, d * 9 + 7, none⟩ (.i vl)).drew) := Turned.set (Turned.refl (fun b => b = g) _) ⟨g, d * 9 + 7, none⟩ _ rfl
  have HM2 : Hid (MD (fun b => b = tb ∨ b = g) w ((w1.setCell ⟨g, d * 9 + 7, none⟩ (.i vl)).drew) tb lo (.slice (some ⟨g, 0, none⟩) l.length cap) L1 (valN l d vl) #[.i 3, .i p1, .i q1, .bool false, .slice ya nm.length yc, .i p2, .i q2, .bool d2, .slice za asn.length zc, .i vl] #[.i fp, .i fq, .bool fd]) := MD.turn (HM_w1.out.step (Below.drew (Below.refl w1.heap.size w1))) T2 (SG.setVal (HM_w1.out.s.step (Below.drew (Below.refl w1.heap.size w1))) hd vl) (.inr rfl) hg2 hgt
  refine hK.out _ _ ⟨HM2.out.vT.l1, HM2.out.vO.c 9 rfl⟩ (fun hHeld => ?_)
  clear hK K
  try simp only [Act.put, qz1, qz2, qz3, qz4, qz5, qz6]
  refine wpAnyH_done (by kernel_rfl) (NoPanic.normal ?_) _
  clear hHeld T2 e7 fk
  obtain ⟨w2, hw2⟩ : ∃ W, W = ((w1.setCell ⟨g, d * 9 + 7, none⟩ (.i vl)).drew) := ⟨_, rfl⟩
  rw [← hw2] at HM2 ⊢
  clear hw2
  go_wp2_with ((with_reducible refine gS 29 ?_); refine sF HM2.out.vR rfl rfl (by kernel_rfl) rfl rfl ?_; intro wz vR t_)
  refine bpR Tryz.results114 vR Tryz.underlying29 rfl rfl (by kernel_rfl) rfl ?_
  unfold DoPost
  rw [HC.out]
  exact ⟨_, rfl, rd_nil _ _, Turned.own2 HVW.out (HM2.out.fin hvt t_ HLR.out (by omega) (fun e => by have e3 : g = w.heap.size + 2 := (by simpa [Value.ownBlock] using e); omega) HLL.out)⟩
end
section
set_option maxHeartbeats 8000000 in
theorem specDo7 (tb lo : Nat) (o : OpD) (fr : Hd) (y z : Value) (l : List Nd) (S2 L : Nat → Prop) (w : World) (tv : TV w tb lo L l) (hLt : ¬ L tb) (hLn : ∀ b, w.heap.size ≤ b → L b) (h0 : 0 < l.length) (hlo : lo ≤ w.heap.size) (htbl : lo ≤ tb) (sm : Small l) (hsz : szNds l ≤ 2097152) (r1 : RdV w S2 y (.bytes o.nm)) (r2 : RdV w S2 z (.bytes o.asn)) (hS2 : ∀ b, S2 b → b < lo) (hn1 : o.nm.length ≤ 2097152) (hn2 : o.asn.length ≤ 2097152)
  (hin : ∀ i j, i < l.length → j < (l[i]?.getD nd0).es.length → fi l ((l[i]?.getD nd0).es[j]?.getD en0).h < l.length) (hkd : o.kind = 7) :
  Calls Tryz.prog 114 #[.pointer (some ⟨tb, 0, none⟩), opV o y z, fr.v] w (DoPost w tb lo L (doD l o fr)) := by
 obtain ⟨v, vT, s, hvt⟩ := tv
 obtain ⟨g, cap, rfl, hg1, hg2, hgf, hcap⟩ := s.head h0
 have htb := vT.lt
 have hgt : g ≠ tb := fun e => hvt (by rw [e]; rfl)
 have HVW : Hid (VarA w tb 55 #[.slice (some ⟨g, 0, none⟩) l.length cap]) := vT
 obtain ⟨ya, yc, rfl⟩ := r1.sliceB
 obtain ⟨za, zc, rfl⟩ := r2.sliceB
 obtain ⟨kd, ⟨p1, q1, d1⟩, nm, ⟨p2, q2, d2⟩, asn, vl⟩ := o
 obtain ⟨fp, fq, fd⟩ := fr
 dsimp only at r1 r2 hn1 hn2 hkd ⊢
 subst hkd
 obtain ⟨res, hres⟩ : ∃ r, doD l ⟨7, (p1, q1, d1), nm, (p2, q2, d2), asn, vl⟩ (fp, fq, fd) = r := ⟨_, rfl⟩
 rw [hres]
 have HRES : Hid (doD l ⟨7, (p1, q1, d1), nm, (p2, q2, d2), asn, vl⟩ (fp, fq, fd) = res) := hres
 clear hres
 have hl := sm.1
 have HEL : Hid (∀ i : Nat, (l[i]?.getD nd0).es.length ≤ 4000 ∧ 0 ≤ (l[i]?.getD nd0).links ∧ (l[i]?.getD nd0).links ≤ 2147483647) := sm.2
 have HFT : Hid (∀ W, Below w.heap.size w W → _) := fun W hW => specFind_any _ l (p1, q1, d1) _ W (RdV.step s.rd hW) (by omega)
 have HRY : Hid (∀ W, Turned (fun b => b = tb ∨ b = g) w W → RdV W S2 (.slice ya nm.length yc) (.bytes nm)) := fun W t => RdV.keep (t.keeps (fun b hb h => by have := hS2 b hb; rcases h with h | h <;> omega)) r1
 have HRZ : Hid (∀ W, Turned (fun b => b = tb ∨ b = g) w W → RdV W S2 (.slice za asn.length zc) (.bytes asn)) := fun W t => RdV.keep (t.keeps (fun b hb h => by have := hS2 b hb; rcases h with h | h <;> omega)) r2
 have HS2 : Hid (∀ b, S2 b → b < lo) := hS2
 have HSM : Hid (Small l) := sm
 have HIN : Hid (∀ i j, i < l.length → j < (l[i]?.getD nd0).es.length → fi l ((l[i]?.getD nd0).es[j]?.getD en0).h < l.length) := hin
 have sL : SG w lo (fun b => L b ∧ b ≠ w.heap.size + 2) _ l := s.mono (fun b hb h => ⟨h, by omega⟩)
 obtain ⟨L1, hL1⟩ : ∃ M : Nat → Prop, M = fun b => L b ∧ b ≠ w.heap.size + 2 := ⟨_, rfl⟩
 rw [← hL1] at sL
 have HLR : Hid (¬ L1 (w.heap.size + 2)) := by rw [hL1]; exact fun h => h.2 rfl
 have HLL : Hid (∀ b, L1 b → L b) := by rw [hL1]; exact fun b h => h.1
 have HLT1 : Hid (¬ L1 tb) := by rw [hL1]; exact fun h => hLt h.1
 have HLN : Hid (∀ b, w.heap.size + 3 ≤ b → L1 b) := by rw [hL1]; exact fun b h => ⟨hLn b (by omega), by omega⟩
 clear hL1 s sm hin r1 r2 hS2
 go_enter Tryz.func114, Tryz.ntmps114
 go_wp2
 obtain ⟨w0, hw0⟩ : ∃ W, W = ((w.alloc (.cells #[.i 7, .i p1, .i q1, .bool d1, .slice ya nm.length yc, .i p2, .i q2, .bool d2, .slice za asn.length zc, .i vl] 26)).alloc (.cells #[.i fp, .i fq, .bool fd] 24)).alloc (.cells #[.i 0, .i 0, .i 0, .bool false, .i 0, .slice none 0 0] 29) := ⟨_, rfl⟩
 have B0 : Below w.heap.size w w0 := by rw [hw0]; exact (((Below.refl _ _).alloc (Nat.le_refl _) _).alloc (by simp) _).alloc (by simp; omega) _
 have HM0 : Hid (MD (fun b => b = tb ∨ b = g) w w0 tb lo (.slice (some ⟨g, 0, none⟩) l.length cap) L1 l #[.i 7, .i p1, .i q1, .bool d1, .slice ya nm.length yc, .i p2, .i q2, .bool d2, .slice za asn.length zc, .i vl] #[.i fp, .i fq, .bool fd]) := ⟨Turned.ofBelow B0, vT.step B0, sL.step B0, by rw [hw0]; exact ((VarA.new w _ _).alloc _).alloc _, by rw [hw0]; have := (VarA.new (w.alloc (.cells #[.i 7, .i p1, .i q1, .bool d1, .slice ya nm.length yc, .i p2, .i q2, .bool d2, .slice za asn.length zc, .i vl] 26)) 24 #[.i fp, .i fq, .bool fd]).alloc (.cells #[.i 0, .i 0, .i 0, .bool false, .i 0, .slice none 0 0] 29); simpa using this, by rw [hw0]; have := VarA.new ((w.alloc (.cells #[.i 7, .i p1, .i q1, .bool d1, .slice ya nm.length yc, .i p2, .i q2, .bool d2, .slice za asn.length zc, .i vl] 26)).alloc (.cells #[.i fp, .i fq, .bool fd] 24)) 29 #[.i 0, .i 0, .i 0, .bool false, .i 0, .slice none 0 0]; simpa using this⟩
 have HB0 : Hid (Below w.heap.size w w0) := B0
 have z0 := HM0.out.vR.lt
 rw [← hw0]
 clear hw0 vT sL B0
 have HF0 : Hid (∀ W, Below w0.heap.size w0 W → _) := fun W hW => HFT.out W (HB0.out.trans (hW.mono HB0.out.size))
 haveI : Nonempty (Cls w0) := Cls.ne w0
 have kt := Cls.cell HM0.out.vT.lt HM0.out.vT.l1
 have k1 := Cls.cell HM0.out.vO.lt (HM0.out.vO.c 1 rfl)
 have k2 := Cls.cell HM0.out.vO.lt (HM0.out.vO.c 2 rfl)
 have k3 := Cls.cell HM0.out.vO.lt (HM0.out.vO.c 3 rfl)
 refine wp_region_cls (by kernel_rfl) (by kernel_rfl) ?_
 repeat (go_big_quiet_step (first | (go_at_call 96; exact Calls.cls (HF0.out _ (Cls.h _)))))
 refine wpQuiet_nil ?_
 rintro w1 ⟨⟨w1, hb_⟩, rfl⟩
 have HM_w1 : Hid (MD (fun b => b = tb ∨ b = g) w w1 tb lo (.slice (some ⟨g, 0, none⟩) l.length cap) L1 l #[.i 7, .i p1, .i q1, .bool d1, .slice ya nm.length yc, .i p2, .i q2, .bool d2, .slice za asn.length zc, .i vl] #[.i fp, .i fq, .bool fd]) := HM0.out.step hb_
 have HB1 : Hid (Below w.heap.size w w1) := HB0.out.trans (hb_.mono HB0.out.size)
 have z1 := hb_.size
 clear kt k1 k2 k3 this hb_
 clear HF0 HFT HM0 HB0
 have o0 := HM_w1.out.vO.c 0 rfl
 have o3 := HM_w1.out.vO.c 3 rfl
 cases d1 with
 | false =>
  have HC : Hid (res = (l, rc 2)) := by show res = _; rw [← HRES.out]; rfl
  clear HRES
  go_wp2_with ((with_reducible refine gS 29 ?_); refine sF HM_w1.out.vR rfl rfl (by kernel_rfl) rfl rfl ?_; intro wz vR t_)
  refine bpR Tryz.results114 vR Tryz.underlying29 rfl rfl (by kernel_rfl) rfl ?_
  unfold DoPost
  rw [HC.out]
  exact ⟨_, rfl, rd_nil _ _, Turned.own2 HVW.out (HM_w1.out.fin hvt t_ HLR.out (by omega) (fun e => by have e3 : g = w.heap.size + 2 := (by simpa [Value.ownBlock] using e); omega) HLL.out)⟩
 | true =>
  rcases findH_cases l (p1, q1, true) with ⟨hd, hf⟩ | ⟨hd, hf⟩
  case inr =>
   rw [hf]
   have HC : Hid (res = (l, rc 1)) := by show res = _; rw [← HRES.out]; unfold doD; simp [hd]
   clear HRES hd hf
   go_wp2_with ((with_reducible refine gS 29 ?_); refine sF HM_w1.out.vR rfl rfl (by kernel_rfl) rfl rfl ?_; intro wz vR t_)
   refine bpR Tryz.results114 vR Tryz.underlying29 rfl rfl (by kernel_rfl) rfl ?_
   unfold DoPost
   rw [HC.out]
   exact ⟨_, rfl, rd_nil _ _, Turned.own2 HVW.out (HM_w1.out.fin hvt t_ HLR.out (by omega) (fun e => by have e3 : g = w.heap.size + 2 := (by simpa [Value.ownBlock] using e); omega) HLL.out)⟩
  rw [hf]
  clear hf
  unfold doD at HRES
  dsimp only at HRES
  generalize fi l (p1, q1, true) = d at *
  have hdi : (d : Int) < (l.length : Int) := by omega
  have t1 := HM_w1.out.vT.l1
  obtain ⟨xd, rd, cd⟩ := HM_w1.out.s.at hd
  have HRD : Hid _ := rd
  have HCD : Hid _ := cd
  clear rd cd
  have hgw : g < w1.heap.size := Nat.lt_of_lt_of_le hg2 HB1.out.size
  have HC : Hid (res = ((moveD l ⟨7, (p1, q1, true), nm, (p2, q2, d2), asn, vl⟩ d).1, rc (moveD l ⟨7, (p1, q1, true), nm, (p2, q2, d2), asn, vl⟩ d).2)) := by show res = _; rw [← HRES.out]; simp [hd]
  clear HRES o0 o3
  obtain ⟨o0, o1, o2, o3, o4, o5, o6, o7, o8, o9⟩ := HM_w1.out.vO.l10
  have TW : TV w1 tb lo L1 l := ⟨_, HM_w1.out.vT, HM_w1.out.s, hvt⟩
  have HCA : Hid _ := specMove_any tb lo d ⟨7, (p1, q1, true), nm, (p2, q2, d2), asn, vl⟩ _ _ l S2 L1 w1 TW HLT1.out (fun b hb => HLN.out b (by omega)) (Nat.le_trans hlo HB1.out.size) htbl HSM.out hd (HRY.out _ HM_w1.out.t) (HRZ.out _ HM_w1.out.t) HS2.out hn1 hn2 (fun j hj => HIN.out d j hd hj)
  clear TW
  go_wp2_with fail
  refine Calls.mono HCA.out ?_
  rintro r4 w4 ⟨rfl, ⟨v4, vT4, s4, hv4⟩, T4⟩
  have T5 := T4 _ HM_w1.out.vT
  clear T4 HCA
  have T6 : Turned (fun b => b = tb ∨ b = g) w1 w4 := T5.wide (fun b h => h.imp id (fun e => by have e3 : g = b := (by simpa [Value.ownBlock] using e); exact e3.symm))
  have HV4 : Hid (VarA w4 (w.heap.size + 2) 29 #[.i 0, .i 0, .i 0, .bool false, .i 0, .slice none 0 0]) := HM_w1.out.vR.turn T6 (fun e => by rcases e with e | e <;> omega)
  have HT6 : Hid (Turned (fun b => b = tb ∨ b = g) w w4) := HM_w1.out.t.trans T6
  have HS4 : Hid (SG w4 lo L1 v4 _) := s4
  have HVT4 : Hid (VarA w4 tb 55 #[v4]) := vT4
  have HV4R : Hid (v4.ownBlock ≠ some (w.heap.size + 2)) := SG.ne_var s4 HV4.out (by decide)
  clear T5 T6 s4 vT4
  go_wp2_with ((with_reducible refine gS 29 ?_); refine sF HV4.out rfl rfl (by kernel_rfl) rfl rfl ?_; intro wz vR t_)
  refine bpR Tryz.results114 vR Tryz.underlying29 rfl rfl (by kernel_rfl) rfl ?_
  unfold DoPost
  rw [HC.out]
  exact ⟨_, rfl, rd_nil _ _, Turned.own2 HVW.out ⟨TV.ret HVT4.out HS4.out hv4 t_ HLR.out (by omega) HV4R.out HLL.out, HT6.out.trans2 t_ (by omega)⟩⟩
end
section
theorem VarA.new1 (w : World) (o : Obj) (T : TypeId) (cs : Array Value) : VarA ((w.alloc o).alloc (.cells cs T)) (w.heap.size + 1) T cs := by simpa using VarA.new (w.alloc o) T cs
theorem assert_hit {P : Program} {t xT : TypeId} {d : TypeDesc} (hu : P.underlying t = some d) (hd : (match d with | .interface _ => false | _ => true) = true) (v : Value) (w : World) :
  (Instr.typeAssert (.iface t v) xT t true).run P w = .ok (.tuple #[v, .bool true]) w := by
 cases d <;> simp_all [Instr.typeAssert, run_underlying hu]
theorem assert_miss {P : Program} {t a xT : TypeId} {d : TypeDesc} {z : Value} (hu : P.underlying a = some d) (hd : (match d with | .interface _ => false | _ => true) = true) (hne : t ≠ a) (hz : (P.info? a).map (·.zero) = some (some z)) (v : Value) (w : World) :
  (Instr.typeAssert (.iface t v) xT a true).run P w = .ok (.tuple #[z, .bool false]) w := by
 obtain ⟨j, hj, hz'⟩ := Option.map_eq_some_iff.1 hz
 cases d <;> simp_all [Instr.typeAssert, run_underlying hu, zeroValue, typeInfo]
set_option maxHeartbeats 4000000 in
theorem headOf_any (m : MsD) (a1 a2 a3 a4 : Option Addr) (n1 n2 n3 n4 c1 c2 c3 c4 : Nat) (w : World) :
  Calls Tryz.prog 66 #[msV m (.slice a1 n1 c1) (.slice a2 n2 c2) (.slice a3 n3 c3) (.slice a4 n4 c4)] w fun e w' => e = .returned (msV ⟨m.kind, m.fr, m.to, 0, op0, rp0, tx0, pt0, 0, hd0⟩ (.slice none 0 0) (.slice none 0 0) (.slice none 0 0) (.slice none 0 0)) ∧ Below w.heap.size w w' := by
 obtain ⟨kd, fr, to, rq, ⟨ok, ⟨op_, oq, od⟩, nm, ⟨tp, tq, td⟩, asn, ov⟩, ⟨rc, ⟨rp_, rq_, rd⟩, rv, es⟩, ⟨xs, xb, xn⟩, ⟨pk, ⟨pp, pq, pd⟩, pas, ⟨sp, sq, sd⟩⟩, cd, ⟨hp, hq, hd⟩⟩ := m
 simp only [op0, rp0, tx0, pt0, hd0]
 go_enter Tryz.func66, Tryz.ntmps66
 repeat (first | (with_reducible refine guardStore (ty := 35) ?_; refine sF (VarA.new1 _ _ _ _) rfl rfl (by kernel_rfl) rfl rfl ?_; intro w' vR t_) | go_values | go_skip | go_guarded | go_step | go_upon)
 refine bodyPost_ret (results_cell_row Tryz.results66 _ _ _ _ _ _ _ rfl vR Tryz.underlying35 rfl (by kernel_rfl)) rfl ⟨rfl, ?_⟩
 exact Turned.below (Below.newH2 _ _) (t_.one (S := fun b => w.heap.size ≤ b) (by omega)) (by simp; omega) (fun i hi => hi)
end
section
theorem implFlagR (v : Value) (xs : List Int) (d : Bool) (S : Nat → Prop) (w : World) (r : RdV w S v (.bytes xs)) (hl : xs.length ≤ 1900000) : Ap 146 #[v, .bool d] w (xs ++ flagB d) := by
 have H0 : Hid (∀ n W, Below w.heap.size w W → _) := fun n W hW => implPutR v xs n S W (r.step hW) (by omega)
 clear r
 cases d
 ·go_enter Tryz.func146, Tryz.ntmps146
  go_wp2_with fail
  refine Calls.mono (H0.out 0 _ (Below.refl _ _)) ?_
  rintro e w2 ⟨v1, rfl, z1, o1, b_⟩
  go_wp2
  go_ret
  exact ⟨_, rfl, z1, o1, b_⟩
 ·go_enter Tryz.func146, Tryz.ntmps146
  go_wp2_with fail
  refine Calls.mono (H0.out 1 _ (Below.refl _ _)) ?_
  rintro e w2 ⟨v1, rfl, z1, o1, b_⟩
  go_wp2
  go_ret
  exact ⟨_, rfl, z1, o1, b_⟩
def PutV (n : Nat) (w : World) (v : Value) (zs : List Int) : Prop :=
 (∃ k : Int, v = .iface 3 (.i k) ∧ zs = putB k) ∨
 (∃ (x : Value) (ts : List Int), v = .iface 22 x ∧ RdV w (fun _ => True) x (.bytes ts) ∧ ts.length ≤ 1048576 ∧ zs = textB ts) ∨
 (∃ d : Bool, v = .iface 4 (.bool d) ∧ zs = flagB d) ∨
 (1 ≤ n ∧ ∃ h : Hd, v = .iface 24 h.v ∧ zs = hdB h) ∨
 (1 ≤ n ∧ ∃ t : TxD, v = .iface 31 (txV t) ∧ zs = txB t) ∨
 (2 ≤ n ∧ ∃ (o : OpD) (x y : Value), v = .iface 26 (opV o x y) ∧ RdV w (fun _ => True) x (.bytes o.nm) ∧ RdV w (fun _ => True) y (.bytes o.asn) ∧ o.nm.length ≤ 1048576 ∧ o.asn.length ≤ 1048576 ∧ zs = opB o) ∨
 (2 ≤ n ∧ ∃ (o : PtD) (x : Value), v = .iface 33 (ptV o x) ∧ RdV w (fun _ => True) x (.bytes o.asn) ∧ o.asn.length ≤ 1048576 ∧ zs = ptB o) ∨
 (2 ≤ n ∧ ∃ (l : List En) (x : Value), v = .iface 27 x ∧ RdV w (fun _ => True) x (ensDt l) ∧ szEns l ≤ 1048576 ∧ l.length ≤ 12 ∧ zs = putB l.length ++ ensB l) ∨
 (3 ≤ n ∧ ∃ (o : RpD) (x : Value), v = .iface 29 (rpV o x) ∧ RdV w (fun _ => True) x (ensDt o.list) ∧ szEns o.list ≤ 1048576 ∧ o.list.length ≤ 12 ∧ zs = rpB o)
theorem PutV.step {n : Nat} {w w' : World} {v : Value} {zs : List Int} (h : PutV n w v zs) (hb : Below w.heap.size w w') : PutV n w' v zs := by
 rcases h with h | ⟨x, ts, h1, h2, h3⟩ | h | h | h | ⟨hn, o, x, y, h1, h2, h3, h4⟩ | ⟨hn, o, x, h1, h2, h3⟩ | ⟨hn, l, x, h1, h2, h3⟩ | ⟨hn, o, x, h1, h2, h3⟩
 ·exact .inl h
 ·exact .inr (.inl ⟨x, ts, h1, h2.step hb, h3⟩)
 ·exact .inr (.inr (.inl h))
 ·exact .inr (.inr (.inr (.inl h)))
 ·exact .inr (.inr (.inr (.inr (.inl h))))
 ·exact .inr (.inr (.inr (.inr (.inr (.inl ⟨hn, o, x, y, h1, h2.step hb, h3.step hb, h4⟩)))))
 ·exact .inr (.inr (.inr (.inr (.inr (.inr (.inl ⟨hn, o, x, h1, h2.step hb, h3⟩))))))
 ·exact .inr (.inr (.inr (.inr (.inr (.inr (.inr (.inl ⟨hn, l, x, h1, h2.step hb, h3⟩)))))))
 ·exact .inr (.inr (.inr (.inr (.inr (.inr (.inr (.inr ⟨hn, o, x, h1, h2.step hb, h3⟩)))))))
def PutL (n : Nat) (w : World) (g : Nat) (vs : List (Value × List Int)) : Prop := w.heap[g]? = some (.cells (vs.map (·.1)).toArray 20 (0, 0)) ∧ ∀ i, i < vs.length → PutV n w (vs[i]?.getD (undef, [])).1 (vs[i]?.getD (undef, [])).2
theorem PutL.step {n : Nat} {w w' : World} {g : Nat} {vs : List (Value × List Int)} (h : PutL n w g vs) (hb : Below w.heap.size w w') : PutL n w' g vs :=
 ⟨(hb.block g (lt_of_block h.1)).trans h.1, fun i hi => (h.2 i hi).step hb⟩
def sumB (vs : List (Value × List Int)) (k : Nat) : List Int := (vs.take k).flatMap (·.2)
theorem sumB_next (vs : List (Value × List Int)) (k : Nat) (h : k < vs.length) : sumB vs (k + 1) = sumB vs k ++ (vs[k]?.getD (undef, [])).2 := by
 unfold sumB
 rw [← List.take_append_getElem h, List.flatMap_append, List.getElem?_eq_getElem h]; simp
end
section
theorem results_row_tmp {fn : Func} {p u : Tmp} {ty : TypeId} (h : fn.results = #[.cell p ty, .tmp u]) (tmps : Array Value) (w : World) (g : Nat) (t : TypeId) (cs : Array Value) (d : TypeDesc)
  (hp : tmps.getD p undef = .pointer (some ⟨g, 0, none⟩)) (hg : VarA w g t cs)
  (hu : Tryz.prog.underlying ty = some d) (hd : d.isRow = true) (hi : (Tryz.prog.info? ty).map (·.size) = some cs.size) :
  (results fn tmps).run Tryz.prog w = .ok (.tuple #[.agg cs, tmps.getD u undef]) w := by
 rw [results_cell_tmp h, hp]
 simp [asAddr, loadA_run hg hu hd hi]
theorem wpList_loadW {ty t' : TypeId} {dst : Option Tmp} {x : Operand} {pos : String} {af : Array Edge} {gd : Option (Nat × Bool)} {ops : Array Oper} {rest : List Oper} {a : Act} {Q : Exit → Act → World → Prop} {w : World} {g : Nat} {T : TypeId} {cs : Array Value} {d : TypeDesc}
  (hw : Region.wanted ⟨dst, .load ty x, t', pos, af, gd⟩ (yielded ops a.tmps) = true) (hv : VarA w g T cs) (hx : a.eval x = .pointer (some ⟨g, 0, none⟩)) (hu : Tryz.prog.underlying ty = some d) (hd : d.isRow = true) (hi : (Tryz.prog.info? ty).map (·.size) = some cs.size)
  (hK : wpList Tryz.prog ops Q rest (a.put dst (.agg cs)) w) :
  wpList Tryz.prog ops Q (⟨dst, .load ty x, t', pos, af, gd⟩ :: rest) a w := by
 refine BigFrame.wpList_want hw fun K' hK' => ?_
 unfold Oper.wp execOp
 simp only [hx, Instr.loadAt, Instr.sureAddr, Sem.run_bind, Sem.run_pure, Result.andThen_ok, loadA_run hv hu hd hi]
 exact hK' _ _ hK
theorem guardLoadW {ty t' : TypeId} {dst : Option Tmp} {x : Operand} {pos : String} {af : Array Edge} {gd : Option (Nat × Bool)} {ops : Array Oper} {rest : List Oper} {a : Act} {Q : Exit → Act → World → Prop} {w : World}
  (h : wpList Tryz.prog ops Q (⟨dst, .load ty x, t', pos, af, gd⟩ :: rest) a w) : wpList Tryz.prog ops Q (⟨dst, .load ty x, t', pos, af, gd⟩ :: rest) a w := h
theorem RdV.here {w : World} {S : Nat → Prop} {v : Value} {zs : List Int} (r : RdV w S v (.bytes zs)) : RdV w (fun b => b < w.heap.size) v (.bytes zs) := by
 obtain ⟨hb, a, len, cap, hv, hl, hh, hc⟩ := r.b
 refine ⟨hb, a, len, cap, hv, hl, hh, ?_⟩
 rcases hc with h0 | ⟨b, off, ha, h1, h2, hc⟩
 ·exact .inl h0
 ·exact .inr ⟨b, off, ha, h2, h2, hc⟩
theorem CurV.start {w : World} {S : Nat → Prop} {v : Value} {zs : List Int} (T : TypeId) (o : Obj) (r : RdV w S v (.bytes zs)) : CurV T (w.heap.size + 1) zs v 0 ((w.alloc o).alloc (.cells #[v, .i 0] T)) :=
 ⟨VarA.new1 w o T _, RdV.mono (fun b hb => by omega) (RdV.step r.here ((Below.new1 (w := w) o).trans ((Below.new1 (w := w.alloc o) _).mono (by simp)))), by omega, by omega⟩
theorem OwM.nil (w : World) (S : Nat → Prop) : OwM w S ms0 (.slice none 0 0) (.slice none 0 0) (.slice none 0 0) (.slice none 0 0) :=
 ⟨fun _ => False, fun _ => False, fun _ => False, fun _ => False, OwV.nilB _ _, OwV.nilB _ _, OwV.nilR _ _ _ _ _, OwV.nilB _ _, fun b hb => by rcases hb with h | h | h | h <;> exact h.elim, fun b hb => hb.elim, fun b hb => hb.elim, fun b hb => hb.elim⟩
set_option maxHeartbeats 2000000 in
theorem implEndC (pb : Nat) (zs : List Int) (v : Value) (p : Int) (w : World) (h : CurV 108 pb zs v p w) (hl : zs.length ≤ 2000000) :
  Calls Tryz.prog 70 #[.pointer (some ⟨pb, 0, none⟩)] w fun e w' => e = .returned (.bool (decide (p = zs.length))) ∧ Below w.heap.size w w' := by
 obtain ⟨c0, c1⟩ := VarA.l2 h.1
 obtain ⟨a, cap, rfl⟩ := RdV.sliceB h.2.1
 clear h
 have hb : (p == (zs.length : Int)) = decide (p = zs.length) := by simp [BEq.beq]
 rw [← hb]
 clear hb
 go_enter Tryz.func70, Tryz.ntmps70
 go_wp2
 all_goals first
  | (go_ret; exact ⟨rfl, by repeat (first | exact Below.refl _ _ | refine Below.drew ?_ | refine below_drewN2 ?_ _)⟩)
  | (go_quiet (fail); go_wp2; go_ret; exact ⟨rfl, by repeat (first | exact Below.refl _ _ | refine Below.drew ?_ | refine below_drewN2 ?_ _)⟩)
theorem szEns_le40 : ∀ (l : List En), (∀ e ∈ l, e.nm.length ≤ 40) → szEns l ≤ 41 * l.length
 | [], _ => by simp [szEns]
 | e :: l, h => by
  have h1 := szEns_le40 l (fun x hx => h x (List.mem_cons_of_mem _ hx))
  have h2 := h e (List.mem_cons_self ..)
  unfold szEns at h1 ⊢
  simp only [List.map_cons, List.sum_cons, List.length_cons] at h1 ⊢
  omega
theorem ensP_40 (zs : List Int) (k : Nat) : ∀ p : Int, ∀ e ∈ (rdEnsP zs k p).1, e.nm.length ≤ 40 := by
 induction k with
 | zero => intro p e he; cases he
 | succ k ih =>
  intro p e he
  rw [rdEnsP] at he
  rcases List.mem_cons.1 he with h | h
  ·rw [h]; exact getText_len zs p
  ·exact ih _ e h
theorem szP (zs : List Int) (p : Int) : szEns (rdEnP zs p).1 ≤ 1000 := by
 unfold rdEnP
 split
 ·simp [szEns]
 ·have h1 := szEns_le40 _ (ensP_40 zs (getNum zs p).1.toNat (getNum zs p).2)
  have h2 := ensP_len zs (getNum zs p).1.toNat (getNum zs p).2
  omega
theorem step_loadA {ty t' : TypeId} {dst : Option Tmp} {x : Operand} {pos : String} {af : Array Edge} {ops : Array Oper} {a : Act} {K : Act → World → Prop} {Q : Exit → Act → World → Prop} {E : Prop} {w : World} {g : Nat} {T : TypeId} {cs : Array Value} {d : TypeDesc}
  (hv : VarA w g T cs) (hx : a.eval x = .pointer (some ⟨g, 0, none⟩)) (hu : Tryz.prog.underlying ty = some d) (hd : d.isRow = true) (hi : (Tryz.prog.info? ty).map (·.size) = some cs.size)
  (hK : K (a.put dst (.agg cs)) w) :
  if Region.wanted ⟨dst, .load ty x, t', pos, af, none⟩ (yielded ops a.tmps) = true then Oper.wp Tryz.prog ⟨dst, .load ty x, t', pos, af, none⟩ a w K Q else E := by
 rw [if_pos (by simp [Region.wanted])]
 unfold Oper.wp execOp
 simp only [hx, Instr.loadAt, Instr.sureAddr, Sem.run_bind, Sem.run_pure, Result.andThen_ok, loadA_run hv hu hd hi]
 exact hK
theorem rdOp40 (zs : List Int) (p : Int) : (rdOp zs p).1.nm.length ≤ 40 ∧ (rdOp zs p).1.asn.length ≤ 40 := ⟨getText_len zs _, getText_len zs _⟩
theorem rdPt40 (zs : List Int) (p : Int) : (rdPt zs p).1.asn.length ≤ 40 := getText_len zs _
theorem szMd (e : Int → List En × Int) (he : ∀ p, szEns (e p).1 ≤ 1000) (zs : List Int) : szMs (rdMs e zs).1 ≤ 2000 := by
 have h0 : szEns ([] : List En) = 0 := by simp [szEns]
 have g0 := rdOp40 zs (getNum zs (getNum zs (getNum zs (getNum zs 0).2).2).2).2
 have g1 : szEns (rdRp e zs (getNum zs (getNum zs (getNum zs (getNum zs 0).2).2).2).2).1.list ≤ 1000 := he _
 have g2 := rdPt40 zs (rdTx zs (getNum zs (getNum zs (getNum zs 0).2).2).2).2
 unfold rdMs
 dsimp only
 repeat' split
 all_goals (simp only [szMs, op0, rp0, pt0, h0, List.length_nil]; omega)
def msRead (zs : List Int) : MsD × Bool := if (rdMs (rdEnP zs) zs).2 = zs.length ∧ MOk (rdMs (rdEnP zs) zs).1 = true then ((rdMs (rdEnP zs) zs).1, true) else (ms0, false)
theorem MOk_out {m : MsD} (h : m.kind < 0 ∨ 7 < m.kind) : MOk m = false := by unfold MOk; rcases h with h | h <;> simp <;> omega
theorem msRead_out {zs : List Int} (h : (getNum zs 0).1 < 0 ∨ 7 < (getNum zs 0).1) : msRead zs = (ms0, false) := by
 unfold msRead
 rw [if_neg]
 intro g
 have hk : (rdMs (rdEnP zs) zs).1.kind = (getNum zs 0).1 := by
  unfold rdMs
  dsimp only
  repeat' split
  all_goals rfl
 have := MOk_out (m := (rdMs (rdEnP zs) zs).1) (by rw [hk]; exact h)
 rw [this] at g
 cases g.2
end
section
theorem end_r {n : Int} (h : isEndB n = true) : NumR n := by simp only [isEndB, Bool.and_eq_true, decide_eq_true_eq] at h; exact ⟨h.1, by omega⟩
theorem msg_end {zs : List Int} {m : MsD} (hz : isBytes zs) (h1 : (rdMs (rdEnP zs) zs).1 = m) (h2 : 0 ≤ (rdMs (rdEnP zs) zs).2) (h3 : msB m = zs) (h4 : MOk m = true) : msRead zs = (m, true) := by
 have t := ms_took hz h2
 rw [h1, h3] at t
 have hs : (rdMs (rdEnP zs) zs).2 = zs.length := took_end t
 unfold msRead
 rw [h1, if_pos ⟨hs, h4⟩]
theorem MOk_back {m : MsD} (hz : isBytes (outB m)) (h : MOk m = true) : msRead (outB m) = (m, true) := by
 have ho : outB m = msB m := by unfold outB; rw [if_pos h]
 rw [ho] at hz ⊢
 have h' := h
 obtain ⟨kd, fr, tq, rq, o, r, t, p, cd, hh⟩ := m
 unfold MOk at h
 simp only [Bool.and_eq_true, decide_eq_true_eq] at h
 obtain ⟨⟨hk0, hk1⟩, ⟨f1, f2⟩, hb⟩ := h
 have hk : kd = 0 ∨ kd = 1 ∨ kd = 2 ∨ kd = 3 ∨ kd = 4 ∨ kd = 5 ∨ kd = 6 ∨ kd = 7 := by omega
 rcases hk with rfl | rfl | rfl | rfl | rfl | rfl | rfl | rfl
 ·simp only [MBody, if_true, Bool.and_eq_true, decide_eq_true_eq] at hb
  obtain ⟨⟨b1, b2⟩, z1, z2, z3, rfl, rfl⟩ := hb
  obtain rfl := zRp_eq z1
  obtain rfl := zTx_eq z2
  obtain rfl := zPt_eq z3
  have e : msB ⟨0, fr, tq, rq, o, rp0, tx0, pt0, 0, hd0⟩ = putB 0 ++ (putB fr ++ (putB tq ++ (putB rq ++ (opB o ++ [])))) := by simp [msB, msRest]
  rw [e] at hz ⊢
  obtain ⟨a1, _, q1⟩ := (Stands.all (putB 0 ++ (putB fr ++ (putB tq ++ (putB rq ++ (opB o ++ [])))))).num ⟨by decide, by decide⟩
  obtain ⟨a2, _, q2⟩ := q1.num (end_r f1)
  obtain ⟨a3, _, q3⟩ := q2.num (end_r f2)
  obtain ⟨a4, _, q4⟩ := q3.num (num_r b1)
  obtain ⟨a5, q5⟩ := q4.op (OOk_n b2)
  refine msg_end hz ?_ ?_ (by simp [msB, msRest]) (by simpa [MOk, MBody] using h')
  ·simp only [rdMs, a1, if_true, a2, a3, a4, a5]
  ·simp only [rdMs, a1, if_true]
   exact q5.pos
 ·simp only [MBody, show ¬ ((1 : Int) = 0) by omega, if_false, if_true, Bool.and_eq_true, decide_eq_true_eq] at hb
  obtain ⟨⟨b1, b2⟩, z1, z2, z3, rfl, rfl⟩ := hb
  obtain rfl := zOp_eq z1
  obtain rfl := zTx_eq z2
  obtain rfl := zPt_eq z3
  have e : msB ⟨1, fr, tq, rq, op0, r, tx0, pt0, 0, hd0⟩ = putB 1 ++ (putB fr ++ (putB tq ++ (putB rq ++ (rpB r ++ [])))) := by simp [msB, msRest]
  rw [e] at hz ⊢
  obtain ⟨a1, _, q1⟩ := (Stands.all (putB 1 ++ (putB fr ++ (putB tq ++ (putB rq ++ (rpB r ++ [])))))).num ⟨by decide, by decide⟩
  obtain ⟨a2, _, q2⟩ := q1.num (end_r f1)
  obtain ⟨a3, _, q3⟩ := q2.num (end_r f2)
  obtain ⟨a4, _, q4⟩ := q3.num (num_r b1)
  obtain ⟨a5, q5⟩ := q4.rp (ROk_n b2)
  refine msg_end hz ?_ ?_ (by simp [msB, msRest]) (by simpa [MOk, MBody] using h')
  ·simp only [rdMs, a1, show ¬ ((1 : Int) = 0) by omega, if_false, if_true, a2, a3, a4, a5]
  ·simp only [rdMs, a1, show ¬ ((1 : Int) = 0) by omega, if_false, if_true]
   exact q5.pos
 ·simp only [MBody, show ¬ ((2 : Int) = 0) by omega, show ¬ ((2 : Int) = 1) by omega, if_false, if_true, Bool.and_eq_true, decide_eq_true_eq] at hb
  obtain ⟨⟨b1, b2⟩, rfl, z1, z2, rfl, rfl⟩ := hb
  obtain rfl := zOp_eq z1
  obtain rfl := zRp_eq z2
  have e : msB ⟨2, fr, tq, 0, op0, rp0, t, p, 0, hd0⟩ = putB 2 ++ (putB fr ++ (putB tq ++ (txB t ++ (ptB p ++ [])))) := by simp [msB, msRest]
  rw [e] at hz ⊢
  obtain ⟨a1, _, q1⟩ := (Stands.all (putB 2 ++ (putB fr ++ (putB tq ++ (txB t ++ (ptB p ++ [])))))).num ⟨by decide, by decide⟩
  obtain ⟨a2, _, q2⟩ := q1.num (end_r f1)
  obtain ⟨a3, _, q3⟩ := q2.num (end_r f2)
  obtain ⟨a4, q4⟩ := q3.tx (TOk_n b1)
  obtain ⟨a5, q5⟩ := q4.pt (POk_n b2)
  refine msg_end hz ?_ ?_ (by simp [msB, msRest]) (by simpa [MOk, MBody] using h')
  ·simp only [rdMs, a1, show ¬ ((2 : Int) = 0) by omega, show ¬ ((2 : Int) = 1) by omega, if_false, if_true, a2, a3, a4, a5]
  ·simp only [rdMs, a1, show ¬ ((2 : Int) = 0) by omega, show ¬ ((2 : Int) = 1) by omega, if_false, if_true]
   exact q5.pos
 ·simp only [MBody, show ¬ ((3 : Int) = 0) by omega, show ¬ ((3 : Int) = 1) by omega, show ¬ ((3 : Int) = 2) by omega, if_false, if_true, Bool.and_eq_true, decide_eq_true_eq] at hb
  obtain ⟨⟨b1, b2, b3, b4⟩, rfl, z1, z2⟩ := hb
  obtain rfl := zOp_eq z1
  obtain rfl := zRp_eq z2
  have e : msB ⟨3, fr, tq, 0, op0, rp0, t, p, cd, hh⟩ = putB 3 ++ (putB fr ++ (putB tq ++ (txB t ++ (ptB p ++ (putB cd ++ (hdB hh ++ [])))))) := by simp [msB, msRest]
  rw [e] at hz ⊢
  obtain ⟨a1, _, q1⟩ := (Stands.all (putB 3 ++ (putB fr ++ (putB tq ++ (txB t ++ (ptB p ++ (putB cd ++ (hdB hh ++ [])))))))).num ⟨by decide, by decide⟩
  obtain ⟨a2, _, q2⟩ := q1.num (end_r f1)
  obtain ⟨a3, _, q3⟩ := q2.num (end_r f2)
  obtain ⟨a4, q4⟩ := q3.tx (TOk_n b1)
  obtain ⟨a5, q5⟩ := q4.pt (POk_n b2)
  obtain ⟨a6, _, q6⟩ := q5.num (cd_r b3)
  obtain ⟨a7, q7⟩ := q6.hd (none_n b4)
  refine msg_end hz ?_ ?_ (by simp [msB, msRest]) (by simpa [MOk, MBody] using h')
  ·simp only [rdMs, a1, show ¬ ((3 : Int) = 0) by omega, show ¬ ((3 : Int) = 1) by omega, show ¬ ((3 : Int) = 2) by omega, if_false, if_true, a2, a3, a4, a5, a6, a7]
  ·simp only [rdMs, a1, show ¬ ((3 : Int) = 0) by omega, show ¬ ((3 : Int) = 1) by omega, show ¬ ((3 : Int) = 2) by omega, if_false, if_true]
   exact q7.pos
 ·simp only [MBody, show ¬ ((4 : Int) = 0) by omega, show ¬ ((4 : Int) = 1) by omega, show ¬ ((4 : Int) = 2) by omega, show ¬ ((4 : Int) = 3) by omega, if_false, if_true, Bool.and_eq_true, decide_eq_true_eq] at hb
  obtain ⟨b1, rfl, z1, z2, z3, rfl, rfl⟩ := hb
  obtain rfl := zOp_eq z1
  obtain rfl := zRp_eq z2
  obtain rfl := zPt_eq z3
  have e : msB ⟨4, fr, tq, 0, op0, rp0, t, pt0, 0, hd0⟩ = putB 4 ++ (putB fr ++ (putB tq ++ (txB t ++ []))) := by simp [msB, msRest]
  rw [e] at hz ⊢
  obtain ⟨a1, _, q1⟩ := (Stands.all (putB 4 ++ (putB fr ++ (putB tq ++ (txB t ++ []))))).num ⟨by decide, by decide⟩
  obtain ⟨a2, _, q2⟩ := q1.num (end_r f1)
  obtain ⟨a3, _, q3⟩ := q2.num (end_r f2)
  obtain ⟨a4, q4⟩ := q3.tx (TOk_n b1)
  refine msg_end hz ?_ ?_ (by simp [msB, msRest]) (by simpa [MOk, MBody] using h')
  ·simp only [rdMs, a1, show ¬ ((4 : Int) = 0) by omega, show ¬ ((4 : Int) = 1) by omega, show ¬ ((4 : Int) = 2) by omega, show ¬ ((4 : Int) = 3) by omega, show ¬ ((4 : Int) = 5) by omega, show ¬ ((4 : Int) = 6) by omega, show ¬ ((4 : Int) = 7) by omega, if_false, a2, a3, a4]
  ·simp only [rdMs, a1, show ¬ ((4 : Int) = 0) by omega, show ¬ ((4 : Int) = 1) by omega, show ¬ ((4 : Int) = 2) by omega, show ¬ ((4 : Int) = 3) by omega, show ¬ ((4 : Int) = 5) by omega, show ¬ ((4 : Int) = 6) by omega, show ¬ ((4 : Int) = 7) by omega, if_false]
   exact q4.pos
 ·simp only [MBody, show ¬ ((5 : Int) = 0) by omega, show ¬ ((5 : Int) = 1) by omega, show ¬ ((5 : Int) = 2) by omega, show ¬ ((5 : Int) = 3) by omega, show ¬ ((5 : Int) = 4) by omega, if_false, if_true, Bool.and_eq_true, decide_eq_true_eq] at hb
  obtain ⟨⟨b1, b2⟩, rfl, z1, z2, z3, rfl⟩ := hb
  obtain rfl := zOp_eq z1
  obtain rfl := zRp_eq z2
  obtain rfl := zPt_eq z3
  have e : msB ⟨5, fr, tq, 0, op0, rp0, t, pt0, cd, hd0⟩ = putB 5 ++ (putB fr ++ (putB tq ++ (txB t ++ (putB cd ++ [])))) := by simp [msB, msRest]
  rw [e] at hz ⊢
  obtain ⟨a1, _, q1⟩ := (Stands.all (putB 5 ++ (putB fr ++ (putB tq ++ (txB t ++ (putB cd ++ [])))))).num ⟨by decide, by decide⟩
  obtain ⟨a2, _, q2⟩ := q1.num (end_r f1)
  obtain ⟨a3, _, q3⟩ := q2.num (end_r f2)
  obtain ⟨a4, q4⟩ := q3.tx (TOk_n b1)
  obtain ⟨a5, _, q5⟩ := q4.num (bit_r b2)
  refine msg_end hz ?_ ?_ (by simp [msB, msRest]) (by simpa [MOk, MBody] using h')
  ·simp only [rdMs, a1, show ¬ ((5 : Int) = 0) by omega, show ¬ ((5 : Int) = 1) by omega, show ¬ ((5 : Int) = 2) by omega, show ¬ ((5 : Int) = 3) by omega, if_false, if_true, a2, a3, a4, a5]
  ·simp only [rdMs, a1, show ¬ ((5 : Int) = 0) by omega, show ¬ ((5 : Int) = 1) by omega, show ¬ ((5 : Int) = 2) by omega, show ¬ ((5 : Int) = 3) by omega, if_false, if_true]
   exact q5.pos
 ·simp only [MBody, show ¬ ((6 : Int) = 0) by omega, show ¬ ((6 : Int) = 1) by omega, show ¬ ((6 : Int) = 2) by omega, show ¬ ((6 : Int) = 3) by omega, show ¬ ((6 : Int) = 4) by omega, show ¬ ((6 : Int) = 5) by omega, if_false, if_true, Bool.and_eq_true, decide_eq_true_eq] at hb
  obtain ⟨⟨b1, b2, b3, b4⟩, z1, z2, z3, rfl⟩ := hb
  obtain rfl := zOp_eq z1
  obtain rfl := zRp_eq z2
  obtain rfl := zPt_eq z3
  have e : msB ⟨6, fr, tq, rq, op0, rp0, t, pt0, 0, hh⟩ = putB 6 ++ (putB fr ++ (putB tq ++ (txB t ++ (putB rq ++ (hdB hh ++ []))))) := by simp [msB, msRest]
  rw [e] at hz ⊢
  obtain ⟨a1, _, q1⟩ := (Stands.all (putB 6 ++ (putB fr ++ (putB tq ++ (txB t ++ (putB rq ++ (hdB hh ++ []))))))).num ⟨by decide, by decide⟩
  obtain ⟨a2, _, q2⟩ := q1.num (end_r f1)
  obtain ⟨a3, _, q3⟩ := q2.num (end_r f2)
  obtain ⟨a4, q4⟩ := q3.tx (TOk_n b1)
  obtain ⟨a5, _, q5⟩ := q4.num (num_r b2)
  obtain ⟨a6, q6⟩ := q5.hd (HOk_n b3)
  refine msg_end hz ?_ ?_ (by simp [msB, msRest]) (by simpa [MOk, MBody] using h')
  ·simp only [rdMs, a1, show ¬ ((6 : Int) = 0) by omega, show ¬ ((6 : Int) = 1) by omega, show ¬ ((6 : Int) = 2) by omega, show ¬ ((6 : Int) = 3) by omega, show ¬ ((6 : Int) = 5) by omega, if_false, if_true, a2, a3, a4, a5, a6]
  ·simp only [rdMs, a1, show ¬ ((6 : Int) = 0) by omega, show ¬ ((6 : Int) = 1) by omega, show ¬ ((6 : Int) = 2) by omega, show ¬ ((6 : Int) = 3) by omega, show ¬ ((6 : Int) = 5) by omega, if_false, if_true]
   exact q6.pos
 ·simp only [MBody, show ¬ ((7 : Int) = 0) by omega, show ¬ ((7 : Int) = 1) by omega, show ¬ ((7 : Int) = 2) by omega, show ¬ ((7 : Int) = 3) by omega, show ¬ ((7 : Int) = 4) by omega, show ¬ ((7 : Int) = 5) by omega, show ¬ ((7 : Int) = 6) by omega, if_false, Bool.and_eq_true, decide_eq_true_eq] at hb
  obtain ⟨⟨b1, b2, b3, b4⟩, z1, z2, z3⟩ := hb
  obtain rfl := zOp_eq z1
  obtain rfl := zRp_eq z2
  obtain rfl := zPt_eq z3
  have e : msB ⟨7, fr, tq, rq, op0, rp0, t, pt0, cd, hh⟩ = putB 7 ++ (putB fr ++ (putB tq ++ (txB t ++ (putB rq ++ (putB cd ++ (hdB hh ++ [])))))) := by simp [msB, msRest]
  rw [e] at hz ⊢
  obtain ⟨a1, _, q1⟩ := (Stands.all (putB 7 ++ (putB fr ++ (putB tq ++ (txB t ++ (putB rq ++ (putB cd ++ (hdB hh ++ [])))))))).num ⟨by decide, by decide⟩
  obtain ⟨a2, _, q2⟩ := q1.num (end_r f1)
  obtain ⟨a3, _, q3⟩ := q2.num (end_r f2)
  obtain ⟨a4, q4⟩ := q3.tx (TOk_n b1)
  obtain ⟨a5, _, q5⟩ := q4.num (num_r b2)
  obtain ⟨a6, _, q6⟩ := q5.num (cd_r b3)
  obtain ⟨a7, q7⟩ := q6.hd (none_n b4)
  refine msg_end hz ?_ ?_ (by simp [msB, msRest]) (by simpa [MOk, MBody] using h')
  ·simp only [rdMs, a1, show ¬ ((7 : Int) = 0) by omega, show ¬ ((7 : Int) = 1) by omega, show ¬ ((7 : Int) = 2) by omega, show ¬ ((7 : Int) = 3) by omega, show ¬ ((7 : Int) = 5) by omega, show ¬ ((7 : Int) = 6) by omega, if_false, if_true, a2, a3, a4, a5, a6, a7]
  ·simp only [rdMs, a1, show ¬ ((7 : Int) = 0) by omega, show ¬ ((7 : Int) = 1) by omega, show ¬ ((7 : Int) = 2) by omega, show ¬ ((7 : Int) = 3) by omega, show ¬ ((7 : Int) = 5) by omega, show ¬ ((7 : Int) = 6) by omega, if_false, if_true]
   exact q7.pos
theorem msRead_only {zs : List Int} (hz : isBytes zs) (h : (msRead zs).2 = true) : MOk (msRead zs).1 = true ∧ outB (msRead zs).1 = zs := by
 unfold msRead at h ⊢
 split at h
 ·rename_i hc
  rw [if_pos hc]
  refine ⟨hc.2, ?_⟩
  unfold outB
  rw [if_pos hc.2]
  have t := ms_took hz (by rw [hc.1]; omega)
  rw [hc.1] at t
  exact t.all
 ·simp at h
end
end Go.Proofs.YtklhikadhohjbaaGreat
