/- The specification's doing of an operation of the kind 1. Condition: at most 3,000 nodes, of at most 4,000 entries each; each entry's node is there. -/
import Derived.Test.YtcicadfhfojdpaaGreatRA01
import Derived.Test.YtcicadfhfojdpaaGreatRA05
namespace Go.Proofs.YtcicadfhfojdpaaGreat
open Go.RowKit
set_option linter.unusedVariables false
set_option linter.unusedSimpArgs false
set_option maxRecDepth 100000

set_option maxHeartbeats 8000000 in
theorem specDo1 (tb lo : Nat) (o : OpD) (fr : Hd) (y z : Value) (l : List Nd) (S2 L : Nat → Prop) (w : World) (tv : TV w tb lo L l) (hLt : ¬ L tb) (hLn : ∀ b, w.heap.size ≤ b → L b) (h0 : 0 < l.length) (hlo : lo ≤ w.heap.size) (htbl : lo ≤ tb) (sm : Small l) (hsz : szNds l ≤ 2097152) (r1 : RdV w S2 y (.bytes o.nm)) (r2 : RdV w S2 z (.bytes o.asn)) (hS2 : ∀ b, S2 b → b < lo) (hn1 : o.nm.length ≤ 2097152) (hn2 : o.asn.length ≤ 2097152)
  (hin : ∀ i j, i < l.length → j < (l[i]?.getD nd0).es.length → fi l ((l[i]?.getD nd0).es[j]?.getD en0).h < l.length) (hkd : o.kind = 1) :
  Calls Tryz.prog 62 #[.pointer (some ⟨tb, 0, none⟩), opV o y z, fr.v] w (DoPost w tb lo L (doD l o fr)) := by
 obtain ⟨v, vT, s, hvt⟩ := tv
 obtain ⟨g, cap, rfl, hg1, hg2, hgf, hcap⟩ := s.head h0
 have htb := vT.lt
 have hgt : g ≠ tb := fun e => hvt (by rw [e]; rfl)
 have HVW : Hid (VarA w tb 25 #[.slice (some ⟨g, 0, none⟩) l.length cap]) := vT
 obtain ⟨ya, yc, rfl⟩ := r1.sliceB
 obtain ⟨za, zc, rfl⟩ := r2.sliceB
 obtain ⟨kd, ⟨p1, q1, d1⟩, nm, ⟨p2, q2, d2⟩, asn, vl⟩ := o
 obtain ⟨fp, fq, fd⟩ := fr
 dsimp only at r1 r2 hn1 hn2 hkd ⊢
 subst hkd
 obtain ⟨res, hres⟩ : ∃ r, doD l ⟨1, (p1, q1, d1), nm, (p2, q2, d2), asn, vl⟩ (fp, fq, fd) = r := ⟨_, rfl⟩
 rw [hres]
 have HRES : Hid (doD l ⟨1, (p1, q1, d1), nm, (p2, q2, d2), asn, vl⟩ (fp, fq, fd) = res) := hres
 clear hres
 have hl := sm.1
 have HEL : Hid (∀ i : Nat, (l[i]?.getD nd0).es.length ≤ 4000 ∧ 0 ≤ (l[i]?.getD nd0).links ∧ (l[i]?.getD nd0).links ≤ 2147483647) := sm.2
 have HFT : Hid (∀ W, Below w.heap.size w W → _) := fun W hW => specFind_any _ l (p1, q1, d1) _ W (RdV.step s.rd hW) (by omega)
 have HRY : Hid (∀ W, Turned (fun b => b = tb ∨ b = g) w W → RdV W S2 (.slice ya nm.length yc) (.bytes nm)) := fun W t => RdV.keep (t.keeps (fun b hb h => by have := hS2 b hb; rcases h with h | h <;> omega)) r1
 have HRZ : Hid (∀ W, Turned (fun b => b = tb ∨ b = g) w W → RdV W S2 (.slice za asn.length zc) (.bytes asn)) := fun W t => RdV.keep (t.keeps (fun b hb h => by have := hS2 b hb; rcases h with h | h <;> omega)) r2
 have HS2 : Hid (∀ b, S2 b → b < lo) := hS2
 have HSM : Hid (Small l) := sm
 have HIN : Hid (∀ i j, i < l.length → j < (l[i]?.getD nd0).es.length → fi l ((l[i]?.getD nd0).es[j]?.getD en0).h < l.length) := hin
 have sL : SG w lo (fun b => L b ∧ b ≠ w.heap.size + 2) _ l := s.mono (fun b hb h => ⟨h, by omega⟩)
 obtain ⟨L1, hL1⟩ : ∃ M : Nat → Prop, M = fun b => L b ∧ b ≠ w.heap.size + 2 := ⟨_, rfl⟩
 rw [← hL1] at sL
 have HLR : Hid (¬ L1 (w.heap.size + 2)) := by rw [hL1]; exact fun h => h.2 rfl
 have HLL : Hid (∀ b, L1 b → L b) := by rw [hL1]; exact fun b h => h.1
 have HLT1 : Hid (¬ L1 tb) := by rw [hL1]; exact fun h => hLt h.1
 have HLN : Hid (∀ b, w.heap.size + 3 ≤ b → L1 b) := by rw [hL1]; exact fun b h => ⟨hLn b (by omega), by omega⟩
 clear hL1 s sm hin r1 r2 hS2
 go_enter Tryz.func62, Tryz.ntmps62
 go_wp2
 obtain ⟨w0, hw0⟩ : ∃ W, W = ((w.alloc (.cells #[.i 1, .i p1, .i q1, .bool d1, .slice ya nm.length yc, .i p2, .i q2, .bool d2, .slice za asn.length zc, .i vl] 29)).alloc (.cells #[.i fp, .i fq, .bool fd] 27)).alloc (.cells #[.i 0, .i 0, .i 0, .bool false, .i 0, .n0] 34) := ⟨_, rfl⟩
 have B0 : Below w.heap.size w w0 := by rw [hw0]; exact (((Below.refl _ _).alloc (Nat.le_refl _) _).alloc (by simp) _).alloc (by simp; omega) _
 have HM0 : Hid (MD (fun b => b = tb ∨ b = g) w w0 tb lo (.slice (some ⟨g, 0, none⟩) l.length cap) L1 l #[.i 1, .i p1, .i q1, .bool d1, .slice ya nm.length yc, .i p2, .i q2, .bool d2, .slice za asn.length zc, .i vl] #[.i fp, .i fq, .bool fd]) := ⟨Turned.ofBelow B0, vT.step B0, sL.step B0, by rw [hw0]; exact ((VarA.new w _ _).alloc _).alloc _, by rw [hw0]; have := (VarA.new (w.alloc (.cells #[.i 1, .i p1, .i q1, .bool d1, .slice ya nm.length yc, .i p2, .i q2, .bool d2, .slice za asn.length zc, .i vl] 29)) 27 #[.i fp, .i fq, .bool fd]).alloc (.cells #[.i 0, .i 0, .i 0, .bool false, .i 0, .n0] 34); simpa using this, by rw [hw0]; have := VarA.new ((w.alloc (.cells #[.i 1, .i p1, .i q1, .bool d1, .slice ya nm.length yc, .i p2, .i q2, .bool d2, .slice za asn.length zc, .i vl] 29)).alloc (.cells #[.i fp, .i fq, .bool fd] 27)) 34 #[.i 0, .i 0, .i 0, .bool false, .i 0, .n0]; simpa using this⟩
 have HB0 : Hid (Below w.heap.size w w0) := B0
 have z0 := HM0.out.vR.lt
 rw [← hw0]
 clear hw0 vT sL B0
 have HF0 : Hid (∀ W, Below w0.heap.size w0 W → _) := fun W hW => HFT.out W (HB0.out.trans (hW.mono HB0.out.size))
 haveI : Nonempty (Cls w0) := Cls.ne w0
 have kt := Cls.cell HM0.out.vT.lt HM0.out.vT.l1
 have k1 := Cls.cell HM0.out.vO.lt (HM0.out.vO.c 1 rfl)
 have k2 := Cls.cell HM0.out.vO.lt (HM0.out.vO.c 2 rfl)
 have k3 := Cls.cell HM0.out.vO.lt (HM0.out.vO.c 3 rfl)
 refine wp_region_cls (by kernel_rfl) (by kernel_rfl) ?_
 repeat (go_big_quiet_step (first | (go_at_call 42; exact Calls.cls (HF0.out _ (Cls.h _)))))
 refine wpQuiet_nil ?_
 rintro w1 ⟨⟨w1, hb_⟩, rfl⟩
 have HM_w1 : Hid (MD (fun b => b = tb ∨ b = g) w w1 tb lo (.slice (some ⟨g, 0, none⟩) l.length cap) L1 l #[.i 1, .i p1, .i q1, .bool d1, .slice ya nm.length yc, .i p2, .i q2, .bool d2, .slice za asn.length zc, .i vl] #[.i fp, .i fq, .bool fd]) := HM0.out.step hb_
 have HB1 : Hid (Below w.heap.size w w1) := HB0.out.trans (hb_.mono HB0.out.size)
 have z1 := hb_.size
 clear kt k1 k2 k3 this hb_
 clear HF0 HFT HM0 HB0
 have o0 := HM_w1.out.vO.c 0 rfl
 have o3 := HM_w1.out.vO.c 3 rfl
 cases d1 with
 | false =>
  have HC : Hid (res = (l, rc 2)) := by show res = _; rw [← HRES.out]; rfl
  clear HRES
  go_wp2_with ((with_reducible refine gS 34 ?_); refine sF HM_w1.out.vR rfl rfl (by kernel_rfl) rfl rfl ?_; intro wz vR t_)
  refine bpR Tryz.results62 vR Tryz.underlying34 rfl rfl (by kernel_rfl) rfl ?_
  unfold DoPost
  rw [HC.out]
  exact ⟨_, rfl, rd_nil _ _, Turned.own2 HVW.out (HM_w1.out.fin hvt t_ HLR.out (by omega) (fun e => by have e3 : g = w.heap.size + 2 := (by simpa [Value.ownBlock] using e); omega) HLL.out)⟩
 | true =>
  rcases findH_cases l (p1, q1, true) with ⟨hd, hf⟩ | ⟨hd, hf⟩
  case inr =>
   rw [hf]
   have HC : Hid (res = (l, rc 1)) := by show res = _; rw [← HRES.out]; unfold doD; simp [hd]
   clear HRES hd hf
   go_wp2_with ((with_reducible refine gS 34 ?_); refine sF HM_w1.out.vR rfl rfl (by kernel_rfl) rfl rfl ?_; intro wz vR t_)
   refine bpR Tryz.results62 vR Tryz.underlying34 rfl rfl (by kernel_rfl) rfl ?_
   unfold DoPost
   rw [HC.out]
   exact ⟨_, rfl, rd_nil _ _, Turned.own2 HVW.out (HM_w1.out.fin hvt t_ HLR.out (by omega) (fun e => by have e3 : g = w.heap.size + 2 := (by simpa [Value.ownBlock] using e); omega) HLL.out)⟩
  rw [hf]
  clear hf
  unfold doD at HRES
  dsimp only at HRES
  generalize fi l (p1, q1, true) = d at *
  have hdi : (d : Int) < (l.length : Int) := by omega
  have t1 := HM_w1.out.vT.l1
  obtain ⟨xd, rd, cd⟩ := HM_w1.out.s.at hd
  have HRD : Hid _ := rd
  have HCD : Hid _ := cd
  clear rd cd
  have hgw : g < w1.heap.size := Nat.lt_of_lt_of_le hg2 HB1.out.size
  obtain ⟨xa, xc, rfl, _⟩ := RdV.sliced (HRD.out)
  have c8 : w1.cell? ⟨g, d * 9 + 8, none⟩ = some (.slice xa (l[d]?.getD nd0).es.length xc) := HCD.out 8 (by omega)
  have HC : Hid (res = (l, ⟨0, hd0, 0, (l[d]?.getD nd0).es⟩)) := by show res = _; rw [← HRES.out]; simp [hd]
  clear HRES
  have HCE : Hid _ := specCopyEn_any _ (l[d]?.getD nd0).es _ w1 HRD.out (Nat.le_trans (szNds_at l d) hsz) (HEL.out d).1
  generalize hnd : l[d]?.getD nd0 = nd at *
  generalize hln : nd.es.length = eln at *
  clear hln hnd
  go_wp2_with fail
  refine Calls.mono HCE.out ?_
  rintro r2 w2 ⟨ea, en, ec, rfl, oE, b2⟩
  have HM2 : Hid (MD (fun b => b = tb ∨ b = g) w w2 tb lo (.slice (some ⟨g, 0, none⟩) l.length cap) L1 l #[.i 1, .i p1, .i q1, .bool true, .slice ya nm.length yc, .i p2, .i q2, .bool d2, .slice za asn.length zc, .i vl] #[.i fp, .i fq, .bool fd]) := HM_w1.out.step b2
  have HOE : Hid _ := oE
  have z2 := b2.size
  have zw := HB1.out.size
  clear HCE oE b2 c8 t1 o0 o3
  go_wp2_with ((with_reducible refine gS 34 ?_); refine sF HM2.out.vR rfl rfl (by kernel_rfl) rfl rfl ?_; intro wz vR t_)
  refine bpR Tryz.results62 vR Tryz.underlying34 rfl rfl (by kernel_rfl) rfl ?_
  unfold DoPost
  rw [HC.out]
  exact ⟨_, rfl, RdV.mono (fun b hb => ⟨by omega, Nat.lt_of_lt_of_le hb.2 t_.size⟩) (RdV.keep (t_.keeps (fun b hb e => by have e2 : b = w.heap.size + 2 := e; omega)) (OwV.rd HOE.out)), Turned.own2 HVW.out (HM2.out.fin hvt t_ HLR.out (by omega) (fun e => by have e3 : g = w.heap.size + 2 := (by simpa [Value.ownBlock] using e); omega) HLL.out)⟩
end Go.Proofs.YtcicadfhfojdpaaGreat
