/- Proved: laws.FnNames answers true at every input, and leaves its argument as it was. Conditions: none. -/
import Derived.Test.YtcicadfhfojdpaaGreatRA09
import Derived.Test.YtcicadfhfojdpaaGreatRA07
namespace Go.Proofs.YtcicadfhfojdpaaGreat.fnNames
open Go.ChangeShapes Go.WideShapes Go.ChangeAt Go.RowKit
open Go.ChangeMaps (open_string shut_string)
set_option linter.unusedVariables false

theorem hin0 : HIn hd0 := ⟨by decide, by decide⟩
set_option maxRecDepth 100000 in
set_option maxHeartbeats 8000000 in
theorem walk (a0 : Option Addr) (len0 cap0 : Nat) (z0 : List Int) (w : World) (w0 : IsRow .u8 w a0 len0 cap0 z0) :
  Calls Tryz.prog 4 #[.slice a0 len0 cap0] w fun e w' => e = .returned (.bool true) ∧ Below w.heap.size w w' := by
 obtain ⟨zs, hlen, hr, hcap, hcm⟩ := row_reads w0
 have hm : zs.length ≤ maxLen := by omega
 have HLEN : Hid _ := hlen
 clear w0 hcap hcm hlen
 go_enter Tryz.func4, Tryz.ntmps4
 go_wp2_with fail
 refine (drawDo_any a0 zs _ _ w hr HLEN.out hm).mono ?_
 rintro e1 w1 ⟨ta, tn, tc, l, o, y, z, fr, rfl, rt, hsz, ry, rz, hl, hn1, hn2, oI, hfr, B1⟩
 clear hr HLEN hm
 obtain ⟨ya, yc, rfl⟩ := RdV.sliceB ry
 obtain ⟨za, zc, rfl⟩ := RdV.sliceB rz
 have HTN : Hid (tn = l.length) := sliced_len rt
 have HDO : Hid (∀ W, Below w1.heap.size w1 W → Calls Tryz.prog 7 #[.agg #[.slice ta tn tc], opV o (.slice ya o.nm.length yc) (.slice za o.asn.length zc), fr.v] W (DoI W (dO l o fr))) := fun W hW => implDo_any _ _ _ l o fr (fun b => w.heap.size ≤ b ∧ b < w1.heap.size) W (rt.step hW) (ry.step hW) (rz.step hW) (fun b hb => Nat.lt_of_lt_of_le hb.2 hW.size) hsz (by omega) (by omega) hfr (do_ag hsz o fr)
 have HRT : Hid (∀ W, Below w1.heap.size w1 W → RdV W (fun b => w.heap.size ≤ b ∧ b < w1.heap.size) (.slice ta tn tc) (ndsDt l)) := fun W hW => rt.step hW
 have HL : Hid (l.length ≤ 1048576) := hide (by omega)
 have HLL : Hid (treeOk l = true → ∀ i : Nat, i < l.length → (l[i]?.getD nd0).es.length ≤ 1048576) := fun h i hi => es_len h i hi
 have hsz2 : szNds (dO l o fr).1 ≤ 2097152 := Nat.le_trans (do_sizes hsz o fr).1 (by decide)
 have HD1 : Hid (∀ xa xn xc Q W, RdV W Q (.slice xa xn xc) (ndsDt l) → (∀ b, Q b → b < W.heap.size) → Below w1.heap.size w1 W → Calls Tryz.prog 7 #[.agg #[.slice xa xn xc], opV (lkO o.dir o.nm) (.slice ya o.nm.length yc) (.n0), hd0.v] W (DoI W (dO l (lkO o.dir o.nm) hd0))) := fun xa xn xc Q W hx hq hW => implDo_any _ _ _ l (lkO o.dir o.nm) hd0 (fun b => Q b ∨ w.heap.size ≤ b ∧ b < w1.heap.size) W (RdV.mono (fun b hb => .inl hb) hx) (RdV.mono (fun b hb => .inr hb) (ry.step hW)) (rdb_nil _ _) (fun b hb => hb.elim (hq b) (fun h => Nat.lt_of_lt_of_le h.2 hW.size)) hsz (by show o.nm.length ≤ 2097152; omega) (Nat.zero_le _) hin0 (do_ag hsz (lkO o.dir o.nm) hd0)
 have HD2 : Hid (∀ xa xn xc Q W, RdV W Q (.slice xa xn xc) (ndsDt (dO l o fr).1) → (∀ b, Q b → b < W.heap.size) → Below w1.heap.size w1 W → Calls Tryz.prog 7 #[.agg #[.slice xa xn xc], opV (lkO o.dir o.nm) (.slice ya o.nm.length yc) (.n0), hd0.v] W (DoI W (dO (dO l o fr).1 (lkO o.dir o.nm) hd0))) := fun xa xn xc Q W hx hq hW => implDo_any _ _ _ (dO l o fr).1 (lkO o.dir o.nm) hd0 (fun b => Q b ∨ w.heap.size ≤ b ∧ b < w1.heap.size) W (RdV.mono (fun b hb => .inl hb) hx) (RdV.mono (fun b hb => .inr hb) (ry.step hW)) (rdb_nil _ _) (fun b hb => hb.elim (hq b) (fun h => Nat.lt_of_lt_of_le h.2 hW.size)) hsz2 (by show o.nm.length ≤ 2097152; omega) (Nat.zero_le _) hin0 (do_ag hsz2 (lkO o.dir o.nm) hd0)
 have HD3 : Hid (∀ xa xn xc Q W, RdV W Q (.slice xa xn xc) (ndsDt (dO l o fr).1) → (∀ b, Q b → b < W.heap.size) → Below w1.heap.size w1 W → Calls Tryz.prog 7 #[.agg #[.slice xa xn xc], opV (lkO o.to o.asn) (.slice za o.asn.length zc) (.n0), hd0.v] W (DoI W (dO (dO l o fr).1 (lkO o.to o.asn) hd0))) := fun xa xn xc Q W hx hq hW => implDo_any _ _ _ (dO l o fr).1 (lkO o.to o.asn) hd0 (fun b => Q b ∨ w.heap.size ≤ b ∧ b < w1.heap.size) W (RdV.mono (fun b hb => .inl hb) hx) (RdV.mono (fun b hb => .inr hb) (rz.step hW)) (rdb_nil _ _) (fun b hb => hb.elim (hq b) (fun h => Nat.lt_of_lt_of_le h.2 hW.size)) hsz2 (by show o.asn.length ≤ 2097152; omega) (Nat.zero_le _) hin0 (do_ag hsz2 (lkO o.to o.asn) hd0)
 have HD4 : Hid (∀ xa xn xc Q W, RdV W Q (.slice xa xn xc) (ndsDt (dO l o fr).1) → (∀ b, Q b → b < W.heap.size) → Below w1.heap.size w1 W → Calls Tryz.prog 7 #[.agg #[.slice xa xn xc], opV (rdO o.dir) (.n0) (.n0), hd0.v] W (DoI W (dO (dO l o fr).1 (rdO o.dir) hd0))) := fun xa xn xc Q W hx hq hW => implDo_any _ _ _ (dO l o fr).1 (rdO o.dir) hd0 (fun b => Q b ∨ w.heap.size ≤ b ∧ b < w1.heap.size) W (RdV.mono (fun b hb => .inl hb) hx) (rdb_nil _ _) (rdb_nil _ _) (fun b hb => hb.elim (hq b) (fun h => Nat.lt_of_lt_of_le h.2 hW.size)) hsz2 (by exact Nat.zero_le _) (Nat.zero_le _) hin0 (do_ag hsz2 (rdO o.dir) hd0)
 have HNO : Hid ((dO l o fr).2.code ≠ 0 → (dO l o fr).2.code = 11 ∨ (dO l o fr).1 = l ∧ treeOk l = true) := fun h => by
  by_cases ht : (treeOk l && OOk o) = true
  ·exact .inr ⟨dO_same ht (.inl h), by rw [Bool.and_eq_true] at ht; exact ht.1⟩
  ·exact .inl (by rw [dO_bad ht]; rfl)
 have HSM : Hid ((dO l o fr).2.code = 0 → treeOk l = true ∧ 0 ≤ o.kind ∧ o.kind ≤ 7 ∧ (o.kind ≤ 2 → (dO l o fr).1 = l)) := fun h => by
  have ht := dO_well h
  have h2 := ht
  rw [Bool.and_eq_true] at h2
  exact ⟨h2.1, (okO h2.2).1, (okO h2.2).2, fun hk => dO_same ht (.inr hk)⟩
 have HN4 : Hid ((dO l o fr).2.code = 0 → o.kind = 4 → _) := fun h => (dO_names o fr (dO_well h) h).make
 have HN6 : Hid ((dO l o fr).2.code = 0 → o.kind = 6 → _) := fun h => (dO_names o fr (dO_well h) h).link
 have HN5 : Hid ((dO l o fr).2.code = 0 → o.kind = 5 → _) := fun h => (dO_names o fr (dO_well h) h).drop
 have HN7 : Hid ((dO l o fr).2.code = 0 → o.kind = 7 → _) := fun h => (dO_names o fr (dO_well h) h).move
 have HN3 : Hid ((dO l o fr).2.code = 0 → o.kind = 3 → _) := fun h => (dO_names o fr (dO_well h) h).write
 clear rt ry rz oI hfr hsz hsz2 hl
 obtain ⟨kd, ⟨p1, q1, d1⟩, nm, ⟨p2, q2, d2⟩, asn, vl⟩ := o
 obtain ⟨f0, f1, f2⟩ := fr
 dsimp only at *
 generalize dO l (lkO (p1, q1, d1) nm) hd0 = rA at *
 generalize dO l ⟨kd, (p1, q1, d1), nm, (p2, q2, d2), asn, vl⟩ (f0, f1, f2) = rr at *
 generalize dO rr.1 (lkO (p1, q1, d1) nm) hd0 = rB at *
 generalize dO rr.1 (lkO (p2, q2, d2) asn) hd0 = rC at *
 generalize dO rr.1 (rdO (p1, q1, d1)) hd0 = rD at *
 go_wp2_with fail
 have v2 := F3.new w1 (.slice ta tn tc) #[.i kd, .i p1, .i q1, .bool d1, .slice ya nm.length yc, .i p2, .i q2, .bool d2, .slice za asn.length zc, .i vl] #[.i f0, .i f1, .bool f2]
 refine Calls.mono (HDO.out _ v2.b) ?_
 rintro e3 w3 ⟨xa, xn, xc, ra, rn, rq, R1, R2, rfl, ox, orr, _, h1, h2, b3⟩
 have V3 := hide (v2.step b3)
 clear HDO v2 b3
 obtain ⟨l2, ⟨rcode, ⟨rh0, rh1, rh2⟩, rval, rlist⟩⟩ := rr
 dsimp only at *
 have HB1 := hide B1
 have HX3 : Hid (∀ W, Below w3.heap.size w3 W → RdV W R1 (.slice xa xn xc) (ndsDt l2)) := fun W hW => ox.rd.step hW
 have HXN : Hid (xn = l2.length) := sliced_len ox.rd
 have HR1 : Hid (∀ c, R1 c → c < w3.heap.size) := fun c hc => (h1 c hc).2
 clear B1 ox orr h1 h2 hn1 hn2
 have t0 := V3.out.t.l1
 obtain ⟨o0, o1, o2, o3, o4, o5, o6, o7, o8, o9⟩ := V3.out.o.l10
 have kt := V3.out.t.lt
 have ko := V3.out.o.lt
 by_cases hc : rcode = 0
 case neg =>
  have hc0 : (rcode != 0) = true := by simpa using hc
  have hno := HNO.out hc
  by_cases h11 : rcode = 11
  ·subst h11
   go_wp2_with fail
   go_ret
   exact ⟨rfl, HB1.out.trans (V3.out.b2.mono HB1.out.size)⟩
  ·have h110 : (rcode == 11) = false := by simpa using h11
   obtain ⟨e2, htl⟩ := hno.resolve_left h11
   go_wp2_with fail
   have hx : ∀ W, Below w3.heap.size w3 W → RdV W R1 (.slice xa xn xc) (ndsDt l) := fun W hW => by have h := HX3.out W hW; rw [e2] at h; exact h
   refine Calls.mono (sameTr_any _ _ l _ _ _ (hx _ (Below.newH2 _ _)) (HRT.out _ V3.out.b2) HL.out (HLL.out htl)) ?_
   rintro e9 w9 ⟨rfl, b9⟩
   have HZ := hide (HB1.out.trans ((V3.out.two b9).b.mono HB1.out.size))
   go_wp2_with fail
   go_ret
   exact ⟨rfl, HZ.out⟩
 subst hc
 obtain ⟨htl, hk0, hk7, hk2⟩ := HSM.out rfl
 have HK2 : Hid (kd ≤ 2 → l2 = l) := hk2
 have HLE : Hid (∀ i : Nat, i < l.length → (l[i]?.getD nd0).es.length ≤ 1048576) := HLL.out htl
 have HQ4 : Hid _ := HN4.out rfl
 have HQ5 : Hid _ := HN5.out rfl
 have HQ6 : Hid _ := HN6.out rfl
 have HQ7 : Hid _ := HN7.out rfl
 have HQ3 : Hid _ := HN3.out rfl
 clear hk2 htl HNO HSM HLL HN3 HN4 HN5 HN6 HN7
 go_wp2_with fail
 clear t0 kt ko o0 o1 o2 o3 o4 o5 o6 o7 o8 o9
 refine Calls.mono (HD1.out ta tn tc _ _ (HRT.out _ V3.out.b2) (fun b hb => Nat.lt_of_lt_of_le hb.2 V3.out.b2.size) V3.out.b2) ?_
 rintro e5 w5 ⟨ca, cn, cc, aa, an, aq, _, _, rfl, _, _, _, _, _, b5⟩
 obtain ⟨lA, ⟨acode, ⟨ah0, ah1, ah2⟩, aval, alist⟩⟩ := rA
 dsimp only at *
 have V5 := hide (V3.out.two b5)
 have X5 := hide (F2.new b5)
 clear b5 V3 HD1
 obtain ⟨o0, o1, o2, o3, o4, o5, o6, o7, o8, o9⟩ := V5.out.o.l10
 have x0 := X5.out.x.l1
 have kt := V5.out.t.lt
 have ko := V5.out.o.lt
 have kx := X5.out.x.lt
 go_wp2_with fail
 clear x0 kt ko kx o0 o1 o2 o3 o4 o5 o6 o7 o8 o9
 refine Calls.mono (HD2.out xa xn xc _ _ (HX3.out _ X5.out.b2) (fun b hb => Nat.lt_of_lt_of_le (HR1.out b hb) X5.out.b2.size) V5.out.b2) ?_
 rintro e7 w7 ⟨da, dn, dc, ba, bn, bq, _, _, rfl, _, _, _, _, _, b7⟩
 obtain ⟨lB, ⟨bcode, ⟨bh0, bh1, bh2⟩, bval, blist⟩⟩ := rB
 dsimp only at *
 have V7 := hide (V5.out.two b7)
 have X7 := hide (X5.out.two b7)
 have A7 := hide (F2.new b7)
 have HZ : Hid (∀ W, Below w7.heap.size w7 W → Below w.heap.size w W) := fun W hW => HB1.out.trans ((V7.out.step hW).b.mono HB1.out.size)
 clear b7 V5 X5 HD2
 have t0 := V7.out.t.l1
 obtain ⟨o0, o1, o2, o3, o4, o5, o6, o7, o8, o9⟩ := V7.out.o.l10
 obtain ⟨g0, g1, g2⟩ := V7.out.f.l3
 have x0 := X7.out.x.l1
 obtain ⟨m0, m1, m2, m3, _⟩ := A7.out.r.l6
 have kt := V7.out.t.lt
 have ko := V7.out.o.lt
 have kf := V7.out.f.lt
 have kx := X7.out.x.lt
 have ka := A7.out.x.lt
 have kb := A7.out.r.lt
 by_cases k4 : kd = 4
 ·subst k4
  obtain ⟨rfl, rfl, hh⟩ := HQ4.out rfl
  obtain ⟨rfl, rfl, rfl⟩ : bh0 = f0 ∧ bh1 = f1 ∧ bh2 = f2 := by simpa using hh
  clear hh
  have heq : ∀ W, (binOp .eql 27 (.agg #[.i bh0, .i bh1, .bool bh2]) (.agg #[.i bh0, .i bh1, .bool bh2])).run Tryz.prog W = .ok (.bool true) W := fun W => by rw [eqH_run]; simp
  go_wp2_with fail
  go_ret
  exact ⟨rfl, HZ.out _ (Below.newH2 _ _)⟩
 by_cases k6 : kd = 6
 ·subst k6
  obtain ⟨rfl, hh⟩ := HQ6.out rfl
  obtain ⟨rfl, rfl, rfl⟩ : bh0 = p2 ∧ bh1 = q2 ∧ bh2 = d2 := by simpa using hh
  clear hh
  have heq : ∀ W, (binOp .eql 27 (.agg #[.i bh0, .i bh1, .bool bh2]) (.agg #[.i bh0, .i bh1, .bool bh2])).run Tryz.prog W = .ok (.bool true) W := fun W => by rw [eqH_run]; simp
  go_wp2_with fail
  go_ret
  exact ⟨rfl, HZ.out _ (Below.newH2 _ _)⟩
 by_cases k5 : kd = 5
 ·subst k5
  obtain ⟨rfl, rfl⟩ := HQ5.out rfl
  go_wp2_with fail
  go_ret
  exact ⟨rfl, HZ.out _ (Below.newH2 _ _)⟩
 have n4 : (kd == 4) = false := by simpa using k4
 have n6 : (kd == 6) = false := by simpa using k6
 have n5 : (kd == 5) = false := by simpa using k5
 by_cases k7 : kd = 7
 ·subst k7
  obtain ⟨rfl, rfl, hh⟩ := HQ7.out rfl
  go_wp2_with fail
  clear t0 o0 o1 o2 o3 o4 o5 o6 o7 o8 o9 g0 g1 g2 x0 m0 m1 m2 m3 kt ko kf kx ka kb
  refine Calls.mono (HD3.out xa xn xc _ _ (HX3.out _ X7.out.b2) (fun b hb => Nat.lt_of_lt_of_le (HR1.out b hb) X7.out.b2.size) V7.out.b2) ?_
  rintro e9 w9 ⟨ea, en, ec, ga, gn, gq, _, _, rfl, _, _, _, _, _, b9⟩
  obtain ⟨lC, ⟨ccode, ⟨ch0, ch1, ch2⟩, cval, clist⟩⟩ := rC
  dsimp only at *
  obtain ⟨rfl, rfl, rfl⟩ : ch0 = ah0 ∧ ch1 = ah1 ∧ ch2 = ah2 := by simpa using hh
  clear hh
  have HZ9 : Hid (∀ W, Below w9.heap.size w9 W → Below w.heap.size w W) := fun W hW => HZ.out _ ((F2.new b9).b.trans (hW.mono (F2.new b9).b.size))
  have o9 := (V7.out.two b9).o.l10.2.2.2.2.2.2.2.2.2
  obtain ⟨m0, m1, m2, m3, _⟩ := (A7.out.two b9).r.l6
  have r0 := (F2.new b9).r.l6.1
  have kt := (V7.out.two b9).t.lt
  have ko := (V7.out.two b9).o.lt
  have ka := (A7.out.two b9).x.lt
  have kb := (A7.out.two b9).r.lt
  have kx := (F2.new b9).x.lt
  have kr := (F2.new b9).r.lt
  clear b9 V7 X7 A7
  have heq : ∀ W, (binOp .eql 27 (.agg #[.i ch0, .i ch1, .bool ch2]) (.agg #[.i ch0, .i ch1, .bool ch2])).run Tryz.prog W = .ok (.bool true) W := fun W => by rw [eqH_run]; simp
  go_wp2_with fail
  go_ret
  exact ⟨rfl, HZ9.out _ (Below.newH2 _ _)⟩
 have n7 : (kd == 7) = false := by simpa using k7
 by_cases k3 : kd = 3
 ·subst k3
  have hv := HQ3.out rfl
  go_wp2_with fail
  clear t0 o0 o1 o2 o3 o4 o5 o6 o7 o8 o9 g0 g1 g2 x0 m0 m1 m2 m3 kt ko kf kx ka kb
  refine Calls.mono (HD4.out xa xn xc _ _ (HX3.out _ X7.out.b2) (fun b hb => Nat.lt_of_lt_of_le (HR1.out b hb) X7.out.b2.size) V7.out.b2) ?_
  rintro e9 w9 ⟨ea, en, ec, ga, gn, gq, _, _, rfl, _, _, _, _, _, b9⟩
  obtain ⟨lC, ⟨ccode, ⟨ch0, ch1, ch2⟩, cval, clist⟩⟩ := rD
  dsimp only at *
  subst hv
  have HZ9 : Hid (∀ W, Below w9.heap.size w9 W → Below w.heap.size w W) := fun W hW => HZ.out _ ((F2.new b9).b.trans (hW.mono (F2.new b9).b.size))
  have o9 := (V7.out.two b9).o.l10.2.2.2.2.2.2.2.2.2
  obtain ⟨m0, m1, m2, m3, _⟩ := (A7.out.two b9).r.l6
  have r0 := (F2.new b9).r.l6.1
  have kt := (V7.out.two b9).t.lt
  have ko := (V7.out.two b9).o.lt
  have ka := (A7.out.two b9).x.lt
  have kb := (A7.out.two b9).r.lt
  have kx := (F2.new b9).x.lt
  have kr := (F2.new b9).r.lt
  clear b9 V7 X7 A7
  go_wp2_with fail
  go_ret
  exact ⟨rfl, HZ9.out _ (Below.newH2 _ _)⟩
 have n3 : (kd == 3) = false := by simpa using k3
 have hk : kd ≤ 2 := by omega
 have e2 := HK2.out hk
 clear k3 k4 k5 k6 k7 hk hk0 hk7
 go_wp2_with fail
 have hx : ∀ W, Below w3.heap.size w3 W → RdV W R1 (.slice xa xn xc) (ndsDt l) := fun W hW => by have h := HX3.out W hW; rw [e2] at h; exact h
 refine Calls.mono (sameTr_any _ _ l _ _ _ (hx _ X7.out.b2) (HRT.out _ V7.out.b2) HL.out HLE.out) ?_
 rintro e9 w9 ⟨rfl, b9⟩
 have HZ9 := hide (HZ.out _ ((Below.newH2 _ _).trans (b9.mono (by simp; omega))))
 go_wp2_with fail
 go_ret
 exact ⟨rfl, HZ9.out⟩
end Go.Proofs.YtcicadfhfojdpaaGreat.fnNames
