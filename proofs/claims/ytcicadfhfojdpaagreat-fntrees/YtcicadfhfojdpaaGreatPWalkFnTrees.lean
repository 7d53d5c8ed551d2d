/- Proved: laws.FnTrees answers true at every input, and leaves its argument as it was. Conditions: none. -/
import Derived.Test.YtcicadfhfojdpaaGreatPA09
namespace Go.Proofs.YtcicadfhfojdpaaGreat.fnTrees
open Go.ChangeShapes Go.WideShapes Go.ChangeAt Go.RowKit
open Go.ChangeMaps (open_string shut_string)
set_option linter.unusedVariables false

set_option maxRecDepth 100000 in
set_option maxHeartbeats 8000000 in
theorem walk (a0 : Option Addr) (len0 cap0 : Nat) (z0 : List Int) (w : World) (w0 : IsRow .u8 w a0 len0 cap0 z0) :
  Calls Tryz.prog 3 #[.slice a0 len0 cap0] w fun e w' => e = .returned (.bool true) ∧ Below w.heap.size w w' := by
 obtain ⟨zs, hlen, hr, hcap, hcm⟩ := row_reads w0
 have hm : zs.length ≤ maxLen := by omega
 have HLEN : Hid _ := hlen
 clear w0 hcap hcm hlen
 go_enter Tryz.func3, Tryz.ntmps3
 go_wp2_with fail
 refine (drawDo_any a0 zs _ _ w hr HLEN.out hm).mono ?_
 rintro e1 w1 ⟨ta, tn, tc, l, o, y, z, fr, rfl, rt, hsz, ry, rz, hl, hn1, hn2, oI, hfr, B1⟩
 clear hr HLEN hm
 obtain ⟨ya, yc, rfl⟩ := RdV.sliceB ry
 obtain ⟨za, zc, rfl⟩ := RdV.sliceB rz
 have HTN : Hid (tn = l.length) := sliced_len rt
 have HDO : Hid (∀ W, Below w1.heap.size w1 W → Calls Tryz.prog 7 #[.agg #[.slice ta tn tc], opV o (.slice ya o.nm.length yc) (.slice za o.asn.length zc), fr.v] W (DoI W (dO l o fr))) := fun W hW => implDo_any _ _ _ l o fr (fun b => w.heap.size ≤ b ∧ b < w1.heap.size) W (rt.step hW) (ry.step hW) (rz.step hW) (fun b hb => Nat.lt_of_lt_of_le hb.2 hW.size) hsz (by omega) (by omega) hfr (do_ag hsz o fr)
 have HRT : Hid (∀ W, Below w1.heap.size w1 W → RdV W (fun b => w.heap.size ≤ b ∧ b < w1.heap.size) (.slice ta tn tc) (ndsDt l)) := fun W hW => rt.step hW
 have HL : Hid (l.length ≤ 1048576) := hide (by omega)
 have HLL : Hid (treeOk l = true → ∀ i : Nat, i < l.length → (l[i]?.getD nd0).es.length ≤ 1048576) := fun h i hi => es_len h i hi
 have HST : Hid (∀ W, Below w1.heap.size w1 W → Calls Tryz.prog 8 #[.agg #[.slice ta tn tc]] W fun e w' => e = .returned (.bool (treeOk l)) ∧ Below W.heap.size W w') := fun W hW => specTree_any _ l _ W (rt.step hW) hsz
 have HSO : Hid (∀ W, Below w1.heap.size w1 W → Calls Tryz.prog 9 #[opV o (.slice ya o.nm.length yc) (.slice za o.asn.length zc)] W fun e w' => e = .returned (.bool (OOk o)) ∧ Below W.heap.size W w') := fun W hW => specOpOk_any _ _ o _ W (ry.step hW) (rz.step hW) (by omega) (by omega)
 have HBAD : Hid ((treeOk l && OOk o) = false → dO l o fr = ([], rc 11)) := fun h => dO_bad (by rw [h]; decide)
 have HTR : Hid ((treeOk l && OOk o) = true → treeOk (dO l o fr).1 = true) := fun h => dO_tree _ _ h
 have HRK : Hid ((treeOk l && OOk o) = true → ROk (dO l o fr).2 = true) := fun h => dO_rok h
 have HSM : Hid ((treeOk l && OOk o) = true → (dO l o fr).2.code ≠ 0 ∨ o.kind ≤ 2 → (dO l o fr).1 = l) := fun h h2 => dO_same h h2
 have HMK : Hid ((treeOk l && OOk o) = true → o.kind = 4 → (dO l o fr).2.code = 0 → (dO l o fr).2.h = fr ∧ (dO l o fr).1.length = l.length + 1) := fun h h2 h3 => dO_make h h2 h3
 have HSZ : Hid (szNds (dO l o fr).1 ≤ 300000 ∧ szEns (dO l o fr).2.list ≤ 300000) := do_sizes hsz o fr
 clear rt ry rz oI hfr hsz hl
 obtain ⟨kd, ⟨p1, q1, d1⟩, nm, ⟨p2, q2, d2⟩, asn, vl⟩ := o
 obtain ⟨f0, f1, f2⟩ := fr
 generalize dO l ⟨kd, (p1, q1, d1), nm, (p2, q2, d2), asn, vl⟩ (f0, f1, f2) = rr at *
 generalize OOk ⟨kd, (p1, q1, d1), nm, (p2, q2, d2), asn, vl⟩ = ob at *
 dsimp only at *
 go_wp2_with fail
 have v2 := F3.new w1 (.slice ta tn tc) #[.i kd, .i p1, .i q1, .bool d1, .slice ya nm.length yc, .i p2, .i q2, .bool d2, .slice za asn.length zc, .i vl] #[.i f0, .i f1, .bool f2]
 refine Calls.mono (HDO.out _ v2.b) ?_
 rintro e3 w3 ⟨xa, xn, xc, ra, rn, rq, R1, R2, rfl, ox, orr, _, h1, h2, b3⟩
 have V3 := hide (v2.step b3)
 clear HDO v2 b3
 obtain ⟨l2, ⟨rcode, ⟨rh0, rh1, rh2⟩, rval, rlist⟩⟩ := rr
 dsimp only at *
 have HB1 := hide B1
 have HX3 : Hid (∀ W, Below w3.heap.size w3 W → RdV W R1 (.slice xa xn xc) (ndsDt l2)) := fun W hW => ox.rd.step hW
 have HXN : Hid (xn = l2.length) := sliced_len ox.rd
 have HTI : Hid (treeOk l2 = true → ∀ W, Below w3.heap.size w3 W → Calls Tryz.prog 10 #[.agg #[.slice xa xn xc]] W fun e w' => e = .returned (.bool true) ∧ Below W.heap.size W w') := fun h W hW => (implTree_any _ l2 _ W (ox.rd.step hW) (Nat.le_trans HSZ.out.1 (by decide))).mono (fun e w' h' => ⟨by rw [h'.1, ← tree_same, h], h'.2⟩)
 have HRI : Hid (ROk ⟨rcode, (rh0, rh1, rh2), rval, rlist⟩ = true → ∀ W, Below w3.heap.size w3 W → Calls Tryz.prog 11 #[rpV ⟨rcode, (rh0, rh1, rh2), rval, rlist⟩ (.slice ra rn rq)] W fun e w' => e = .returned (.bool true) ∧ Below W.heap.size W w') := fun h W hW => (implReplyOk_any _ ⟨rcode, (rh0, rh1, rh2), rval, rlist⟩ _ W (orr.rd.step hW) (Nat.le_trans HSZ.out.2 (by decide))).mono (fun e w' h' => ⟨by rw [h'.1, h], h'.2⟩)
 clear B1 ox orr h1 h2 HSZ hn1 hn2
 have t0 := V3.out.t.l1
 have k0 := V3.out.t.lt
 go_wp2_with fail
 clear t0 k0
 refine Calls.mono (HST.out _ V3.out.b2) ?_
 rintro e5 w5 ⟨rfl, b5⟩
 have V5 := hide (V3.out.two b5)
 have X5 := hide (F2.new b5)
 clear b5 HST
 generalize htb : treeOk l = tb at *
 have HTB : Hid (treeOk l = tb) := htb
 clear htb
 cases tb with
 | false =>
  obtain ⟨rfl, hrp⟩ := Prod.mk.inj (HBAD.out rfl)
  have hx0 : xn = 0 := HXN.out
  have hc11 : rcode = 11 := congrArg RpD.code hrp
  clear hrp
  subst hx0 hc11
  have x0 := X5.out.x.l1
  have r0 := X5.out.r.l6.1
  go_wp2_with fail
  go_ret
  exact ⟨rfl, HB1.out.trans (V5.out.b.mono HB1.out.size)⟩
 | true =>
  obtain ⟨o0, o1, o2, o3, o4, o5, o6, o7, o8, o9⟩ := V5.out.o.l10
  go_wp2_with fail
  clear o0 o1 o2 o3 o4 o5 o6 o7 o8 o9
  refine Calls.mono (HSO.out _ V5.out.b) ?_
  rintro e6 w6 ⟨rfl, b6⟩
  have V6 := hide (V5.out.step b6)
  have X6 := hide (X5.out.step b6)
  clear b6 HSO V5 X5
  cases ob with
  | false =>
   obtain ⟨rfl, hrp⟩ := Prod.mk.inj (HBAD.out rfl)
   have hx0 : xn = 0 := HXN.out
   have hc11 : rcode = 11 := congrArg RpD.code hrp
   clear hrp
   subst hx0 hc11
   have x0 := X6.out.x.l1
   have r0 := X6.out.r.l6.1
   go_wp2_with fail
   go_ret
   exact ⟨rfl, HB1.out.trans (V6.out.b.mono HB1.out.size)⟩
  | true =>
   have HT2 : Hid _ := HTI.out (HTR.out rfl)
   have HR2 : Hid _ := HRI.out (HRK.out rfl)
   have HSM2 : Hid _ := HSM.out rfl
   have HMK2 : Hid _ := HMK.out rfl
   have HLL2 : Hid (∀ i : Nat, i < l.length → (l[i]?.getD nd0).es.length ≤ 1048576) := by first | exact HLL.out trivial | exact HLL.out HTB.out | exact HLL.out rfl
   clear HTI HRI HTR HRK HSM HMK HLL HBAD
   have x0 := X6.out.x.l1
   go_wp2_with fail
   clear x0
   refine Calls.mono (HT2.out _ X6.out.b) ?_
   rintro e7 w7 ⟨rfl, b7⟩
   have V7 := hide (V6.out.step b7)
   have X7 := hide (X6.out.step b7)
   clear b7 HT2 V6 X6
   obtain ⟨r0, r1, r2, r3, r4, r5⟩ := X7.out.r.l6
   go_wp2_with fail
   clear r0 r1 r2 r3 r4 r5
   refine Calls.mono (HR2.out _ X7.out.b) ?_
   rintro e8 w8 ⟨rfl, b8⟩
   have V8 := hide (V7.out.step b8)
   have X8 := hide (X7.out.step b8)
   clear b8 HR2 V7 X7
   have HBZ := hide (HB1.out.trans (V8.out.b.mono HB1.out.size))
   have HSAME : Hid (rcode ≠ 0 ∨ kd ≤ 2 → Calls Tryz.prog 12 #[.agg #[.slice xa xn xc], .agg #[.slice ta tn tc]] w8 fun e w' => e = .returned (.bool true) ∧ Below w8.heap.size w8 w') := fun h => by
    have e := HSM2.out h
    have hx := HX3.out _ X8.out.b
    rw [e] at hx
    exact sameTr_any _ _ l _ _ w8 hx (HRT.out _ V8.out.b) HL.out HLL2.out
   have t0 := V8.out.t.l1
   have o0 := V8.out.o.l10.1
   obtain ⟨g0, g1, g2⟩ := V8.out.f.l3
   have x0 := X8.out.x.l1
   obtain ⟨r0, r1, r2, r3, r4, r5⟩ := X8.out.r.l6
   by_cases hc : rcode = 0
   ·subst hc
    by_cases hk2 : kd ≤ 2
    ·have hd2 : decide (kd ≤ 2) = true := decide_eq_true hk2
     have hca : (0 : Int) ≠ 0 ∨ kd ≤ 2 := .inr hk2
     go_wp2_with fail
     refine Calls.mono (HSAME.out hca) ?_
     rintro e9 w9 ⟨rfl, b9⟩
     go_wp2_with fail
     go_ret
     exact ⟨rfl, HBZ.out.trans (b9.mono HBZ.out.size)⟩
    ·have hd2 : decide (kd ≤ 2) = false := decide_eq_false hk2
     by_cases hk4 : kd = 4
     ·subst hk4
      have hmk := HMK2.out rfl rfl
      have hm1 : rh0 = f0 ∧ rh1 = f1 ∧ rh2 = f2 := by simpa using hmk.1
      obtain ⟨rfl, rfl, rfl⟩ := hm1
      have hxn : xn = tn + 1 := by rw [HXN.out, HTN.out]; exact hmk.2
      have htl : tn ≤ 1048576 := by rw [HTN.out]; exact HL.out
      subst hxn
      clear hmk
      have heq : ∀ W, (binOp .eql 27 (.agg #[.i rh0, .i rh1, .bool rh2]) (.agg #[.i rh0, .i rh1, .bool rh2])).run Tryz.prog W = .ok (.bool true) W := fun W => by rw [eqH_run]; simp
      go_wp2_with fail
      go_ret
      exact ⟨rfl, HBZ.out⟩
     ·have hd4 : (kd != 4) = true := by simpa using hk4
      go_wp2_with fail
      go_ret
      exact ⟨rfl, HBZ.out⟩
   ·have hd0 : (rcode != 0) = true := by simpa using hc
    have hca : rcode ≠ 0 ∨ kd ≤ 2 := .inl hc
    go_wp2_with fail
    refine Calls.mono (HSAME.out hca) ?_
    rintro e9 w9 ⟨rfl, b9⟩
    go_wp2_with fail
    go_ret
    exact ⟨rfl, HBZ.out.trans (b9.mono HBZ.out.size)⟩
end Go.Proofs.YtcicadfhfojdpaaGreat.fnTrees
