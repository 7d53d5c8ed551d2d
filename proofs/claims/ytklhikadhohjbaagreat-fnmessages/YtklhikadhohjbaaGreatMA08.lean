/- Joined: DW7 DW8 WMsg6 WVal2 WBy5. -/
import Derived.Test.YtklhikadhohjbaaGreatMDW4
import Derived.Test.YtklhikadhohjbaaGreatMA07
import Derived.Test.YtklhikadhohjbaaGreatMSpecD18
import Derived.Test.YtklhikadhohjbaaGreatMA01
import Derived.Test.YtklhikadhohjbaaGreatMWMsg6a
import Derived.Test.YtklhikadhohjbaaGreatMWMsg6b
import Derived.Test.YtklhikadhohjbaaGreatMWVal
import Derived.Test.YtklhikadhohjbaaGreatMA05

namespace Go.Proofs.YtklhikadhohjbaaGreat
open Go.RowKit
set_option linter.unusedVariables false
set_option linter.unusedSimpArgs false
set_option maxRecDepth 100000
section
def TrSaid (w : World) (pb : Nat) (e : Ending) (w' : World) : Prop :=
 ∃ ta tn tc l, e = .returned (.agg #[.slice ta tn tc]) ∧ RdV w' (fun b => w.heap.size ≤ b ∧ b < w'.heap.size) (.slice ta tn tc) (ndsDt l) ∧ Sm (l, rc 0) ∧ CurAt w' pb ∧ w.grownBy w' (some pb)
structure TR (w wr : World) (pb tb N : Nat) (v : Value) (l : List Nd) : Prop where
 c : CurAt wr pb
 g : w.grownBy wr (some pb)
 vR : VarA wr w.heap.size 55 #[.slice none 0 0]
 vT : VarA wr tb 55 #[v]
 r : RdV wr (fun b => w.heap.size < b ∧ b ≠ tb ∧ b < N) v (ndsDt l)
 n : N ≤ wr.heap.size
 s : Sm (l, rc 0)
theorem TR.grow {w wc wd : World} {pb tb N : Nat} {v : Value} {l : List Nd} (m : TR w wc pb tb N v l) (hc : CurAt wd pb) (hg : wc.grownBy wd (some pb)) (hp : pb < w.heap.size) (hO : w.heap.size < tb) : TR w wd pb tb N v l :=
 have T := Turned.ofGrown (S := fun b => b = pb) hg (fun k hk => by cases hk; rfl)
 ⟨hc, grown_trans m.g hg, m.vR.turn T (by show w.heap.size ≠ pb; omega), m.vT.turn T (by show tb ≠ pb; omega), RdV.keep (T.keeps (fun b hb e => by omega)) m.r, Nat.le_trans m.n hg.size, m.s⟩
theorem TR.step {w wc wd : World} {pb tb N : Nat} {v : Value} {l : List Nd} (m : TR w wc pb tb N v l) (h : Below wc.heap.size wc wd) (hp : pb < w.heap.size) (hO : w.heap.size < tb) : TR w wd pb tb N v l := m.grow (m.c.below h) (grown_below h) hp hO
theorem TR.hP {w wc : World} {pb tb N : Nat} {v : Value} {l : List Nd} (m : TR w wc pb tb N v l) : ∀ i : Nat, i < l.length → HdR (l[i]?.getD nd0).h := fun i hi => (m.s.1 _ (getD_mem hi)).1
theorem TR.put3 {w wc wd : World} {pb tb N q : Nat} {v : Value} {l : List Nd} (m : TR w wc pb tb N v l) (t : Turned (fun b => b = q) wc wd) (hp : pb < w.heap.size) (hq : w.heap.size < q) (hqt : tb < q) (hN : N ≤ q) : TR w wd pb tb N v l :=
 ⟨cur_keep m.c t (by omega), grown_keep m.g t (by omega), m.vR.turn t (by show w.heap.size ≠ q; omega), m.vT.turn t (by show tb ≠ q; omega), RdV.keep (t.keeps (fun b hb e => by omega)) m.r, Nat.le_trans m.n t.size, m.s⟩
end
section
theorem es_small {l : List Nd} (h : AllN 13 l) (i : Nat) : (l[i]?.getD nd0).es.length ≤ 4000 := by
 by_cases hi : i < l.length
 ·have := (h.at hi).2.1; omega
 ·rw [List.getElem?_eq_none (by omega)]; simp [nd0]
def TrRel (w : World) (pb tb : Nat) (n : Int) (i : Value) (wr : World) : Prop := ∃ k : Nat, (k : Int) ≤ n ∧ i = .i k ∧ ∃ N va vn vc l, TR w wr pb tb N (.slice va vn vc) l
theorem sm_root : Sm ([rootN], rc 0) := ⟨fun n hn => by
 simp only [List.mem_cons, List.not_mem_nil, or_false] at hn
 subst hn
 exact ⟨by show HdR (0, 1, true); unfold HdR; decide, by simp [rootN], fun e he => by cases he⟩, by simp, by simp⟩
set_option maxHeartbeats 8000000 in
theorem tree4_any (pb : Nat) (w : World) (h : CurAt w pb) : Calls Tryz.prog 84 #[.pointer (some ⟨pb, 0, none⟩)] w (TrSaid w pb) := by
 have hpb := h.lt
 go_enter Tryz.func84, Tryz.ntmps84
 go_wp2_with fail
 refine Calls.mono (specRoot_any _) ?_
 rintro e1 w1 ⟨ra, rn, rq, rfl, oR, b1⟩
 have z1 := b1.size
 rw [World.size_alloc] at z1
 have b1n : Below w1.heap.size w1 (w1.alloc (.cells #[.slice ra rn rq] 55)) := Below.newH _
 have HT1 : Hid (TR w (w1.alloc (.cells #[.slice ra rn rq] 55)) pb w1.heap.size w1.heap.size (.slice ra rn rq) [rootN]) := ⟨((h.alloc _).below b1).below b1n, grown_trans (grown_trans (World.grownBy_alloc w _ _) (grown_below b1)) (grown_below b1n), ((VarA.new w 55 #[.slice none 0 0]).step b1).step b1n, VarA.new _ _ _, RdV.mono (fun b hb => ⟨by have := hb.1; rw [World.size_alloc] at this; omega, by have := hb.2; omega, hb.2⟩) (RdV.step (OwV.rd oR) b1n), by simp, sm_root⟩
 clear oR b1 b1n
 go_wp2_with fail
 refine Calls.mono (below_any pb 16 _ HT1.out.c (by omega) (by omega)) ?_
 rintro e2 w2 ⟨n, rfl, hn0, hn1, c2, g2⟩
 have htb : w.heap.size < w1.heap.size := by omega
 have HT2 : Hid (TR w w2 pb w1.heap.size w1.heap.size (.slice ra rn rq) [rootN]) := HT1.out.grow c2 g2 hpb htb
 clear HT1 c2 g2 z1
 generalize w1.heap.size = tb at *
 go_wp2
 go_loopw [5] (fun i wr => TrRel w pb tb n i wr) (fun i _ => n.toNat - (intOf i).toNat)
 case atStart => exact ⟨0, by omega, rfl, _, _, _, _, _, HT2.out⟩
 case round =>
  clear HT2
  obtain ⟨k, hk, rfl, N, va, vn, vc, l, m⟩ := hrel
  have HM : Hid (TR w wr pb tb N (.slice va vn vc) l) := m
  clear m
  by_cases hlt : (k : Int) < n
  ·skip
   have tt := HM.out.vT.l1
   have zr := HM.out.vT.lt
   have zN := HM.out.n
   have HOP : Hid _ := op4_any pb _ l _ wr HM.out.c HM.out.r (fun b hb => by omega) (Nat.le_trans HM.out.s.2.2 (by decide)) HM.out.hP
   go_wp2_with fail
   refine Calls.mono HOP.out ?_
   rintro e3 w3 ⟨⟨kd, ⟨p1, q1, d1⟩, nm, ⟨p2, q2, d2⟩, asn, vl⟩, y, z, rfl, oR, ry, rz, c3, g3⟩
   dsimp only at ry rz
   obtain ⟨ya, yc, rfl⟩ := RdV.sliceB ry
   obtain ⟨za, zc, rfl⟩ := RdV.sliceB rz
   have z3 := g3.size
   have b4 : Below w3.heap.size w3 (w3.alloc (.cells #[.i kd, .i p1, .i q1, .bool d1, (.slice ya nm.length yc), .i p2, .i q2, .bool d2, (.slice za asn.length zc), .i vl] 26)) := Below.newH _
   have HM4 : Hid (TR w (w3.alloc (.cells #[.i kd, .i p1, .i q1, .bool d1, (.slice ya nm.length yc), .i p2, .i q2, .bool d2, (.slice za asn.length zc), .i vl] 26)) pb tb N (.slice va vn vc) l) := (HM.out.grow c3 g3 hpb htb).step b4 hpb htb
   have HO4 : Hid (VarA (w3.alloc (.cells #[.i kd, .i p1, .i q1, .bool d1, (.slice ya nm.length yc), .i p2, .i q2, .bool d2, (.slice za asn.length zc), .i vl] 26)) w3.heap.size 26 #[.i kd, .i p1, .i q1, .bool d1, (.slice ya nm.length yc), .i p2, .i q2, .bool d2, (.slice za asn.length zc), .i vl]) := VarA.new _ _ _
   have RY4 : Hid (RdV (w3.alloc (.cells #[.i kd, .i p1, .i q1, .bool d1, (.slice ya nm.length yc), .i p2, .i q2, .bool d2, (.slice za asn.length zc), .i vl] 26)) (fun b => wr.heap.size ≤ b ∧ b < w3.heap.size) (.slice ya nm.length yc) (.bytes nm)) := RdV.step ry b4
   have RZ4 : Hid (RdV (w3.alloc (.cells #[.i kd, .i p1, .i q1, .bool d1, (.slice ya nm.length yc), .i p2, .i q2, .bool d2, (.slice za asn.length zc), .i vl] 26)) (fun b => wr.heap.size ≤ b ∧ b < w3.heap.size) (.slice za asn.length zc) (.bytes asn)) := RdV.step rz b4
   have h4 : (w3.alloc (.cells #[.i kd, .i p1, .i q1, .bool d1, (.slice ya nm.length yc), .i p2, .i q2, .bool d2, (.slice za asn.length zc), .i vl] 26)).heap.size = w3.heap.size + 1 := by simp
   clear ry rz b4 c3 g3 tt HOP
   go_wp2_with fail
   refine Calls.mono (once_any pb 2 _ HM4.out.c (by omega) (by omega)) ?_
   rintro e5 w5 ⟨b5, rfl, c5, g5⟩
   have zw5 : w3.heap.size + 1 ≤ w5.heap.size := by have := g5.size; simpa using this
   have T5 := Turned.ofGrown (S := fun b => b = pb) g5 (fun k hk => by cases hk; rfl)
   have HM5 : Hid (TR w w5 pb tb N (.slice va vn vc) l) := HM4.out.grow c5 g5 hpb htb
   have HO5 : Hid (VarA w5 w3.heap.size 26 #[.i kd, .i p1, .i q1, .bool d1, (.slice ya nm.length yc), .i p2, .i q2, .bool d2, (.slice za asn.length zc), .i vl]) := HO4.out.turn T5 (by show w3.heap.size ≠ pb; omega)
   have zz5 := g5.size
   have RY5 : Hid (RdV w5 (fun b => wr.heap.size ≤ b ∧ b < w5.heap.size) (.slice ya nm.length yc) (.bytes nm)) := RdV.mono (fun b hb => ⟨hb.1, by omega⟩) (RdV.keep (T5.keeps (fun b hb e => by omega)) RY4.out)
   have RZ5 : Hid (RdV w5 (fun b => wr.heap.size ≤ b ∧ b < w5.heap.size) (.slice za asn.length zc) (.bytes asn)) := RdV.mono (fun b hb => ⟨hb.1, by omega⟩) (RdV.keep (T5.keeps (fun b hb e => by omega)) RZ4.out)
   clear T5 c5 g5 RY4 RZ4
   cases b5 with
   | false =>
    obtain ⟨o0, o1, o2, o3, o4, o5, o6, o7, o8, o9⟩ := HO5.out.l10
    have tt := HM5.out.vT.l1
    have hwk : IntKind.i64.wrap (10 + (k : Int)) = 10 + (k : Int) := wrapI _ (by omega) (by omega)
    have hz := sz_all HM5.out.s.1 (Nat.le_trans HM5.out.s.2.2 (by decide))
    have hll := HM5.out.s.2.2
    have HDO : Hid _ := specDo_any (.slice va vn vc) (.slice ya nm.length yc) (.slice za asn.length zc) l ⟨kd, (p1, q1, d1), nm, (p2, q2, d2), asn, vl⟩ (p2, 10 + (k : Int), d2) (fun b => b < w5.heap.size) w5 (RdV.mono (fun b hb => Nat.lt_of_lt_of_le hb.2.2 HM5.out.n) HM5.out.r) (RdV.mono (fun b hb => hb.2) RY5.out) (RdV.mono (fun b hb => hb.2) RZ5.out) (fun b hb => hb) (Nat.le_trans hz (by decide)) (Nat.le_trans hll (by decide)) (fun i => es_small HM5.out.s.1 i) (Nat.le_trans (oR.n) (by decide)) (Nat.le_trans (oR.a) (by decide))
    have HSM : Hid ((dO l ⟨kd, (p1, q1, d1), nm, (p2, q2, d2), asn, vl⟩ (p2, 10 + (k : Int), d2)).2.code = 0 → Sm (dO l ⟨kd, (p1, q1, d1), nm, (p2, q2, d2), asn, vl⟩ (p2, 10 + (k : Int), d2))) := fun hc => dO_sm hc ⟨oR.t.1, oR.t.2.1, by show (0 : Int) ≤ 10 + (k : Int); omega, by show 10 + (k : Int) ≤ 2147483647; omega⟩ oR.t (Nat.le_trans (oR.n) (by decide)) (Nat.le_trans (oR.a) (by decide))
    generalize dO l ⟨kd, (p1, q1, d1), nm, (p2, q2, d2), asn, vl⟩ (p2, 10 + (k : Int), d2) = rr at *
    go_wp2_with fail
    refine Calls.mono HDO.out ?_
    rintro e9 w9 ⟨ta, tn, tc, zx, rfl, rt, rl, b9⟩
    obtain ⟨za9, zc9, rfl, _⟩ := RdV.sliced rl
    obtain ⟨nl, ⟨rcode, ⟨rh0, rh1, rh2⟩, rval, rlist⟩⟩ := rr
    dsimp only at *
    generalize rlist.length = zn at *
    clear rl o0 o1 o2 o3 o4 o5 o6 o7 o8 o9 tt HDO
    have bb : Below w9.heap.size w9 ((w9.alloc (.cells #[.slice ta tn tc] 55)).alloc (.cells #[.i rcode, .i rh0, .i rh1, .bool rh2, .i rval, .slice za9 zn zc9] 29)) := Below.newH2 _ _
    have HM9 : Hid (TR w ((w9.alloc (.cells #[.slice ta tn tc] 55)).alloc (.cells #[.i rcode, .i rh0, .i rh1, .bool rh2, .i rval, .slice za9 zn zc9] 29)) pb tb N (.slice va vn vc) l) := (HM5.out.step b9 hpb htb).step bb hpb htb
    have vx : VarA ((w9.alloc (.cells #[.slice ta tn tc] 55)).alloc (.cells #[.i rcode, .i rh0, .i rh1, .bool rh2, .i rval, .slice za9 zn zc9] 29)) w9.heap.size 55 #[.slice ta tn tc] := (VarA.new w9 _ _).alloc _
    have vr : VarA ((w9.alloc (.cells #[.slice ta tn tc] 55)).alloc (.cells #[.i rcode, .i rh0, .i rh1, .bool rh2, .i rval, .slice za9 zn zc9] 29)) (w9.heap.size + 1) 29 #[.i rcode, .i rh0, .i rh1, .bool rh2, .i rval, .slice za9 zn zc9] := by have := VarA.new (w9.alloc (.cells #[.slice ta tn tc] 55)) 29 #[.i rcode, .i rh0, .i rh1, .bool rh2, .i rval, .slice za9 zn zc9]; simpa using this
    have x0 := vx.l1
    have c0 := vr.c 0 rfl
    have HRT : Hid (RdV ((w9.alloc (.cells #[.slice ta tn tc] 55)).alloc (.cells #[.i rcode, .i rh0, .i rh1, .bool rh2, .i rval, .slice za9 zn zc9] 29)) (fun b => w5.heap.size ≤ b ∧ b < w9.heap.size) (.slice ta tn tc) (ndsDt nl)) := RdV.step rt bb
    have z9 := b9.size
    have ztb := HM5.out.vT.lt
    have zwr := HM5.out.vR.lt
    clear vx vr bb b9 rt
    by_cases hc : rcode = 0
    ·subst hc
     have HS9 := HSM.out rfl
     go_wp2_with ((with_reducible refine gS 55 ?_); refine sF HM9.out.vT rfl rfl (by kernel_rfl) rfl rfl ?_; intro wz vZ t_)
     have HR : TrRel w pb tb n (.i ((k : Int) + 1)) wz := ⟨k + 1, by omega, by simp, w9.heap.size, ta, tn, tc, nl, cur_keep HM9.out.c t_ (by omega), grown_keep HM9.out.g t_ (by omega), HM9.out.vR.turn t_ (by show w.heap.size ≠ tb; omega), vZ, RdV.mono (fun b hb => ⟨by omega, by omega, hb.2⟩) (RdV.keep (t_.keeps (fun b hb e => by have e2 : b = tb := e; omega)) HRT.out), Nat.le_trans (by simp; omega) t_.size, HS9.1, HS9.2.1, HS9.2.2⟩
     first | exact ⟨HR, by simp [intOf]; omega⟩ | exact ⟨_, HR, by simp [intOf]; omega⟩
    ·go_wp2
     have HR : TrRel w pb tb n (.i ((k : Int) + 1)) ((w9.alloc (.cells #[.slice ta tn tc] 55)).alloc (.cells #[.i rcode, .i rh0, .i rh1, .bool rh2, .i rval, .slice za9 zn zc9] 29)) := ⟨k + 1, by omega, by simp, N, va, vn, vc, l, HM9.out⟩
     first | exact ⟨HR, by simp [intOf]; omega⟩ | exact ⟨_, HR, by simp [intOf]; omega⟩
   | true =>
    have tt := HM5.out.vT.l1
    have HDI : Hid _ := dir4_any pb _ l _ w5 HM5.out.c HM5.out.r (fun b hb => by omega) (Nat.le_trans HM5.out.s.2.2 (by decide)) HM5.out.hP
    clear RY5 RZ5
    go_wp2_with fail
    refine Calls.mono HDI.out ?_
    rintro e6 w6 ⟨⟨p6, q6, d6⟩, rfl, hr6, c6, g6⟩
    have T6 := Turned.ofGrown (S := fun b => b = pb) g6 (fun k hk => by cases hk; rfl)
    have HM6 : Hid (TR w w6 pb tb N (.slice va vn vc) l) := HM5.out.grow c6 g6 hpb htb
    have HO6 : Hid (VarA w6 w3.heap.size 26 #[.i kd, .i p1, .i q1, .bool d1, (.slice ya nm.length yc), .i p2, .i q2, .bool d2, (.slice za asn.length zc), .i vl]) := HO5.out.turn T6 (by show w3.heap.size ≠ pb; omega)
    have zz6 := g6.size
    clear T6 c6 g6 HDI tt
    go_wp2_with fail
    refine Calls.mono (draws4_any pb _ HM6.out.c) ?_
    rintro e7 w7 ⟨na, nn, nc, nz, rfl, rr7, ln7, c7, g7⟩
    have T7 := Turned.ofGrown (S := fun b => b = pb) g7 (fun k hk => by cases hk; rfl)
    have HM7 : Hid (TR w w7 pb tb N (.slice va vn vc) l) := HM6.out.grow c7 g7 hpb htb
    have HO7 : Hid (VarA w7 w3.heap.size 26 #[.i kd, .i p1, .i q1, .bool d1, (.slice ya nm.length yc), .i p2, .i q2, .bool d2, (.slice za asn.length zc), .i vl]) := HO6.out.turn T7 (by show w3.heap.size ≠ pb; omega)
    have zz7 := g7.size
    have RR7 : Hid _ := rr7
    clear T7 c7 g7 rr7
    go_wp2_with fail
    refine Calls.mono (below_any pb 4 _ HM7.out.c (by omega) (by omega)) ?_
    rintro e8 w8 ⟨x8, rfl, xa8, xb8, c8, g8⟩
    have T8 := Turned.ofGrown (S := fun b => b = pb) g8 (fun k hk => by cases hk; rfl)
    have HM8 : Hid (TR w w8 pb tb N (.slice va vn vc) l) := HM7.out.grow c8 g8 hpb htb
    have HO8 : Hid (VarA w8 w3.heap.size 26 #[.i kd, .i p1, .i q1, .bool d1, (.slice ya nm.length yc), .i p2, .i q2, .bool d2, (.slice za asn.length zc), .i vl]) := HO7.out.turn T8 (by show w3.heap.size ≠ pb; omega)
    have zz8 := g8.size
    have RR8 : Hid (RdV w8 (fun b => w6.heap.size ≤ b ∧ b < w7.heap.size) (.slice na nn nc) (.bytes nz)) := RdV.keep (T8.keeps (fun b hb e => by omega)) RR7.out
    clear T8 c8 g8 RR7
    go_wp2_with fail
    refine Calls.mono (once_any pb 3 _ HM8.out.c (by omega) (by omega)) ?_
    rintro e10 w10 ⟨b10, rfl, c10, g10⟩
    have T10 := Turned.ofGrown (S := fun b => b = pb) g10 (fun k hk => by cases hk; rfl)
    have HM10 : Hid (TR w w10 pb tb N (.slice va vn vc) l) := HM8.out.grow c10 g10 hpb htb
    have HO10 : Hid (VarA w10 w3.heap.size 26 #[.i kd, .i p1, .i q1, .bool d1, (.slice ya nm.length yc), .i p2, .i q2, .bool d2, (.slice za asn.length zc), .i vl]) := HO8.out.turn T10 (by show w3.heap.size ≠ pb; omega)
    have zz10 := g10.size
    have RR10 : Hid (RdV w10 (fun b => w6.heap.size ≤ b ∧ b < w7.heap.size) (.slice na nn nc) (.bytes nz)) := RdV.keep (T10.keeps (fun b hb e => by omega)) RR8.out
    clear T10 c10 g10 RR8
    have hnl : nn = nz.length := by obtain ⟨a_, c_, e_⟩ := RdV.sliceB RR10.out; simp only [Value.slice.injEq] at e_; exact e_.2.1
    subst hnl
    have hto11 : HdR (x8, 0, !b10) := ⟨by show 0 ≤ x8; omega, by show x8 < 4; omega, by show (0 : Int) ≤ 0; omega, by show (0 : Int) ≤ 2147483647; omega⟩
    have hwk : IntKind.i64.wrap (10 + (k : Int)) = 10 + (k : Int) := wrapI _ (by omega) (by omega)
    go_wp2_with ((with_reducible refine gS 26 ?_); refine sF HO10.out rfl rfl (by kernel_rfl) rfl rfl ?_; intro w11 v11 t11; have HO11 : Hid (VarA w11 w3.heap.size 26 #[.i 4, .i p6, .i q6, .bool d6, (.slice na nz.length nc), .i x8, .i 0, .bool (!b10), (.slice none 0 0), .i 0]) := v11; have HM11 : Hid (TR w w11 pb tb N (.slice va vn vc) l) := HM10.out.put3 t11 hpb (by omega) (by omega) (by omega); have RY11 : Hid (RdV w11 (fun b => w6.heap.size ≤ b ∧ b < w11.heap.size) (.slice na nz.length nc) (.bytes nz)) := RdV.mono (fun b hb => ⟨hb.1, by have := t11.size; omega⟩) (RdV.keep (t11.keeps (fun b hb e => by omega)) RR10.out); have RZ11 : Hid (RdV w11 (fun b => w6.heap.size ≤ b ∧ b < w11.heap.size) (.slice none 0 0) (.bytes ([] : List Int))) := rdb_nil _ _; obtain ⟨o0, o1, o2, o3, o4, o5, o6, o7, o8, o9⟩ := HO11.out.l10; have tt := HM11.out.vT.l1)
    have hz := sz_all HM11.out.s.1 (Nat.le_trans HM11.out.s.2.2 (by decide))
    have hll := HM11.out.s.2.2
    have HDO : Hid _ := specDo_any (.slice va vn vc) (.slice na nz.length nc) (.slice none 0 0) l ⟨4, (p6, q6, d6), nz, (x8, 0, (!b10)), [], 0⟩ (x8, 10 + (k : Int), (!b10)) (fun b => b < w11.heap.size) w11 (RdV.mono (fun b hb => Nat.lt_of_lt_of_le hb.2.2 HM11.out.n) HM11.out.r) (RdV.mono (fun b hb => hb.2) RY11.out) (RdV.mono (fun b hb => hb.2) RZ11.out) (fun b hb => hb) (Nat.le_trans hz (by decide)) (Nat.le_trans hll (by decide)) (fun i => es_small HM11.out.s.1 i) (Nat.le_trans (ln7) (by decide)) (Nat.le_trans (Nat.zero_le 2) (by decide))
    have HSM : Hid ((dO l ⟨4, (p6, q6, d6), nz, (x8, 0, (!b10)), [], 0⟩ (x8, 10 + (k : Int), (!b10))).2.code = 0 → Sm (dO l ⟨4, (p6, q6, d6), nz, (x8, 0, (!b10)), [], 0⟩ (x8, 10 + (k : Int), (!b10)))) := fun hc => dO_sm hc ⟨hto11.1, hto11.2.1, by show (0 : Int) ≤ 10 + (k : Int); omega, by show 10 + (k : Int) ≤ 2147483647; omega⟩ hto11 (Nat.le_trans (ln7) (by decide)) (Nat.le_trans (Nat.zero_le 2) (by decide))
    generalize dO l ⟨4, (p6, q6, d6), nz, (x8, 0, (!b10)), [], 0⟩ (x8, 10 + (k : Int), (!b10)) = rr at *
    refine Calls.mono HDO.out ?_
    rintro e9 w9 ⟨ta, tn, tc, zx, rfl, rt, rl, b9⟩
    obtain ⟨za9, zc9, rfl, _⟩ := RdV.sliced rl
    obtain ⟨nl, ⟨rcode, ⟨rh0, rh1, rh2⟩, rval, rlist⟩⟩ := rr
    dsimp only at *
    generalize rlist.length = zn at *
    clear rl o0 o1 o2 o3 o4 o5 o6 o7 o8 o9 tt HDO
    have bb : Below w9.heap.size w9 ((w9.alloc (.cells #[.slice ta tn tc] 55)).alloc (.cells #[.i rcode, .i rh0, .i rh1, .bool rh2, .i rval, .slice za9 zn zc9] 29)) := Below.newH2 _ _
    have HM9 : Hid (TR w ((w9.alloc (.cells #[.slice ta tn tc] 55)).alloc (.cells #[.i rcode, .i rh0, .i rh1, .bool rh2, .i rval, .slice za9 zn zc9] 29)) pb tb N (.slice va vn vc) l) := (HM11.out.step b9 hpb htb).step bb hpb htb
    have vx : VarA ((w9.alloc (.cells #[.slice ta tn tc] 55)).alloc (.cells #[.i rcode, .i rh0, .i rh1, .bool rh2, .i rval, .slice za9 zn zc9] 29)) w9.heap.size 55 #[.slice ta tn tc] := (VarA.new w9 _ _).alloc _
    have vr : VarA ((w9.alloc (.cells #[.slice ta tn tc] 55)).alloc (.cells #[.i rcode, .i rh0, .i rh1, .bool rh2, .i rval, .slice za9 zn zc9] 29)) (w9.heap.size + 1) 29 #[.i rcode, .i rh0, .i rh1, .bool rh2, .i rval, .slice za9 zn zc9] := by have := VarA.new (w9.alloc (.cells #[.slice ta tn tc] 55)) 29 #[.i rcode, .i rh0, .i rh1, .bool rh2, .i rval, .slice za9 zn zc9]; simpa using this
    have x0 := vx.l1
    have c0 := vr.c 0 rfl
    have HRT : Hid (RdV ((w9.alloc (.cells #[.slice ta tn tc] 55)).alloc (.cells #[.i rcode, .i rh0, .i rh1, .bool rh2, .i rval, .slice za9 zn zc9] 29)) (fun b => w11.heap.size ≤ b ∧ b < w9.heap.size) (.slice ta tn tc) (ndsDt nl)) := RdV.step rt bb
    have z9 := b9.size
    have ztb := HM11.out.vT.lt
    have zwr := HM11.out.vR.lt
    clear vx vr bb b9 rt
    by_cases hc : rcode = 0
    ·subst hc
     have HS9 := HSM.out rfl
     go_wp2_with ((with_reducible refine gS 55 ?_); refine sF HM9.out.vT rfl rfl (by kernel_rfl) rfl rfl ?_; intro wz vZ t_)
     have HR : TrRel w pb tb n (.i ((k : Int) + 1)) wz := ⟨k + 1, by omega, by simp, w9.heap.size, ta, tn, tc, nl, cur_keep HM9.out.c t_ (by omega), grown_keep HM9.out.g t_ (by omega), HM9.out.vR.turn t_ (by show w.heap.size ≠ tb; omega), vZ, RdV.mono (fun b hb => ⟨by omega, by omega, hb.2⟩) (RdV.keep (t_.keeps (fun b hb e => by have e2 : b = tb := e; omega)) HRT.out), Nat.le_trans (by simp; omega) t_.size, HS9.1, HS9.2.1, HS9.2.2⟩
     first | exact ⟨HR, by simp [intOf]; omega⟩ | exact ⟨_, HR, by simp [intOf]; omega⟩
    ·go_wp2
     have HR : TrRel w pb tb n (.i ((k : Int) + 1)) ((w9.alloc (.cells #[.slice ta tn tc] 55)).alloc (.cells #[.i rcode, .i rh0, .i rh1, .bool rh2, .i rval, .slice za9 zn zc9] 29)) := ⟨k + 1, by omega, by simp, N, va, vn, vc, l, HM9.out⟩
     first | exact ⟨HR, by simp [intOf]; omega⟩ | exact ⟨_, HR, by simp [intOf]; omega⟩
  ·have tt := HM.out.vT.l1
   go_wp2_with ((with_reducible refine gS 55 ?_); refine sF HM.out.vR rfl rfl (by kernel_rfl) rfl rfl ?_; intro wz vZ t_)
   refine bpR Tryz.results84 vZ Tryz.underlying55 rfl rfl (by kernel_rfl) rfl ?_
   exact ⟨va, vn, vc, l, rfl, RdV.mono (fun b hb => ⟨by omega, Nat.lt_of_lt_of_le hb.2.2 (Nat.le_trans HM.out.n t_.size)⟩) (RdV.keep (t_.keeps (fun b hb e => by have e2 : b = w.heap.size := e; omega)) HM.out.r), HM.out.s, cur_keep HM.out.c t_ (by omega), grown_keep HM.out.g t_ (Nat.le_refl _)⟩
end
section
set_option maxHeartbeats 4000000 in
theorem contentBad (m : MsD) (a1 a2 a3 a4 : Option Addr) (n1 n2 n3 n4 c1 c2 c3 c4 : Nat) (w : World) (hk : m.kind < 0 ∨ 7 < m.kind) :
  Calls Tryz.prog 54 #[msV m (.slice a1 n1 c1) (.slice a2 n2 c2) (.slice a3 n3 c3) (.slice a4 n4 c4)] w fun e w' => e = .returned .nilIface ∧ Below w.heap.size w w' := by
 obtain ⟨kd, fr, to, rq, ⟨ok, ⟨op_, oq, od⟩, nm, ⟨tp, tq, td⟩, asn, ov⟩, ⟨rc, ⟨rp_, rq_, rd⟩, rv, es⟩, ⟨xs, xb, xn⟩, ⟨pk, ⟨pp, pq, pd⟩, pas, ⟨sp, sq, sd⟩⟩, cd, ⟨hp, hq, hd⟩⟩ := m
 dsimp only at hk ⊢
 go_enter Tryz.func54, Tryz.ntmps54
 go_wp2
 all_goals first | (go_ret; exact ⟨rfl, by repeat (first | exact Below.refl _ _ | refine Below.al ?_ _ | refine below_drewN2 ?_ _)⟩) | (exfalso; omega)
set_option maxHeartbeats 4000000 in
theorem implMsgBad (m : MsD) (a1 a2 a3 a4 : Option Addr) (n1 n2 n3 n4 c1 c2 c3 c4 : Nat) (w : World) (hk : m.kind < 0 ∨ 7 < m.kind) :
  Calls Tryz.prog 12 #[msV m (.slice a1 n1 c1) (.slice a2 n2 c2) (.slice a3 n3 c3) (.slice a4 n4 c4)] w fun e w' => e = .returned (.bool (MOk m)) ∧ Below w.heap.size w w' := by
 have HF : Hid (MOk m = false) := by show _ = _; unfold MOk; rcases hk with h | h <;> simp <;> omega
 rw [HF.out]
 have HCO : Hid (∀ W, _) := fun W => contentBad m a1 a2 a3 a4 n1 n2 n3 n4 c1 c2 c3 c4 W hk
 clear HF
 obtain ⟨kd, fr, to, rq, ⟨ok, ⟨op_, oq, od⟩, nm, ⟨tp, tq, td⟩, asn, ov⟩, ⟨rc, ⟨rp_, rq_, rd⟩, rv, es⟩, ⟨xs, xb, xn⟩, ⟨pk, ⟨pp, pq, pd⟩, pas, ⟨sp, sq, sd⟩⟩, cd, ⟨hp, hq, hd⟩⟩ := m
 dsimp only at hk HCO ⊢
 go_enter Tryz.func12, Tryz.ntmps12
 repeat (first | (with_reducible refine guardLoad (ty := 35) ?_; refine wpList_loadA (VarA.new w _ _) rfl Tryz.underlying35 rfl (by kernel_rfl) ?_) | go_values | go_skip | go_guarded | go_step)
 refine Calls.mono (HCO.out _) ?_
 rintro e w2 ⟨rfl, b_⟩
 have vA : VarA w2 w.heap.size 35 #[.i kd, .i fr, .i to, .i rq, .i ok, .i op_, .i oq, .bool od, .slice a1 n1 c1, .i tp, .i tq, .bool td, .slice a2 n2 c2, .i ov, .i rc, .i rp_, .i rq_, .bool rd, .i rv, .slice a3 n3 c3, .i xs, .i xb, .i xn, .i pk, .i pp, .i pq, .bool pd, .slice a4 n4 c4, .i sp, .i sq, .bool sd, .i cd, .i hp, .i hq, .bool hd] := VarA.step (VarA.new w _ _) b_
 have HB : Hid (Below w.heap.size w w2) := (Below.newH (w := w) _).trans (b_.mono (by simp))
 clear b_ HCO
 haveI := VarA.ne vA
 go_wp2_with fail
 refine wp_region_cls (by kernel_rfl) (by kernel_rfl) ?_
 repeat (go_big_quiet_step (fail))
 refine wpQuiet_nil ?_
 rintro w' ⟨⟨w', b_⟩, rfl⟩
 have HB_ : Hid _ := HB.out.trans (b_.mono HB.out.size)
 clear this vA b_
 go_wp2
 go_ret
 exact ⟨rfl, HB_.out⟩
theorem implMsgOk_any (x y z u : Value) (m : MsD) (S : Nat → Prop) (w : World) (r : RdM w S m x y z u) (hl : szMs m ≤ 2097152) :
  Calls Tryz.prog 12 #[msV m x y z u] w fun e w' => e = .returned (.bool (MOk m)) ∧ Below w.heap.size w w' := by
 obtain ⟨a1, c1, rfl⟩ := r.1.sliceB
 obtain ⟨a2, c2, rfl⟩ := r.2.1.sliceB
 obtain ⟨a3, c3, rfl, _⟩ := RdV.sliced r.2.2.1
 obtain ⟨a4, c4, rfl⟩ := r.2.2.2.sliceB
 by_cases hk : m.kind < 0 ∨ 7 < m.kind
 ·exact implMsgBad m _ _ _ _ _ _ _ _ _ _ _ _ w hk
 ·have h : m.kind = 0 ∨ m.kind = 1 ∨ m.kind = 2 ∨ m.kind = 3 ∨ m.kind = 4 ∨ m.kind = 5 ∨ m.kind = 6 ∨ m.kind = 7 := by omega
  rcases h with h | h | h | h | h | h | h | h
  ·exact implMsg0 m _ _ _ _ _ _ _ _ _ _ _ _ S w r hl h
  ·exact implMsg1 m _ _ _ _ _ _ _ _ _ _ _ _ S w r hl h
  ·exact implMsg2 m _ _ _ _ _ _ _ _ _ _ _ _ S w r hl h
  ·exact implMsg3 m _ _ _ _ _ _ _ _ _ _ _ _ S w r hl h
  ·exact implMsg4 m _ _ _ _ _ _ _ _ _ _ _ _ S w r hl h
  ·exact implMsg5 m _ _ _ _ _ _ _ _ _ _ _ _ S w r hl h
  ·exact implMsg6 m _ _ _ _ _ _ _ _ _ _ _ _ S w r hl h
  ·exact implMsg7 m _ _ _ _ _ _ _ _ _ _ _ _ S w r hl h
end
section
theorem PutV.x {n : Nat} (w : World) (hn : 1 ≤ n) (t : TxD) : PutV n w (.iface 31 (txV t)) (txB t) := .inr (.inr (.inr (.inr (.inl ⟨hn, t, rfl, rfl⟩))))
theorem PutV.o {n : Nat} {w : World} (hn : 2 ≤ n) (o : OpD) {S : Nat → Prop} {x y : Value} (r : RdV w S x (.bytes o.nm)) (r2 : RdV w S y (.bytes o.asn)) (h : o.nm.length ≤ 1048576) (h2 : o.asn.length ≤ 1048576) : PutV n w (.iface 26 (opV o x y)) (opB o) := .inr (.inr (.inr (.inr (.inr (.inl ⟨hn, o, x, y, rfl, r.mono (fun _ _ => trivial), r2.mono (fun _ _ => trivial), h, h2, rfl⟩)))))
theorem PutV.p {n : Nat} {w : World} (hn : 2 ≤ n) (o : PtD) {S : Nat → Prop} {x : Value} (r : RdV w S x (.bytes o.asn)) (h : o.asn.length ≤ 1048576) : PutV n w (.iface 33 (ptV o x)) (ptB o) := .inr (.inr (.inr (.inr (.inr (.inr (.inl ⟨hn, o, x, rfl, r.mono (fun _ _ => trivial), h, rfl⟩))))))
theorem PutV.r {n : Nat} {w : World} (hn : 3 ≤ n) (o : RpD) {S : Nat → Prop} {x : Value} (r : RdV w S x (ensDt o.list)) (h : szEns o.list ≤ 1048576) (h2 : o.list.length ≤ 12) : PutV n w (.iface 29 (rpV o x)) (rpB o) := .inr (.inr (.inr (.inr (.inr (.inr (.inr (.inr ⟨hn, o, x, rfl, r.mono (fun _ _ => trivial), h, h2, rfl⟩)))))))
theorem rpB_len (r : RpD) (h : r.list.length ≤ 12) : (rpB r).length ≤ 900 := by
 have h1 := putB_len r.code; have h2 := hdB_len r.h; have h3 := putB_len r.val; have h4 := putB_len (r.list.length : Int); have h5 := ensB_len r.list
 unfold rpB; simp only [List.length_append]; omega
theorem vals_any (m : MsD) (a1 a2 a3 a4 : Option Addr) (n1 n2 n3 n4 c1 c2 c3 c4 : Nat) (S : Nat → Prop) (w : World) (r : RdM w S m (.slice a1 n1 c1) (.slice a2 n2 c2) (.slice a3 n3 c3) (.slice a4 n4 c4)) (hl : szMs m ≤ 1048576) (ho : MOk m = true) :
  ∃ (c : Value) (vs : List (Value × List Int)), (∀ W, Calls Tryz.prog 54 #[msV m (.slice a1 n1 c1) (.slice a2 n2 c2) (.slice a3 n3 c3) (.slice a4 n4 c4)] W fun e w' => e = .returned c ∧ Below W.heap.size W w') ∧
   (∀ W, Calls Tryz.prog 53 #[c] W fun e w' => ∃ g, e = .returned (.slice (some ⟨g, 0, none⟩) vs.length vs.length) ∧ w'.heap[g]? = some (.cells (vs.map (·.1)).toArray 20 (0, 0)) ∧ Below W.heap.size W w') ∧
   1 ≤ vs.length ∧ vs.length ≤ 100 ∧ vs.flatMap (·.2) = msRest m ∧ (∀ W, Below w.heap.size w W → PVs 3 W vs) ∧ (msRest m).length ≤ 1000 := by
 have h12 := MOk_12 ho
 obtain ⟨r1, r2, r3, r4⟩ := r
 unfold szMs at hl
 have hk := MOk_kind ho
 rcases (show m.kind = 0 ∨ m.kind = 1 ∨ m.kind = 2 ∨ m.kind = 3 ∨ m.kind = 4 ∨ m.kind = 5 ∨ m.kind = 6 ∨ m.kind = 7 by omega) with h | h | h | h | h | h | h | h
 ·refine ⟨.iface 189 (.agg #[.i m.req, .i m.op.kind, .i m.op.dir.sh, .i m.op.dir.ino, .bool m.op.dir.dir, .slice a1 n1 c1, .i m.op.to.sh, .i m.op.to.ino, .bool m.op.to.dir, .slice a2 n2 c2, .i m.op.val]), [(.iface 3 (.i m.req), putB m.req), (.iface 26 (.agg #[.i m.op.kind, .i m.op.dir.sh, .i m.op.dir.ino, .bool m.op.dir.dir, .slice a1 n1 c1, .i m.op.to.sh, .i m.op.to.ino, .bool m.op.to.dir, .slice a2 n2 c2, .i m.op.val]), opB m.op)], fun W => content0 m a1 a2 a3 a4 n1 n2 n3 n4 c1 c2 c3 c4 W h, fun W => values0 m a1 a2 a3 a4 n1 n2 n3 n4 c1 c2 c3 c4 W, by simp, by simp, by simp [msRest, h], fun W hW => (PVs.cons (PutV.i _ _ _) (PVs.cons (PutV.o (by omega) _ (r1.step hW) (r2.step hW) (by omega) (by omega)) PVs.nil)), ?_⟩
  have g0 := putB_len m.req; have g1 := opB_len m.op
  simp [msRest, h]; omega
 ·refine ⟨.iface 191 (.agg #[.i m.req, .i m.rp.code, .i m.rp.h.sh, .i m.rp.h.ino, .bool m.rp.h.dir, .i m.rp.val, .slice a3 n3 c3]), [(.iface 3 (.i m.req), putB m.req), (.iface 29 (.agg #[.i m.rp.code, .i m.rp.h.sh, .i m.rp.h.ino, .bool m.rp.h.dir, .i m.rp.val, .slice a3 n3 c3]), rpB m.rp)], fun W => content1 m a1 a2 a3 a4 n1 n2 n3 n4 c1 c2 c3 c4 W h, fun W => values1 m a1 a2 a3 a4 n1 n2 n3 n4 c1 c2 c3 c4 W, by simp, by simp, by simp [msRest, h], fun W hW => (PVs.cons (PutV.i _ _ _) (PVs.cons (PutV.r (by omega) _ (r3.step hW) (by omega) h12) PVs.nil)), ?_⟩
  have g0 := putB_len m.req; have g1 := rpB_len m.rp h12
  simp [msRest, h]; omega
 ·refine ⟨.iface 193 (.agg #[.i m.tx.1, .i m.tx.2.1, .i m.tx.2.2, .i m.pt.kind, .i m.pt.h.sh, .i m.pt.h.ino, .bool m.pt.h.dir, .slice a4 n4 c4, .i m.pt.to.sh, .i m.pt.to.ino, .bool m.pt.to.dir]), [(.iface 31 (.agg #[.i m.tx.1, .i m.tx.2.1, .i m.tx.2.2]), txB m.tx), (.iface 33 (.agg #[.i m.pt.kind, .i m.pt.h.sh, .i m.pt.h.ino, .bool m.pt.h.dir, .slice a4 n4 c4, .i m.pt.to.sh, .i m.pt.to.ino, .bool m.pt.to.dir]), ptB m.pt)], fun W => content2 m a1 a2 a3 a4 n1 n2 n3 n4 c1 c2 c3 c4 W h, fun W => values2 m a1 a2 a3 a4 n1 n2 n3 n4 c1 c2 c3 c4 W, by simp, by simp, by simp [msRest, h], fun W hW => (PVs.cons (PutV.x _ (by omega) _) (PVs.cons (PutV.p (by omega) _ (r4.step hW) (by omega)) PVs.nil)), ?_⟩
  have g0 := txB_len m.tx; have g1 := ptB_len m.pt
  simp [msRest, h]; omega
 ·refine ⟨.iface 195 (.agg #[.i m.tx.1, .i m.tx.2.1, .i m.tx.2.2, .i m.pt.kind, .i m.pt.h.sh, .i m.pt.h.ino, .bool m.pt.h.dir, .slice a4 n4 c4, .i m.pt.to.sh, .i m.pt.to.ino, .bool m.pt.to.dir, .i m.code, .i m.h.sh, .i m.h.ino, .bool m.h.dir]), [(.iface 31 (.agg #[.i m.tx.1, .i m.tx.2.1, .i m.tx.2.2]), txB m.tx), (.iface 33 (.agg #[.i m.pt.kind, .i m.pt.h.sh, .i m.pt.h.ino, .bool m.pt.h.dir, .slice a4 n4 c4, .i m.pt.to.sh, .i m.pt.to.ino, .bool m.pt.to.dir]), ptB m.pt), (.iface 3 (.i m.code), putB m.code), (.iface 24 (.agg #[.i m.h.sh, .i m.h.ino, .bool m.h.dir]), hdB m.h)], fun W => content3 m a1 a2 a3 a4 n1 n2 n3 n4 c1 c2 c3 c4 W h, fun W => values3 m a1 a2 a3 a4 n1 n2 n3 n4 c1 c2 c3 c4 W, by simp, by simp, by simp [msRest, h], fun W hW => (PVs.cons (PutV.x _ (by omega) _) (PVs.cons (PutV.p (by omega) _ (r4.step hW) (by omega)) (PVs.cons (PutV.i _ _ _) (PVs.cons (PutV.h _ (by omega) _) PVs.nil)))), ?_⟩
  have g0 := txB_len m.tx; have g1 := ptB_len m.pt; have g2 := putB_len m.code; have g3 := hdB_len m.h
  simp [msRest, h]; omega
 ·refine ⟨.iface 197 (.agg #[.i m.tx.1, .i m.tx.2.1, .i m.tx.2.2]), [(.iface 31 (.agg #[.i m.tx.1, .i m.tx.2.1, .i m.tx.2.2]), txB m.tx)], fun W => content4 m a1 a2 a3 a4 n1 n2 n3 n4 c1 c2 c3 c4 W h, fun W => values4 m a1 a2 a3 a4 n1 n2 n3 n4 c1 c2 c3 c4 W, by simp, by simp, by simp [msRest, h], fun W hW => (PVs.cons (PutV.x _ (by omega) _) PVs.nil), ?_⟩
  have g0 := txB_len m.tx
  simp [msRest, h]; omega
 ·refine ⟨.iface 199 (.agg #[.i m.tx.1, .i m.tx.2.1, .i m.tx.2.2, .i m.code]), [(.iface 31 (.agg #[.i m.tx.1, .i m.tx.2.1, .i m.tx.2.2]), txB m.tx), (.iface 3 (.i m.code), putB m.code)], fun W => content5 m a1 a2 a3 a4 n1 n2 n3 n4 c1 c2 c3 c4 W h, fun W => values5 m a1 a2 a3 a4 n1 n2 n3 n4 c1 c2 c3 c4 W, by simp, by simp, by simp [msRest, h], fun W hW => (PVs.cons (PutV.x _ (by omega) _) (PVs.cons (PutV.i _ _ _) PVs.nil)), ?_⟩
  have g0 := txB_len m.tx; have g1 := putB_len m.code
  simp [msRest, h]; omega
 ·refine ⟨.iface 201 (.agg #[.i m.tx.1, .i m.tx.2.1, .i m.tx.2.2, .i m.req, .i m.h.sh, .i m.h.ino, .bool m.h.dir]), [(.iface 31 (.agg #[.i m.tx.1, .i m.tx.2.1, .i m.tx.2.2]), txB m.tx), (.iface 3 (.i m.req), putB m.req), (.iface 24 (.agg #[.i m.h.sh, .i m.h.ino, .bool m.h.dir]), hdB m.h)], fun W => content6 m a1 a2 a3 a4 n1 n2 n3 n4 c1 c2 c3 c4 W h, fun W => values6 m a1 a2 a3 a4 n1 n2 n3 n4 c1 c2 c3 c4 W, by simp, by simp, by simp [msRest, h], fun W hW => (PVs.cons (PutV.x _ (by omega) _) (PVs.cons (PutV.i _ _ _) (PVs.cons (PutV.h _ (by omega) _) PVs.nil))), ?_⟩
  have g0 := txB_len m.tx; have g1 := putB_len m.req; have g2 := hdB_len m.h
  simp [msRest, h]; omega
 ·refine ⟨.iface 203 (.agg #[.i m.tx.1, .i m.tx.2.1, .i m.tx.2.2, .i m.req, .i m.code, .i m.h.sh, .i m.h.ino, .bool m.h.dir]), [(.iface 31 (.agg #[.i m.tx.1, .i m.tx.2.1, .i m.tx.2.2]), txB m.tx), (.iface 3 (.i m.req), putB m.req), (.iface 3 (.i m.code), putB m.code), (.iface 24 (.agg #[.i m.h.sh, .i m.h.ino, .bool m.h.dir]), hdB m.h)], fun W => content7 m a1 a2 a3 a4 n1 n2 n3 n4 c1 c2 c3 c4 W h, fun W => values7 m a1 a2 a3 a4 n1 n2 n3 n4 c1 c2 c3 c4 W, by simp, by simp, by simp [msRest, h], fun W hW => (PVs.cons (PutV.x _ (by omega) _) (PVs.cons (PutV.i _ _ _) (PVs.cons (PutV.i _ _ _) (PVs.cons (PutV.h _ (by omega) _) PVs.nil)))), ?_⟩
  have g0 := txB_len m.tx; have g1 := putB_len m.req; have g2 := putB_len m.code; have g3 := hdB_len m.h
  simp [msRest, h]; omega
end
section
set_option maxHeartbeats 8000000 in
theorem implMsgBytes_any (m : MsD) (x y z u : Value) (S : Nat → Prop) (w : World) (r : RdM w S m x y z u) (hl : szMs m ≤ 1048576) :
  Calls Tryz.prog 10 #[msV m x y z u] w fun e w' => ∃ v, e = .returned (.tuple #[v, .bool (MOk m)]) ∧ isBytes (outB m) ∧ Owns w' w.heap.size v (outB m) ∧ Below w.heap.size w w' := by
 have HM : Hid (∀ W, Below w.heap.size w W → _) := fun W hW => implMsgOk_any x y z u m S W (r.step hW) (by omega)
 obtain ⟨a1, c1, rfl⟩ := r.1.sliceB
 obtain ⟨a2, c2, rfl⟩ := r.2.1.sliceB
 obtain ⟨a3, c3, rfl, _⟩ := RdV.sliced r.2.2.1
 obtain ⟨a4, c4, rfl⟩ := r.2.2.2.sliceB
 by_cases ho : MOk m = true
 ·obtain ⟨c, vs, HC_, HV_, h1, h100, hz, HP_, hln⟩ := vals_any m a1 a2 a3 a4 _ _ _ _ c1 c2 c3 c4 S w r hl ho
  have HC : Hid (∀ W, _) := HC_
  have HV : Hid (∀ W, _) := HV_
  have HP : Hid (∀ W, _) := HP_
  have HF : Hid (outB m = putB m.kind ++ (putB m.fr ++ (putB m.to ++ msRest m))) := by show _ = _; unfold outB; rw [if_pos ho]; rfl
  have HZ : Hid _ := hz
  rw [HF.out, ho]
  rw [ho] at HM
  have hm1 := putB_len m.kind
  have hm2 := putB_len m.fr
  have hm3 := putB_len m.to
  generalize msRest m = zs at HZ hln ⊢
  clear r hl ho HF HC_ HV_ HP_ hz
  obtain ⟨kd, fr, to, rq, ⟨ok, ⟨op_, oq, od⟩, nm, ⟨tp, tq, td⟩, asn, ov⟩, ⟨rc, ⟨rp_, rq_, rd⟩, rv, es⟩, ⟨xs, xb, xn⟩, ⟨pk, ⟨pp, pq, pd⟩, pas, ⟨sp, sq, sd⟩⟩, cd, ⟨hp, hq, hd⟩⟩ := m
  dsimp only at HM HC hm1 hm2 hm3 ⊢
  generalize nm.length = n1 at *
  generalize asn.length = n2 at *
  generalize es.length = n3 at *
  generalize pas.length = n4 at *
  have HPC3 : Hid (∀ v xs vs zs g S W, _) := put3.at
  have HPC0 : Hid (∀ v xs vs zs g S W, _) := put0.at
  go_enter Tryz.func10, Tryz.ntmps10
  go_wp2_with ((with_reducible refine guardLoad (ty := 35) ?_); refine wpList_loadA (VarA.new w _ _) rfl Tryz.underlying35 rfl (by kernel_rfl) ?_)
  refine Calls.mono (HM.out _ (Below.newH _)) ?_
  rintro e w2 ⟨rfl, b_⟩
  have vA : VarA w2 w.heap.size 35 #[.i kd, .i fr, .i to, .i rq, .i ok, .i op_, .i oq, .bool od, .slice a1 n1 c1, .i tp, .i tq, .bool td, .slice a2 n2 c2, .i ov, .i rc, .i rp_, .i rq_, .bool rd, .i rv, .slice a3 n3 c3, .i xs, .i xb, .i xn, .i pk, .i pp, .i pq, .bool pd, .slice a4 n4 c4, .i sp, .i sq, .bool sd, .i cd, .i hp, .i hq, .bool hd] := VarA.step (VarA.new w _ _) b_
  have HB : Hid (Below w.heap.size w w2) := (Below.newH (w := w) _).trans (b_.mono (by simp))
  clear b_ HM
  have a0_ := vA.c 0 rfl
  have a1_ := vA.c 1 rfl
  have a2_ := vA.c 2 rfl
  go_wp2_with fail
  refine Calls.mono (HPC0.out (.slice none 0 0) [] [(.iface 3 (.i kd), putB kd), (.iface 3 (.i fr), putB fr), (.iface 3 (.i to), putB to)] (putB kd ++ (putB fr ++ putB to)) w2.heap.size (fun _ => True) _ ?ra ?rb ?rc ?rd ?re ?rf ?rg) ?_
  case ra => exact Owns.rdT (B := 0) ⟨rfl, .inl ⟨rfl, rfl⟩⟩ isBytes_nil
  case rb => simp
  case rc => exact heap_alloc_new _ _
  case rd => exact PVs.cons (PutV.i _ _ _) (PVs.cons (PutV.i _ _ _) (PVs.cons (PutV.i _ _ _) PVs.nil))
  case re => simp
  case rf => simp
  case rg => simp only [List.length_append, List.length_nil]; omega
  rintro e w3 ⟨v3, rfl, z3, o3, b_⟩
  have b3 : Below w2.heap.size w2 w3 := (Below.newH (w := w2) _).trans (b_.mono (by simp))
  have vA3 := vA.step b3
  have HB3 : Hid (Below w.heap.size w w3) := HB.out.trans (b3.mono HB.out.size)
  have HO3 : Hid (Owns w3 w.heap.size v3 ([] ++ (putB kd ++ (putB fr ++ putB to)))) := o3.base (b' := w.heap.size) (by have := HB.out.size; simp; omega)
  have HZ3 : Hid (isBytes ([] ++ (putB kd ++ (putB fr ++ putB to)))) := z3
  clear vA HB b_ b3 o3 z3 HPC0 a0_ a1_ a2_
  go_wp2_with ((with_reducible refine guardLoad (ty := 35) ?_); refine wpList_loadA vA3 rfl Tryz.underlying35 rfl (by kernel_rfl) ?_)
  refine Calls.mono (HC.out _) ?_
  rintro e w4 ⟨rfl, b4⟩
  have HB4 : Hid (Below w.heap.size w w4) := HB3.out.trans (b4.mono HB3.out.size)
  have HO4 : Hid (Owns w4 w.heap.size v3 ([] ++ (putB kd ++ (putB fr ++ putB to)))) := HO3.out.step b4
  clear vA3 HB3 b4 HO3 HC
  go_wp2_with fail
  refine Calls.mono (HV.out _) ?_
  rintro e w5 ⟨g, rfl, hg, b5⟩
  have HB5 : Hid (Below w.heap.size w w5) := HB4.out.trans (b5.mono HB4.out.size)
  have HO5 : Hid (Owns w5 w.heap.size v3 ([] ++ (putB kd ++ (putB fr ++ putB to)))) := HO4.out.step b5
  have HG : Hid _ := hg
  clear HB4 b5 HO4 HV hg
  go_wp2_with fail
  refine Calls.mono (HPC3.out v3 ([] ++ (putB kd ++ (putB fr ++ putB to))) vs zs g (fun _ => True) _ (HO5.out.rdT HZ3.out) HZ.out HG.out (HP.out _ HB5.out) h1 h100 (by simp only [List.length_append, List.length_nil]; omega)) ?_
  rintro e w6 ⟨v6, rfl, z6, o6, b6⟩
  have HB6 : Hid (Below w.heap.size w w6) := HB5.out.trans (b6.mono HB5.out.size)
  have hsz := HB5.out.size
  have he : [] ++ (putB kd ++ (putB fr ++ putB to)) ++ zs = putB kd ++ (putB fr ++ (putB to ++ zs)) := by simp
  rw [he] at z6 o6
  have HO6 : Hid _ := o6.base (b' := w.heap.size) hsz
  have HZ6 : Hid _ := z6
  clear HB5 b6 HO5 o6 z6 HPC3 HG HP HZ he
  go_wp2
  go_ret2
  exact ⟨_, rfl, HZ6.out, HO6.out, HB6.out⟩
 ·have hof : MOk m = false := by simpa using ho
  have HF : Hid (outB m = []) := by show _ = _; unfold outB; rw [if_neg ho]
  rw [HF.out, hof]
  rw [hof] at HM
  clear r hl ho hof HF
  obtain ⟨kd, fr, to, rq, ⟨ok, ⟨op_, oq, od⟩, nm, ⟨tp, tq, td⟩, asn, ov⟩, ⟨rc, ⟨rp_, rq_, rd⟩, rv, es⟩, ⟨xs, xb, xn⟩, ⟨pk, ⟨pp, pq, pd⟩, pas, ⟨sp, sq, sd⟩⟩, cd, ⟨hp, hq, hd⟩⟩ := m
  dsimp only at HM ⊢
  go_enter Tryz.func10, Tryz.ntmps10
  go_wp2_with ((with_reducible refine guardLoad (ty := 35) ?_); refine wpList_loadA (VarA.new w _ _) rfl Tryz.underlying35 rfl (by kernel_rfl) ?_)
  refine Calls.mono (HM.out _ (Below.newH _)) ?_
  rintro e w2 ⟨rfl, b_⟩
  have HB : Hid (Below w.heap.size w w2) := (Below.newH (w := w) _).trans (b_.mono (by simp))
  clear b_ HM
  go_wp2
  go_ret2
  exact ⟨_, rfl, isBytes_nil, ⟨rfl, .inl ⟨rfl, rfl⟩⟩, HB.out⟩
end
end Go.Proofs.YtklhikadhohjbaaGreat
