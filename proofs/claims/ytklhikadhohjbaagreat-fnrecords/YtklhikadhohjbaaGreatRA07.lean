/- Joined: DW7 DW8 RBy5 RdRR. -/
import Derived.Test.YtklhikadhohjbaaGreatRDW4
import Derived.Test.YtklhikadhohjbaaGreatRA06
import Derived.Test.YtklhikadhohjbaaGreatRSpecD18
import Derived.Test.YtklhikadhohjbaaGreatRRIm
import Derived.Test.YtklhikadhohjbaaGreatRWSame
import Derived.Laws.ResultCell

namespace Go.Proofs.YtklhikadhohjbaaGreat
open Go.RowKit
set_option linter.unusedVariables false
set_option linter.unusedSimpArgs false
set_option maxRecDepth 100000
section
def TrSaid (w : World) (pb : Nat) (e : Ending) (w' : World) : Prop :=
 ∃ ta tn tc l, e = .returned (.agg #[.slice ta tn tc]) ∧ RdV w' (fun b => w.heap.size ≤ b ∧ b < w'.heap.size) (.slice ta tn tc) (ndsDt l) ∧ Sm (l, rc 0) ∧ CurAt w' pb ∧ w.grownBy w' (some pb)
structure TR (w wr : World) (pb tb N : Nat) (v : Value) (l : List Nd) : Prop where
 c : CurAt wr pb
 g : w.grownBy wr (some pb)
 vR : VarA wr w.heap.size 55 #[.slice none 0 0]
 vT : VarA wr tb 55 #[v]
 r : RdV wr (fun b => w.heap.size < b ∧ b ≠ tb ∧ b < N) v (ndsDt l)
 n : N ≤ wr.heap.size
 s : Sm (l, rc 0)
theorem TR.grow {w wc wd : World} {pb tb N : Nat} {v : Value} {l : List Nd} (m : TR w wc pb tb N v l) (hc : CurAt wd pb) (hg : wc.grownBy wd (some pb)) (hp : pb < w.heap.size) (hO : w.heap.size < tb) : TR w wd pb tb N v l :=
 have T := Turned.ofGrown (S := fun b => b = pb) hg (fun k hk => by cases hk; rfl)
 ⟨hc, grown_trans m.g hg, m.vR.turn T (by show w.heap.size ≠ pb; omega), m.vT.turn T (by show tb ≠ pb; omega), RdV.keep (T.keeps (fun b hb e => by omega)) m.r, Nat.le_trans m.n hg.size, m.s⟩
theorem TR.step {w wc wd : World} {pb tb N : Nat} {v : Value} {l : List Nd} (m : TR w wc pb tb N v l) (h : Below wc.heap.size wc wd) (hp : pb < w.heap.size) (hO : w.heap.size < tb) : TR w wd pb tb N v l := m.grow (m.c.below h) (grown_below h) hp hO
theorem TR.hP {w wc : World} {pb tb N : Nat} {v : Value} {l : List Nd} (m : TR w wc pb tb N v l) : ∀ i : Nat, i < l.length → HdR (l[i]?.getD nd0).h := fun i hi => (m.s.1 _ (getD_mem hi)).1
theorem TR.put3 {w wc wd : World} {pb tb N q : Nat} {v : Value} {l : List Nd} (m : TR w wc pb tb N v l) (t : Turned (fun b => b = q) wc wd) (hp : pb < w.heap.size) (hq : w.heap.size < q) (hqt : tb < q) (hN : N ≤ q) : TR w wd pb tb N v l :=
 ⟨cur_keep m.c t (by omega), grown_keep m.g t (by omega), m.vR.turn t (by show w.heap.size ≠ q; omega), m.vT.turn t (by show tb ≠ q; omega), RdV.keep (t.keeps (fun b hb e => by omega)) m.r, Nat.le_trans m.n t.size, m.s⟩
end
section
theorem es_small {l : List Nd} (h : AllN 13 l) (i : Nat) : (l[i]?.getD nd0).es.length ≤ 4000 := by
 by_cases hi : i < l.length
 ·have := (h.at hi).2.1; omega
 ·rw [List.getElem?_eq_none (by omega)]; simp [nd0]
def TrRel (w : World) (pb tb : Nat) (n : Int) (i : Value) (wr : World) : Prop := ∃ k : Nat, (k : Int) ≤ n ∧ i = .int .i64 k ∧ ∃ N va vn vc l, TR w wr pb tb N (.slice va vn vc) l
theorem sm_root : Sm ([rootN], rc 0) := ⟨fun n hn => by
 simp only [List.mem_cons, List.not_mem_nil, or_false] at hn
 subst hn
 exact ⟨by show HdR (0, 1, true); unfold HdR; decide, by simp [rootN], fun e he => by cases he⟩, by simp, by simp⟩
set_option maxHeartbeats 8000000 in
theorem tree4_any (pb : Nat) (w : World) (h : CurAt w pb) : Calls Tryz.prog 84 #[.pointer (some ⟨pb, 0, none⟩)] w (TrSaid w pb) := by
 have hpb := h.lt
 go_enter Tryz.func84, Tryz.ntmps84
 go_wp2_with fail
 refine Calls.mono (specRoot_any _) ?_
 rintro e1 w1 ⟨ra, rn, rq, rfl, oR, b1⟩
 have z1 := b1.size
 rw [World.size_alloc] at z1
 have b1n : Below w1.heap.size w1 (w1.alloc (.cells #[.slice ra rn rq] 55)) := Below.newH _
 have HT1 : Hid (TR w (w1.alloc (.cells #[.slice ra rn rq] 55)) pb w1.heap.size w1.heap.size (.slice ra rn rq) [rootN]) := ⟨((h.alloc _).below b1).below b1n, grown_trans (grown_trans (World.grownBy_alloc w _ _) (grown_below b1)) (grown_below b1n), ((VarA.new w 55 #[.slice none 0 0]).step b1).step b1n, VarA.new _ _ _, RdV.mono (fun b hb => ⟨by have := hb.1; rw [World.size_alloc] at this; omega, by have := hb.2; omega, hb.2⟩) (RdV.step (OwV.rd oR) b1n), by simp, sm_root⟩
 clear oR b1 b1n
 go_wp2_with fail
 refine Calls.mono (below_any pb 16 _ HT1.out.c (by omega) (by omega)) ?_
 rintro e2 w2 ⟨n, rfl, hn0, hn1, c2, g2⟩
 have htb : w.heap.size < w1.heap.size := by omega
 have HT2 : Hid (TR w w2 pb w1.heap.size w1.heap.size (.slice ra rn rq) [rootN]) := HT1.out.grow c2 g2 hpb htb
 clear HT1 c2 g2 z1
 generalize w1.heap.size = tb at *
 go_wp2
 go_loopw [5] (fun i wr => TrRel w pb tb n i wr) (fun i _ => n.toNat - (intOf i).toNat)
 case atStart => exact ⟨0, by omega, rfl, _, _, _, _, _, HT2.out⟩
 case round =>
  clear HT2
  obtain ⟨k, hk, rfl, N, va, vn, vc, l, m⟩ := hrel
  have HM : Hid (TR w wr pb tb N (.slice va vn vc) l) := m
  clear m
  by_cases hlt : (k : Int) < n
  ·skip
   have tt := HM.out.vT.l1
   have zr := HM.out.vT.lt
   have zN := HM.out.n
   have HOP : Hid _ := op4_any pb _ l _ wr HM.out.c HM.out.r (fun b hb => by omega) (Nat.le_trans HM.out.s.2.2 (by decide)) HM.out.hP
   go_wp2_with fail
   refine Calls.mono HOP.out ?_
   rintro e3 w3 ⟨⟨kd, ⟨p1, q1, d1⟩, nm, ⟨p2, q2, d2⟩, asn, vl⟩, y, z, rfl, oR, ry, rz, c3, g3⟩
   dsimp only at ry rz
   obtain ⟨ya, yc, rfl⟩ := RdV.sliceB ry
   obtain ⟨za, zc, rfl⟩ := RdV.sliceB rz
   have z3 := g3.size
   have b4 : Below w3.heap.size w3 (w3.alloc (.cells #[.int .i64 kd, .int .i64 p1, .int .i64 q1, .bool d1, (.slice ya nm.length yc), .int .i64 p2, .int .i64 q2, .bool d2, (.slice za asn.length zc), .int .i64 vl] 26)) := Below.newH _
   have HM4 : Hid (TR w (w3.alloc (.cells #[.int .i64 kd, .int .i64 p1, .int .i64 q1, .bool d1, (.slice ya nm.length yc), .int .i64 p2, .int .i64 q2, .bool d2, (.slice za asn.length zc), .int .i64 vl] 26)) pb tb N (.slice va vn vc) l) := (HM.out.grow c3 g3 hpb htb).step b4 hpb htb
   have HO4 : Hid (VarA (w3.alloc (.cells #[.int .i64 kd, .int .i64 p1, .int .i64 q1, .bool d1, (.slice ya nm.length yc), .int .i64 p2, .int .i64 q2, .bool d2, (.slice za asn.length zc), .int .i64 vl] 26)) w3.heap.size 26 #[.int .i64 kd, .int .i64 p1, .int .i64 q1, .bool d1, (.slice ya nm.length yc), .int .i64 p2, .int .i64 q2, .bool d2, (.slice za asn.length zc), .int .i64 vl]) := VarA.new _ _ _
   have RY4 : Hid (RdV (w3.alloc (.cells #[.int .i64 kd, .int .i64 p1, .int .i64 q1, .bool d1, (.slice ya nm.length yc), .int .i64 p2, .int .i64 q2, .bool d2, (.slice za asn.length zc), .int .i64 vl] 26)) (fun b => wr.heap.size ≤ b ∧ b < w3.heap.size) (.slice ya nm.length yc) (.bytes nm)) := RdV.step ry b4
   have RZ4 : Hid (RdV (w3.alloc (.cells #[.int .i64 kd, .int .i64 p1, .int .i64 q1, .bool d1, (.slice ya nm.length yc), .int .i64 p2, .int .i64 q2, .bool d2, (.slice za asn.length zc), .int .i64 vl] 26)) (fun b => wr.heap.size ≤ b ∧ b < w3.heap.size) (.slice za asn.length zc) (.bytes asn)) := RdV.step rz b4
   have h4 : (w3.alloc (.cells #[.int .i64 kd, .int .i64 p1, .int .i64 q1, .bool d1, (.slice ya nm.length yc), .int .i64 p2, .int .i64 q2, .bool d2, (.slice za asn.length zc), .int .i64 vl] 26)).heap.size = w3.heap.size + 1 := by simp
   clear ry rz b4 c3 g3 tt HOP
   go_wp2_with fail
   refine Calls.mono (once_any pb 2 _ HM4.out.c (by omega) (by omega)) ?_
   rintro e5 w5 ⟨b5, rfl, c5, g5⟩
   have zw5 : w3.heap.size + 1 ≤ w5.heap.size := by have := g5.size; simpa using this
   have T5 := Turned.ofGrown (S := fun b => b = pb) g5 (fun k hk => by cases hk; rfl)
   have HM5 : Hid (TR w w5 pb tb N (.slice va vn vc) l) := HM4.out.grow c5 g5 hpb htb
   have HO5 : Hid (VarA w5 w3.heap.size 26 #[.int .i64 kd, .int .i64 p1, .int .i64 q1, .bool d1, (.slice ya nm.length yc), .int .i64 p2, .int .i64 q2, .bool d2, (.slice za asn.length zc), .int .i64 vl]) := HO4.out.turn T5 (by show w3.heap.size ≠ pb; omega)
   have zz5 := g5.size
   have RY5 : Hid (RdV w5 (fun b => wr.heap.size ≤ b ∧ b < w5.heap.size) (.slice ya nm.length yc) (.bytes nm)) := RdV.mono (fun b hb => ⟨hb.1, by omega⟩) (RdV.keep (T5.keeps (fun b hb e => by omega)) RY4.out)
   have RZ5 : Hid (RdV w5 (fun b => wr.heap.size ≤ b ∧ b < w5.heap.size) (.slice za asn.length zc) (.bytes asn)) := RdV.mono (fun b hb => ⟨hb.1, by omega⟩) (RdV.keep (T5.keeps (fun b hb e => by omega)) RZ4.out)
   clear T5 c5 g5 RY4 RZ4
   cases b5 with
   | false =>
    obtain ⟨o0, o1, o2, o3, o4, o5, o6, o7, o8, o9⟩ := HO5.out.l10
    have tt := HM5.out.vT.l1
    have hwk : IntKind.i64.wrap (10 + (k : Int)) = 10 + (k : Int) := wrapI _ (by omega) (by omega)
    have hz := sz_all HM5.out.s.1 (Nat.le_trans HM5.out.s.2.2 (by decide))
    have hll := HM5.out.s.2.2
    have HDO : Hid _ := specDo_any (.slice va vn vc) (.slice ya nm.length yc) (.slice za asn.length zc) l ⟨kd, (p1, q1, d1), nm, (p2, q2, d2), asn, vl⟩ (p2, 10 + (k : Int), d2) (fun b => b < w5.heap.size) w5 (RdV.mono (fun b hb => Nat.lt_of_lt_of_le hb.2.2 HM5.out.n) HM5.out.r) (RdV.mono (fun b hb => hb.2) RY5.out) (RdV.mono (fun b hb => hb.2) RZ5.out) (fun b hb => hb) (Nat.le_trans hz (by decide)) (Nat.le_trans hll (by decide)) (fun i => es_small HM5.out.s.1 i) (Nat.le_trans (oR.n) (by decide)) (Nat.le_trans (oR.a) (by decide))
    have HSM : Hid ((dO l ⟨kd, (p1, q1, d1), nm, (p2, q2, d2), asn, vl⟩ (p2, 10 + (k : Int), d2)).2.code = 0 → Sm (dO l ⟨kd, (p1, q1, d1), nm, (p2, q2, d2), asn, vl⟩ (p2, 10 + (k : Int), d2))) := fun hc => dO_sm hc ⟨oR.t.1, oR.t.2.1, by show (0 : Int) ≤ 10 + (k : Int); omega, by show 10 + (k : Int) ≤ 2147483647; omega⟩ oR.t (Nat.le_trans (oR.n) (by decide)) (Nat.le_trans (oR.a) (by decide))
    generalize dO l ⟨kd, (p1, q1, d1), nm, (p2, q2, d2), asn, vl⟩ (p2, 10 + (k : Int), d2) = rr at *
    go_wp2_with fail
    refine Calls.mono HDO.out ?_
    rintro e9 w9 ⟨ta, tn, tc, zx, rfl, rt, rl, b9⟩
    obtain ⟨za9, zc9, rfl, _⟩ := RdV.sliced rl
    obtain ⟨nl, ⟨rcode, ⟨rh0, rh1, rh2⟩, rval, rlist⟩⟩ := rr
    dsimp only at *
    generalize rlist.length = zn at *
    clear rl o0 o1 o2 o3 o4 o5 o6 o7 o8 o9 tt HDO
    have bb : Below w9.heap.size w9 ((w9.alloc (.cells #[.slice ta tn tc] 55)).alloc (.cells #[.int .i64 rcode, .int .i64 rh0, .int .i64 rh1, .bool rh2, .int .i64 rval, .slice za9 zn zc9] 29)) := Below.newH2 _ _
    have HM9 : Hid (TR w ((w9.alloc (.cells #[.slice ta tn tc] 55)).alloc (.cells #[.int .i64 rcode, .int .i64 rh0, .int .i64 rh1, .bool rh2, .int .i64 rval, .slice za9 zn zc9] 29)) pb tb N (.slice va vn vc) l) := (HM5.out.step b9 hpb htb).step bb hpb htb
    have vx : VarA ((w9.alloc (.cells #[.slice ta tn tc] 55)).alloc (.cells #[.int .i64 rcode, .int .i64 rh0, .int .i64 rh1, .bool rh2, .int .i64 rval, .slice za9 zn zc9] 29)) w9.heap.size 55 #[.slice ta tn tc] := (VarA.new w9 _ _).alloc _
    have vr : VarA ((w9.alloc (.cells #[.slice ta tn tc] 55)).alloc (.cells #[.int .i64 rcode, .int .i64 rh0, .int .i64 rh1, .bool rh2, .int .i64 rval, .slice za9 zn zc9] 29)) (w9.heap.size + 1) 29 #[.int .i64 rcode, .int .i64 rh0, .int .i64 rh1, .bool rh2, .int .i64 rval, .slice za9 zn zc9] := by have := VarA.new (w9.alloc (.cells #[.slice ta tn tc] 55)) 29 #[.int .i64 rcode, .int .i64 rh0, .int .i64 rh1, .bool rh2, .int .i64 rval, .slice za9 zn zc9]; simpa using this
    have x0 := vx.l1
    have c0 := vr.c 0 rfl
    have HRT : Hid (RdV ((w9.alloc (.cells #[.slice ta tn tc] 55)).alloc (.cells #[.int .i64 rcode, .int .i64 rh0, .int .i64 rh1, .bool rh2, .int .i64 rval, .slice za9 zn zc9] 29)) (fun b => w5.heap.size ≤ b ∧ b < w9.heap.size) (.slice ta tn tc) (ndsDt nl)) := RdV.step rt bb
    have z9 := b9.size
    have ztb := HM5.out.vT.lt
    have zwr := HM5.out.vR.lt
    clear vx vr bb b9 rt
    by_cases hc : rcode = 0
    ·subst hc
     have HS9 := HSM.out rfl
     go_wp2_with ((with_reducible refine guardStore (ty := 55) ?_); refine wpList_storeF HM9.out.vT rfl rfl (by kernel_rfl) rfl (of_decide_eq_true rfl) rfl ?_; intro wz vZ t_)
     have HR : TrRel w pb tb n (.int .i64 ((k : Int) + 1)) wz := ⟨k + 1, by omega, by simp, w9.heap.size, ta, tn, tc, nl, cur_keep HM9.out.c t_ (by omega), grown_keep HM9.out.g t_ (by omega), HM9.out.vR.turn t_ (by show w.heap.size ≠ tb; omega), vZ, RdV.mono (fun b hb => ⟨by omega, by omega, hb.2⟩) (RdV.keep (t_.keeps (fun b hb e => by have e2 : b = tb := e; omega)) HRT.out), Nat.le_trans (by simp; omega) t_.size, HS9.1, HS9.2.1, HS9.2.2⟩
     first | exact ⟨HR, by simp [intOf]; omega⟩ | exact ⟨_, HR, by simp [intOf]; omega⟩
    ·go_wp2
     have HR : TrRel w pb tb n (.int .i64 ((k : Int) + 1)) ((w9.alloc (.cells #[.slice ta tn tc] 55)).alloc (.cells #[.int .i64 rcode, .int .i64 rh0, .int .i64 rh1, .bool rh2, .int .i64 rval, .slice za9 zn zc9] 29)) := ⟨k + 1, by omega, by simp, N, va, vn, vc, l, HM9.out⟩
     first | exact ⟨HR, by simp [intOf]; omega⟩ | exact ⟨_, HR, by simp [intOf]; omega⟩
   | true =>
    have tt := HM5.out.vT.l1
    have HDI : Hid _ := dir4_any pb _ l _ w5 HM5.out.c HM5.out.r (fun b hb => by omega) (Nat.le_trans HM5.out.s.2.2 (by decide)) HM5.out.hP
    clear RY5 RZ5
    go_wp2_with fail
    refine Calls.mono HDI.out ?_
    rintro e6 w6 ⟨⟨p6, q6, d6⟩, rfl, hr6, c6, g6⟩
    have T6 := Turned.ofGrown (S := fun b => b = pb) g6 (fun k hk => by cases hk; rfl)
    have HM6 : Hid (TR w w6 pb tb N (.slice va vn vc) l) := HM5.out.grow c6 g6 hpb htb
    have HO6 : Hid (VarA w6 w3.heap.size 26 #[.int .i64 kd, .int .i64 p1, .int .i64 q1, .bool d1, (.slice ya nm.length yc), .int .i64 p2, .int .i64 q2, .bool d2, (.slice za asn.length zc), .int .i64 vl]) := HO5.out.turn T6 (by show w3.heap.size ≠ pb; omega)
    have zz6 := g6.size
    clear T6 c6 g6 HDI tt
    go_wp2_with fail
    refine Calls.mono (draws4_any pb _ HM6.out.c) ?_
    rintro e7 w7 ⟨na, nn, nc, nz, rfl, rr7, ln7, c7, g7⟩
    have T7 := Turned.ofGrown (S := fun b => b = pb) g7 (fun k hk => by cases hk; rfl)
    have HM7 : Hid (TR w w7 pb tb N (.slice va vn vc) l) := HM6.out.grow c7 g7 hpb htb
    have HO7 : Hid (VarA w7 w3.heap.size 26 #[.int .i64 kd, .int .i64 p1, .int .i64 q1, .bool d1, (.slice ya nm.length yc), .int .i64 p2, .int .i64 q2, .bool d2, (.slice za asn.length zc), .int .i64 vl]) := HO6.out.turn T7 (by show w3.heap.size ≠ pb; omega)
    have zz7 := g7.size
    have RR7 : Hid _ := rr7
    clear T7 c7 g7 rr7
    go_wp2_with fail
    refine Calls.mono (below_any pb 4 _ HM7.out.c (by omega) (by omega)) ?_
    rintro e8 w8 ⟨x8, rfl, xa8, xb8, c8, g8⟩
    have T8 := Turned.ofGrown (S := fun b => b = pb) g8 (fun k hk => by cases hk; rfl)
    have HM8 : Hid (TR w w8 pb tb N (.slice va vn vc) l) := HM7.out.grow c8 g8 hpb htb
    have HO8 : Hid (VarA w8 w3.heap.size 26 #[.int .i64 kd, .int .i64 p1, .int .i64 q1, .bool d1, (.slice ya nm.length yc), .int .i64 p2, .int .i64 q2, .bool d2, (.slice za asn.length zc), .int .i64 vl]) := HO7.out.turn T8 (by show w3.heap.size ≠ pb; omega)
    have zz8 := g8.size
    have RR8 : Hid (RdV w8 (fun b => w6.heap.size ≤ b ∧ b < w7.heap.size) (.slice na nn nc) (.bytes nz)) := RdV.keep (T8.keeps (fun b hb e => by omega)) RR7.out
    clear T8 c8 g8 RR7
    go_wp2_with fail
    refine Calls.mono (once_any pb 3 _ HM8.out.c (by omega) (by omega)) ?_
    rintro e10 w10 ⟨b10, rfl, c10, g10⟩
    have T10 := Turned.ofGrown (S := fun b => b = pb) g10 (fun k hk => by cases hk; rfl)
    have HM10 : Hid (TR w w10 pb tb N (.slice va vn vc) l) := HM8.out.grow c10 g10 hpb htb
    have HO10 : Hid (VarA w10 w3.heap.size 26 #[.int .i64 kd, .int .i64 p1, .int .i64 q1, .bool d1, (.slice ya nm.length yc), .int .i64 p2, .int .i64 q2, .bool d2, (.slice za asn.length zc), .int .i64 vl]) := HO8.out.turn T10 (by show w3.heap.size ≠ pb; omega)
    have zz10 := g10.size
    have RR10 : Hid (RdV w10 (fun b => w6.heap.size ≤ b ∧ b < w7.heap.size) (.slice na nn nc) (.bytes nz)) := RdV.keep (T10.keeps (fun b hb e => by omega)) RR8.out
    clear T10 c10 g10 RR8
    have hnl : nn = nz.length := by obtain ⟨a_, c_, e_⟩ := RdV.sliceB RR10.out; simp only [Value.slice.injEq] at e_; exact e_.2.1
    subst hnl
    have hto11 : HdR (x8, 0, !b10) := ⟨by show 0 ≤ x8; omega, by show x8 < 4; omega, by show (0 : Int) ≤ 0; omega, by show (0 : Int) ≤ 2147483647; omega⟩
    have hwk : IntKind.i64.wrap (10 + (k : Int)) = 10 + (k : Int) := wrapI _ (by omega) (by omega)
    go_wp2_with ((with_reducible refine guardStore (ty := 26) ?_); refine wpList_storeF HO10.out rfl rfl (by kernel_rfl) rfl (of_decide_eq_true rfl) rfl ?_; intro w11 v11 t11; have HO11 : Hid (VarA w11 w3.heap.size 26 #[.int .i64 4, .int .i64 p6, .int .i64 q6, .bool d6, (.slice na nz.length nc), .int .i64 x8, .int .i64 0, .bool (!b10), (.slice none 0 0), .int .i64 0]) := v11; have HM11 : Hid (TR w w11 pb tb N (.slice va vn vc) l) := HM10.out.put3 t11 hpb (by omega) (by omega) (by omega); have RY11 : Hid (RdV w11 (fun b => w6.heap.size ≤ b ∧ b < w11.heap.size) (.slice na nz.length nc) (.bytes nz)) := RdV.mono (fun b hb => ⟨hb.1, by have := t11.size; omega⟩) (RdV.keep (t11.keeps (fun b hb e => by omega)) RR10.out); have RZ11 : Hid (RdV w11 (fun b => w6.heap.size ≤ b ∧ b < w11.heap.size) (.slice none 0 0) (.bytes ([] : List Int))) := rdb_nil _ _; obtain ⟨o0, o1, o2, o3, o4, o5, o6, o7, o8, o9⟩ := HO11.out.l10; have tt := HM11.out.vT.l1)
    have hz := sz_all HM11.out.s.1 (Nat.le_trans HM11.out.s.2.2 (by decide))
    have hll := HM11.out.s.2.2
    have HDO : Hid _ := specDo_any (.slice va vn vc) (.slice na nz.length nc) (.slice none 0 0) l ⟨4, (p6, q6, d6), nz, (x8, 0, (!b10)), [], 0⟩ (x8, 10 + (k : Int), (!b10)) (fun b => b < w11.heap.size) w11 (RdV.mono (fun b hb => Nat.lt_of_lt_of_le hb.2.2 HM11.out.n) HM11.out.r) (RdV.mono (fun b hb => hb.2) RY11.out) (RdV.mono (fun b hb => hb.2) RZ11.out) (fun b hb => hb) (Nat.le_trans hz (by decide)) (Nat.le_trans hll (by decide)) (fun i => es_small HM11.out.s.1 i) (Nat.le_trans (ln7) (by decide)) (Nat.le_trans (Nat.zero_le 2) (by decide))
    have HSM : Hid ((dO l ⟨4, (p6, q6, d6), nz, (x8, 0, (!b10)), [], 0⟩ (x8, 10 + (k : Int), (!b10))).2.code = 0 → Sm (dO l ⟨4, (p6, q6, d6), nz, (x8, 0, (!b10)), [], 0⟩ (x8, 10 + (k : Int), (!b10)))) := fun hc => dO_sm hc ⟨hto11.1, hto11.2.1, by show (0 : Int) ≤ 10 + (k : Int); omega, by show 10 + (k : Int) ≤ 2147483647; omega⟩ hto11 (Nat.le_trans (ln7) (by decide)) (Nat.le_trans (Nat.zero_le 2) (by decide))
    generalize dO l ⟨4, (p6, q6, d6), nz, (x8, 0, (!b10)), [], 0⟩ (x8, 10 + (k : Int), (!b10)) = rr at *
    refine Calls.mono HDO.out ?_
    rintro e9 w9 ⟨ta, tn, tc, zx, rfl, rt, rl, b9⟩
    obtain ⟨za9, zc9, rfl, _⟩ := RdV.sliced rl
    obtain ⟨nl, ⟨rcode, ⟨rh0, rh1, rh2⟩, rval, rlist⟩⟩ := rr
    dsimp only at *
    generalize rlist.length = zn at *
    clear rl o0 o1 o2 o3 o4 o5 o6 o7 o8 o9 tt HDO
    have bb : Below w9.heap.size w9 ((w9.alloc (.cells #[.slice ta tn tc] 55)).alloc (.cells #[.int .i64 rcode, .int .i64 rh0, .int .i64 rh1, .bool rh2, .int .i64 rval, .slice za9 zn zc9] 29)) := Below.newH2 _ _
    have HM9 : Hid (TR w ((w9.alloc (.cells #[.slice ta tn tc] 55)).alloc (.cells #[.int .i64 rcode, .int .i64 rh0, .int .i64 rh1, .bool rh2, .int .i64 rval, .slice za9 zn zc9] 29)) pb tb N (.slice va vn vc) l) := (HM11.out.step b9 hpb htb).step bb hpb htb
    have vx : VarA ((w9.alloc (.cells #[.slice ta tn tc] 55)).alloc (.cells #[.int .i64 rcode, .int .i64 rh0, .int .i64 rh1, .bool rh2, .int .i64 rval, .slice za9 zn zc9] 29)) w9.heap.size 55 #[.slice ta tn tc] := (VarA.new w9 _ _).alloc _
    have vr : VarA ((w9.alloc (.cells #[.slice ta tn tc] 55)).alloc (.cells #[.int .i64 rcode, .int .i64 rh0, .int .i64 rh1, .bool rh2, .int .i64 rval, .slice za9 zn zc9] 29)) (w9.heap.size + 1) 29 #[.int .i64 rcode, .int .i64 rh0, .int .i64 rh1, .bool rh2, .int .i64 rval, .slice za9 zn zc9] := by have := VarA.new (w9.alloc (.cells #[.slice ta tn tc] 55)) 29 #[.int .i64 rcode, .int .i64 rh0, .int .i64 rh1, .bool rh2, .int .i64 rval, .slice za9 zn zc9]; simpa using this
    have x0 := vx.l1
    have c0 := vr.c 0 rfl
    have HRT : Hid (RdV ((w9.alloc (.cells #[.slice ta tn tc] 55)).alloc (.cells #[.int .i64 rcode, .int .i64 rh0, .int .i64 rh1, .bool rh2, .int .i64 rval, .slice za9 zn zc9] 29)) (fun b => w11.heap.size ≤ b ∧ b < w9.heap.size) (.slice ta tn tc) (ndsDt nl)) := RdV.step rt bb
    have z9 := b9.size
    have ztb := HM11.out.vT.lt
    have zwr := HM11.out.vR.lt
    clear vx vr bb b9 rt
    by_cases hc : rcode = 0
    ·subst hc
     have HS9 := HSM.out rfl
     go_wp2_with ((with_reducible refine guardStore (ty := 55) ?_); refine wpList_storeF HM9.out.vT rfl rfl (by kernel_rfl) rfl (of_decide_eq_true rfl) rfl ?_; intro wz vZ t_)
     have HR : TrRel w pb tb n (.int .i64 ((k : Int) + 1)) wz := ⟨k + 1, by omega, by simp, w9.heap.size, ta, tn, tc, nl, cur_keep HM9.out.c t_ (by omega), grown_keep HM9.out.g t_ (by omega), HM9.out.vR.turn t_ (by show w.heap.size ≠ tb; omega), vZ, RdV.mono (fun b hb => ⟨by omega, by omega, hb.2⟩) (RdV.keep (t_.keeps (fun b hb e => by have e2 : b = tb := e; omega)) HRT.out), Nat.le_trans (by simp; omega) t_.size, HS9.1, HS9.2.1, HS9.2.2⟩
     first | exact ⟨HR, by simp [intOf]; omega⟩ | exact ⟨_, HR, by simp [intOf]; omega⟩
    ·go_wp2
     have HR : TrRel w pb tb n (.int .i64 ((k : Int) + 1)) ((w9.alloc (.cells #[.slice ta tn tc] 55)).alloc (.cells #[.int .i64 rcode, .int .i64 rh0, .int .i64 rh1, .bool rh2, .int .i64 rval, .slice za9 zn zc9] 29)) := ⟨k + 1, by omega, by simp, N, va, vn, vc, l, HM9.out⟩
     first | exact ⟨HR, by simp [intOf]; omega⟩ | exact ⟨_, HR, by simp [intOf]; omega⟩
  ·have tt := HM.out.vT.l1
   go_wp2_with ((with_reducible refine guardStore (ty := 55) ?_); refine wpList_storeF HM.out.vR rfl rfl (by kernel_rfl) rfl (of_decide_eq_true rfl) rfl ?_; intro wz vZ t_)
   refine bodyPost_ret (results_cell_row Tryz.results84 _ _ _ _ _ _ _ rfl vZ Tryz.underlying55 rfl (by kernel_rfl)) rfl ?_
   exact ⟨va, vn, vc, l, rfl, RdV.mono (fun b hb => ⟨by omega, Nat.lt_of_lt_of_le hb.2.2 (Nat.le_trans HM.out.n t_.size)⟩) (RdV.keep (t_.keeps (fun b hb e => by have e2 : b = w.heap.size := e; omega)) HM.out.r), HM.out.s, cur_keep HM.out.c t_ (by omega), grown_keep HM.out.g t_ (Nat.le_refl _)⟩
end
section
theorem wp_region_one {P : Program} {id : Nat} {ops : Array Oper} {Q : Exit → Act → World → Prop} {a : Act} {w : World} {bx : Nat} {Tx : TypeId} {cx : Array Value} (hm : P.follows .mixedOrders = true) (vX : VarA w bx Tx cx)
  (h : VarA w.drew bx Tx cx → wpAnyH P .any ops Q (fun W => VarA W bx Tx cx) ops.size (Array.replicate ops.size false) a w.drew) : (Code.region id ops true).wp P Q a w :=
 wp_region_held_drew (S := fun W => VarA W bx Tx cx) hm vX h
set_option maxHeartbeats 8000000 in
theorem implRecordBytes_any (m : MsD) (x y z u : Value) (S : Nat → Prop) (w : World) (r : RdM w S m x y z u) (hl : szMs m ≤ 1048576) :
  Calls Tryz.prog 18 #[rcV m x y z u] w fun e w' => ∃ v, e = .returned (.tuple #[v, .bool (COk m)]) ∧ isBytes (outR m) ∧ Owns w' w.heap.size v (outR m) ∧ Below w.heap.size w w' := by
 have HM : Hid (∀ W, Below w.heap.size w W → _) := fun W hW => implRecordOk_any x y z u m S W (r.step hW) (by omega)
 by_cases ho : COk m = true
 ·have HV : Hid (∀ W, Below w.heap.size w W → _) := fun W hW => recVals_any m x y z u S W (r.step hW) hl ho
  have HF : Hid (outR m = putB m.kind ++ rcRest m) := by show _ = _; unfold outR; rw [if_pos ho]; rfl
  rw [HF.out, ho]
  rw [ho] at HM
  have hm1 := putB_len m.kind
  generalize rcRest m = zs at HV ⊢
  clear r hl ho HF
  obtain ⟨kd, fr, to, rq, ⟨ok, ⟨op_, oq, od⟩, nm, ⟨tp, tq, td⟩, asn, ov⟩, ⟨rc, ⟨rp_, rq_, rd⟩, rv, es⟩, ⟨xs, xb, xn⟩, ⟨pk, ⟨pp, pq, pd⟩, pas, ⟨sp, sq, sd⟩⟩, cd, ⟨hp, hq, hd⟩⟩ := m
  dsimp only at HM HV hm1 ⊢
  go_enter Tryz.func18, Tryz.ntmps18
  go_wp2_with ((with_reducible refine guardLoad (ty := 47) ?_); refine wpList_loadA (VarA.new w _ _) rfl Tryz.underlying47 rfl (by kernel_rfl) ?_)
  refine Calls.mono (HM.out _ (Below.newH _)) ?_
  rintro e w2 ⟨rfl, b_⟩
  have vA : VarA w2 w.heap.size 47 #[.int .i64 kd, .int .i64 fr, .int .i64 rq, .int .i64 ok, .int .i64 op_, .int .i64 oq, .bool od, x, .int .i64 tp, .int .i64 tq, .bool td, y, .int .i64 ov, .int .i64 hp, .int .i64 hq, .bool hd, .int .i64 rc, .int .i64 rp_, .int .i64 rq_, .bool rd, .int .i64 rv, z, .int .i64 xs, .int .i64 xb, .int .i64 xn, .int .i64 pk, .int .i64 pp, .int .i64 pq, .bool pd, u, .int .i64 sp, .int .i64 sq, .bool sd, .int .i64 cd] := VarA.step (VarA.new w _ _) b_
  have HB : Hid (Below w.heap.size w w2) := (Below.newH (w := w) _).trans (b_.mono (by simp))
  clear b_ HM
  go_wp2_with fail
  refine wp_region_noPanic ?_
  refine wp_region_one (by kernel_rfl) vA (fun hHeld => ?_)
  refine wpAnyH_take (i := 0) (v := ?_) rfl (by kernel_rfl) (by kernel_rfl) (by kernel_rfl) (fun _ _ _ h => h) (Or.inl ⟨by rfl, ?_⟩) (by assumption) ?_
  rotate_left
  ·(intro w_ hSw_; go_simp; try with_reducible rfl)
  try simp only [Act.put, qz1, qz2, qz3, qz4, qz5, qz6]
  refine wpAnyH_take (i := 1) (v := ?_) rfl (by kernel_rfl) (by kernel_rfl) (by kernel_rfl) (fun _ _ _ h => h) (Or.inl ⟨by rfl, ?_⟩) (by assumption) ?_
  rotate_left
  ·(intro w_ hSw_; have q_ := VarA.c hSw_ 0 rfl; go_simp; try with_reducible rfl)
  try simp only [Act.put, qz1, qz2, qz3, qz4, qz5, qz6]
  refine wpAnyH_take (i := 3) (v := _) rfl (by kernel_rfl) (by kernel_rfl) (by kernel_rfl) (fun _ _ _ h => h) (Or.inl ⟨by rfl, fun w_ hS_ => loadOp_run hS_ rfl Tryz.underlying47 rfl (by kernel_rfl)⟩) (by assumption) ?_
  try simp only [Act.put, qz1, qz2, qz3, qz4, qz5, qz6]
  refine wpAnyH_ready (rs := [2]) (by kernel_rfl) (by simp) ?_
  refine AllReadyH.cons rfl (fun K hK => ?_) AllReadyH.nil
  go_simp
  refine Calls.mono (implPutR (.slice none 0 0) [] kd (fun _ => True) _ (nilB _ _) (by simp)) ?_
  rintro e w3 ⟨v3, rfl, z3, o3, b_⟩
  have b3 : Below w2.heap.size w2 w3 := (Below.drew (Below.refl _ _)).trans b_
  have vA3 := vA.step b3
  have HB3 : Hid (Below w.heap.size w w3) := HB.out.trans (b3.mono HB.out.size)
  have HO3 : Hid (Owns w3 w.heap.size v3 (putB kd)) := (show Owns w3 _ v3 ([] ++ putB kd) from o3).base (b' := w.heap.size) HB.out.size
  have HZ3 : Hid (isBytes (putB kd)) := z3
  clear vA HB b_ b3 o3 z3
  refine hK.out _ _ vA3 (fun hHeld => ?_)
  clear hK K
  try simp only [Act.put, qz1, qz2, qz3, qz4, qz5, qz6]
  refine wpAnyH_ready (rs := [4]) (by kernel_rfl) (by simp) ?_
  refine AllReadyH.cons rfl (fun K hK => ?_) AllReadyH.nil
  go_simp
  refine Calls.mono (HV.out _ HB3.out) ?_
  rintro e w4 ⟨s, rfl, PS, b4⟩
  have vA4 := vA3.step b4
  have HB4 : Hid (Below w.heap.size w w4) := HB3.out.trans (b4.mono HB3.out.size)
  have HO4 : Hid (Owns w4 w.heap.size v3 (putB kd)) := HO3.out.step b4
  have HPS : Hid (PutS s zs w4) := PS
  clear vA3 HB3 b4 HO3 HV PS
  refine hK.out _ _ vA4 (fun hHeld => ?_)
  clear hK K
  try simp only [Act.put, qz1, qz2, qz3, qz4, qz5, qz6]
  refine wpAnyH_ready (rs := [5]) (by kernel_rfl) (by simp) ?_
  refine AllReadyH.cons rfl (fun K hK => ?_) AllReadyH.nil
  go_simp
  refine Calls.mono (HPS.out _ (Below.refl _ _) v3 (putB kd) w.heap.size HB4.out.size HZ3.out HO4.out hm1) ?_
  rintro e w5 ⟨v5, rfl, z5, o5, b5⟩
  have vA5 := vA4.step b5
  have HB5 : Hid (Below w.heap.size w w5) := HB4.out.trans (b5.mono HB4.out.size)
  have HO5 : Hid (Owns w5 w.heap.size v5 (putB kd ++ zs)) := o5
  have HZ5 : Hid (isBytes (putB kd ++ zs)) := z5
  clear vA4 HB4 b5 HO4 HPS z5 o5
  refine hK.out _ _ vA5 (fun hHeld => ?_)
  clear hK K
  try simp only [Act.put, qz1, qz2, qz3, qz4, qz5, qz6]
  refine wpAnyH_ready (rs := [6]) (by kernel_rfl) (by simp) ?_
  refine AllReadyH.cons rfl (fun K hK => ?_) AllReadyH.nil
  go_simp
  refine hK.out _ _ vA5 (fun hHeld => ?_)
  clear hK K
  try simp only [Act.put, qz1, qz2, qz3, qz4, qz5, qz6]
  refine wpAnyH_ready (rs := [7]) (by kernel_rfl) (by simp) ?_
  refine AllReadyH.cons rfl (fun K hK => ?_) AllReadyH.nil
  go_simp
  refine hK.out _ _ vA5 (fun hHeld => ?_)
  clear hK K
  try simp only [Act.put, qz1, qz2, qz3, qz4, qz5, qz6]
  refine wpAnyH_done (by kernel_rfl) (NoPanic.normal ?_) _
  clear vA5
  go_wp2
  go_ret2
  exact ⟨_, rfl, HZ5.out, HO5.out, HB5.out⟩
 ·have hof : COk m = false := by simpa using ho
  have HF : Hid (outR m = []) := by show _ = _; unfold outR; rw [if_neg ho]
  rw [HF.out, hof]
  rw [hof] at HM
  clear r hl ho hof HF
  obtain ⟨kd, fr, to, rq, ⟨ok, ⟨op_, oq, od⟩, nm, ⟨tp, tq, td⟩, asn, ov⟩, ⟨rc, ⟨rp_, rq_, rd⟩, rv, es⟩, ⟨xs, xb, xn⟩, ⟨pk, ⟨pp, pq, pd⟩, pas, ⟨sp, sq, sd⟩⟩, cd, ⟨hp, hq, hd⟩⟩ := m
  try dsimp only at HM ⊢
  go_enter Tryz.func18, Tryz.ntmps18
  go_wp2_with ((with_reducible refine guardLoad (ty := 47) ?_); refine wpList_loadA (VarA.new w _ _) rfl Tryz.underlying47 rfl (by kernel_rfl) ?_)
  refine Calls.mono (HM.out _ (Below.newH _)) ?_
  rintro e w2 ⟨rfl, b_⟩
  have HB : Hid (Below w.heap.size w w2) := (Below.newH (w := w) _).trans (b_.mono (by simp))
  clear b_ HM
  go_wp2
  go_ret2
  exact ⟨_, rfl, isBytes_nil, ⟨rfl, .inl ⟨rfl, rfl⟩⟩, HB.out⟩
end
section
theorem results_row_tmp {fn : Func} {p u : Tmp} {ty : TypeId} (h : fn.results = #[.cell p ty, .tmp u]) (tmps : Array Value) (w : World) (g : Nat) (t : TypeId) (cs : Array Value) (d : TypeDesc)
  (hp : tmps.getD p undef = .pointer (some ⟨g, 0, none⟩)) (hg : VarA w g t cs)
  (hu : Tryz.prog.underlying ty = some d) (hd : d.isRow = true) (hi : (Tryz.prog.info? ty).map (·.size) = some cs.size) :
  (results fn tmps).run Tryz.prog w = .ok (.tuple #[.agg cs, tmps.getD u undef]) w := by
 rw [results_cell_tmp h, hp]
 simp [asAddr, loadA_run hg hu hd hi]
theorem wpList_loadW {ty t' : TypeId} {dst : Option Tmp} {x : Operand} {pos : String} {af : Array Edge} {gd : Option (Nat × Bool)} {ops : Array Oper} {rest : List Oper} {a : Act} {Q : Exit → Act → World → Prop} {w : World} {g : Nat} {T : TypeId} {cs : Array Value} {d : TypeDesc}
  (hw : Region.wanted ⟨dst, .load ty x, t', pos, af, gd⟩ (yielded ops a.tmps) = true) (hv : VarA w g T cs) (hx : a.eval x = .pointer (some ⟨g, 0, none⟩)) (hu : Tryz.prog.underlying ty = some d) (hd : d.isRow = true) (hi : (Tryz.prog.info? ty).map (·.size) = some cs.size)
  (hK : wpList Tryz.prog ops Q rest (a.put dst (.agg cs)) w) :
  wpList Tryz.prog ops Q (⟨dst, .load ty x, t', pos, af, gd⟩ :: rest) a w := by
 refine BigFrame.wpList_want hw fun K' hK' => ?_
 unfold Oper.wp execOp
 simp only [hx, Instr.loadAt, Instr.sureAddr, Sem.run_bind, Sem.run_pure, Result.andThen_ok, loadA_run hv hu hd hi]
 exact hK' _ _ hK
theorem guardLoadW {ty t' : TypeId} {dst : Option Tmp} {x : Operand} {pos : String} {af : Array Edge} {gd : Option (Nat × Bool)} {ops : Array Oper} {rest : List Oper} {a : Act} {Q : Exit → Act → World → Prop} {w : World}
  (h : wpList Tryz.prog ops Q (⟨dst, .load ty x, t', pos, af, gd⟩ :: rest) a w) : wpList Tryz.prog ops Q (⟨dst, .load ty x, t', pos, af, gd⟩ :: rest) a w := h
theorem RdV.here {w : World} {S : Nat → Prop} {v : Value} {zs : List Int} (r : RdV w S v (.bytes zs)) : RdV w (fun b => b < w.heap.size) v (.bytes zs) := by
 obtain ⟨hb, a, len, cap, hv, hl, hh, hc⟩ := r.b
 refine ⟨hb, a, len, cap, hv, hl, hh, ?_⟩
 rcases hc with h0 | ⟨b, off, ha, h1, h2, hc⟩
 ·exact .inl h0
 ·exact .inr ⟨b, off, ha, h2, h2, hc⟩
theorem CurV.start {w : World} {S : Nat → Prop} {v : Value} {zs : List Int} (T : TypeId) (o : Obj) (r : RdV w S v (.bytes zs)) : CurV T (w.heap.size + 1) zs v 0 ((w.alloc o).alloc (.cells #[v, .int .i64 0] T)) :=
 ⟨VarA.new1 w o T _, RdV.mono (fun b hb => by omega) (RdV.step r.here ((Below.new1 (w := w) o).trans ((Below.new1 (w := w.alloc o) _).mono (by simp)))), by omega, by omega⟩
theorem OwM.nil (w : World) (S : Nat → Prop) : OwM w S ms0 (.slice none 0 0) (.slice none 0 0) (.slice none 0 0) (.slice none 0 0) :=
 ⟨fun _ => False, fun _ => False, fun _ => False, fun _ => False, OwV.nilB _ _, OwV.nilB _ _, OwV.nilR _ _ _ _ _, OwV.nilB _ _, fun b hb => by rcases hb with h | h | h | h <;> exact h.elim, fun b hb => hb.elim, fun b hb => hb.elim, fun b hb => hb.elim⟩
set_option maxHeartbeats 2000000 in
theorem implEndC (pb : Nat) (zs : List Int) (v : Value) (p : Int) (w : World) (h : CurV 108 pb zs v p w) (hl : zs.length ≤ 2000000) :
  Calls Tryz.prog 70 #[.pointer (some ⟨pb, 0, none⟩)] w fun e w' => e = .returned (.bool (decide (p = zs.length))) ∧ Below w.heap.size w w' := by
 obtain ⟨c0, c1⟩ := VarA.l2 h.1
 obtain ⟨a, cap, rfl⟩ := RdV.sliceB h.2.1
 clear h
 have hb : (p == (zs.length : Int)) = decide (p = zs.length) := by simp [BEq.beq]
 rw [← hb]
 clear hb
 go_enter Tryz.func70, Tryz.ntmps70
 go_wp2
 all_goals first
  | (go_ret; exact ⟨rfl, by repeat (first | exact Below.refl _ _ | refine Below.drew ?_ | refine below_drewN2 ?_ _)⟩)
  | (go_quiet (fail); go_wp2; go_ret; exact ⟨rfl, by repeat (first | exact Below.refl _ _ | refine Below.drew ?_ | refine below_drewN2 ?_ _)⟩)
theorem implRecC (pb : Nat) (zs : List Int) (v : Value) (w : World) (h : CurV 108 pb zs v 0 w) (hl : zs.length ≤ 2000000) :
  Calls Tryz.prog 81 #[.pointer (some ⟨pb, 0, none⟩)] w fun e w' => ∃ a1 n1 c1 a2 n2 c2 a3 n3 c3 a4 n4 c4, e = .returned (rcV (rdRc (rdEnP zs) zs).1 (.slice a1 n1 c1) (.slice a2 n2 c2) (.slice a3 n3 c3) (.slice a4 n4 c4)) ∧ OwM w' (fun b => w.heap.size ≤ b ∧ b < w'.heap.size) (rdRc (rdEnP zs) zs).1 (.slice a1 n1 c1) (.slice a2 n2 c2) (.slice a3 n3 c3) (.slice a4 n4 c4) ∧ Gone 108 pb zs v (rdRc (rdEnP zs) zs).2 w w' := by
 by_cases hk : (getNum zs 0).1 < 1 ∨ 4 < (getNum zs 0).1
 ·exact implRecC0 pb zs v w h hl hk
 ·rcases (show (getNum zs 0).1 = 1 ∨ (getNum zs 0).1 = 2 ∨ (getNum zs 0).1 = 3 ∨ (getNum zs 0).1 = 4 by omega) with h_ | h_ | h_ | h_
  ·exact implRecC1 pb zs v w h hl h_
  ·exact implRecC2 pb zs v w h hl h_
  ·exact implRecC3 pb zs v w h hl h_
  ·exact implRecC4 pb zs v w h hl h_
theorem szEns_le40 : ∀ (l : List En), (∀ e ∈ l, e.nm.length ≤ 40) → szEns l ≤ 41 * l.length
 | [], _ => by simp [szEns]
 | e :: l, h => by
  have h1 := szEns_le40 l (fun x hx => h x (List.mem_cons_of_mem _ hx))
  have h2 := h e (List.mem_cons_self ..)
  unfold szEns at h1 ⊢
  simp only [List.map_cons, List.sum_cons, List.length_cons] at h1 ⊢
  omega
theorem ensP_40 (zs : List Int) (k : Nat) : ∀ p : Int, ∀ e ∈ (rdEnsP zs k p).1, e.nm.length ≤ 40 := by
 induction k with
 | zero => intro p e he; cases he
 | succ k ih =>
  intro p e he
  rw [rdEnsP] at he
  rcases List.mem_cons.1 he with h | h
  ·rw [h]; exact getText_len zs p
  ·exact ih _ e h
theorem szP (zs : List Int) (p : Int) : szEns (rdEnP zs p).1 ≤ 1000 := by
 unfold rdEnP
 split
 ·simp [szEns]
 ·have h1 := szEns_le40 _ (ensP_40 zs (getNum zs p).1.toNat (getNum zs p).2)
  have h2 := ensP_len zs (getNum zs p).1.toNat (getNum zs p).2
  omega
theorem szRc (e : Int → List En × Int) (he : ∀ p, szEns (e p).1 ≤ 1000) (zs : List Int) : szMs (rdRc e zs).1 ≤ 2000 := by
 have h0 : szEns ([] : List En) = 0 := by simp [szEns]
 unfold rdRc
 dsimp only
 split
 ·simp only [szMs, pt0, rdRp, rdOp]; have := getText_len zs (rdHd zs (getNum zs (getNum zs (getNum zs (getNum zs 0).2).2).2).2).2; have g := he (getNum zs (rdHd zs (getNum zs (rdHd zs (rdOp zs (getNum zs (getNum zs (getNum zs 0).2).2).2).2).2).2).2).2; simp only [rdOp] at g; simp only [List.length_nil]; have g2 := getText_len zs (rdHd zs (getText zs (rdHd zs (getNum zs (getNum zs (getNum zs (getNum zs 0).2).2).2).2).2).2).2; omega
 split
 ·simp only [szMs, op0, rp0, rdPt, h0, List.length_nil]; have := getText_len zs (rdHd zs (getNum zs (rdTx zs (getNum zs 0).2).2).2).2; omega
 split
 ·simp only [szMs, pt0, rdRp, rdOp]; have := getText_len zs (rdHd zs (getNum zs (getNum zs (getNum zs (getNum zs (rdTx zs (getNum zs 0).2).2).2).2).2).2).2; have g := he (getNum zs (rdHd zs (getNum zs (rdOp zs (getNum zs (getNum zs (getNum zs (rdTx zs (getNum zs 0).2).2).2).2).2).2).2).2).2; simp only [rdOp] at g; simp only [List.length_nil]; have g2 := getText_len zs (rdHd zs (getText zs (rdHd zs (getNum zs (getNum zs (getNum zs (getNum zs (rdTx zs (getNum zs 0).2).2).2).2).2).2).2).2).2; omega
 split
 ·simp [szMs, op0, rp0, pt0, h0]
 ·simp [szMs, op0, rp0, pt0, h0]
set_option maxHeartbeats 8000000 in
theorem implRecordRead_any (v : Value) (zs : List Int) (S : Nat → Prop) (w : World) (r : RdV w S v (.bytes zs)) (hl : zs.length ≤ 2000000) :
  Calls Tryz.prog 21 #[v] w fun e w' => ∃ a1 n1 c1 a2 n2 c2 a3 n3 c3 a4 n4 c4, e = .returned (.tuple #[rcV (recRead zs).1 (.slice a1 n1 c1) (.slice a2 n2 c2) (.slice a3 n3 c3) (.slice a4 n4 c4), .bool (recRead zs).2]) ∧ OwM w' (fun b => w.heap.size ≤ b ∧ b < w'.heap.size) (recRead zs).1 (.slice a1 n1 c1) (.slice a2 n2 c2) (.slice a3 n3 c3) (.slice a4 n4 c4) ∧ Below w.heap.size w w' := by
 obtain ⟨va, vcap, rfl⟩ := r.sliceB
 obtain ⟨v, hv⟩ : ∃ v, v = Value.slice va zs.length vcap := ⟨_, rfl⟩
 rw [← hv] at r
 have HS : Hid (∀ o, CurV 108 (w.heap.size + 1) zs v 0 ((w.alloc o).alloc (.cells #[v, .int .i64 0] 108))) := fun o => CurV.start _ o r
 have HRC : Hid (∀ W, CurV 108 (w.heap.size + 1) zs v 0 W → _) := fun W hW => implRecC (w.heap.size + 1) zs v W hW hl
 have HEN : Hid (∀ p W, CurV 108 (w.heap.size + 1) zs v p W → _) := fun p W hW => implEndC (w.heap.size + 1) zs v p W hW hl
 have hsz := szRc (rdEnP zs) (szP zs) zs
 have HRE : Hid (recRead zs = if (rdRc (rdEnP zs) zs).2 = zs.length ∧ COk (rdRc (rdEnP zs) zs).1 = true then ((rdRc (rdEnP zs) zs).1, true) else (ms0, false)) := rfl
 rw [HRE.out]
 clear HRE r
 generalize rdRc (rdEnP zs) zs = rr at HRC hsz ⊢
 obtain ⟨m, q⟩ := rr
 dsimp only at HRC hsz ⊢
 have HOK : Hid (∀ x y z u S W, RdM W S m x y z u → _) := fun x y z u S W hW => implRecordOk_any x y z u m S W hW (by omega)
 generalize COk m = okB at HOK ⊢
 obtain ⟨mR, bR, hRR⟩ : ∃ a b, (if q = zs.length ∧ okB = true then (m, true) else (ms0, false)) = (a, b) := ⟨_, _, rfl⟩
 rw [hRR]
 have HRR : Hid ((if q = zs.length ∧ okB = true then (m, true) else (ms0, false)) = (mR, bR)) := hRR
 clear hRR
 dsimp only
 subst hv
 go_enter Tryz.func21, Tryz.ntmps21
 go_wp2_with fail
 refine Calls.mono (HRC.out _ (HS.out _)) ?_
 rintro e w2 ⟨a1, n1, c1, a2, n2, c2, a3, n3, c3, a4, n4, c4, rfl, o1, hc, t1⟩
 have hs2 := t1.size
 simp at hs2
 have B2 : Hid (Below w.heap.size w w2) := Turned.below ((Below.new1 (w := w) _).trans ((Below.new1 (w := w.alloc _) _).mono (by simp))) t1 (by simp <;> omega) (fun i hi => by omega)
 have vR : VarA w2 w.heap.size 47 #[.int .i64 0, .int .i64 0, .int .i64 0, .int .i64 0, .int .i64 0, .int .i64 0, .bool false, .slice none 0 0, .int .i64 0, .int .i64 0, .bool false, .slice none 0 0, .int .i64 0, .int .i64 0, .int .i64 0, .bool false, .int .i64 0, .int .i64 0, .int .i64 0, .bool false, .int .i64 0, .slice none 0 0, .int .i64 0, .int .i64 0, .int .i64 0, .int .i64 0, .int .i64 0, .int .i64 0, .bool false, .slice none 0 0, .int .i64 0, .int .i64 0, .bool false, .int .i64 0] := VarA.turn ((VarA.new w _ _).alloc _) t1 (by omega)
 have HOM : Hid (OwM w2 (fun b => w.heap.size + 2 ≤ b ∧ b < w2.heap.size) m (.slice a1 n1 c1) (.slice a2 n2 c2) (.slice a3 n3 c3) (.slice a4 n4 c4)) := o1.mono (fun b hb => ⟨by simpa using hb.1, hb.2⟩)
 have HC2 : Hid (CurV 108 (w.heap.size + 1) zs _ q w2) := hc
 clear o1 hc t1 HRC HS
 obtain ⟨kd, fr, to, rq, ⟨ok, ⟨op_, oq, od⟩, nm, ⟨tp, tq, td⟩, asn, ov⟩, ⟨rc, ⟨rp_, rq_, rd⟩, rv, es⟩, ⟨xs, xb, xn⟩, ⟨pk, ⟨pp, pq, pd⟩, pas, ⟨sp, sq, sd⟩⟩, cd, ⟨hp, hq, hd⟩⟩ := m
 dsimp only at HOM HOK hsz ⊢
 repeat (first | ((with_reducible refine guardStore (ty := 47) ?_); refine wpList_storeF (VarA.new w2 _ _) rfl rfl (by kernel_rfl) rfl (of_decide_eq_true rfl) rfl ?_; intro w3 vX_ t_) | go_values | go_skip | go_guarded | go_step | go_upon)
 have vX : VarA w3 w2.heap.size 47 #[.int .i64 kd, .int .i64 fr, .int .i64 rq, .int .i64 ok, .int .i64 op_, .int .i64 oq, .bool od, .slice a1 n1 c1, .int .i64 tp, .int .i64 tq, .bool td, .slice a2 n2 c2, .int .i64 ov, .int .i64 hp, .int .i64 hq, .bool hd, .int .i64 rc, .int .i64 rp_, .int .i64 rq_, .bool rd, .int .i64 rv, .slice a3 n3 c3, .int .i64 xs, .int .i64 xb, .int .i64 xn, .int .i64 pk, .int .i64 pp, .int .i64 pq, .bool pd, .slice a4 n4 c4, .int .i64 sp, .int .i64 sq, .bool sd, .int .i64 cd] := vX_
 have t1 : Turned (fun b => b = w2.heap.size) w2 w3 := (Turned.ofBelow (Below.new1 (w := w2) _)).trans t_
 have hs3 := t1.size
 have hlX := VarA.lt vX
 have B3 : Hid (Below w.heap.size w w3) := Turned.below B2.out t1 B2.out.size (fun i hi => by omega)
 have vR3 := vR.turn t1 (by omega)
 have HOM3 : Hid (OwM w3 (fun b => w.heap.size + 2 ≤ b ∧ b < w2.heap.size) _ (.slice a1 n1 c1) (.slice a2 n2 c2) (.slice a3 n3 c3) (.slice a4 n4 c4)) := HOM.out.keep (t1.keeps (fun b hb hs => by omega))
 have HC3 : Hid (CurV 108 (w.heap.size + 1) zs _ q w3) := HC2.out.keep t1 (fun b hb => by omega)
 clear vX_ t_ t1 B2 vR HOM HC2
 refine Calls.mono (HEN.out _ _ HC3.out) ?_
 rintro e w4 ⟨rfl, b4⟩
 have vX4 := vX.step b4
 have vR4 := vR3.step b4
 have B4 : Hid (Below w.heap.size w w4) := B3.out.trans (b4.mono B3.out.size)
 have HOM4 : Hid (OwM w4 (fun b => w.heap.size + 2 ≤ b ∧ b < w2.heap.size) _ (.slice a1 n1 c1) (.slice a2 n2 c2) (.slice a3 n3 c3) (.slice a4 n4 c4)) := HOM3.out.keep (Keeps.ofBelow b4)
 have hs4 := b4.size
 clear vX vR3 B3 HOM3 HC3 b4 HEN
 by_cases hqq : q = zs.length
 case neg =>
  have hdd : decide (q = (zs.length : Int)) = false := by simpa using hqq
  have h_ := HRR.out
  rw [if_neg (fun h => hqq h.1)] at h_
  simp only [Prod.mk.injEq] at h_
  obtain ⟨rfl, rfl⟩ := h_
  rw [hdd]
  clear HOK HOM4 vX4
  dsimp only
  repeat (first | ((with_reducible refine guardStore (ty := 47) ?_); refine wpList_storeF vR4 rfl rfl (by kernel_rfl) rfl (of_decide_eq_true rfl) rfl ?_; intro w' vR_ t_) | go_values | go_skip | go_guarded | go_step | go_upon)
  refine bodyPost_ret (results_row_tmp Tryz.results21 _ _ _ _ _ _ rfl vR_ Tryz.underlying47 rfl (by kernel_rfl)) rfl ?_
  exact ⟨none, 0, 0, none, 0, 0, none, 0, 0, none, 0, 0, rfl, OwM.nil _ _, Turned.below B4.out t_ B4.out.size (fun i hi => by omega)⟩
 have hdd : decide (q = (zs.length : Int)) = true := by simpa using hqq
 rw [hdd]
 cases okB
 ·have h_ := HRR.out
  rw [if_neg (fun h => by cases h.2)] at h_
  simp only [Prod.mk.injEq] at h_
  obtain ⟨rfl, rfl⟩ := h_
  dsimp only
  repeat (first | ((with_reducible refine guardLoadW (ty := 47) ?_); refine wpList_loadW rfl vX4 rfl Tryz.underlying47 rfl (by kernel_rfl) ?_) | go_values | go_skip | go_guarded | go_step | go_upon)
  refine Calls.mono (HOK.out _ _ _ _ _ _ HOM4.out.rd) ?_
  rintro e w5 ⟨rfl, b5⟩
  have vR4_ := vR4.step b5
  have B4_ : Hid (Below w.heap.size w w5) := B4.out.trans (b5.mono B4.out.size)
  clear HOK HOM4 vX4 vR4 B4 b5
  have vR4 := vR4_
  have B4 := B4_
  clear vR4_ B4_
  dsimp only
  repeat (first | ((with_reducible refine guardStore (ty := 47) ?_); refine wpList_storeF vR4 rfl rfl (by kernel_rfl) rfl (of_decide_eq_true rfl) rfl ?_; intro w' vR_ t_) | go_values | go_skip | go_guarded | go_step | go_upon)
  refine bodyPost_ret (results_row_tmp Tryz.results21 _ _ _ _ _ _ rfl vR_ Tryz.underlying47 rfl (by kernel_rfl)) rfl ?_
  exact ⟨none, 0, 0, none, 0, 0, none, 0, 0, none, 0, 0, rfl, OwM.nil _ _, Turned.below B4.out t_ B4.out.size (fun i hi => by omega)⟩
 ·have h_ := HRR.out
  rw [if_pos ⟨hqq, rfl⟩] at h_
  simp only [Prod.mk.injEq] at h_
  obtain ⟨rfl, rfl⟩ := h_
  dsimp only
  repeat (first | ((with_reducible refine guardLoadW (ty := 47) ?_); refine wpList_loadW rfl vX4 rfl Tryz.underlying47 rfl (by kernel_rfl) ?_) | go_values | go_skip | go_guarded | go_step | go_upon)
  refine Calls.mono (HOK.out _ _ _ _ _ _ HOM4.out.rd) ?_
  rintro e w5 ⟨rfl, b5⟩
  have vR5 := vR4.step b5
  have vX5 := vX4.step b5
  have B5 : Hid (Below w.heap.size w w5) := B4.out.trans (b5.mono B4.out.size)
  have HOM5 : Hid (OwM w5 (fun b => w.heap.size + 2 ≤ b ∧ b < w2.heap.size) _ (.slice a1 n1 c1) (.slice a2 n2 c2) (.slice a3 n3 c3) (.slice a4 n4 c4)) := HOM4.out.keep (Keeps.ofBelow b5)
  have hs5 := b5.size
  clear HOK HOM4 vX4 vR4 B4 b5
  dsimp only
  repeat (first | ((with_reducible refine guardLoad (ty := 47) ?_); refine wpList_loadA vX5 rfl Tryz.underlying47 rfl (by kernel_rfl) ?_) | ((with_reducible refine guardStore (ty := 47) ?_); refine wpList_storeF vR5 rfl rfl (by kernel_rfl) rfl (of_decide_eq_true rfl) rfl ?_; intro w' vR_ t_) | go_values | go_skip | go_guarded | go_step | go_upon)
  refine bodyPost_ret (results_row_tmp Tryz.results21 _ _ _ _ _ _ rfl vR_ Tryz.underlying47 rfl (by kernel_rfl)) rfl ?_
  have hs6 := t_.size
  exact ⟨_, _, _, _, _, _, _, _, _, _, _, _, rfl, (HOM5.out.keep (t_.keeps (fun b hb hs => by omega))).mono (fun b hb => ⟨by omega, by omega⟩), Turned.below B5.out t_ B5.out.size (fun i hi => by omega)⟩
end
end Go.Proofs.YtklhikadhohjbaaGreat
