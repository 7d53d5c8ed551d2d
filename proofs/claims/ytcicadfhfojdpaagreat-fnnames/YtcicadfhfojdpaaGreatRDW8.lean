/- What the specification draws: a tree; no condition. -/
import Derived.Test.YtcicadfhfojdpaaGreatRA01
import Derived.Test.YtcicadfhfojdpaaGreatRA07
namespace Go.Proofs.YtcicadfhfojdpaaGreat
open Go.RowKit
set_option linter.unusedVariables false
set_option linter.unusedSimpArgs false
set_option maxRecDepth 100000

def TrRel (w : World) (pb tb : Nat) (n : Int) (i : Value) (wr : World) : Prop := ∃ k : Nat, (k : Int) ≤ n ∧ i = .i k ∧ ∃ N va vn vc l, TR w wr pb tb N (.slice va vn vc) l
theorem sm_root : Sm ([rootN], rc 0) := ⟨fun n hn => by
 simp only [List.mem_cons, List.not_mem_nil, or_false] at hn
 subst hn
 exact ⟨by show HdR (0, 1, true); unfold HdR; decide, by simp [rootN], fun e he => by cases he⟩, by simp, by simp⟩
set_option maxHeartbeats 8000000 in
theorem tree4_any (pb : Nat) (w : World) (h : CurAt w pb) : Calls Tryz.prog 29 #[.pointer (some ⟨pb, 0, none⟩)] w (TrSaid w pb) := by
 have hpb := h.lt
 go_enter Tryz.func29, Tryz.ntmps29
 go_wp2_with fail
 refine Calls.mono (specRoot_any _) ?_
 rintro e1 w1 ⟨ra, rn, rq, rfl, oR, b1⟩
 have z1 := b1.size
 rw [World.size_alloc] at z1
 have b1n : Below w1.heap.size w1 (w1.alloc (.cells #[.slice ra rn rq] 25)) := Below.newH _
 have HT1 : Hid (TR w (w1.alloc (.cells #[.slice ra rn rq] 25)) pb w1.heap.size w1.heap.size (.slice ra rn rq) [rootN]) := ⟨((h.alloc _).below b1).below b1n, grown_trans (grown_trans (World.grownBy_alloc w _ _) (grown_below b1)) (grown_below b1n), ((VarA.new w 25 #[.n0]).step b1).step b1n, VarA.new _ _ _, RdV.mono (fun b hb => ⟨by have := hb.1; rw [World.size_alloc] at this; omega, by have := hb.2; omega, hb.2⟩) (RdV.step (OwV.nds oR (fun b hb => hb.2)) b1n), by simp, sm_root⟩
 clear oR b1 b1n
 go_wp2_with fail
 refine Calls.mono (below_any pb 16 _ HT1.out.c (by omega) (by omega)) ?_
 rintro e2 w2 ⟨n, rfl, hn0, hn1, c2, g2⟩
 have htb : w.heap.size < w1.heap.size := by omega
 have HT2 : Hid (TR w w2 pb w1.heap.size w1.heap.size (.slice ra rn rq) [rootN]) := HT1.out.grow c2 g2 hpb htb
 clear HT1 c2 g2 z1
 generalize w1.heap.size = tb at *
 go_wp2
 go_loopw [5] (fun i wr => TrRel w pb tb n i wr) (fun i _ => n.toNat - (intOf i).toNat)
 case atStart => exact ⟨0, by omega, rfl, _, _, _, _, _, HT2.out⟩
 case round =>
  clear HT2
  obtain ⟨k, hk, rfl, N, va, vn, vc, l, m⟩ := hrel
  have HM : Hid (TR w wr pb tb N (.slice va vn vc) l) := m
  clear m
  by_cases hlt : (k : Int) < n
  ·skip
   have tt := HM.out.vT.l1
   have zr := HM.out.vT.lt
   have zN := HM.out.n
   have HOP : Hid _ := op4_any pb _ l _ wr HM.out.c (RdV.nds HM.out.r) (fun b hb => by omega) (Nat.le_trans HM.out.s.2.2 (by decide)) HM.out.hP
   go_wp2_with fail
   refine Calls.mono HOP.out ?_
   rintro e3 w3 ⟨⟨kd, ⟨p1, q1, d1⟩, nm, ⟨p2, q2, d2⟩, asn, vl⟩, y, z, rfl, oR, ry, rz, c3, g3⟩
   dsimp only at ry rz
   obtain ⟨ya, yc, rfl⟩ := RdV.sliceB ry
   obtain ⟨za, zc, rfl⟩ := RdV.sliceB rz
   have z3 := g3.size
   have b4 : Below w3.heap.size w3 (w3.alloc (.cells #[.i kd, .i p1, .i q1, .bool d1, (.slice ya nm.length yc), .i p2, .i q2, .bool d2, (.slice za asn.length zc), .i vl] 29)) := Below.newH _
   have HM4 : Hid (TR w (w3.alloc (.cells #[.i kd, .i p1, .i q1, .bool d1, (.slice ya nm.length yc), .i p2, .i q2, .bool d2, (.slice za asn.length zc), .i vl] 29)) pb tb N (.slice va vn vc) l) := (HM.out.grow c3 g3 hpb htb).step b4 hpb htb
   have HO4 : Hid (VarA (w3.alloc (.cells #[.i kd, .i p1, .i q1, .bool d1, (.slice ya nm.length yc), .i p2, .i q2, .bool d2, (.slice za asn.length zc), .i vl] 29)) w3.heap.size 29 #[.i kd, .i p1, .i q1, .bool d1, (.slice ya nm.length yc), .i p2, .i q2, .bool d2, (.slice za asn.length zc), .i vl]) := VarA.new _ _ _
   have RY4 : Hid (RdV (w3.alloc (.cells #[.i kd, .i p1, .i q1, .bool d1, (.slice ya nm.length yc), .i p2, .i q2, .bool d2, (.slice za asn.length zc), .i vl] 29)) (fun b => wr.heap.size ≤ b ∧ b < w3.heap.size) (.slice ya nm.length yc) (.bytes nm)) := RdV.step ry b4
   have RZ4 : Hid (RdV (w3.alloc (.cells #[.i kd, .i p1, .i q1, .bool d1, (.slice ya nm.length yc), .i p2, .i q2, .bool d2, (.slice za asn.length zc), .i vl] 29)) (fun b => wr.heap.size ≤ b ∧ b < w3.heap.size) (.slice za asn.length zc) (.bytes asn)) := RdV.step rz b4
   have h4 : (w3.alloc (.cells #[.i kd, .i p1, .i q1, .bool d1, (.slice ya nm.length yc), .i p2, .i q2, .bool d2, (.slice za asn.length zc), .i vl] 29)).heap.size = w3.heap.size + 1 := by simp
   clear ry rz b4 c3 g3 tt HOP
   go_wp2_with fail
   refine Calls.mono (once_any pb 2 _ HM4.out.c (by omega) (by omega)) ?_
   rintro e5 w5 ⟨b5, rfl, c5, g5⟩
   have zw5 : w3.heap.size + 1 ≤ w5.heap.size := by have := g5.size; simpa using this
   have T5 := Turned.ofGrown (S := fun b => b = pb) g5 (fun k hk => by cases hk; rfl)
   have HM5 : Hid (TR w w5 pb tb N (.slice va vn vc) l) := HM4.out.grow c5 g5 hpb htb
   have HO5 : Hid (VarA w5 w3.heap.size 29 #[.i kd, .i p1, .i q1, .bool d1, (.slice ya nm.length yc), .i p2, .i q2, .bool d2, (.slice za asn.length zc), .i vl]) := HO4.out.turn T5 (by show w3.heap.size ≠ pb; omega)
   have zz5 := g5.size
   have RY5 : Hid (RdV w5 (fun b => wr.heap.size ≤ b ∧ b < w5.heap.size) (.slice ya nm.length yc) (.bytes nm)) := RdV.mono (fun b hb => ⟨hb.1, by omega⟩) (RdV.keep (T5.keeps (fun b hb e => by omega)) RY4.out)
   have RZ5 : Hid (RdV w5 (fun b => wr.heap.size ≤ b ∧ b < w5.heap.size) (.slice za asn.length zc) (.bytes asn)) := RdV.mono (fun b hb => ⟨hb.1, by omega⟩) (RdV.keep (T5.keeps (fun b hb e => by omega)) RZ4.out)
   clear T5 c5 g5 RY4 RZ4
   cases b5 with
   | false =>
    obtain ⟨o0, o1, o2, o3, o4, o5, o6, o7, o8, o9⟩ := HO5.out.l10
    have tt := HM5.out.vT.l1
    have hwk : IntKind.i64.wrap (10 + (k : Int)) = 10 + (k : Int) := wrapI _ (by omega) (by omega)
    have hz := sz_all HM5.out.s.1 (Nat.le_trans HM5.out.s.2.2 (by decide))
    have hll := HM5.out.s.2.2
    have HDO : Hid _ := specDo_any (.slice va vn vc) (.slice ya nm.length yc) (.slice za asn.length zc) l ⟨kd, (p1, q1, d1), nm, (p2, q2, d2), asn, vl⟩ (p2, 10 + (k : Int), d2) (fun b => b < w5.heap.size) w5 (RdV.mono (fun b hb => Nat.lt_of_lt_of_le hb.2.2 HM5.out.n) (RdV.nds HM5.out.r)) (RdV.mono (fun b hb => hb.2) RY5.out) (RdV.mono (fun b hb => hb.2) RZ5.out) (fun b hb => hb) (Nat.le_trans hz (by decide)) (Nat.le_trans (oR.n) (by decide)) (Nat.le_trans (oR.a) (by decide))
    have HSM : Hid ((dO l ⟨kd, (p1, q1, d1), nm, (p2, q2, d2), asn, vl⟩ (p2, 10 + (k : Int), d2)).2.code = 0 → Sm (dO l ⟨kd, (p1, q1, d1), nm, (p2, q2, d2), asn, vl⟩ (p2, 10 + (k : Int), d2))) := fun hc => dO_sm hc ⟨oR.t.1, oR.t.2.1, by show (0 : Int) ≤ 10 + (k : Int); omega, by show 10 + (k : Int) ≤ 2147483648; omega⟩ oR.t (Nat.le_trans (oR.n) (by decide)) (Nat.le_trans (oR.a) (by decide))
    generalize dO l ⟨kd, (p1, q1, d1), nm, (p2, q2, d2), asn, vl⟩ (p2, 10 + (k : Int), d2) = rr at *
    go_wp2_with fail
    refine Calls.mono HDO.out ?_
    rintro e9 w9 ⟨ta, tn, tc, zx, rfl, rt, rl, b9⟩
    obtain ⟨za9, zc9, rfl, _⟩ := RdV.sliced rl
    obtain ⟨nl, ⟨rcode, ⟨rh0, rh1, rh2⟩, rval, rlist⟩⟩ := rr
    dsimp only at *
    generalize rlist.length = zn at *
    clear rl o0 o1 o2 o3 o4 o5 o6 o7 o8 o9 tt HDO
    have bb : Below w9.heap.size w9 ((w9.alloc (.cells #[.slice ta tn tc] 25)).alloc (.cells #[.i rcode, .i rh0, .i rh1, .bool rh2, .i rval, .slice za9 zn zc9] 34)) := Below.newH2 _ _
    have HM9 : Hid (TR w ((w9.alloc (.cells #[.slice ta tn tc] 25)).alloc (.cells #[.i rcode, .i rh0, .i rh1, .bool rh2, .i rval, .slice za9 zn zc9] 34)) pb tb N (.slice va vn vc) l) := (HM5.out.step b9 hpb htb).step bb hpb htb
    have vx : VarA ((w9.alloc (.cells #[.slice ta tn tc] 25)).alloc (.cells #[.i rcode, .i rh0, .i rh1, .bool rh2, .i rval, .slice za9 zn zc9] 34)) w9.heap.size 25 #[.slice ta tn tc] := (VarA.new w9 _ _).alloc _
    have vr : VarA ((w9.alloc (.cells #[.slice ta tn tc] 25)).alloc (.cells #[.i rcode, .i rh0, .i rh1, .bool rh2, .i rval, .slice za9 zn zc9] 34)) (w9.heap.size + 1) 34 #[.i rcode, .i rh0, .i rh1, .bool rh2, .i rval, .slice za9 zn zc9] := by have := VarA.new (w9.alloc (.cells #[.slice ta tn tc] 25)) 34 #[.i rcode, .i rh0, .i rh1, .bool rh2, .i rval, .slice za9 zn zc9]; simpa using this
    have x0 := vx.l1
    have c0 := vr.c 0 rfl
    have HRT : Hid (RdV ((w9.alloc (.cells #[.slice ta tn tc] 25)).alloc (.cells #[.i rcode, .i rh0, .i rh1, .bool rh2, .i rval, .slice za9 zn zc9] 34)) (fun b => w5.heap.size ≤ b ∧ b < w9.heap.size) (.slice ta tn tc) (ndsO nl)) := RdV.step rt bb
    have z9 := b9.size
    have ztb := HM5.out.vT.lt
    have zwr := HM5.out.vR.lt
    clear vx vr bb b9 rt
    by_cases hc : rcode = 0
    ·subst hc
     have HS9 := HSM.out rfl
     go_wp2_with ((with_reducible refine gS 25 ?_); refine sF HM9.out.vT rfl rfl (by kernel_rfl) rfl rfl ?_; intro wz vZ t_)
     have HR : TrRel w pb tb n (.i ((k : Int) + 1)) wz := ⟨k + 1, by omega, by simp, w9.heap.size, ta, tn, tc, nl, cur_keep HM9.out.c t_ (by omega), grown_keep HM9.out.g t_ (by omega), HM9.out.vR.turn t_ (by show w.heap.size ≠ tb; omega), vZ, RdV.mono (fun b hb => ⟨by omega, by omega, hb.2⟩) (RdV.keep (t_.keeps (fun b hb e => by have e2 : b = tb := e; omega)) HRT.out), Nat.le_trans (by simp; omega) t_.size, HS9.1, HS9.2.1, HS9.2.2⟩
     first | exact ⟨HR, by simp [intOf]; omega⟩ | exact ⟨_, HR, by simp [intOf]; omega⟩
    ·go_wp2
     have HR : TrRel w pb tb n (.i ((k : Int) + 1)) ((w9.alloc (.cells #[.slice ta tn tc] 25)).alloc (.cells #[.i rcode, .i rh0, .i rh1, .bool rh2, .i rval, .slice za9 zn zc9] 34)) := ⟨k + 1, by omega, by simp, N, va, vn, vc, l, HM9.out⟩
     first | exact ⟨HR, by simp [intOf]; omega⟩ | exact ⟨_, HR, by simp [intOf]; omega⟩
   | true =>
    have tt := HM5.out.vT.l1
    have HDI : Hid _ := dir4_any pb _ l _ w5 HM5.out.c (RdV.nds HM5.out.r) (fun b hb => by omega) (Nat.le_trans HM5.out.s.2.2 (by decide)) HM5.out.hP
    clear RY5 RZ5
    go_wp2_with fail
    refine Calls.mono HDI.out ?_
    rintro e6 w6 ⟨⟨p6, q6, d6⟩, rfl, hr6, c6, g6⟩
    have T6 := Turned.ofGrown (S := fun b => b = pb) g6 (fun k hk => by cases hk; rfl)
    have HM6 : Hid (TR w w6 pb tb N (.slice va vn vc) l) := HM5.out.grow c6 g6 hpb htb
    have HO6 : Hid (VarA w6 w3.heap.size 29 #[.i kd, .i p1, .i q1, .bool d1, (.slice ya nm.length yc), .i p2, .i q2, .bool d2, (.slice za asn.length zc), .i vl]) := HO5.out.turn T6 (by show w3.heap.size ≠ pb; omega)
    have zz6 := g6.size
    clear T6 c6 g6 HDI tt
    go_wp2_with fail
    refine Calls.mono (draws4_any pb _ HM6.out.c) ?_
    rintro e7 w7 ⟨na, nn, nc, nz, rfl, rr7, ln7, c7, g7⟩
    have T7 := Turned.ofGrown (S := fun b => b = pb) g7 (fun k hk => by cases hk; rfl)
    have HM7 : Hid (TR w w7 pb tb N (.slice va vn vc) l) := HM6.out.grow c7 g7 hpb htb
    have HO7 : Hid (VarA w7 w3.heap.size 29 #[.i kd, .i p1, .i q1, .bool d1, (.slice ya nm.length yc), .i p2, .i q2, .bool d2, (.slice za asn.length zc), .i vl]) := HO6.out.turn T7 (by show w3.heap.size ≠ pb; omega)
    have zz7 := g7.size
    have RR7 : Hid _ := rr7
    clear T7 c7 g7 rr7
    go_wp2_with fail
    refine Calls.mono (below_any pb 4 _ HM7.out.c (by omega) (by omega)) ?_
    rintro e8 w8 ⟨x8, rfl, xa8, xb8, c8, g8⟩
    have T8 := Turned.ofGrown (S := fun b => b = pb) g8 (fun k hk => by cases hk; rfl)
    have HM8 : Hid (TR w w8 pb tb N (.slice va vn vc) l) := HM7.out.grow c8 g8 hpb htb
    have HO8 : Hid (VarA w8 w3.heap.size 29 #[.i kd, .i p1, .i q1, .bool d1, (.slice ya nm.length yc), .i p2, .i q2, .bool d2, (.slice za asn.length zc), .i vl]) := HO7.out.turn T8 (by show w3.heap.size ≠ pb; omega)
    have zz8 := g8.size
    have RR8 : Hid (RdV w8 (fun b => w6.heap.size ≤ b ∧ b < w7.heap.size) (.slice na nn nc) (.bytes nz)) := RdV.keep (T8.keeps (fun b hb e => by omega)) RR7.out
    clear T8 c8 g8 RR7
    go_wp2_with fail
    refine Calls.mono (once_any pb 3 _ HM8.out.c (by omega) (by omega)) ?_
    rintro e10 w10 ⟨b10, rfl, c10, g10⟩
    have T10 := Turned.ofGrown (S := fun b => b = pb) g10 (fun k hk => by cases hk; rfl)
    have HM10 : Hid (TR w w10 pb tb N (.slice va vn vc) l) := HM8.out.grow c10 g10 hpb htb
    have HO10 : Hid (VarA w10 w3.heap.size 29 #[.i kd, .i p1, .i q1, .bool d1, (.slice ya nm.length yc), .i p2, .i q2, .bool d2, (.slice za asn.length zc), .i vl]) := HO8.out.turn T10 (by show w3.heap.size ≠ pb; omega)
    have zz10 := g10.size
    have RR10 : Hid (RdV w10 (fun b => w6.heap.size ≤ b ∧ b < w7.heap.size) (.slice na nn nc) (.bytes nz)) := RdV.keep (T10.keeps (fun b hb e => by omega)) RR8.out
    clear T10 c10 g10 RR8
    have hnl : nn = nz.length := by obtain ⟨a_, c_, e_⟩ := RdV.sliceB RR10.out; simp only [Value.slice.injEq] at e_; exact e_.2.1
    subst hnl
    have hto11 : HdR (x8, 0, !b10) := ⟨by show 0 ≤ x8; omega, by show x8 < 4; omega, by show (0 : Int) ≤ 0; omega, by show (0 : Int) ≤ 2147483648; omega⟩
    have hwk : IntKind.i64.wrap (10 + (k : Int)) = 10 + (k : Int) := wrapI _ (by omega) (by omega)
    go_wp2_with ((with_reducible refine gS 29 ?_); refine sF HO10.out rfl rfl (by kernel_rfl) rfl rfl ?_; intro w11 v11 t11; have HO11 : Hid (VarA w11 w3.heap.size 29 #[.i 4, .i p6, .i q6, .bool d6, (.slice na nz.length nc), .i x8, .i 0, .bool (!b10), (.n0), .i 0]) := v11; have HM11 : Hid (TR w w11 pb tb N (.slice va vn vc) l) := HM10.out.put3 t11 hpb (by omega) (by omega) (by omega); have RY11 : Hid (RdV w11 (fun b => w6.heap.size ≤ b ∧ b < w11.heap.size) (.slice na nz.length nc) (.bytes nz)) := RdV.mono (fun b hb => ⟨hb.1, by have := t11.size; omega⟩) (RdV.keep (t11.keeps (fun b hb e => by omega)) RR10.out); have RZ11 : Hid (RdV w11 (fun b => w6.heap.size ≤ b ∧ b < w11.heap.size) (.n0) (.bytes ([] : List Int))) := rdb_nil _ _; obtain ⟨o0, o1, o2, o3, o4, o5, o6, o7, o8, o9⟩ := HO11.out.l10; have tt := HM11.out.vT.l1)
    have hz := sz_all HM11.out.s.1 (Nat.le_trans HM11.out.s.2.2 (by decide))
    have hll := HM11.out.s.2.2
    have HDO : Hid _ := specDo_any (.slice va vn vc) (.slice na nz.length nc) (.n0) l ⟨4, (p6, q6, d6), nz, (x8, 0, (!b10)), [], 0⟩ (x8, 10 + (k : Int), (!b10)) (fun b => b < w11.heap.size) w11 (RdV.mono (fun b hb => Nat.lt_of_lt_of_le hb.2.2 HM11.out.n) (RdV.nds HM11.out.r)) (RdV.mono (fun b hb => hb.2) RY11.out) (RdV.mono (fun b hb => hb.2) RZ11.out) (fun b hb => hb) (Nat.le_trans hz (by decide)) (Nat.le_trans (ln7) (by decide)) (Nat.le_trans (Nat.zero_le 2) (by decide))
    have HSM : Hid ((dO l ⟨4, (p6, q6, d6), nz, (x8, 0, (!b10)), [], 0⟩ (x8, 10 + (k : Int), (!b10))).2.code = 0 → Sm (dO l ⟨4, (p6, q6, d6), nz, (x8, 0, (!b10)), [], 0⟩ (x8, 10 + (k : Int), (!b10)))) := fun hc => dO_sm hc ⟨hto11.1, hto11.2.1, by show (0 : Int) ≤ 10 + (k : Int); omega, by show 10 + (k : Int) ≤ 2147483648; omega⟩ hto11 (Nat.le_trans (ln7) (by decide)) (Nat.le_trans (Nat.zero_le 2) (by decide))
    generalize dO l ⟨4, (p6, q6, d6), nz, (x8, 0, (!b10)), [], 0⟩ (x8, 10 + (k : Int), (!b10)) = rr at *
    refine Calls.mono HDO.out ?_
    rintro e9 w9 ⟨ta, tn, tc, zx, rfl, rt, rl, b9⟩
    obtain ⟨za9, zc9, rfl, _⟩ := RdV.sliced rl
    obtain ⟨nl, ⟨rcode, ⟨rh0, rh1, rh2⟩, rval, rlist⟩⟩ := rr
    dsimp only at *
    generalize rlist.length = zn at *
    clear rl o0 o1 o2 o3 o4 o5 o6 o7 o8 o9 tt HDO
    have bb : Below w9.heap.size w9 ((w9.alloc (.cells #[.slice ta tn tc] 25)).alloc (.cells #[.i rcode, .i rh0, .i rh1, .bool rh2, .i rval, .slice za9 zn zc9] 34)) := Below.newH2 _ _
    have HM9 : Hid (TR w ((w9.alloc (.cells #[.slice ta tn tc] 25)).alloc (.cells #[.i rcode, .i rh0, .i rh1, .bool rh2, .i rval, .slice za9 zn zc9] 34)) pb tb N (.slice va vn vc) l) := (HM11.out.step b9 hpb htb).step bb hpb htb
    have vx : VarA ((w9.alloc (.cells #[.slice ta tn tc] 25)).alloc (.cells #[.i rcode, .i rh0, .i rh1, .bool rh2, .i rval, .slice za9 zn zc9] 34)) w9.heap.size 25 #[.slice ta tn tc] := (VarA.new w9 _ _).alloc _
    have vr : VarA ((w9.alloc (.cells #[.slice ta tn tc] 25)).alloc (.cells #[.i rcode, .i rh0, .i rh1, .bool rh2, .i rval, .slice za9 zn zc9] 34)) (w9.heap.size + 1) 34 #[.i rcode, .i rh0, .i rh1, .bool rh2, .i rval, .slice za9 zn zc9] := by have := VarA.new (w9.alloc (.cells #[.slice ta tn tc] 25)) 34 #[.i rcode, .i rh0, .i rh1, .bool rh2, .i rval, .slice za9 zn zc9]; simpa using this
    have x0 := vx.l1
    have c0 := vr.c 0 rfl
    have HRT : Hid (RdV ((w9.alloc (.cells #[.slice ta tn tc] 25)).alloc (.cells #[.i rcode, .i rh0, .i rh1, .bool rh2, .i rval, .slice za9 zn zc9] 34)) (fun b => w11.heap.size ≤ b ∧ b < w9.heap.size) (.slice ta tn tc) (ndsO nl)) := RdV.step rt bb
    have z9 := b9.size
    have ztb := HM11.out.vT.lt
    have zwr := HM11.out.vR.lt
    clear vx vr bb b9 rt
    by_cases hc : rcode = 0
    ·subst hc
     have HS9 := HSM.out rfl
     go_wp2_with ((with_reducible refine gS 25 ?_); refine sF HM9.out.vT rfl rfl (by kernel_rfl) rfl rfl ?_; intro wz vZ t_)
     have HR : TrRel w pb tb n (.i ((k : Int) + 1)) wz := ⟨k + 1, by omega, by simp, w9.heap.size, ta, tn, tc, nl, cur_keep HM9.out.c t_ (by omega), grown_keep HM9.out.g t_ (by omega), HM9.out.vR.turn t_ (by show w.heap.size ≠ tb; omega), vZ, RdV.mono (fun b hb => ⟨by omega, by omega, hb.2⟩) (RdV.keep (t_.keeps (fun b hb e => by have e2 : b = tb := e; omega)) HRT.out), Nat.le_trans (by simp; omega) t_.size, HS9.1, HS9.2.1, HS9.2.2⟩
     first | exact ⟨HR, by simp [intOf]; omega⟩ | exact ⟨_, HR, by simp [intOf]; omega⟩
    ·go_wp2
     have HR : TrRel w pb tb n (.i ((k : Int) + 1)) ((w9.alloc (.cells #[.slice ta tn tc] 25)).alloc (.cells #[.i rcode, .i rh0, .i rh1, .bool rh2, .i rval, .slice za9 zn zc9] 34)) := ⟨k + 1, by omega, by simp, N, va, vn, vc, l, HM9.out⟩
     first | exact ⟨HR, by simp [intOf]; omega⟩ | exact ⟨_, HR, by simp [intOf]; omega⟩
  ·have tt := HM.out.vT.l1
   go_wp2_with ((with_reducible refine gS 25 ?_); refine sF HM.out.vR rfl rfl (by kernel_rfl) rfl rfl ?_; intro wz vZ t_)
   refine bpR Tryz.results29 vZ Tryz.underlying25 rfl rfl (by kernel_rfl) rfl ?_
   exact ⟨va, vn, vc, l, rfl, RdV.mono (fun b hb => ⟨by omega, Nat.lt_of_lt_of_le hb.2.2 (Nat.le_trans HM.out.n t_.size)⟩) (RdV.keep (t_.keeps (fun b hb e => by have e2 : b = w.heap.size := e; omega)) HM.out.r), HM.out.s, cur_keep HM.out.c t_ (by omega), grown_keep HM.out.g t_ (Nat.le_refl _)⟩
end Go.Proofs.YtcicadfhfojdpaaGreat
