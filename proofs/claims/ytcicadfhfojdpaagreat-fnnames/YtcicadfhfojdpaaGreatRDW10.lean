/- What the specification draws: an operation that was bent. Condition: its parts are small. -/
import Derived.Test.YtcicadfhfojdpaaGreatRA01
import Derived.Test.YtcicadfhfojdpaaGreatRDW4
import Derived.Test.YtcicadfhfojdpaaGreatRA02
import Derived.Lib.SlBytesConst
namespace Go.Proofs.YtcicadfhfojdpaaGreat
open Go.RowKit
set_option linter.unusedVariables false
set_option linter.unusedSimpArgs false
set_option maxRecDepth 100000

def OpI (o : OpD) : Prop := In64 o.kind ∧ In64 o.dir.sh ∧ In64 o.dir.ino ∧ In64 o.to.sh ∧ In64 o.to.ino ∧ In64 o.val
def BeSaid (w : World) (pb nb : Nat) (e : Ending) (w' : World) : Prop :=
 ∃ (o : OpD) (y z : Value), e = .returned (opV o y z) ∧ OpI o ∧ o.nm.length ≤ 7 ∧ o.asn.length ≤ 7 ∧ RdV w' (fun b => nb ≤ b ∧ b < w'.heap.size) y (.bytes o.nm) ∧ RdV w' (fun b => nb ≤ b ∧ b < w'.heap.size) z (.bytes o.asn) ∧ CurAt w' pb ∧ w.grownBy w' (some pb)
structure BD (w wc : World) (pb : Nat) (oc : Array Value) : Prop where
 c : CurAt wc pb
 g : w.grownBy wc (some pb)
 vO : VarA wc w.heap.size 29 oc
 vR : VarA wc (w.heap.size + 1) 29 #[.i 0, .i 0, .i 0, .bool false, .n0, .i 0, .i 0, .bool false, .n0, .i 0]
theorem BD.grow {w wc wd : World} {pb : Nat} {oc : Array Value} (m : BD w wc pb oc) (hc : CurAt wd pb) (hg : wc.grownBy wd (some pb)) (hp : pb < w.heap.size) : BD w wd pb oc :=
 have T := Turned.ofGrown (S := fun b => b = pb) hg (fun k hk => by cases hk; rfl)
 ⟨hc, grown_trans m.g hg, m.vO.turn T (by show w.heap.size ≠ pb; omega), m.vR.turn T (by show w.heap.size + 1 ≠ pb; omega)⟩
theorem BD.put {w wc wd : World} {pb : Nat} {oc od : Array Value} (m : BD w wc pb oc) (t : Turned (fun b => b = w.heap.size) wc wd) (v : VarA wd w.heap.size 29 od) (hp : pb < w.heap.size) : BD w wd pb od :=
 ⟨cur_keep m.c t hp, grown_keep m.g t (Nat.le_refl _), v, m.vR.turn t (by show w.heap.size + 1 ≠ w.heap.size; omega)⟩
theorem rq_old {w wc wd : World} {pb nb q : Nat} {v : Value} {d : Dt} (r : RdV w (fun b => nb ≤ b ∧ b < w.heap.size) v d) (hg : w.grownBy wc (some pb)) (t : Turned (fun b => b = q) wc wd) (hq : w.heap.size ≤ q) (hn : pb < nb) : RdV wd (fun b => nb ≤ b ∧ b < wd.heap.size) v d :=
 RdV.mono (fun b hb => ⟨hb.1, Nat.lt_of_lt_of_le hb.2 (Nat.le_trans hg.size t.size)⟩) (RdV.keep (t.keeps (fun b hb e => by omega)) (RdV.keep ((Turned.ofGrown (S := fun b => b = pb) hg (fun k hk => by cases hk; rfl)).keeps (fun b hb e => by omega)) r))
theorem rq_two {wa wb wc : World} {nb p q n : Nat} {v : Value} {d : Dt} (r : RdV wa (fun b => n ≤ b ∧ b < wa.heap.size) v d) (t : Turned (fun b => b = p) wa wb) (t2 : Turned (fun b => b = q) wb wc) (hp : p < n) (hq : q < n) (hb0 : nb ≤ n) : RdV wc (fun b => nb ≤ b ∧ b < wc.heap.size) v d :=
 RdV.mono (fun b hb => ⟨by omega, Nat.lt_of_lt_of_le hb.2 (Nat.le_trans t.size t2.size)⟩) (RdV.keep (t2.keeps (fun b hb e => by omega)) (RdV.keep (t.keeps (fun b hb e => by omega)) r))
theorem rd_x (n : Nat) (w : World) (hnew : w.heap[n]? = some (.cells #[.int .u8 120] 5 (1, 2))) : RdV w (fun b => n ≤ b ∧ b < w.heap.size) (.slice (some ⟨n, 0, none⟩) 1 1) (.bytes [120]) := by
 have hl9 : n < w.heap.size := (Array.getElem?_eq_some_iff.1 hnew).1
 refine ⟨isBytes_cons (by omega) (by omega) isBytes_nil, some ⟨n, 0, none⟩, 1, 1, rfl, rfl, ⟨Nat.le_refl _, by unfold maxLen; omega, fun h => by cases h⟩, .inr ⟨n, 0, rfl, ⟨Nat.le_refl _, hl9⟩, hl9, ⟨_, _, hnew⟩, fun i hi => ?_⟩⟩
 have hi0 : i = 0 := by simp at hi; omega
 subst hi0
 simp [World.cell?, hnew]
set_option maxHeartbeats 8000000 in
theorem bent4_any (pb nb : Nat) (o : OpD) (y z : Value) (w : World) (h : CurAt w pb) (hnp : pb < nb) (hnw : nb ≤ w.heap.size) (hR : OpR o) (r1 : RdV w (fun b => nb ≤ b ∧ b < w.heap.size) y (.bytes o.nm)) (r2 : RdV w (fun b => nb ≤ b ∧ b < w.heap.size) z (.bytes o.asn)) :
  Calls Tryz.prog 30 #[.pointer (some ⟨pb, 0, none⟩), opV o y z] w (BeSaid w pb nb) := by
 have hpb := h.lt
 obtain ⟨ya, yc, rfl⟩ := RdV.sliceB r1
 obtain ⟨za, zc, rfl⟩ := RdV.sliceB r2
 obtain ⟨kd, ⟨p1, q1, d1⟩, nm, ⟨p2, q2, d2⟩, asn, vl⟩ := o
 obtain ⟨hk, ⟨hd0, hd1, hd2, hd3⟩, ⟨ht0, ht1, ht2, ht3⟩, hn, ha, hv⟩ := hR
 dsimp only at hk hn ha hv r1 r2
 have hd0 : 0 ≤ p1 := hd0
 have hd1 : p1 < 4 := hd1
 have hd2 : 0 ≤ q1 := hd2
 have hd3 : q1 ≤ 2147483648 := hd3
 have ht0 : 0 ≤ p2 := ht0
 have ht1 : p2 < 4 := ht1
 have ht2 : 0 ≤ q2 := ht2
 have ht3 : q2 ≤ 2147483648 := ht3
 have HRY : Hid (RdV w (fun b => nb ≤ b ∧ b < w.heap.size) (.slice ya nm.length yc) (.bytes nm)) := r1
 have HRZ : Hid (RdV w (fun b => nb ≤ b ∧ b < w.heap.size) (.slice za asn.length zc) (.bytes asn)) := r2
 have hcv : ∀ s W, (convert 9 22 (.string s)).run Tryz.prog W = .ok (.slice (some ⟨W.heap.size, 0, none⟩) s.size (grownCap W s.size 0 5)) (Lib.bytesWorld W 5 s) := fun s W => Lib.run_convert_string_bytes W _ _ _ s Tryz.underlying9 Tryz.underlying22 Tryz.underlying5
 have HCV : Hid _ := hcv
 clear r1 r2 hcv
 go_enter Tryz.func30, Tryz.ntmps30
 go_wp2_with fail
 have H1 : Hid (BD w ((w.alloc (.cells #[.i kd, .i p1, .i q1, .bool d1, (.slice ya nm.length yc), .i p2, .i q2, .bool d2, (.slice za asn.length zc), .i vl] 29)).alloc (.cells #[.i 0, .i 0, .i 0, .bool false, .n0, .i 0, .i 0, .bool false, .n0, .i 0] 29)) pb #[.i kd, .i p1, .i q1, .bool d1, (.slice ya nm.length yc), .i p2, .i q2, .bool d2, (.slice za asn.length zc), .i vl]) := ⟨h.below (Below.newH2 _ _), grown_below (Below.newH2 _ _), (VarA.new w _ _).alloc _, by have := VarA.new (w.alloc (.cells #[.i kd, .i p1, .i q1, .bool d1, (.slice ya nm.length yc), .i p2, .i q2, .bool d2, (.slice za asn.length zc), .i vl] 29)) 29 #[.i 0, .i 0, .i 0, .bool false, .n0, .i 0, .i 0, .bool false, .n0, .i 0]; simpa using this⟩
 refine Calls.mono (once_any pb 8 _ H1.out.c (by omega) (by omega)) ?_
 rintro e2 w2 ⟨b2, rfl, c2, g2⟩
 have H2 : Hid (BD w w2 pb #[.i kd, .i p1, .i q1, .bool d1, (.slice ya nm.length yc), .i p2, .i q2, .bool d2, (.slice za asn.length zc), .i vl]) := H1.out.grow c2 g2 hpb
 clear c2 g2 H1 h
 cases b2 with
 | false =>
  obtain ⟨o0, o1, o2, o3, o4, o5, o6, o7, o8, o9⟩ := H2.out.vO.l10
  go_wp2_with ((with_reducible refine gS 29 ?_); refine sF H2.out.vR rfl rfl (by kernel_rfl) rfl rfl ?_; intro wz vZ t_)
  refine bpR Tryz.results30 vZ Tryz.underlying29 rfl rfl (by kernel_rfl) rfl ?_
  exact ⟨⟨kd, (p1, q1, d1), nm, (p2, q2, d2), asn, vl⟩, (.slice ya nm.length yc), (.slice za asn.length zc), rfl, ⟨⟨by show -9223372036854775808 ≤ (kd : Int); omega, by show (kd : Int) ≤ 9223372036854775807; omega⟩, ⟨by show -9223372036854775808 ≤ (p1 : Int); omega, by show (p1 : Int) ≤ 9223372036854775807; omega⟩, ⟨by show -9223372036854775808 ≤ (q1 : Int); omega, by show (q1 : Int) ≤ 9223372036854775807; omega⟩, ⟨by show -9223372036854775808 ≤ (p2 : Int); omega, by show (p2 : Int) ≤ 9223372036854775807; omega⟩, ⟨by show -9223372036854775808 ≤ (q2 : Int); omega, by show (q2 : Int) ≤ 9223372036854775807; omega⟩, ⟨by show -9223372036854775808 ≤ (vl : Int); omega, by show (vl : Int) ≤ 9223372036854775807; omega⟩⟩, Nat.le_trans hn (by decide), Nat.le_trans ha (by decide), rq_old HRY.out H2.out.g t_ (by omega) hnp, rq_old HRZ.out H2.out.g t_ (by omega) hnp, cur_keep H2.out.c t_ (by omega), grown_keep H2.out.g t_ (by omega)⟩
 | true =>
  go_wp2_with fail
  refine Calls.mono (below_any pb 7 _ H2.out.c (by omega) (by omega)) ?_
  rintro e3 w3 ⟨x3, rfl, hx0, hx1, c3, g3⟩
  have H3 : Hid (BD w w3 pb #[.i kd, .i p1, .i q1, .bool d1, (.slice ya nm.length yc), .i p2, .i q2, .bool d2, (.slice za asn.length zc), .i vl]) := H2.out.grow c3 g3 hpb
  clear c3 g3 H2
  have hx : x3 = 0 ∨ x3 = 1 ∨ x3 = 2 ∨ x3 = 3 ∨ x3 = 4 ∨ x3 = 5 ∨ x3 = 6 := by omega
  rcases hx with rfl | rfl | rfl | rfl | rfl | rfl | rfl
  ·skip
   go_wp2_with fail
   refine Calls.mono (pick_any pb w3.heap.size [-1, 8, 3, 7] _ (H3.out.c.alloc _) (by simp) (by simp) (by have := H3.out.c.lt; omega) (heap_alloc_new w3 _)) ?_
   rintro e4 w4 ⟨x4, rfl, hm4, c4, g4⟩
   have H4 : Hid (BD w w4 pb #[.i kd, .i p1, .i q1, .bool d1, (.slice ya nm.length yc), .i p2, .i q2, .bool d2, (.slice za asn.length zc), .i vl]) := (H3.out.grow (H3.out.c.alloc _) (World.grownBy_alloc w3 _ _) hpb).grow c4 g4 hpb
   clear c4 g4
   have hx4 : x4 = -1 ∨ x4 = 8 ∨ x4 = 3 ∨ x4 = 7 := by simpa using hm4
   go_wp2_with (first | ((with_reducible refine gS 29 ?_); refine sF K5.out.vR rfl rfl (by kernel_rfl) rfl rfl ?_; intro wz vZ t_) | ((with_reducible refine gS 3 ?_); refine wpList_storeG H4.out.vO rfl rfl rfl (by kernel_rfl) rfl (of_decide_eq_true rfl) rfl ?_; intro y5 v5 t5; have K5 : Hid (BD w y5 pb #[.i x4, .i p1, .i q1, .bool d1, (.slice ya nm.length yc), .i p2, .i q2, .bool d2, (.slice za asn.length zc), .i vl]) := H4.out.put t5 v5 hpb; obtain ⟨o0, o1, o2, o3, o4, o5, o6, o7, o8, o9⟩ := K5.out.vO.l10))
   refine bpR Tryz.results30 vZ Tryz.underlying29 rfl rfl (by kernel_rfl) rfl ?_
   exact ⟨⟨x4, (p1, q1, d1), nm, (p2, q2, d2), asn, vl⟩, (.slice ya nm.length yc), (.slice za asn.length zc), rfl, ⟨⟨by show -9223372036854775808 ≤ (x4 : Int); omega, by show (x4 : Int) ≤ 9223372036854775807; omega⟩, ⟨by show -9223372036854775808 ≤ (p1 : Int); omega, by show (p1 : Int) ≤ 9223372036854775807; omega⟩, ⟨by show -9223372036854775808 ≤ (q1 : Int); omega, by show (q1 : Int) ≤ 9223372036854775807; omega⟩, ⟨by show -9223372036854775808 ≤ (p2 : Int); omega, by show (p2 : Int) ≤ 9223372036854775807; omega⟩, ⟨by show -9223372036854775808 ≤ (q2 : Int); omega, by show (q2 : Int) ≤ 9223372036854775807; omega⟩, ⟨by show -9223372036854775808 ≤ (vl : Int); omega, by show (vl : Int) ≤ 9223372036854775807; omega⟩⟩, Nat.le_trans hn (by decide), Nat.le_trans ha (by decide), rq_old HRY.out K5.out.g t_ (by omega) hnp, rq_old HRZ.out K5.out.g t_ (by omega) hnp, cur_keep K5.out.c t_ (by omega), grown_keep K5.out.g t_ (by omega)⟩
  ·skip
   go_wp2_with fail
   refine Calls.mono (below_any pb 3 _ (H3.out.c.alloc _) (by omega) (by omega)) ?_
   rintro e4 w4 ⟨x4, rfl, hx40, hx41, c4, g4⟩
   have H4 : Hid (BD w w4 pb #[.i kd, .i p1, .i q1, .bool d1, (.slice ya nm.length yc), .i p2, .i q2, .bool d2, (.slice za asn.length zc), .i vl]) := (H3.out.grow (H3.out.c.alloc _) (World.grownBy_alloc w3 _ _) hpb).grow c4 g4 hpb
   have z3 := H3.out.g.size
   have z4 := g4.size
   rw [World.size_alloc] at z4
   have z5 := H3.out.vR.lt
   have hV : VarA w4 w3.heap.size 9 _ := (g4.block w3.heap.size (by simp) (fun e => by have e2 : w3.heap.size = pb := (by simpa using e); omega)).trans (heap_alloc_new w3 _)
   have v0 := hV.c 0 rfl
   have v1 := hV.c 1 rfl
   have v2 := hV.c 2 rfl
   clear hV c4 g4 H3
   have hx4 : x4 = 0 ∨ x4 = 1 ∨ x4 = 2 := by omega
   rcases hx4 with rfl | rfl | rfl
   ·skip
    have hcv := HCV.out ⟨#[]⟩ w4
    have HRN : Hid (RdV (Lib.bytesWorld w4 5 ⟨#[]⟩) (fun b => w4.heap.size ≤ b ∧ b < (Lib.bytesWorld w4 5 ⟨#[]⟩).heap.size) (.slice (some ⟨w4.heap.size, 0, none⟩) 0 (grownCap w4 0 0 5)) (.bytes (bsOf ⟨#[]⟩))) := RdV.mono (fun b hb => ⟨by omega, by rw [Lib.bytesWorld_size]; omega⟩) (bytesWorld_rd w4 ⟨#[]⟩ (by decide))
    have H5 : Hid (BD w (Lib.bytesWorld w4 5 ⟨#[]⟩) pb #[.i kd, .i p1, .i q1, .bool d1, (.slice ya nm.length yc), .i p2, .i q2, .bool d2, (.slice za asn.length zc), .i vl]) := H4.out.grow (H4.out.c.below (bytesWorld_below w4 _)) (grown_below (bytesWorld_below w4 _)) hpb
    go_wp2_with (first | ((with_reducible refine gS 29 ?_); refine sF K5.out.vR rfl rfl (by kernel_rfl) rfl rfl ?_; intro wz vZ t_) | ((with_reducible refine gS 22 ?_); refine wpList_storeG H5.out.vO rfl rfl rfl (by kernel_rfl) rfl (of_decide_eq_true rfl) rfl ?_; intro y5 v5 t5; have K5 : Hid (BD w y5 pb #[.i kd, .i p1, .i q1, .bool d1, (.slice (some ⟨w4.heap.size, 0, none⟩) 0 (grownCap w4 0 0 5)), .i p2, .i q2, .bool d2, (.slice za asn.length zc), .i vl]) := H5.out.put t5 v5 hpb; obtain ⟨o0, o1, o2, o3, o4, o5, o6, o7, o8, o9⟩ := K5.out.vO.l10))
    refine bpR Tryz.results30 vZ Tryz.underlying29 rfl rfl (by kernel_rfl) rfl ?_
    exact ⟨⟨kd, (p1, q1, d1), (bsOf ⟨#[]⟩), (p2, q2, d2), asn, vl⟩, (.slice (some ⟨w4.heap.size, 0, none⟩) 0 (grownCap w4 0 0 5)), (.slice za asn.length zc), rfl, ⟨⟨by show -9223372036854775808 ≤ (kd : Int); omega, by show (kd : Int) ≤ 9223372036854775807; omega⟩, ⟨by show -9223372036854775808 ≤ (p1 : Int); omega, by show (p1 : Int) ≤ 9223372036854775807; omega⟩, ⟨by show -9223372036854775808 ≤ (q1 : Int); omega, by show (q1 : Int) ≤ 9223372036854775807; omega⟩, ⟨by show -9223372036854775808 ≤ (p2 : Int); omega, by show (p2 : Int) ≤ 9223372036854775807; omega⟩, ⟨by show -9223372036854775808 ≤ (q2 : Int); omega, by show (q2 : Int) ≤ 9223372036854775807; omega⟩, ⟨by show -9223372036854775808 ≤ (vl : Int); omega, by show (vl : Int) ≤ 9223372036854775807; omega⟩⟩, by rw [bsOf_len]; decide, Nat.le_trans ha (by decide), rq_two HRN.out t5 t_ (by omega) (by omega) (by omega), rq_old HRZ.out K5.out.g t_ (by omega) hnp, cur_keep K5.out.c t_ (by omega), grown_keep K5.out.g t_ (by omega)⟩
   ·skip
    have hcv := HCV.out ⟨#[65]⟩ w4
    have HRN : Hid (RdV (Lib.bytesWorld w4 5 ⟨#[65]⟩) (fun b => w4.heap.size ≤ b ∧ b < (Lib.bytesWorld w4 5 ⟨#[65]⟩).heap.size) (.slice (some ⟨w4.heap.size, 0, none⟩) 1 (grownCap w4 1 0 5)) (.bytes (bsOf ⟨#[65]⟩))) := RdV.mono (fun b hb => ⟨by omega, by rw [Lib.bytesWorld_size]; omega⟩) (bytesWorld_rd w4 ⟨#[65]⟩ (by decide))
    have H5 : Hid (BD w (Lib.bytesWorld w4 5 ⟨#[65]⟩) pb #[.i kd, .i p1, .i q1, .bool d1, (.slice ya nm.length yc), .i p2, .i q2, .bool d2, (.slice za asn.length zc), .i vl]) := H4.out.grow (H4.out.c.below (bytesWorld_below w4 _)) (grown_below (bytesWorld_below w4 _)) hpb
    go_wp2_with (first | ((with_reducible refine gS 29 ?_); refine sF K5.out.vR rfl rfl (by kernel_rfl) rfl rfl ?_; intro wz vZ t_) | ((with_reducible refine gS 22 ?_); refine wpList_storeG H5.out.vO rfl rfl rfl (by kernel_rfl) rfl (of_decide_eq_true rfl) rfl ?_; intro y5 v5 t5; have K5 : Hid (BD w y5 pb #[.i kd, .i p1, .i q1, .bool d1, (.slice (some ⟨w4.heap.size, 0, none⟩) 1 (grownCap w4 1 0 5)), .i p2, .i q2, .bool d2, (.slice za asn.length zc), .i vl]) := H5.out.put t5 v5 hpb; obtain ⟨o0, o1, o2, o3, o4, o5, o6, o7, o8, o9⟩ := K5.out.vO.l10))
    refine bpR Tryz.results30 vZ Tryz.underlying29 rfl rfl (by kernel_rfl) rfl ?_
    exact ⟨⟨kd, (p1, q1, d1), (bsOf ⟨#[65]⟩), (p2, q2, d2), asn, vl⟩, (.slice (some ⟨w4.heap.size, 0, none⟩) 1 (grownCap w4 1 0 5)), (.slice za asn.length zc), rfl, ⟨⟨by show -9223372036854775808 ≤ (kd : Int); omega, by show (kd : Int) ≤ 9223372036854775807; omega⟩, ⟨by show -9223372036854775808 ≤ (p1 : Int); omega, by show (p1 : Int) ≤ 9223372036854775807; omega⟩, ⟨by show -9223372036854775808 ≤ (q1 : Int); omega, by show (q1 : Int) ≤ 9223372036854775807; omega⟩, ⟨by show -9223372036854775808 ≤ (p2 : Int); omega, by show (p2 : Int) ≤ 9223372036854775807; omega⟩, ⟨by show -9223372036854775808 ≤ (q2 : Int); omega, by show (q2 : Int) ≤ 9223372036854775807; omega⟩, ⟨by show -9223372036854775808 ≤ (vl : Int); omega, by show (vl : Int) ≤ 9223372036854775807; omega⟩⟩, by rw [bsOf_len]; decide, Nat.le_trans ha (by decide), rq_two HRN.out t5 t_ (by omega) (by omega) (by omega), rq_old HRZ.out K5.out.g t_ (by omega) hnp, cur_keep K5.out.c t_ (by omega), grown_keep K5.out.g t_ (by omega)⟩
   ·skip
    have hcv := HCV.out ⟨#[115, 101, 118, 101, 110, 120, 120]⟩ w4
    have HRN : Hid (RdV (Lib.bytesWorld w4 5 ⟨#[115, 101, 118, 101, 110, 120, 120]⟩) (fun b => w4.heap.size ≤ b ∧ b < (Lib.bytesWorld w4 5 ⟨#[115, 101, 118, 101, 110, 120, 120]⟩).heap.size) (.slice (some ⟨w4.heap.size, 0, none⟩) 7 (grownCap w4 7 0 5)) (.bytes (bsOf ⟨#[115, 101, 118, 101, 110, 120, 120]⟩))) := RdV.mono (fun b hb => ⟨by omega, by rw [Lib.bytesWorld_size]; omega⟩) (bytesWorld_rd w4 ⟨#[115, 101, 118, 101, 110, 120, 120]⟩ (by decide))
    have H5 : Hid (BD w (Lib.bytesWorld w4 5 ⟨#[115, 101, 118, 101, 110, 120, 120]⟩) pb #[.i kd, .i p1, .i q1, .bool d1, (.slice ya nm.length yc), .i p2, .i q2, .bool d2, (.slice za asn.length zc), .i vl]) := H4.out.grow (H4.out.c.below (bytesWorld_below w4 _)) (grown_below (bytesWorld_below w4 _)) hpb
    go_wp2_with (first | ((with_reducible refine gS 29 ?_); refine sF K5.out.vR rfl rfl (by kernel_rfl) rfl rfl ?_; intro wz vZ t_) | ((with_reducible refine gS 22 ?_); refine wpList_storeG H5.out.vO rfl rfl rfl (by kernel_rfl) rfl (of_decide_eq_true rfl) rfl ?_; intro y5 v5 t5; have K5 : Hid (BD w y5 pb #[.i kd, .i p1, .i q1, .bool d1, (.slice (some ⟨w4.heap.size, 0, none⟩) 7 (grownCap w4 7 0 5)), .i p2, .i q2, .bool d2, (.slice za asn.length zc), .i vl]) := H5.out.put t5 v5 hpb; obtain ⟨o0, o1, o2, o3, o4, o5, o6, o7, o8, o9⟩ := K5.out.vO.l10))
    refine bpR Tryz.results30 vZ Tryz.underlying29 rfl rfl (by kernel_rfl) rfl ?_
    exact ⟨⟨kd, (p1, q1, d1), (bsOf ⟨#[115, 101, 118, 101, 110, 120, 120]⟩), (p2, q2, d2), asn, vl⟩, (.slice (some ⟨w4.heap.size, 0, none⟩) 7 (grownCap w4 7 0 5)), (.slice za asn.length zc), rfl, ⟨⟨by show -9223372036854775808 ≤ (kd : Int); omega, by show (kd : Int) ≤ 9223372036854775807; omega⟩, ⟨by show -9223372036854775808 ≤ (p1 : Int); omega, by show (p1 : Int) ≤ 9223372036854775807; omega⟩, ⟨by show -9223372036854775808 ≤ (q1 : Int); omega, by show (q1 : Int) ≤ 9223372036854775807; omega⟩, ⟨by show -9223372036854775808 ≤ (p2 : Int); omega, by show (p2 : Int) ≤ 9223372036854775807; omega⟩, ⟨by show -9223372036854775808 ≤ (q2 : Int); omega, by show (q2 : Int) ≤ 9223372036854775807; omega⟩, ⟨by show -9223372036854775808 ≤ (vl : Int); omega, by show (vl : Int) ≤ 9223372036854775807; omega⟩⟩, by rw [bsOf_len]; decide, Nat.le_trans ha (by decide), rq_two HRN.out t5 t_ (by omega) (by omega) (by omega), rq_old HRZ.out K5.out.g t_ (by omega) hnp, cur_keep K5.out.c t_ (by omega), grown_keep K5.out.g t_ (by omega)⟩
  ·skip
   have z3 := H3.out.g.size
   have z5 := H3.out.vR.lt
   have hcv : (convert 22 22 (.slice (some ⟨w3.heap.size, 0, none⟩) 1 1)).run Tryz.prog (w3.alloc (.cells #[.int .u8 120] 5)) = .ok (.slice (some ⟨w3.heap.size, 0, none⟩) 1 1) (w3.alloc (.cells #[.int .u8 120] 5 (1, 2))) := Lib.run_convert_bytes_const w3 22 5 #[.int .u8 120] 1 1 Tryz.underlying22 Tryz.underlying5
   have H5 : Hid (BD w (w3.alloc (.cells #[.int .u8 120] 5 (1, 2))) pb #[.i kd, .i p1, .i q1, .bool d1, (.slice ya nm.length yc), .i p2, .i q2, .bool d2, (.slice za asn.length zc), .i vl]) := H3.out.grow (H3.out.c.alloc _) (World.grownBy_alloc w3 _ _) hpb
   have HRN : Hid (RdV (w3.alloc (.cells #[.int .u8 120] 5 (1, 2))) (fun b => w3.heap.size ≤ b ∧ b < (w3.alloc (.cells #[.int .u8 120] 5 (1, 2))).heap.size) (.slice (some ⟨w3.heap.size, 0, none⟩) 1 1) (.bytes [120])) := rd_x w3.heap.size (w3.alloc (.cells #[.int .u8 120] 5 (1, 2))) (heap_alloc_new w3 (.cells #[.int .u8 120] 5 (1, 2)))
   clear H3
   go_wp2_with (first | ((with_reducible refine gS 29 ?_); refine sF K5.out.vR rfl rfl (by kernel_rfl) rfl rfl ?_; intro wz vZ t_) | ((with_reducible refine gS 22 ?_); refine wpList_storeG H5.out.vO rfl rfl rfl (by kernel_rfl) rfl (of_decide_eq_true rfl) rfl ?_; intro y5 v5 t5; have K5 : Hid (BD w y5 pb #[.i kd, .i p1, .i q1, .bool d1, (.slice ya nm.length yc), .i p2, .i q2, .bool d2, (.slice (some ⟨w3.heap.size, 0, none⟩) 1 1), .i vl]) := H5.out.put t5 v5 hpb; obtain ⟨o0, o1, o2, o3, o4, o5, o6, o7, o8, o9⟩ := K5.out.vO.l10))
   refine bpR Tryz.results30 vZ Tryz.underlying29 rfl rfl (by kernel_rfl) rfl ?_
   exact ⟨⟨kd, (p1, q1, d1), nm, (p2, q2, d2), [120], vl⟩, (.slice ya nm.length yc), (.slice (some ⟨w3.heap.size, 0, none⟩) 1 1), rfl, ⟨⟨by show -9223372036854775808 ≤ (kd : Int); omega, by show (kd : Int) ≤ 9223372036854775807; omega⟩, ⟨by show -9223372036854775808 ≤ (p1 : Int); omega, by show (p1 : Int) ≤ 9223372036854775807; omega⟩, ⟨by show -9223372036854775808 ≤ (q1 : Int); omega, by show (q1 : Int) ≤ 9223372036854775807; omega⟩, ⟨by show -9223372036854775808 ≤ (p2 : Int); omega, by show (p2 : Int) ≤ 9223372036854775807; omega⟩, ⟨by show -9223372036854775808 ≤ (q2 : Int); omega, by show (q2 : Int) ≤ 9223372036854775807; omega⟩, ⟨by show -9223372036854775808 ≤ (vl : Int); omega, by show (vl : Int) ≤ 9223372036854775807; omega⟩⟩, Nat.le_trans hn (by decide), by show 1 ≤ 7; decide, rq_old HRY.out K5.out.g t_ (by omega) hnp, rq_two HRN.out t5 t_ (by omega) (by omega) (by omega), cur_keep K5.out.c t_ (by omega), grown_keep K5.out.g t_ (by omega)⟩
  ·skip
   go_wp2_with fail
   refine Calls.mono (pick_any pb w3.heap.size [-1, 1, 2147483647, 2147483648] _ (H3.out.c.alloc _) (by simp) (by simp) (by have := H3.out.c.lt; omega) (heap_alloc_new w3 _)) ?_
   rintro e4 w4 ⟨x4, rfl, hm4, c4, g4⟩
   have H4 : Hid (BD w w4 pb #[.i kd, .i p1, .i q1, .bool d1, (.slice ya nm.length yc), .i p2, .i q2, .bool d2, (.slice za asn.length zc), .i vl]) := (H3.out.grow (H3.out.c.alloc _) (World.grownBy_alloc w3 _ _) hpb).grow c4 g4 hpb
   clear c4 g4
   have hx4 : x4 = -1 ∨ x4 = 1 ∨ x4 = 2147483647 ∨ x4 = 2147483648 := by simpa using hm4
   go_wp2_with (first | ((with_reducible refine gS 29 ?_); refine sF K5.out.vR rfl rfl (by kernel_rfl) rfl rfl ?_; intro wz vZ t_) | ((with_reducible refine gS 3 ?_); refine wpList_storeG H4.out.vO rfl rfl rfl (by kernel_rfl) rfl (of_decide_eq_true rfl) rfl ?_; intro y5 v5 t5; have K5 : Hid (BD w y5 pb #[.i kd, .i p1, .i q1, .bool d1, (.slice ya nm.length yc), .i p2, .i q2, .bool d2, (.slice za asn.length zc), .i x4]) := H4.out.put t5 v5 hpb; obtain ⟨o0, o1, o2, o3, o4, o5, o6, o7, o8, o9⟩ := K5.out.vO.l10))
   refine bpR Tryz.results30 vZ Tryz.underlying29 rfl rfl (by kernel_rfl) rfl ?_
   exact ⟨⟨kd, (p1, q1, d1), nm, (p2, q2, d2), asn, x4⟩, (.slice ya nm.length yc), (.slice za asn.length zc), rfl, ⟨⟨by show -9223372036854775808 ≤ (kd : Int); omega, by show (kd : Int) ≤ 9223372036854775807; omega⟩, ⟨by show -9223372036854775808 ≤ (p1 : Int); omega, by show (p1 : Int) ≤ 9223372036854775807; omega⟩, ⟨by show -9223372036854775808 ≤ (q1 : Int); omega, by show (q1 : Int) ≤ 9223372036854775807; omega⟩, ⟨by show -9223372036854775808 ≤ (p2 : Int); omega, by show (p2 : Int) ≤ 9223372036854775807; omega⟩, ⟨by show -9223372036854775808 ≤ (q2 : Int); omega, by show (q2 : Int) ≤ 9223372036854775807; omega⟩, ⟨by show -9223372036854775808 ≤ (x4 : Int); omega, by show (x4 : Int) ≤ 9223372036854775807; omega⟩⟩, Nat.le_trans hn (by decide), Nat.le_trans ha (by decide), rq_old HRY.out K5.out.g t_ (by omega) hnp, rq_old HRZ.out K5.out.g t_ (by omega) hnp, cur_keep K5.out.c t_ (by omega), grown_keep K5.out.g t_ (by omega)⟩
  ·skip
   go_wp2_with fail
   refine Calls.mono (pick_any pb w3.heap.size [-1, 4, 4611686018427387904] _ (H3.out.c.alloc _) (by simp) (by simp) (by have := H3.out.c.lt; omega) (heap_alloc_new w3 _)) ?_
   rintro e4 w4 ⟨x4, rfl, hm4, c4, g4⟩
   have H4 : Hid (BD w w4 pb #[.i kd, .i p1, .i q1, .bool d1, (.slice ya nm.length yc), .i p2, .i q2, .bool d2, (.slice za asn.length zc), .i vl]) := (H3.out.grow (H3.out.c.alloc _) (World.grownBy_alloc w3 _ _) hpb).grow c4 g4 hpb
   clear c4 g4
   have hx4 : x4 = -1 ∨ x4 = 4 ∨ x4 = 4611686018427387904 := by simpa using hm4
   go_wp2_with (first | ((with_reducible refine gS 29 ?_); refine sF K5.out.vR rfl rfl (by kernel_rfl) rfl rfl ?_; intro wz vZ t_) | ((with_reducible refine gS 3 ?_); refine wpList_storeG H4.out.vO rfl rfl rfl (by kernel_rfl) rfl (of_decide_eq_true rfl) rfl ?_; intro y5 v5 t5; have K5 : Hid (BD w y5 pb #[.i kd, .i x4, .i q1, .bool d1, (.slice ya nm.length yc), .i p2, .i q2, .bool d2, (.slice za asn.length zc), .i vl]) := H4.out.put t5 v5 hpb; obtain ⟨o0, o1, o2, o3, o4, o5, o6, o7, o8, o9⟩ := K5.out.vO.l10))
   refine bpR Tryz.results30 vZ Tryz.underlying29 rfl rfl (by kernel_rfl) rfl ?_
   exact ⟨⟨kd, (x4, q1, d1), nm, (p2, q2, d2), asn, vl⟩, (.slice ya nm.length yc), (.slice za asn.length zc), rfl, ⟨⟨by show -9223372036854775808 ≤ (kd : Int); omega, by show (kd : Int) ≤ 9223372036854775807; omega⟩, ⟨by show -9223372036854775808 ≤ (x4 : Int); omega, by show (x4 : Int) ≤ 9223372036854775807; omega⟩, ⟨by show -9223372036854775808 ≤ (q1 : Int); omega, by show (q1 : Int) ≤ 9223372036854775807; omega⟩, ⟨by show -9223372036854775808 ≤ (p2 : Int); omega, by show (p2 : Int) ≤ 9223372036854775807; omega⟩, ⟨by show -9223372036854775808 ≤ (q2 : Int); omega, by show (q2 : Int) ≤ 9223372036854775807; omega⟩, ⟨by show -9223372036854775808 ≤ (vl : Int); omega, by show (vl : Int) ≤ 9223372036854775807; omega⟩⟩, Nat.le_trans hn (by decide), Nat.le_trans ha (by decide), rq_old HRY.out K5.out.g t_ (by omega) hnp, rq_old HRZ.out K5.out.g t_ (by omega) hnp, cur_keep K5.out.c t_ (by omega), grown_keep K5.out.g t_ (by omega)⟩
  ·skip
   go_wp2_with fail
   refine Calls.mono (pick_any pb w3.heap.size [-1, 0, 3] _ (H3.out.c.alloc _) (by simp) (by simp) (by have := H3.out.c.lt; omega) (heap_alloc_new w3 _)) ?_
   rintro e4 w4 ⟨x4, rfl, hm4, c4, g4⟩
   have H4 : Hid (BD w w4 pb #[.i kd, .i p1, .i q1, .bool d1, (.slice ya nm.length yc), .i p2, .i q2, .bool d2, (.slice za asn.length zc), .i vl]) := (H3.out.grow (H3.out.c.alloc _) (World.grownBy_alloc w3 _ _) hpb).grow c4 g4 hpb
   clear c4 g4
   have hx4 : x4 = -1 ∨ x4 = 0 ∨ x4 = 3 := by simpa using hm4
   go_wp2_with (first | ((with_reducible refine gS 29 ?_); refine sF K5.out.vR rfl rfl (by kernel_rfl) rfl rfl ?_; intro wz vZ t_) | ((with_reducible refine gS 3 ?_); refine wpList_storeG H4.out.vO rfl rfl rfl (by kernel_rfl) rfl (of_decide_eq_true rfl) rfl ?_; intro y5 v5 t5; have K5 : Hid (BD w y5 pb #[.i kd, .i p1, .i q1, .bool d1, (.slice ya nm.length yc), .i p2, .i x4, .bool d2, (.slice za asn.length zc), .i vl]) := H4.out.put t5 v5 hpb; obtain ⟨o0, o1, o2, o3, o4, o5, o6, o7, o8, o9⟩ := K5.out.vO.l10))
   refine bpR Tryz.results30 vZ Tryz.underlying29 rfl rfl (by kernel_rfl) rfl ?_
   exact ⟨⟨kd, (p1, q1, d1), nm, (p2, x4, d2), asn, vl⟩, (.slice ya nm.length yc), (.slice za asn.length zc), rfl, ⟨⟨by show -9223372036854775808 ≤ (kd : Int); omega, by show (kd : Int) ≤ 9223372036854775807; omega⟩, ⟨by show -9223372036854775808 ≤ (p1 : Int); omega, by show (p1 : Int) ≤ 9223372036854775807; omega⟩, ⟨by show -9223372036854775808 ≤ (q1 : Int); omega, by show (q1 : Int) ≤ 9223372036854775807; omega⟩, ⟨by show -9223372036854775808 ≤ (p2 : Int); omega, by show (p2 : Int) ≤ 9223372036854775807; omega⟩, ⟨by show -9223372036854775808 ≤ (x4 : Int); omega, by show (x4 : Int) ≤ 9223372036854775807; omega⟩, ⟨by show -9223372036854775808 ≤ (vl : Int); omega, by show (vl : Int) ≤ 9223372036854775807; omega⟩⟩, Nat.le_trans hn (by decide), Nat.le_trans ha (by decide), rq_old HRY.out K5.out.g t_ (by omega) hnp, rq_old HRZ.out K5.out.g t_ (by omega) hnp, cur_keep K5.out.c t_ (by omega), grown_keep K5.out.g t_ (by omega)⟩
  ·skip
   go_wp2_with fail
   refine Calls.mono (pick_any pb w3.heap.size [-1, 0, 2147483648] _ (H3.out.c.alloc _) (by simp) (by simp) (by have := H3.out.c.lt; omega) (heap_alloc_new w3 _)) ?_
   rintro e4 w4 ⟨x4, rfl, hm4, c4, g4⟩
   have H4 : Hid (BD w w4 pb #[.i kd, .i p1, .i q1, .bool d1, (.slice ya nm.length yc), .i p2, .i q2, .bool d2, (.slice za asn.length zc), .i vl]) := (H3.out.grow (H3.out.c.alloc _) (World.grownBy_alloc w3 _ _) hpb).grow c4 g4 hpb
   clear c4 g4
   have hx4 : x4 = -1 ∨ x4 = 0 ∨ x4 = 2147483648 := by simpa using hm4
   go_wp2_with (first | ((with_reducible refine gS 29 ?_); refine sF K5.out.vR rfl rfl (by kernel_rfl) rfl rfl ?_; intro wz vZ t_) | ((with_reducible refine gS 3 ?_); refine wpList_storeG H4.out.vO rfl rfl rfl (by kernel_rfl) rfl (of_decide_eq_true rfl) rfl ?_; intro y5 v5 t5; have K5 : Hid (BD w y5 pb #[.i kd, .i p1, .i x4, .bool d1, (.slice ya nm.length yc), .i p2, .i q2, .bool d2, (.slice za asn.length zc), .i vl]) := H4.out.put t5 v5 hpb; obtain ⟨o0, o1, o2, o3, o4, o5, o6, o7, o8, o9⟩ := K5.out.vO.l10))
   refine bpR Tryz.results30 vZ Tryz.underlying29 rfl rfl (by kernel_rfl) rfl ?_
   exact ⟨⟨kd, (p1, x4, d1), nm, (p2, q2, d2), asn, vl⟩, (.slice ya nm.length yc), (.slice za asn.length zc), rfl, ⟨⟨by show -9223372036854775808 ≤ (kd : Int); omega, by show (kd : Int) ≤ 9223372036854775807; omega⟩, ⟨by show -9223372036854775808 ≤ (p1 : Int); omega, by show (p1 : Int) ≤ 9223372036854775807; omega⟩, ⟨by show -9223372036854775808 ≤ (x4 : Int); omega, by show (x4 : Int) ≤ 9223372036854775807; omega⟩, ⟨by show -9223372036854775808 ≤ (p2 : Int); omega, by show (p2 : Int) ≤ 9223372036854775807; omega⟩, ⟨by show -9223372036854775808 ≤ (q2 : Int); omega, by show (q2 : Int) ≤ 9223372036854775807; omega⟩, ⟨by show -9223372036854775808 ≤ (vl : Int); omega, by show (vl : Int) ≤ 9223372036854775807; omega⟩⟩, Nat.le_trans hn (by decide), Nat.le_trans ha (by decide), rq_old HRY.out K5.out.g t_ (by omega) hnp, rq_old HRZ.out K5.out.g t_ (by omega) hnp, cur_keep K5.out.c t_ (by omega), grown_keep K5.out.g t_ (by omega)⟩
end Go.Proofs.YtcicadfhfojdpaaGreat
