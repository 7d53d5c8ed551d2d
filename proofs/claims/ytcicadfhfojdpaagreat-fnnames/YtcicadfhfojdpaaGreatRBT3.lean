/- What the specification draws: a tree that was bent. Condition: it is small, its handles' numbers too. -/
import Derived.Test.YtcicadfhfojdpaaGreatRA01
import Derived.Test.YtcicadfhfojdpaaGreatRA03
import Derived.Test.YtcicadfhfojdpaaGreatRA02
import Derived.Test.YtcicadfhfojdpaaGreatRSpecD13
import Derived.Lib.SlBytesConst
namespace Go.Proofs.YtcicadfhfojdpaaGreat
open Go.RowKit
set_option linter.unusedVariables false
set_option linter.unusedSimpArgs false
set_option maxRecDepth 100000

theorem CurAt.turn {w w' : World} {pb : Nat} {S : Nat → Prop} (h : CurAt w pb) (t : Turned S w w') (hS : ∀ b, S b → pb < b) : CurAt w' pb := by
 have hlt := h.lt
 obtain ⟨a, zs, cap, i, hh, h1, h2, h3, h4, h5⟩ := h
 refine ⟨a, zs, cap, i, hh, h1, h2, h3, ?_, (t.block pb hlt (fun e => Nat.lt_irrefl _ (hS pb e))).trans h5⟩
 rcases h4 with h4 | ⟨b, off, ha, hb, hc⟩
 ·exact .inl h4
 ·exact .inr ⟨b, off, ha, hb, fun j hj => by rw [World.cell?_of_block (w := w) (t.block b (by omega) (fun e => by have := hS b e; omega))]; exact hc j hj⟩
def GN (n : Nd) : Prop := HdR n.h ∧ n.es.length ≤ 14 ∧ ∀ e ∈ n.es, e.nm.length ≤ 6
def BtSaid (w : World) (pb : Nat) (S : Nat → Prop) (e : Ending) (w' : World) : Prop :=
 ∃ ta tn tc l, e = .returned (.agg #[.slice ta tn tc]) ∧ RdV w' (fun b => (S b ∨ w.heap.size + 2 ≤ b) ∧ b < w'.heap.size) (.slice ta tn tc) (ndsDt l) ∧ l.length ≤ 241 ∧ (∀ i : Nat, i < l.length → GN (l[i]?.getD nd0)) ∧ CurAt w' pb ∧ Turned (fun b => b = pb ∨ S b) w w'
structure BS (w wr : World) (pb : Nat) (S : Nat → Prop) (g n cap : Nat) (l : List Nd) : Prop where
 c : CurAt wr pb
 t : Turned (fun b => b = pb ∨ S b) w wr
 vT : VarA wr w.heap.size 25 #[.slice (some ⟨g, 0, none⟩) n cap]
 vR : VarA wr (w.heap.size + 1) 25 #[.n0]
 s : SG wr 0 (fun b => S b ∨ w.heap.size + 2 ≤ b) (.slice (some ⟨g, 0, none⟩) n cap) l
 p : ∀ i : Nat, i < l.length → GN (l[i]?.getD nd0)
theorem BS.grow {w wr wd : World} {pb : Nat} {S : Nat → Prop} {g n cap : Nat} {l : List Nd} (m : BS w wr pb S g n cap l) (hc : CurAt wd pb) (hg : wr.grownBy wd (some pb)) (hp : pb < w.heap.size) (hS : ∀ b, S b → pb < b) (hG : S g) : BS w wd pb S g n cap l :=
 have T := Turned.ofGrown (S := fun b => b = pb) hg (fun k hk => by cases hk; rfl)
 ⟨hc, m.t.trans (T.wide (fun k hk => .inl hk)), m.vT.turn T (by show w.heap.size ≠ pb; omega), m.vR.turn T (by show w.heap.size + 1 ≠ pb; omega), m.s.keep (T.keeps (fun b hb e => by
  have e : b = pb := e
  rcases hb.2 with (h | h) | h
  ·have := hS b h; omega
  ·omega
  ·have h : g = b := by simpa [Value.ownBlock] using h
   have := hS g hG; omega)), m.p⟩
theorem BS.below {w wr wd : World} {pb : Nat} {S : Nat → Prop} {g n cap : Nat} {l : List Nd} (m : BS w wr pb S g n cap l) (hb : Below wr.heap.size wr wd) (hp : pb < w.heap.size) (hS : ∀ b, S b → pb < b) (hG : S g) : BS w wd pb S g n cap l :=
 ⟨m.c.below hb, m.t.andThen hb, m.vT.step hb, m.vR.step hb, m.s.step hb, m.p⟩
theorem BS.turn {w wr wd : World} {pb : Nat} {S : Nat → Prop} {g n cap : Nat} {l l' : List Nd} (m : BS w wr pb S g n cap l) (t : Turned (fun b => S b ∨ w.heap.size + 2 ≤ b) wr wd) (s : SG wd 0 (fun b => S b ∨ w.heap.size + 2 ≤ b) (.slice (some ⟨g, 0, none⟩) n cap) l') (hp : pb < w.heap.size) (hS : ∀ b, S b → pb < b ∧ b < w.heap.size) (p : ∀ i : Nat, i < l'.length → GN (l'[i]?.getD nd0)) : BS w wd pb S g n cap l' :=
 ⟨m.c.turn t (fun b hb => hb.elim (fun h => (hS b h).1) (fun h => by omega)), ⟨t.os.trans m.t.os, t.tape.trans m.t.tape, t.output.trans m.t.output, Nat.le_trans m.t.size t.size, fun k hk hn => (t.block k (Nat.lt_of_lt_of_le hk m.t.size) (fun h => h.elim (fun h => hn (.inr h)) (fun h => by omega))).trans (m.t.block k hk hn)⟩,
  m.vT.turn t (fun h => h.elim (fun h => by have := (hS _ h).2; omega) (fun h => by omega)), m.vR.turn t (fun h => h.elim (fun h => by have := (hS _ h).2; omega) (fun h => by omega)), s, p⟩
theorem BS.fin {w wr wd : World} {pb : Nat} {S : Nat → Prop} {g n cap : Nat} {l : List Nd} (m : BS w wr pb S g n cap l) (t : Turned (fun b => b = w.heap.size + 1) wr wd) (hp : pb < w.heap.size) (hS : ∀ b, S b → pb < b ∧ b < w.heap.size) (hG : S g) (hl : l.length ≤ 241) : BtSaid w pb S (.returned (.agg #[.slice (some ⟨g, 0, none⟩) n cap])) wd := by
 have hlt := m.s.lt
 have r : RdV wr (fun b => (S b ∨ w.heap.size + 2 ≤ b) ∧ b < wr.heap.size) (.slice (some ⟨g, 0, none⟩) n cap) (ndsDt l) := by
  refine SG.rdL (m.s.mono (fun b hb h => ⟨h, hb⟩)) (fun b hb => ⟨.inl ?_, (hlt b hb).2⟩)
  have h : g = b := by simpa [Value.ownBlock] using hb
  rw [← h]; exact hG
 refine ⟨_, _, _, l, rfl, RdV.mono (fun b hb => ⟨hb.1, Nat.lt_of_lt_of_le hb.2 t.size⟩) (RdV.keep (t.keeps (fun b hb e => hb.1.elim (fun h => by have := (hS b h).2; omega) (fun h => by omega))) r), hl, m.p, cur_keep m.c t (by omega), ?_⟩
 exact ⟨t.os.trans m.t.os, t.tape.trans m.t.tape, t.output.trans m.t.output, Nat.le_trans m.t.size t.size, fun k hk hn => (t.block k (Nat.lt_of_lt_of_le hk m.t.size) (fun e => by omega)).trans (m.t.block k hk hn)⟩
theorem Bent.hd {x : En} {l l' : List Nd} (b : Bent x l l') (h : ∀ i : Nat, i < l.length → GN (l[i]?.getD nd0)) (hx : x.nm.length ≤ 6) : ∀ i : Nat, i < l'.length → GN (l'[i]?.getD nd0) := fun i hi => by
 rw [b.1] at hi
 obtain ⟨b1, b2, b3⟩ := b.2 i hi
 have g := h i hi
 refine ⟨by rw [b1]; exact g.1, by rw [b2]; exact g.2.1, fun u hu => ?_⟩
 rcases b3 u hu with h1 | h1
 ·exact g.2.2 u h1
 ·rw [h1]; exact hx
theorem HdR.put {l : List Nd} {d : Nat} {x : Nd} (h : ∀ i : Nat, i < l.length → GN (l[i]?.getD nd0)) (hx : GN x) : ∀ i : Nat, i < (l.set d x).length → GN ((l.set d x)[i]?.getD nd0) := fun i hi => by
 rw [List.length_set] at hi
 by_cases hd : d = i
 ·subst hd; rw [List.getElem?_set_self hi]; exact hx
 ·rw [List.getElem?_set_ne hd]; exact h i hi
theorem SG.setIno {L : Nat → Prop} {w : World} {lo g cap m : Nat} {l : List Nd} (s : SG w lo L (.slice (some ⟨g, 0, none⟩) m cap) l) {d : Nat} (hd : d < l.length) (k : Int) : SG (w.setCell ⟨g, d * 9 + 1, none⟩ (.i k)) lo L (.slice (some ⟨g, 0, none⟩) m cap) (l.set d ⟨((l[d]?.getD nd0).h.sh, k, (l[d]?.getD nd0).h.dir), (l[d]?.getD nd0).par, (l[d]?.getD nd0).links, (l[d]?.getD nd0).val, (l[d]?.getD nd0).es⟩) :=
 SG.setN s hd (by omega) rfl (fun _ => rfl) (fun x j' h1 h2 => by
  match j', h1 with
  | 0, _ => rfl
  | 1, _ => omega
  | 2, _ => rfl
  | 3, _ => rfl
  | 4, _ => rfl
  | 5, _ => rfl
  | 6, _ => rfl
  | 7, _ => rfl)
theorem BS.fin6 {w wr w5 wd : World} {pb : Nat} {S : Nat → Prop} {g cap : Nat} {l : List Nd} (m : BS w wr pb S g l.length cap l) (t5 : Turned (fun b => b = w.heap.size) wr w5) (t : Turned (fun b => b = w.heap.size + 1) w5 wd) (hp : pb < w.heap.size) (hS : ∀ b, S b → pb < b ∧ b < w.heap.size) (hG : S g) (hl : l.length ≤ 241) (h0 : 0 < l.length) :
  BtSaid w pb S (.returned (.agg #[.slice (if cap = 1 then some ⟨g, 0, none⟩ else some ⟨g, 9, none⟩) (l.length - 1) (cap - 1)])) wd := by
 have hlt := m.s.lt
 have r : RdV wr (fun b => (S b ∨ w.heap.size + 2 ≤ b) ∧ b < wr.heap.size) (.slice (some ⟨g, 0, none⟩) l.length cap) (ndsDt l) := by
  refine SG.rdL (m.s.mono (fun b hb h => ⟨h, hb⟩)) (fun b hb => ⟨.inl ?_, (hlt b hb).2⟩)
  have h : g = b := by simpa [Value.ownBlock] using hb
  rw [← h]; exact hG
 have T : Turned (fun b => b = w.heap.size ∨ b = w.heap.size + 1) wr wd := (t5.wide (fun k h => .inl h)).trans (t.wide (fun k h => .inr h))
 refine ⟨_, _, _, l.drop 1, rfl, RdV.mono (fun b hb => ⟨hb.1, Nat.lt_of_lt_of_le hb.2 T.size⟩) (RdV.keep (T.keeps (fun b hb e => hb.1.elim (fun h => by have := (hS b h).2; omega) (fun h => by omega))) (r.drop1 h0)), by rw [List.length_drop]; omega, fun i hi => ?_, m.c.turn T (fun b hb => by omega), ?_⟩
 ·rw [List.length_drop] at hi
  rw [List.getElem?_drop]
  exact m.p (1 + i) (by omega)
 ·exact ⟨T.os.trans m.t.os, T.tape.trans m.t.tape, T.output.trans m.t.output, Nat.le_trans m.t.size T.size, fun k hk hn => (T.block k (Nat.lt_of_lt_of_le hk m.t.size) (fun e => by omega)).trans (m.t.block k hk hn)⟩
theorem conv_const {P : Program} {W : World} {t e : TypeId} {b n c : Nat} {C : Array Value} (ht : P.underlying t = some (.slice e)) (he : P.underlying e = some (.int .u8)) (hb : W.heap[b]? = some (.cells C e (0, 0))) :
  ∃ W', (convert t t (.slice (some ⟨b, 0, none⟩) n c)).run P W = .ok (.slice (some ⟨b, 0, none⟩) n c) W' ∧ W'.heap[b]? = some (.cells C e (C.size, C.size + 1)) ∧ Turned (fun k => k = b) W W' := by
 have hsh : W.shape? b = some (e, C.size) := by unfold World.shape?; rw [hb]
 refine ⟨W.freeze ⟨b, C.size, none⟩ 1, by simp [convert, run_underlying ht, run_underlying he, markStringish, hsh], ?_, ⟨rfl, rfl, rfl, ?_, fun k hk hn => ?_⟩⟩
 ·unfold World.freeze
  rw [if_neg (by decide)]
  simp [Array.getElem?_modify, hb]
 ·unfold World.freeze
  rw [if_neg (by decide)]
  simp
 ·unfold World.freeze
  rw [if_neg (by decide)]
  have hn : b ≠ k := fun h => hn h.symm
  simp [Array.getElem?_modify, hn]
theorem rd_zzz {w : World} {S : Nat → Prop} {b : Nat} {fz : Nat × Nat} (h : w.heap[b]? = some (.cells #[.int .u8 122, .int .u8 122, .int .u8 122] 5 fz)) (hS : S b) : RdV w S (.slice (some ⟨b, 0, none⟩) 3 3) (.bytes [122, 122, 122]) := by
 refine ⟨isBytes_cons (by omega) (by omega) (isBytes_cons (by omega) (by omega) (isBytes_cons (by omega) (by omega) isBytes_nil)), some ⟨b, 0, none⟩, 3, 3, rfl, rfl, ⟨Nat.le_refl _, by unfold maxLen; omega, fun h => by cases h⟩, .inr ⟨b, 0, rfl, hS, lt_of_block h, ⟨_, _, h⟩, fun i hi => ?_⟩⟩
 have hi3 : i < 3 := hi
 rw [cell_of_row _ _ _ _ _ _ h]
 match i, hi3 with
 | 0, _ => rfl
 | 1, _ => rfl
 | 2, _ => rfl
section
variable {P : Program} {ops : Array Oper} {Q : Exit → Act → World → Prop} {md : Region.Mode} {S : World → Prop} {z : Nat}
theorem wpAnyZ_two {i j : Nat} {oi oj : Oper} {fuel : Nat} {listed : Array Bool} {a : Act} {w : World} (hr : Region.ready md ops listed = [i, j]) (hi : ops[i]? = some oi) (hj : ops[j]? = some oj)
  (h1 : ∀ K' : Act → World → Prop, Shut (∀ a w, S w → (S w → wpAnyZ P md ops Q S z fuel (listed.setIfInBounds i true) a w) → K' a w) → if Region.wanted oi (yielded ops a.tmps) = true then Oper.wp P oi a w K' Q else K' (a.put oi.dst undef) w)
  (h2 : ∀ K' : Act → World → Prop, Shut (∀ a w, S w → (S w → wpAnyZ P md ops Q S z fuel (listed.setIfInBounds j true) a w) → K' a w) → if Region.wanted oj (yielded ops a.tmps) = true then Oper.wp P oj a w K' Q else K' (a.put oj.dst undef) w) : wpAnyZ P md ops Q S z (fuel + 1) listed a w :=
 ⟨fun h0 => (by rw [hr] at h0; cases h0), fun k hk => by
  rw [hr] at hk
  simp only [List.mem_cons, List.not_mem_nil, or_false] at hk
  rcases hk with rfl | rfl
  ·exact wpOp_step hi (fun K' hK => h1 K' (fun a w hS hW => hK a w ⟨fun _ => hS, hW hS⟩))
  ·exact wpOp_step hj (fun K' hK => h2 K' (fun a w hS hW => hK a w ⟨fun _ => hS, hW hS⟩))⟩
end
set_option maxHeartbeats 4000000 in
theorem bentT_any (pb : Nat) (x : Value) (l : List Nd) (S : Nat → Prop) (w : World) (h : CurAt w pb) (r : RdV w S x (ndsO l)) (hS : ∀ b, S b → pb < b ∧ b < w.heap.size) (h0 : 0 < l.length) (hl : l.length ≤ 241) (hP : ∀ i : Nat, i < l.length → GN (l[i]?.getD nd0)) (hE : ∀ i : Nat, (l[i]?.getD nd0).es.length ≤ 13) :
  Calls Tryz.prog 28 #[.pointer (some ⟨pb, 0, none⟩), .agg #[x]] w (BtSaid w pb S) := by
 have s0 := r.sg
 have o0 := r.own9
 obtain ⟨g, cap, rfl, hg1, hg2, hgf, hcap⟩ := s0.head h0
 have hG : S g := o0 g rfl
 have hpb := h.lt
 have hgp := (hS g hG).1
 have HS : Hid (∀ b, S b → pb < b ∧ b < w.heap.size) := hS
 have HS1 : Hid (∀ b, S b → pb < b) := fun b hb => (hS b hb).1
 have hpos : (0 : Int) < (l.length : Int) := by omega
 have hne : ¬ ((l.length : Int) = 0) := by omega
 have HE : Hid (∀ i : Nat, (l[i]?.getD nd0).es.length ≤ 13) := hE
 go_enter Tryz.func28, Tryz.ntmps28
 go_wp2_with fail
 have H0 : Hid (BS w ((w.alloc (.cells #[.slice (some ⟨g, 0, none⟩) l.length cap] 25)).alloc (.cells #[.n0] 25)) pb S g l.length cap l) :=
  ⟨h.below (Below.newH2 _ _), Turned.ofBelow (Below.newH2 _ _), (VarA.new w _ _).alloc _, by have := VarA.new (w.alloc (.cells #[.slice (some ⟨g, 0, none⟩) l.length cap] 25)) 25 #[.n0]; simpa using this, (s0.mono (fun b _ hb => .inl hb)).step (Below.newH2 _ _), hP⟩
 clear h r s0 o0 hP hE hgf hS
 refine (once_any pb 6 _ H0.out.c (by omega) (by omega)).mono ?_
 rintro e1 w1 ⟨b1, rfl, hc1, hg1⟩
 have H1 : Hid (BS w w1 pb S g l.length cap l) := H0.out.grow hc1 hg1 hpb HS1.out hG
 clear H0 hc1 hg1
 have t1 := H1.out.vT.l1
 cases b1 with
 | false =>
  go_wp2_with ((with_reducible refine gS 25 ?_); refine sF H1.out.vR rfl rfl (by kernel_rfl) rfl rfl ?_; intro wz vZ t_)
  refine bpR Tryz.results28 vZ Tryz.underlying25 rfl rfl (by kernel_rfl) rfl ?_
  exact H1.out.fin t_ hpb HS.out hG (by simpa using hl)
 | true =>
  go_wp2
  refine wp_region_noPanic ?_
  refine wp_region_held_drew (S := fun W => W.cell? ⟨w.heap.size, 0, none⟩ = some (.slice (some ⟨g, 0, none⟩) l.length cap)) (by kernel_rfl) (H1.out.vT.step (Below.drew (Below.refl w1.heap.size w1))).l1 (fun hHeld => ?_)
  apply tkh 0 _ rfl (by kernel_rfl) rfl (by assumption)
  ·(intro _ h; (try dsimp only at h); go_simp; try with_reducible rfl)
  try simp only [qz]
  apply tkh 1 _ rfl (by kernel_rfl) rfl (by assumption)
  ·(intro _ h; (try dsimp only at h); go_simp; try with_reducible rfl)
  try simp only [qz]
  apply tkh 2 _ rfl (by kernel_rfl) rfl (by assumption)
  ·(intro _ h; (try dsimp only at h); go_simp; try with_reducible rfl)
  try simp only [qz]
  apply tkh 3 _ rfl (by kernel_rfl) rfl (by assumption)
  ·(intro _ h; (try dsimp only at h); go_simp; try with_reducible rfl)
  try simp only [qz]
  apply tkh 4 _ rfl (by kernel_rfl) rfl (by assumption)
  ·(intro _ h; (try dsimp only at h); go_simp; try with_reducible rfl)
  try simp only [qz]
  apply tkh 5 _ rfl (by kernel_rfl) rfl (by assumption)
  ·(intro _ h; (try dsimp only at h); go_simp; try with_reducible rfl)
  try simp only [qz]
  refine doH 6 (by kernel_rfl) rfl fun K hK => ?_
  go_simp
  refine (below_any pb l.length _ (H1.out.c.below (Below.drew (Below.refl w1.heap.size w1))) hpos (by omega)).mono ?_
  rintro e2 w2 ⟨x2, rfl, hx20, hx21, hc2, hg2⟩
  dsimp only
  have H2 : Hid (BS w w2 pb S g l.length cap l) := (H1.out.below (Below.drew (Below.refl w1.heap.size w1)) hpb HS1.out hG).grow hc2 hg2 hpb HS1.out hG
  obtain ⟨d, rfl⟩ : ∃ i : Nat, x2 = (i : Int) := ⟨x2.toNat, by omega⟩
  have hd : d < l.length := by omega
  refine hK.out _ _ H2.out.vT.l1 (fun hHeld => ?_)
  clear hK K
  try simp only [qz]
  apply tkh 7 _ rfl (by kernel_rfl) rfl (by assumption)
  ·(intro _ h; (try dsimp only at h); go_simp; try with_reducible rfl)
  try simp only [qz]
  apply tkh 8 _ rfl (by kernel_rfl) rfl (by assumption)
  ·(intro _ h; (try dsimp only at h); go_simp; try with_reducible rfl)
  try simp only [qz]
  refine wpAnyH_done (by kernel_rfl) (NoPanic.normal ?_) _
  clear hHeld H1 hc2 hg2 t1
  have t2 := H2.out.vT.l1
  go_wp2_with fail
  refine (below_any pb 7 _ H2.out.c (by omega) (by omega)).mono ?_
  rintro e3 w3 ⟨x3, rfl, hx30, hx31, hc3, hg3⟩
  clear t2
  have H3 : Hid (BS w w3 pb S g l.length cap l) := H2.out.grow hc3 hg3 hpb HS1.out hG
  clear H2 hc3 hg3
  obtain ⟨xd, rd, cd⟩ := H3.out.s.atO hd
  have fk := SG.fz g H3.out.s hd
  have HRD : Hid (RdV w3 (fun b => (S b ∨ w.heap.size + 2 ≤ b) ∧ b < w3.heap.size ∧ b ≠ g) xd (ensO (l[d]?.getD nd0).es)) := rd
  have HCD : Hid _ := cd
  clear rd cd
  have hdi : (d : Int) < (l.length : Int) := by omega
  have z3 := H3.out.vR.lt
  have hx : x3 = 0 ∨ x3 = 1 ∨ x3 = 2 ∨ x3 = 3 ∨ x3 = 4 ∨ x3 = 5 ∨ x3 = 6 := by omega
  rcases hx with rfl | rfl | rfl | rfl | rfl | rfl | rfl
  ·skip
   go_wp2_with fail
   refine Calls.mono (pick_any pb w3.heap.size [0, 2, -1, 2147483648] _ (H3.out.c.alloc _) (by simp) (by simp) (by omega) (heap_alloc_new w3 _)) ?_
   rintro e4 w4 ⟨x4, rfl, hm4, c4, g4⟩
   have H4 : Hid (BS w w4 pb S g l.length cap l) := (H3.out.below (Below.newH _) hpb HS1.out hG).grow c4 g4 hpb HS1.out hG
   have z4 := H4.out.vR.lt
   clear c4 g4
   obtain ⟨xe, re, ce⟩ := H4.out.s.atO hd
   have e6 := ce 6 (by omega)
   have tv := H4.out.vT.l1
   have fk := SG.fz g H4.out.s hd
   have HK : Hid (BS w (w4.setCell ⟨g, d * 9 + 6, none⟩ (.i x4)) pb S g l.length cap _) := H4.out.turn (Turned.set (Turned.refl (fun b => S b ∨ w.heap.size + 2 ≤ b) w4) ⟨g, d * 9 + 6, none⟩ _ (.inl hG)) (H4.out.s.setLk hd x4) hpb HS.out (HdR.put H4.out.p (H4.out.p d hd))
   obtain ⟨wk, hwk⟩ : ∃ W, W = (w4.setCell ⟨g, d * 9 + 6, none⟩ (.i x4)) := ⟨_, rfl⟩
   rw [← hwk] at HK
   have tk := HK.out.vT.l1
   clear re ce
   go_wp2_with ((rw [← hwk]); (with_reducible refine gS 25 ?_); refine sF HK.out.vR rfl rfl (by kernel_rfl) rfl rfl ?_; intro wz vZ t_)
   refine bpR Tryz.results28 vZ Tryz.underlying25 rfl rfl (by kernel_rfl) rfl ?_
   exact HK.out.fin t_ hpb HS.out hG (by simpa using hl)
  ·skip
   go_wp2_with fail
   refine (below_any pb 3 _ H3.out.c (by omega) (by omega)).mono ?_
   rintro e4 w4 ⟨x4, rfl, hx40, hx41, c4, g4⟩
   have H4 : Hid (BS w w4 pb S g l.length cap l) := H3.out.grow c4 g4 hpb HS1.out hG
   have z4 := H4.out.vR.lt
   have hw4 : IntKind.i64.wrap (1 + x4) = 1 + x4 := wrapI _ (by omega) (by omega)
   clear c4 g4
   obtain ⟨xe, re, ce⟩ := H4.out.s.atO hd
   have e3 := ce 3 (by omega)
   have e4 := ce 4 (by omega)
   have e5 := ce 5 (by omega)
   have tv := H4.out.vT.l1
   have fk := SG.fz g H4.out.s hd
   have HK : Hid (BS w (((w4.setCell ⟨g, d * 9 + 3, none⟩ (.i 0)).setCell ⟨g, d * 9 + 4, none⟩ (.i (1 + x4))).setCell ⟨g, d * 9 + 5, none⟩ (.bool true)) pb S g l.length cap _) := H4.out.turn (Turned.set (Turned.set (Turned.set (Turned.refl (fun b => S b ∨ w.heap.size + 2 ≤ b) w4) ⟨g, d * 9 + 3, none⟩ _ (.inl hG)) ⟨g, d * 9 + 4, none⟩ _ (.inl hG)) ⟨g, d * 9 + 5, none⟩ _ (.inl hG)) (H4.out.s.setPar hd (0, 1 + x4, true)) hpb HS.out (HdR.put H4.out.p (H4.out.p d hd))
   obtain ⟨wk, hwk⟩ : ∃ W, W = (((w4.setCell ⟨g, d * 9 + 3, none⟩ (.i 0)).setCell ⟨g, d * 9 + 4, none⟩ (.i (1 + x4))).setCell ⟨g, d * 9 + 5, none⟩ (.bool true)) := ⟨_, rfl⟩
   rw [← hwk] at HK
   have tk := HK.out.vT.l1
   clear re ce
   go_wp2_with ((rw [← hwk]); (with_reducible refine gS 25 ?_); refine sF HK.out.vR rfl rfl (by kernel_rfl) rfl rfl ?_; intro wz vZ t_)
   refine bpR Tryz.results28 vZ Tryz.underlying25 rfl rfl (by kernel_rfl) rfl ?_
   exact HK.out.fin t_ hpb HS.out hG (by simpa using hl)
  ·skip
   go_wp2_with fail
   refine Calls.mono (pick_any pb w3.heap.size [0, 1, 2147483648] _ (H3.out.c.alloc _) (by simp) (by simp) (by omega) (heap_alloc_new w3 _)) ?_
   rintro e4 w4 ⟨x4, rfl, hm4, c4, g4⟩
   have H4 : Hid (BS w w4 pb S g l.length cap l) := (H3.out.below (Below.newH _) hpb HS1.out hG).grow c4 g4 hpb HS1.out hG
   have z4 := H4.out.vR.lt
   clear c4 g4
   have hx4 : x4 = 0 ∨ x4 = 1 ∨ x4 = 2147483648 := by simpa using hm4
   have hpd := H4.out.p d hd
   have hq : HdR ((l[d]?.getD nd0).h.sh, x4, (l[d]?.getD nd0).h.dir) := ⟨hpd.1.1, hpd.1.2.1, by show 0 ≤ x4; omega, by show x4 ≤ 2147483648; omega⟩
   obtain ⟨xe, re, ce⟩ := H4.out.s.atO hd
   have e1 := ce 1 (by omega)
   have tv := H4.out.vT.l1
   have fk := SG.fz g H4.out.s hd
   have HK : Hid (BS w (w4.setCell ⟨g, d * 9 + 1, none⟩ (.i x4)) pb S g l.length cap _) := H4.out.turn (Turned.set (Turned.refl (fun b => S b ∨ w.heap.size + 2 ≤ b) w4) ⟨g, d * 9 + 1, none⟩ _ (.inl hG)) (H4.out.s.setIno hd x4) hpb HS.out (HdR.put H4.out.p ⟨hq, hpd.2⟩)
   obtain ⟨wk, hwk⟩ : ∃ W, W = (w4.setCell ⟨g, d * 9 + 1, none⟩ (.i x4)) := ⟨_, rfl⟩
   rw [← hwk] at HK
   have tk := HK.out.vT.l1
   clear re ce
   go_wp2_with ((rw [← hwk]); (with_reducible refine gS 25 ?_); refine sF HK.out.vR rfl rfl (by kernel_rfl) rfl rfl ?_; intro wz vZ t_)
   refine bpR Tryz.results28 vZ Tryz.underlying25 rfl rfl (by kernel_rfl) rfl ?_
   exact HK.out.fin t_ hpb HS.out hG (by simpa using hl)
  ·skip
   have e8 : w3.cell? ⟨g, d * 9 + 8, none⟩ = some xd := HCD.out 8 (by omega)
   have hgw : g < w3.heap.size := by omega
   have HSC : Hid (∀ W, Below w3.heap.size w3 W → W.cell? ⟨g, d * 9 + 8, none⟩ = some xd) := fun W hW => (World.cell?_of_block (hW.block g hgw)).trans e8
   have hdi2 := hdi
   clear fk HCD
   go_wp2
   refine wp_region_noPanic ?_
   refine wp_region_Z (fun W => W.cell? ⟨g, d * 9 + 8, none⟩ = some xd) 13 (by kernel_rfl) e8 (fun hHeld => ?_)
   apply tkz 0 _ rfl (by kernel_rfl) rfl (by assumption)
   ·(intro _ h; (try dsimp only at h); go_simp; try with_reducible rfl)
   try simp only [qz]
   apply tkz 1 _ rfl (by kernel_rfl) rfl (by assumption)
   ·(intro _ h; (try dsimp only at h); go_simp; try with_reducible rfl)
   try simp only [qz]
   apply tkz 2 _ rfl (by kernel_rfl) rfl (by assumption)
   ·(intro _ h; (try dsimp only at h); go_simp; try with_reducible rfl)
   try simp only [qz]
   apply tkz 3 _ rfl (by kernel_rfl) rfl (by assumption)
   ·(intro _ h; (try dsimp only at h); go_simp; try with_reducible rfl)
   try simp only [qz]
   apply tkz 4 _ rfl (by kernel_rfl) rfl (by assumption)
   ·(intro _ h; (try dsimp only at h); go_simp; try with_reducible rfl)
   try simp only [qz]
   refine wpAnyZ_two (i := 5) (j := 7) (by kernel_rfl) rfl rfl (fun K hK => ?_) (fun K hK => ?_)
   ·go_simp
    obtain ⟨w5, hw5⟩ : ∃ W, W = (w3.alloc (.cells #[.int .u8 122, .int .u8 122, .int .u8 122] 5)).drew := ⟨_, rfl⟩
    have B5 : Below w3.heap.size w3 w5 := by rw [hw5]; exact (Below.drew ((Below.refl _ _).alloc (Nat.le_refl _) _))
    have N5 : w5.heap[w3.heap.size]? = some (.cells #[.int .u8 122, .int .u8 122, .int .u8 122] 5 (0, 0)) := by rw [hw5]; exact heap_alloc_new w3 _
    rw [← hw5]
    clear hw5
    refine hK.out _ _ (HSC.out _ B5) (fun hHeld => ?_)
    clear hK K hHeld
    have hHeld := HSC.out _ B5
    try simp only [qz]
    refine wpAnyZ_two (i := 6) (j := 7) (by kernel_rfl) rfl rfl (fun K hK => ?_) (fun K hK => ?_)
    ·obtain ⟨w6, hcv6, N6, T6⟩ := conv_const (P := Tryz.prog) (n := 3) (c := 3) Tryz.underlying22 Tryz.underlying5 N5
     have B6 : Below w3.heap.size w3 w6 := Turned.below B5 T6 B5.size (fun i hi => by have := (B5).size; omega)
     go_simp
     clear hcv6 T6
     refine hK.out _ _ (HSC.out _ B6) (fun hHeld => ?_)
     clear hK K hHeld
     have hHeld := HSC.out _ B6
     try simp only [qz]
     refine wpAnyZ_one (i := 7) (by kernel_rfl) rfl (fun K hK => ?_)
     go_simp
     refine Calls.mono (specRootH_any _) ?_
     rintro e7 w7 ⟨rfl, hw7⟩
     dsimp only [rootV]
     have B7 : Below w3.heap.size w3 w7 := by rw [hw7]; exact B6.alloc B6.size _
     have N7 : w7.heap[w3.heap.size]? = some (.cells #[.int .u8 122, .int .u8 122, .int .u8 122] 5 (3, 4)) := by rw [hw7]; exact (heap_alloc_old w6 _ (lt_of_block N6)).trans N6
     clear hw7
     refine hK.out _ _ (HSC.out _ B7) (fun hHeld => ?_)
     clear hK K hHeld
     have hHeld := HSC.out _ B7
     try simp only [qz]
     apply tkz 8 _ rfl (by kernel_rfl) rfl (by assumption)
     ·(intro _ h; (try dsimp only at h); go_simp; try with_reducible rfl)
     try simp only [qz]
     refine wpAnyZ_one (i := 9) (by kernel_rfl) rfl (fun K hK => ?_)
     go_simp
     obtain ⟨w9, hw9⟩ : ∃ W, W = w7.alloc (.cells #[.slice (some ⟨w3.heap.size, 0, none⟩) 3 3, .i 0, .i 1, .bool true] 81) := ⟨_, rfl⟩
     have B9 : Below w3.heap.size w3 w9 := by rw [hw9]; exact B7.alloc B7.size _
     have N9 : w9.heap[w3.heap.size]? = some (.cells #[.int .u8 122, .int .u8 122, .int .u8 122] 5 (3, 4)) := by rw [hw9]; exact (heap_alloc_old w7 _ (lt_of_block N7)).trans N7
     have Q9 : w9.heap[w7.heap.size]? = some (.cells #[.slice (some ⟨w3.heap.size, 0, none⟩) 3 3, .i 0, .i 1, .bool true] 81 (0, 0)) := by rw [hw9]; exact heap_alloc_new w7 _
     rw [← hw9]
     clear hw9
     refine hK.out _ _ (HSC.out _ B9) (fun hHeld => ?_)
     clear hK K hHeld
     have hHeld := HSC.out _ B9
     try simp only [qz]
     refine wpAnyZ_one (i := 10) (by kernel_rfl) rfl (fun K hK => ?_)
     have H9 : Hid (BS w w9 pb S g l.length cap l) := H3.out.below B9 hpb HS1.out hG
     have z9 := B9.size
     have zb := B7.size
     have zn : w3.heap.size ≤ w3.heap.size := Nat.le_refl _
     have zl := lt_of_block N9
     refine step_appB w9 rfl (.tmp 62) (.tmp 67) rfl xd rfl w7.heap.size rfl (0, 0) ⟨[122, 122, 122], (0, 1, true)⟩ (fun j => if j = 0 then .slice (some ⟨w3.heap.size, 0, none⟩) 3 3 else if j = 1 then .i 0 else if j = 2 then .i 1 else .bool true) Q9 (fun j hj => ?_) H9.out.s (l[d]?.getD nd0).es (RdV.mono (fun b hb => ⟨hb.1, by omega, hb.2.2⟩) (RdV.step HRD.out B9)) (fun j hj => ?_) (.inr (by omega)) (by omega) (by have := HE.out d; omega) ?_
     ·match j, hj with
      | 0, _ => rfl
      | 1, _ => rfl
      | 2, _ => rfl
      | 3, _ => rfl
     ·match j, hj with
      | 0, _ => exact rd_zzz N9 ⟨.inr (by omega), zl, by omega⟩
      | 1, _ => exact RdV.int 0
      | 2, _ => exact RdV.int 1
      | 3, _ => exact RdV.bool true
     intro ga m10 c10 w10 l10 s10 bt10 r10 t10
     have hd10 : d < l10.length := by rw [bt10.1]; exact hd
     have e10 : w10.cell? ⟨g, d * 9 + 8, none⟩ = some xd := (World.cell?_of_block (t10.block g (by omega) (fun h => h.2 rfl))).trans (HSC.out w9 B9)
     refine hK.out _ _ e10 (fun hHeld => ?_)
     clear hK K
     try simp only [qz]
     refine wpAnyZ_one (i := 11) (by kernel_rfl) rfl (fun K hK => ?_)
     go_simp
     refine hK.out _ _ hHeld (fun hHeld => ?_)
     clear hK K
     try simp only [qz]
     refine wpAnyZ_one (i := 12) (by kernel_rfl) rfl (fun K hK => ?_)
     go_simp
     refine hK.out _ _ hHeld (fun hHeld => ?_)
     clear hK K
     try simp only [qz]
     refine wpAnyZ_last (by kernel_rfl) rfl (fun K hK => ?_)
     have fk10 := SG.fz g s10 hd10 (d * 9 + 8)
     go_simp
     refine hK.out _ _ ?_
     clear hK K
     try simp only [qz]
     refine wpAnyZ_done (by kernel_rfl) (NoPanic.normal ?_) _
     have HE14 : Hid (((l[d]?.getD nd0).es ++ [(⟨[122, 122, 122], (0, 1, true)⟩ : En)]).length ≤ 14) := by show _ ≤ 14; rw [List.length_append]; have := HE.out d; simp only [List.length_cons, List.length_nil]; omega
     have HM6 : Hid (∀ e ∈ (l[d]?.getD nd0).es ++ [(⟨[122, 122, 122], (0, 1, true)⟩ : En)], e.nm.length ≤ 6) := fun e he => by rcases List.mem_append.1 he with h_ | h_; exact (H3.out.p d hd).2.2 e h_; rw [List.mem_singleton.1 h_]; decide
     have H10 : Hid (BS w w10 pb S g l.length cap l10) := H9.out.turn (t10.wide (fun k hk => hk.1)) s10 hpb HS.out (bt10.hd H9.out.p (by decide))
     have HK : Hid (BS w (w10.setCell ⟨g, d * 9 + 8, none⟩ (.slice ga m10 c10)) pb S g l.length cap (l10.set d ((l10[d]?.getD nd0).setEs _))) := H10.out.turn (Turned.set (Turned.refl (fun b => S b ∨ w.heap.size + 2 ≤ b) w10) ⟨g, d * 9 + 8, none⟩ _ (.inl hG)) (s10.setE hd10 r10) hpb HS.out (HdR.put H10.out.p ⟨(H10.out.p d hd10).1, HE14.out, HM6.out⟩)
     obtain ⟨wk, hwk⟩ : ∃ W, W = w10.setCell ⟨g, d * 9 + 8, none⟩ (.slice ga m10 c10) := ⟨_, rfl⟩
     rw [← hwk] at HK ⊢
     have tk := HK.out.vT.l1
     have hl10 : l10.length ≤ 241 := by rw [bt10.1]; exact hl
     clear hwk hHeld e10 fk10 s10 r10 t10 H10 H9 Q9 N9 B9
     go_wp2_with ((with_reducible refine gS 25 ?_); refine sF HK.out.vR rfl rfl (by kernel_rfl) rfl rfl ?_; intro wz vZ t_)
     refine bpR Tryz.results28 vZ Tryz.underlying25 rfl rfl (by kernel_rfl) rfl ?_
     exact HK.out.fin t_ hpb HS.out hG (by simpa using hl10)
    ·go_simp
     refine Calls.mono (specRootH_any _) ?_
     rintro e7 w7 ⟨rfl, hw7⟩
     dsimp only [rootV]
     have B7 : Below w3.heap.size w3 w7 := by rw [hw7]; exact B5.alloc B5.size _
     have N7 : w7.heap[w3.heap.size]? = some (.cells #[.int .u8 122, .int .u8 122, .int .u8 122] 5 (0, 0)) := by rw [hw7]; exact (heap_alloc_old w5 _ (lt_of_block N5)).trans N5
     clear hw7
     refine hK.out _ _ (HSC.out _ B7) (fun hHeld => ?_)
     clear hK K hHeld
     have hHeld := HSC.out _ B7
     try simp only [qz]
     refine wpAnyZ_one (i := 6) (by kernel_rfl) rfl (fun K hK => ?_)
     obtain ⟨w6, hcv6, N6, T6⟩ := conv_const (P := Tryz.prog) (n := 3) (c := 3) Tryz.underlying22 Tryz.underlying5 N7
     have B6 : Below w3.heap.size w3 w6 := Turned.below B7 T6 B7.size (fun i hi => by have := (B7).size; omega)
     go_simp
     clear hcv6 T6
     refine hK.out _ _ (HSC.out _ B6) (fun hHeld => ?_)
     clear hK K hHeld
     have hHeld := HSC.out _ B6
     try simp only [qz]
     apply tkz 8 _ rfl (by kernel_rfl) rfl (by assumption)
     ·(intro _ h; (try dsimp only at h); go_simp; try with_reducible rfl)
     try simp only [qz]
     refine wpAnyZ_one (i := 9) (by kernel_rfl) rfl (fun K hK => ?_)
     go_simp
     obtain ⟨w9, hw9⟩ : ∃ W, W = w6.alloc (.cells #[.slice (some ⟨w3.heap.size, 0, none⟩) 3 3, .i 0, .i 1, .bool true] 81) := ⟨_, rfl⟩
     have B9 : Below w3.heap.size w3 w9 := by rw [hw9]; exact B6.alloc B6.size _
     have N9 : w9.heap[w3.heap.size]? = some (.cells #[.int .u8 122, .int .u8 122, .int .u8 122] 5 (3, 4)) := by rw [hw9]; exact (heap_alloc_old w6 _ (lt_of_block N6)).trans N6
     have Q9 : w9.heap[w6.heap.size]? = some (.cells #[.slice (some ⟨w3.heap.size, 0, none⟩) 3 3, .i 0, .i 1, .bool true] 81 (0, 0)) := by rw [hw9]; exact heap_alloc_new w6 _
     rw [← hw9]
     clear hw9
     refine hK.out _ _ (HSC.out _ B9) (fun hHeld => ?_)
     clear hK K hHeld
     have hHeld := HSC.out _ B9
     try simp only [qz]
     refine wpAnyZ_one (i := 10) (by kernel_rfl) rfl (fun K hK => ?_)
     have H9 : Hid (BS w w9 pb S g l.length cap l) := H3.out.below B9 hpb HS1.out hG
     have z9 := B9.size
     have zb := B6.size
     have zn : w3.heap.size ≤ w3.heap.size := Nat.le_refl _
     have zl := lt_of_block N9
     refine step_appB w9 rfl (.tmp 62) (.tmp 67) rfl xd rfl w6.heap.size rfl (0, 0) ⟨[122, 122, 122], (0, 1, true)⟩ (fun j => if j = 0 then .slice (some ⟨w3.heap.size, 0, none⟩) 3 3 else if j = 1 then .i 0 else if j = 2 then .i 1 else .bool true) Q9 (fun j hj => ?_) H9.out.s (l[d]?.getD nd0).es (RdV.mono (fun b hb => ⟨hb.1, by omega, hb.2.2⟩) (RdV.step HRD.out B9)) (fun j hj => ?_) (.inr (by omega)) (by omega) (by have := HE.out d; omega) ?_
     ·match j, hj with
      | 0, _ => rfl
      | 1, _ => rfl
      | 2, _ => rfl
      | 3, _ => rfl
     ·match j, hj with
      | 0, _ => exact rd_zzz N9 ⟨.inr (by omega), zl, by omega⟩
      | 1, _ => exact RdV.int 0
      | 2, _ => exact RdV.int 1
      | 3, _ => exact RdV.bool true
     intro ga m10 c10 w10 l10 s10 bt10 r10 t10
     have hd10 : d < l10.length := by rw [bt10.1]; exact hd
     have e10 : w10.cell? ⟨g, d * 9 + 8, none⟩ = some xd := (World.cell?_of_block (t10.block g (by omega) (fun h => h.2 rfl))).trans (HSC.out w9 B9)
     refine hK.out _ _ e10 (fun hHeld => ?_)
     clear hK K
     try simp only [qz]
     refine wpAnyZ_one (i := 11) (by kernel_rfl) rfl (fun K hK => ?_)
     go_simp
     refine hK.out _ _ hHeld (fun hHeld => ?_)
     clear hK K
     try simp only [qz]
     refine wpAnyZ_one (i := 12) (by kernel_rfl) rfl (fun K hK => ?_)
     go_simp
     refine hK.out _ _ hHeld (fun hHeld => ?_)
     clear hK K
     try simp only [qz]
     refine wpAnyZ_last (by kernel_rfl) rfl (fun K hK => ?_)
     have fk10 := SG.fz g s10 hd10 (d * 9 + 8)
     go_simp
     refine hK.out _ _ ?_
     clear hK K
     try simp only [qz]
     refine wpAnyZ_done (by kernel_rfl) (NoPanic.normal ?_) _
     have HE14 : Hid (((l[d]?.getD nd0).es ++ [(⟨[122, 122, 122], (0, 1, true)⟩ : En)]).length ≤ 14) := by show _ ≤ 14; rw [List.length_append]; have := HE.out d; simp only [List.length_cons, List.length_nil]; omega
     have HM6 : Hid (∀ e ∈ (l[d]?.getD nd0).es ++ [(⟨[122, 122, 122], (0, 1, true)⟩ : En)], e.nm.length ≤ 6) := fun e he => by rcases List.mem_append.1 he with h_ | h_; exact (H3.out.p d hd).2.2 e h_; rw [List.mem_singleton.1 h_]; decide
     have H10 : Hid (BS w w10 pb S g l.length cap l10) := H9.out.turn (t10.wide (fun k hk => hk.1)) s10 hpb HS.out (bt10.hd H9.out.p (by decide))
     have HK : Hid (BS w (w10.setCell ⟨g, d * 9 + 8, none⟩ (.slice ga m10 c10)) pb S g l.length cap (l10.set d ((l10[d]?.getD nd0).setEs _))) := H10.out.turn (Turned.set (Turned.refl (fun b => S b ∨ w.heap.size + 2 ≤ b) w10) ⟨g, d * 9 + 8, none⟩ _ (.inl hG)) (s10.setE hd10 r10) hpb HS.out (HdR.put H10.out.p ⟨(H10.out.p d hd10).1, HE14.out, HM6.out⟩)
     obtain ⟨wk, hwk⟩ : ∃ W, W = w10.setCell ⟨g, d * 9 + 8, none⟩ (.slice ga m10 c10) := ⟨_, rfl⟩
     rw [← hwk] at HK ⊢
     have tk := HK.out.vT.l1
     have hl10 : l10.length ≤ 241 := by rw [bt10.1]; exact hl
     clear hwk hHeld e10 fk10 s10 r10 t10 H10 H9 Q9 N9 B9
     go_wp2_with ((with_reducible refine gS 25 ?_); refine sF HK.out.vR rfl rfl (by kernel_rfl) rfl rfl ?_; intro wz vZ t_)
     refine bpR Tryz.results28 vZ Tryz.underlying25 rfl rfl (by kernel_rfl) rfl ?_
     exact HK.out.fin t_ hpb HS.out hG (by simpa using hl10)
   ·go_simp
    refine Calls.mono (specRootH_any _) ?_
    rintro e7 w7 ⟨rfl, hw7⟩
    dsimp only [rootV]
    have B7 : Below w3.heap.size w3 w7 := by rw [hw7]; exact (Below.drew (Below.refl _ _)).alloc (Nat.le_refl _) _
    clear hw7
    refine hK.out _ _ (HSC.out _ B7) (fun hHeld => ?_)
    clear hK K hHeld
    have hHeld := HSC.out _ B7
    try simp only [qz]
    refine wpAnyZ_one (i := 5) (by kernel_rfl) rfl (fun K hK => ?_)
    go_simp
    obtain ⟨w5, hw5⟩ : ∃ W, W = w7.alloc (.cells #[.int .u8 122, .int .u8 122, .int .u8 122] 5) := ⟨_, rfl⟩
    have B5 : Below w3.heap.size w3 w5 := by rw [hw5]; exact B7.alloc B7.size _
    have N5 : w5.heap[w7.heap.size]? = some (.cells #[.int .u8 122, .int .u8 122, .int .u8 122] 5 (0, 0)) := by rw [hw5]; exact heap_alloc_new w7 _
    rw [← hw5]
    clear hw5
    refine hK.out _ _ (HSC.out _ B5) (fun hHeld => ?_)
    clear hK K hHeld
    have hHeld := HSC.out _ B5
    try simp only [qz]
    refine wpAnyZ_one (i := 6) (by kernel_rfl) rfl (fun K hK => ?_)
    obtain ⟨w6, hcv6, N6, T6⟩ := conv_const (P := Tryz.prog) (n := 3) (c := 3) Tryz.underlying22 Tryz.underlying5 N5
    have B6 : Below w3.heap.size w3 w6 := Turned.below B5 T6 B5.size (fun i hi => by have := (B7).size; omega)
    go_simp
    clear hcv6 T6
    refine hK.out _ _ (HSC.out _ B6) (fun hHeld => ?_)
    clear hK K hHeld
    have hHeld := HSC.out _ B6
    try simp only [qz]
    apply tkz 8 _ rfl (by kernel_rfl) rfl (by assumption)
    ·(intro _ h; (try dsimp only at h); go_simp; try with_reducible rfl)
    try simp only [qz]
    refine wpAnyZ_one (i := 9) (by kernel_rfl) rfl (fun K hK => ?_)
    go_simp
    obtain ⟨w9, hw9⟩ : ∃ W, W = w6.alloc (.cells #[.slice (some ⟨w7.heap.size, 0, none⟩) 3 3, .i 0, .i 1, .bool true] 81) := ⟨_, rfl⟩
    have B9 : Below w3.heap.size w3 w9 := by rw [hw9]; exact B6.alloc B6.size _
    have N9 : w9.heap[w7.heap.size]? = some (.cells #[.int .u8 122, .int .u8 122, .int .u8 122] 5 (3, 4)) := by rw [hw9]; exact (heap_alloc_old w6 _ (lt_of_block N6)).trans N6
    have Q9 : w9.heap[w6.heap.size]? = some (.cells #[.slice (some ⟨w7.heap.size, 0, none⟩) 3 3, .i 0, .i 1, .bool true] 81 (0, 0)) := by rw [hw9]; exact heap_alloc_new w6 _
    rw [← hw9]
    clear hw9
    refine hK.out _ _ (HSC.out _ B9) (fun hHeld => ?_)
    clear hK K hHeld
    have hHeld := HSC.out _ B9
    try simp only [qz]
    refine wpAnyZ_one (i := 10) (by kernel_rfl) rfl (fun K hK => ?_)
    have H9 : Hid (BS w w9 pb S g l.length cap l) := H3.out.below B9 hpb HS1.out hG
    have z9 := B9.size
    have zb := B6.size
    have zn : w3.heap.size ≤ w7.heap.size := B7.size
    have zl := lt_of_block N9
    refine step_appB w9 rfl (.tmp 62) (.tmp 67) rfl xd rfl w6.heap.size rfl (0, 0) ⟨[122, 122, 122], (0, 1, true)⟩ (fun j => if j = 0 then .slice (some ⟨w7.heap.size, 0, none⟩) 3 3 else if j = 1 then .i 0 else if j = 2 then .i 1 else .bool true) Q9 (fun j hj => ?_) H9.out.s (l[d]?.getD nd0).es (RdV.mono (fun b hb => ⟨hb.1, by omega, hb.2.2⟩) (RdV.step HRD.out B9)) (fun j hj => ?_) (.inr (by omega)) (by omega) (by have := HE.out d; omega) ?_
    ·match j, hj with
     | 0, _ => rfl
     | 1, _ => rfl
     | 2, _ => rfl
     | 3, _ => rfl
    ·match j, hj with
     | 0, _ => exact rd_zzz N9 ⟨.inr (by omega), zl, by omega⟩
     | 1, _ => exact RdV.int 0
     | 2, _ => exact RdV.int 1
     | 3, _ => exact RdV.bool true
    intro ga m10 c10 w10 l10 s10 bt10 r10 t10
    have hd10 : d < l10.length := by rw [bt10.1]; exact hd
    have e10 : w10.cell? ⟨g, d * 9 + 8, none⟩ = some xd := (World.cell?_of_block (t10.block g (by omega) (fun h => h.2 rfl))).trans (HSC.out w9 B9)
    refine hK.out _ _ e10 (fun hHeld => ?_)
    clear hK K
    try simp only [qz]
    refine wpAnyZ_one (i := 11) (by kernel_rfl) rfl (fun K hK => ?_)
    go_simp
    refine hK.out _ _ hHeld (fun hHeld => ?_)
    clear hK K
    try simp only [qz]
    refine wpAnyZ_one (i := 12) (by kernel_rfl) rfl (fun K hK => ?_)
    go_simp
    refine hK.out _ _ hHeld (fun hHeld => ?_)
    clear hK K
    try simp only [qz]
    refine wpAnyZ_last (by kernel_rfl) rfl (fun K hK => ?_)
    have fk10 := SG.fz g s10 hd10 (d * 9 + 8)
    go_simp
    refine hK.out _ _ ?_
    clear hK K
    try simp only [qz]
    refine wpAnyZ_done (by kernel_rfl) (NoPanic.normal ?_) _
    have HE14 : Hid (((l[d]?.getD nd0).es ++ [(⟨[122, 122, 122], (0, 1, true)⟩ : En)]).length ≤ 14) := by show _ ≤ 14; rw [List.length_append]; have := HE.out d; simp only [List.length_cons, List.length_nil]; omega
    have HM6 : Hid (∀ e ∈ (l[d]?.getD nd0).es ++ [(⟨[122, 122, 122], (0, 1, true)⟩ : En)], e.nm.length ≤ 6) := fun e he => by rcases List.mem_append.1 he with h_ | h_; exact (H3.out.p d hd).2.2 e h_; rw [List.mem_singleton.1 h_]; decide
    have H10 : Hid (BS w w10 pb S g l.length cap l10) := H9.out.turn (t10.wide (fun k hk => hk.1)) s10 hpb HS.out (bt10.hd H9.out.p (by decide))
    have HK : Hid (BS w (w10.setCell ⟨g, d * 9 + 8, none⟩ (.slice ga m10 c10)) pb S g l.length cap (l10.set d ((l10[d]?.getD nd0).setEs _))) := H10.out.turn (Turned.set (Turned.refl (fun b => S b ∨ w.heap.size + 2 ≤ b) w10) ⟨g, d * 9 + 8, none⟩ _ (.inl hG)) (s10.setE hd10 r10) hpb HS.out (HdR.put H10.out.p ⟨(H10.out.p d hd10).1, HE14.out, HM6.out⟩)
    obtain ⟨wk, hwk⟩ : ∃ W, W = w10.setCell ⟨g, d * 9 + 8, none⟩ (.slice ga m10 c10) := ⟨_, rfl⟩
    rw [← hwk] at HK ⊢
    have tk := HK.out.vT.l1
    have hl10 : l10.length ≤ 241 := by rw [bt10.1]; exact hl
    clear hwk hHeld e10 fk10 s10 r10 t10 H10 H9 Q9 N9 B9
    go_wp2_with ((with_reducible refine gS 25 ?_); refine sF HK.out.vR rfl rfl (by kernel_rfl) rfl rfl ?_; intro wz vZ t_)
    refine bpR Tryz.results28 vZ Tryz.underlying25 rfl rfl (by kernel_rfl) rfl ?_
    exact HK.out.fin t_ hpb HS.out hG (by simpa using hl10)
  ·skip
   clear fk
   obtain ⟨xe, re, ce⟩ := H3.out.s.atO hd
   have e7 := ce 7 (by omega)
   have tv := H3.out.vT.l1
   have fk := SG.fz g H3.out.s hd
   have HK : Hid (BS w (w3.setCell ⟨g, d * 9 + 7, none⟩ (.i 5)) pb S g l.length cap _) := H3.out.turn (Turned.set (Turned.refl (fun b => S b ∨ w.heap.size + 2 ≤ b) w3) ⟨g, d * 9 + 7, none⟩ _ (.inl hG)) (H3.out.s.setVal hd 5) hpb HS.out (HdR.put H3.out.p (H3.out.p d hd))
   obtain ⟨wk, hwk⟩ : ∃ W, W = (w3.setCell ⟨g, d * 9 + 7, none⟩ (.i 5)) := ⟨_, rfl⟩
   rw [← hwk] at HK
   have tk := HK.out.vT.l1
   clear re ce
   go_wp2_with ((rw [← hwk]); (with_reducible refine gS 25 ?_); refine sF HK.out.vR rfl rfl (by kernel_rfl) rfl rfl ?_; intro wz vZ t_)
   refine bpR Tryz.results28 vZ Tryz.underlying25 rfl rfl (by kernel_rfl) rfl ?_
   exact HK.out.fin t_ hpb HS.out hG (by simpa using hl)
  ·skip
   have e8 := HCD.out 8 (by omega)
   simp only [ndVal] at e8
   obtain ⟨xa, xc, hxd, _⟩ := RdV.sliced HRD.out.en
   have tv := H3.out.vT.l1
   by_cases hes : (l[d]?.getD nd0).es.length = 0
   ·rw [hxd, hes] at e8
    clear fk HRD HCD HE hxd hes
    go_wp2_with ((with_reducible refine gS 25 ?_); refine sF H3.out.vR rfl rfl (by kernel_rfl) rfl rfl ?_; intro wz vZ t_)
    refine bpR Tryz.results28 vZ Tryz.underlying25 rfl rfl (by kernel_rfl) rfl ?_
    exact H3.out.fin t_ hpb HS.out hG (by simpa using hl)
   ·have hes0 : 0 < (l[d]?.getD nd0).es.length := by omega
    have hesi : (0 : Int) < ((l[d]?.getD nd0).es.length : Int) := by omega
    obtain ⟨e, c, hxe, hLe, he, ⟨iv, hiv⟩, hfz, hpk⟩ := Pk.ino HRD.out hes0
    obtain ⟨f, y, pk, hy, hyn⟩ := hpk (wrap64 (iv + 1))
    obtain ⟨l2, s2, bt⟩ := pk.sg (fun j hj => RdV.mono (fun b hb => ⟨hb.1, hb.2.1, fun h => hb.2.2 (by simpa [Value.ownBlock] using h.symm)⟩) (hy j hj)) (fun h => hLe.2.2 (by simpa [Value.ownBlock] using h.symm)) H3.out.s
    have hy6 : y.nm.length ≤ 6 := by rw [hyn]; exact (H3.out.p d hd).2.2 _ (by rw [List.getElem?_eq_getElem hes0]; exact List.getElem_mem hes0)
    clear hyn
    have HK : Hid (BS w (w3.setCell ⟨e, 2, none⟩ (.i (wrap64 (iv + 1)))) pb S g l.length cap l2) := H3.out.turn (Turned.set (Turned.refl (fun b => S b ∨ w.heap.size + 2 ≤ b) w3) ⟨e, 2, none⟩ _ hLe.1) s2 hpb HS.out (bt.hd H3.out.p hy6)
    have hl2 : l2.length ≤ 241 := by rw [bt.1]; exact hl
    obtain ⟨wk, hwk⟩ : ∃ W, W = w3.setCell ⟨e, 2, none⟩ (.i (wrap64 (iv + 1))) := ⟨_, rfl⟩
    rw [← hwk] at HK
    have tk := HK.out.vT.l1
    rw [hxe] at e8
    obtain ⟨N, hN⟩ : ∃ N, N = (l[d]?.getD nd0).es.length := ⟨_, rfl⟩
    rw [← hN] at e8 hesi
    clear pk hy hpk s2 bt hLe hN hxd hxe hes hes0 HRD HCD HE
    go_wp2_with ((rw [← hwk]); (with_reducible refine gS 25 ?_); refine sF HK.out.vR rfl rfl (by kernel_rfl) rfl rfl ?_; intro wz vZ t_)
    refine bpR Tryz.results28 vZ Tryz.underlying25 rfl rfl (by kernel_rfl) rfl ?_
    exact HK.out.fin t_ hpb HS.out hG hl2
  ·skip
   have hone : (1 : Nat) ≤ l.length := h0
   obtain ⟨va, hva⟩ : ∃ va : Option Addr, va = (if cap = 1 then some ⟨g, 0, none⟩ else some ⟨g, 9, none⟩) := ⟨_, rfl⟩
   have HSL : Hid (∀ W, (Instr.sliceAt 23 (.slice (some ⟨g, 0, none⟩) l.length cap) (some (.i 1)) none none).run Tryz.prog W = .ok (.slice va (l.length - 1) (cap - 1)) W) := fun W => by rw [hva]; exact sliceLN (some ⟨g, 0, none⟩) l.length cap 1 hone W
   have HVA : Hid _ := hva
   clear hva
   have tv := H3.out.vT.l1
   clear fk
   go_wp2_with (first | ((with_reducible refine guardSlice ?_); refine wpList_sl (.slice va (l.length - 1) (cap - 1)) (HSL.out _) ?_) | ((with_reducible refine gS 25 ?_); refine sF vR6 rfl rfl (by kernel_rfl) rfl rfl ?_; intro wz vZ t_) | ((with_reducible refine gS 23 ?_); refine wpList_storeG H3.out.vT rfl rfl rfl (by kernel_rfl) rfl (of_decide_eq_true rfl) rfl ?_; intro y5 v5 t5; have vR6 := H3.out.vR.turn t5 (by show w.heap.size + 1 ≠ w.heap.size; omega); have v6 : VarA y5 w.heap.size 25 #[.slice va (l.length - 1) (cap - 1)] := v5; clear v5; have tk := v6.l1))
   refine bpR Tryz.results28 vZ Tryz.underlying25 rfl rfl (by kernel_rfl) rfl ?_
   rw [HVA.out]
   exact H3.out.fin6 t5 t_ hpb HS.out hG hl h0
end Go.Proofs.YtcicadfhfojdpaaGreat
