/- Joined: SpecD14 WMsg1 WBy4. -/
import Derived.Test.YtklhikadhohjbaaGreatMSpecD13
import Derived.Test.YtklhikadhohjbaaGreatMA04
import Derived.Test.YtklhikadhohjbaaGreatMWMsg1b
import Derived.Test.YtklhikadhohjbaaGreatMWMsg1c
import Derived.Test.YtklhikadhohjbaaGreatMWBy3
import Derived.Test.YtklhikadhohjbaaGreatMA01

namespace Go.Proofs.YtklhikadhohjbaaGreat
open Go.RowKit
set_option linter.unusedVariables false
set_option linter.unusedSimpArgs false
set_option maxRecDepth 100000
section
theorem addTV {w : World} {lo g cap n : Nat} {L : Nat → Prop} {l : List Nd} (s : SG w lo L (.slice (some ⟨g, 0, none⟩) n cap) l) (hnl : n = l.length) (hL : ∀ b, w.heap.size ≤ b → L b) {d : Nat} (hd : d < l.length) (y : Value) (nm : List Int) (h : Hd) (S2 : Nat → Prop) (r2 : RdV w S2 y (.bytes nm)) (hn : (l[d]?.getD nd0).es.length ≤ 4000) (hnm : nm.length ≤ 2097152) :
  Calls Tryz.prog 192 #[.pointer (some ⟨g, d * 9, none⟩), y, h.v] w fun e w' => e = .returned (.tuple #[]) ∧ SG w' lo L (.slice (some ⟨g, 0, none⟩) n cap) (addN l d nm h) ∧ Turned (fun b => b = g) w w' := by
 subst hnl
 obtain ⟨xd, rd, cd⟩ := s.at hd
 obtain ⟨xa, xc, rfl, _⟩ := RdV.sliced rd
 have c8 : w.cell? ⟨g, d * 9 + 8, none⟩ = some (.slice xa (l[d]?.getD nd0).es.length xc) := cd 8 (by omega)
 obtain ⟨g', c', hv, _, hg, _⟩ := s.head (by omega)
 simp only [Value.slice.injEq, Option.some.injEq, Addr.mk.injEq, and_true] at hv
 obtain ⟨rfl, -, -⟩ := hv
 refine Calls.mono (specAdd_any g (d * 9) xa xc y _ nm h _ S2 w c8 (SG.fz g s hd _) rd (fun b hb => hb.2.1) r2 hn hnm) ?_
 rintro e w' ⟨he, W, x, rfl, hB, hx⟩
 exact ⟨he, SG.callE s hL hd hB hg hx, Turned.set (Turned.ofBelow hB) ⟨g, d * 9 + 8, none⟩ x rfl⟩
theorem cutTV {w : World} {lo g cap n : Nat} {L : Nat → Prop} {l : List Nd} (s : SG w lo L (.slice (some ⟨g, 0, none⟩) n cap) l) (hnl : n = l.length) (hL : ∀ b, w.heap.size ≤ b → L b) {d e : Nat} (hd : d < l.length) (he : e < (l[d]?.getD nd0).es.length) (hn : (l[d]?.getD nd0).es.length ≤ 4000) :
  Calls Tryz.prog 237 #[.pointer (some ⟨g, d * 9, none⟩), .i e] w fun r w' => r = .returned (.tuple #[]) ∧ SG w' lo L (.slice (some ⟨g, 0, none⟩) n cap) (cutN l d e) ∧ Turned (fun b => b = g) w w' := by
 subst hnl
 obtain ⟨xd, rd, cd⟩ := s.at hd
 obtain ⟨xa, xc, rfl, _⟩ := RdV.sliced rd
 have c8 : w.cell? ⟨g, d * 9 + 8, none⟩ = some (.slice xa (l[d]?.getD nd0).es.length xc) := cd 8 (by omega)
 obtain ⟨g', c', hv, _, hg, _⟩ := s.head (by omega)
 simp only [Value.slice.injEq, Option.some.injEq, Addr.mk.injEq, and_true] at hv
 obtain ⟨rfl, -, -⟩ := hv
 refine Calls.mono (specCut_any g (d * 9) xa xc _ e _ w c8 (SG.fz g s hd _) rd (fun b hb => hb.2.1) hn he) ?_
 rintro r w' ⟨hr, W, x, rfl, hB, hx⟩
 exact ⟨hr, SG.callE s hL hd hB hg hx, Turned.set (Turned.ofBelow hB) ⟨g, d * 9 + 8, none⟩ x rfl⟩
theorem TV.ret {w wz : World} {tb lo R : Nat} {L L1 : Nat → Prop} {v : Value} {l : List Nd} (vT : VarA w tb 55 #[v]) (s : SG w lo L1 v l) (hvt : v.ownBlock ≠ some tb) (t_ : Turned (fun b => b = R) w wz) (hR : ¬ L1 R) (hRt : tb ≠ R) (hRv : v.ownBlock ≠ some R) (hL : ∀ b, L1 b → L b) : TV wz tb lo L l :=
 ⟨v, vT.turn t_ hRt, (s.keep (t_.keeps (fun b hb e => by
  subst e
  exact hb.2.elim hR hRv))).mono (fun b _ h => hL b h), hvt⟩
theorem SG.ne_var {w : World} {lo b : Nat} {L : Nat → Prop} {v : Value} {l : List Nd} {T : TypeId} {cs : Array Value} (s : SG w lo L v l) (hv : VarA w b T cs) (hT : T ≠ 133) : v.ownBlock ≠ some b := by
 obtain ⟨V, C, h1, h2, h3⟩ := s
 rcases h1.2 with ⟨hv', _⟩ | ⟨g, c, cur, hv', hg, hh, _⟩
 ·subst hv'; intro e; cases e
 ·subst hv'
  intro e
  have e3 : g = b := by simpa [Value.ownBlock] using e
  subst e3
  have := hh.symm.trans hv
  simp only [Option.some.injEq, Obj.cells.injEq] at this
  exact hT this.2.1.symm
theorem findE_cases (es : List En) (nm : List Int) : (ei es nm < es.length ∧ findE es nm = (ei es nm : Int)) ∨ (¬ ei es nm < es.length ∧ findE es nm = -1) := by
 unfold findE
 by_cases hh : ei es nm < es.length
 ·exact .inl ⟨hh, by rw [if_pos hh]⟩
 ·exact .inr ⟨hh, by rw [if_neg hh]⟩
def parN (l : List Nd) (k : Nat) (h : Hd) : List Nd := l.set k ((l[k]?.getD nd0).setPar h)
def moveD (l : List Nd) (o : OpD) (d : Nat) : List Nd × Int :=
 if ¬ ei (l[d]?.getD nd0).es o.nm < (l[d]?.getD nd0).es.length then (l, 3) else
 if o.to.dir = false then (l, 2) else
 if ¬ fi l o.to < l.length then (l, 1) else
 if fi l o.to = d then
  if 0 ≤ findE (l[d]?.getD nd0).es o.asn then (l, 4)
  else (addN (cutN l d (ei (l[d]?.getD nd0).es o.nm)) d o.asn ((l[d]?.getD nd0).es[ei (l[d]?.getD nd0).es o.nm]?.getD en0).h, 0)
 else
 if refD (l[fi l o.to]?.getD nd0).es o.asn ≠ 0 then (l, refD (l[fi l o.to]?.getD nd0).es o.asn) else
 if ((l[d]?.getD nd0).es[ei (l[d]?.getD nd0).es o.nm]?.getD en0).h.dir = true then
  if undN l ((l[d]?.getD nd0).es[ei (l[d]?.getD nd0).es o.nm]?.getD en0).h 12 o.to = 1 then (l, 8) else
  if undN l ((l[d]?.getD nd0).es[ei (l[d]?.getD nd0).es o.nm]?.getD en0).h 12 o.to = 2 then (l, 9) else
  (addN (cutN (parN l (fi l ((l[d]?.getD nd0).es[ei (l[d]?.getD nd0).es o.nm]?.getD en0).h) o.to) d (ei (l[d]?.getD nd0).es o.nm)) (fi l o.to) o.asn ((l[d]?.getD nd0).es[ei (l[d]?.getD nd0).es o.nm]?.getD en0).h, 0)
 else (addN (cutN l d (ei (l[d]?.getD nd0).es o.nm)) (fi l o.to) o.asn ((l[d]?.getD nd0).es[ei (l[d]?.getD nd0).es o.nm]?.getD en0).h, 0)
end
section
set_option maxHeartbeats 2000000 in
theorem specMsgBad (x y z u : Value) (m : MsD) (S : Nat → Prop) (w : World) (r : RdM w S m x y z u) (hk : m.kind < 0 ∨ 7 < m.kind) :
  Calls Tryz.prog 11 #[msV m x y z u] w fun e w' => e = .returned (.bool (MOk m)) ∧ Below w.heap.size w w' := by
 obtain ⟨r1, r2, r3, r4⟩ := r
 obtain ⟨a1, cap1, rfl⟩ := r1.sliceB
 obtain ⟨a2, cap2, rfl⟩ := r2.sliceB
 obtain ⟨a3, cap3, rfl, _⟩ := RdV.sliced r3
 obtain ⟨a4, cap4, rfl⟩ := r4.sliceB
 have HF : Hid (MOk m = false) := by show _ = _; unfold MOk; rcases hk with h | h <;> simp <;> omega
 rw [HF.out]
 obtain ⟨kd, fr, to, rq, ⟨ok, ⟨op_, oq, od⟩, nm, ⟨tp, tq, td⟩, asn, ov⟩, ⟨rc, ⟨rp_, rq_, rd⟩, rv, es⟩, ⟨xs, xb, xn⟩, ⟨pk, ⟨pp, pq, pd⟩, pas, ⟨sp, sq, sd⟩⟩, cd, ⟨hp, hq, hd⟩⟩ := m
 clear r1 r2 r3 r4 HF
 dsimp only at hk ⊢
 generalize nm.length = n1 at *
 generalize asn.length = n2 at *
 generalize es.length = n3 at *
 generalize pas.length = n4 at *
 go_enter Tryz.func11, Tryz.ntmps11
 go_wp2_with fail
 all_goals first | (go_ret; exact ⟨rfl, Below.newH _⟩) | (exfalso; omega)
theorem specMsgOk_any (x y z u : Value) (m : MsD) (S : Nat → Prop) (w : World) (r : RdM w S m x y z u) (hl : szMs m ≤ 2097152) :
  Calls Tryz.prog 11 #[msV m x y z u] w fun e w' => e = .returned (.bool (MOk m)) ∧ Below w.heap.size w w' := by
 by_cases hk : m.kind < 0 ∨ 7 < m.kind
 ·exact specMsgBad x y z u m S w r hk
 ·have h : m.kind = 0 ∨ m.kind = 1 ∨ m.kind = 2 ∨ m.kind = 3 ∨ m.kind = 4 ∨ m.kind = 5 ∨ m.kind = 6 ∨ m.kind = 7 := by omega
  rcases h with h | h | h | h | h | h | h | h
  ·exact specMsgA x y z u m S w r hl 0 (by omega) h
  ·exact specMsgA x y z u m S w r hl 1 (by omega) h
  ·exact specMsgA x y z u m S w r hl 2 (by omega) h
  ·exact specMsgA x y z u m S w r hl 3 (by omega) h
  ·exact specMsgB x y z u m S w r hl 4 (by omega) h
  ·exact specMsgB x y z u m S w r hl 5 (by omega) h
  ·exact specMsgB x y z u m S w r hl 6 (by omega) h
  ·exact specMsgB x y z u m S w r hl 7 (by omega) h
end
section
theorem MOk_kind {m : MsD} (h : MOk m = true) : 0 ≤ m.kind ∧ m.kind ≤ 7 := by
 simp only [MOk, Bool.and_eq_true, decide_eq_true_eq] at h
 exact h.1
theorem ROk_12 {r : RpD} (h : ROk r = true) : r.list.length ≤ 12 := by
 simp only [ROk, Bool.and_eq_true, decide_eq_true_eq] at h
 exact h.1.2.2.2
theorem zRp_12 {r : RpD} (h : zRp r = true) : r.list.length ≤ 12 := by
 simp only [zRp, Bool.and_eq_true, decide_eq_true_eq] at h
 omega
theorem MOk_12 {m : MsD} (h : MOk m = true) : m.rp.list.length ≤ 12 := by
 have hk := MOk_kind h
 simp only [MOk, Bool.and_eq_true] at h
 have hb := h.2.2
 rcases (show m.kind = 0 ∨ m.kind = 1 ∨ m.kind = 2 ∨ m.kind = 3 ∨ m.kind = 4 ∨ m.kind = 5 ∨ m.kind = 6 ∨ m.kind = 7 by omega) with h | h | h | h | h | h | h | h <;> simp [MBody, h] at hb
 ·exact zRp_12 hb.2.1
 ·exact ROk_12 hb.1.2
 ·exact zRp_12 hb.2.2.2.1
 ·exact zRp_12 hb.2.2.2
 ·exact zRp_12 hb.2.2.2.1
 ·exact zRp_12 hb.2.2.2.1
 ·exact zRp_12 hb.2.2.1
 ·exact zRp_12 hb.2.2.1
theorem specBytes_any (m : MsD) (x y z u : Value) (S : Nat → Prop) (w : World) (r : RdM w S m x y z u) (hl : szMs m ≤ 1048576) (ho : MOk m = true) : Ap 157 #[msV m x y z u] w (msB m) := by
 have hk := MOk_kind ho
 rcases (show m.kind = 0 ∨ m.kind = 1 ∨ m.kind = 2 ∨ m.kind = 3 ∨ m.kind = 4 ∨ m.kind = 5 ∨ m.kind = 6 ∨ m.kind = 7 by omega) with h | h | h | h | h | h | h | h
 ·exact specBytes0 m x y z u S w r hl (MOk_12 ho) h
 ·exact specBytes1 m x y z u S w r hl (MOk_12 ho) h
 ·exact specBytes2 m x y z u S w r hl (MOk_12 ho) h
 ·exact specBytes3 m x y z u S w r hl (MOk_12 ho) h
 ·exact specBytes4 m x y z u S w r hl (MOk_12 ho) h
 ·exact specBytes5 m x y z u S w r hl (MOk_12 ho) h
 ·exact specBytes6 m x y z u S w r hl (MOk_12 ho) h
 ·exact specBytes7 m x y z u S w r hl (MOk_12 ho) h
def outB (m : MsD) : List Int := if MOk m then msB m else []
set_option maxHeartbeats 4000000 in
theorem specMsgBytes_any (m : MsD) (x y z u : Value) (S : Nat → Prop) (w : World) (r : RdM w S m x y z u) (hl : szMs m ≤ 1048576) :
  Calls Tryz.prog 72 #[msV m x y z u] w fun e w' => ∃ v, e = .returned (.tuple #[v, .bool (MOk m)]) ∧ isBytes (outB m) ∧ Owns w' w.heap.size v (outB m) ∧ Below w.heap.size w w' := by
 have HM : Hid (∀ W, Below w.heap.size w W → _) := fun W hW => specMsgOk_any x y z u m S W (r.step hW) (by omega)
 by_cases ho : MOk m = true
 ·have HY : Hid (∀ W, Below w.heap.size w W → _) := fun W hW => specBytes_any m x y z u S W (r.step hW) hl ho
  have HF : Hid (outB m = msB m) := by show _ = _; unfold outB; rw [if_pos ho]
  rw [HF.out, ho]
  rw [ho] at HM
  generalize msB m = zs at HY ⊢
  clear r hl ho HF
  obtain ⟨kd, fr, to, rq, ⟨ok, ⟨op_, oq, od⟩, nm, ⟨tp, tq, td⟩, asn, ov⟩, ⟨rc, ⟨rp_, rq_, rd⟩, rv, es⟩, ⟨xs, xb, xn⟩, ⟨pk, ⟨pp, pq, pd⟩, pas, ⟨sp, sq, sd⟩⟩, cd, ⟨hp, hq, hd⟩⟩ := m
  try dsimp only at HM HY ⊢
  go_enter Tryz.func72, Tryz.ntmps72
  go_wp2_with ((with_reducible refine guardLoad (ty := 35) ?_); refine wpList_loadA (VarA.new w _ _) rfl Tryz.underlying35 rfl (by kernel_rfl) ?_)
  refine Calls.mono (HM.out _ (Below.newH _)) ?_
  rintro e w2 ⟨rfl, b_⟩
  have vA : VarA w2 w.heap.size 35 #[.i kd, .i fr, .i to, .i rq, .i ok, .i op_, .i oq, .bool od, x, .i tp, .i tq, .bool td, y, .i ov, .i rc, .i rp_, .i rq_, .bool rd, .i rv, z, .i xs, .i xb, .i xn, .i pk, .i pp, .i pq, .bool pd, u, .i sp, .i sq, .bool sd, .i cd, .i hp, .i hq, .bool hd] := VarA.step (VarA.new w _ _) b_
  have HB : Hid (Below w.heap.size w w2) := (Below.newH (w := w) _).trans (b_.mono (by simp))
  clear b_ HM
  go_wp2_with ((with_reducible refine guardLoad (ty := 35) ?_); refine wpList_loadA vA rfl Tryz.underlying35 rfl (by kernel_rfl) ?_)
  refine Calls.mono (HY.out _ HB.out) ?_
  rintro e w3 ⟨v, rfl, z1, o1, b_⟩
  have hsz := HB.out.size
  have HB2 : Hid _ := HB.out.trans (b_.mono HB.out.size)
  clear vA
  go_wp2
  go_ret2
  exact ⟨_, rfl, z1, o1.base hsz, HB2.out⟩
 ·have hof : MOk m = false := by simpa using ho
  have HF : Hid (outB m = []) := by show _ = _; unfold outB; rw [if_neg ho]
  rw [HF.out, hof]
  rw [hof] at HM
  clear r hl ho hof HF
  obtain ⟨kd, fr, to, rq, ⟨ok, ⟨op_, oq, od⟩, nm, ⟨tp, tq, td⟩, asn, ov⟩, ⟨rc, ⟨rp_, rq_, rd⟩, rv, es⟩, ⟨xs, xb, xn⟩, ⟨pk, ⟨pp, pq, pd⟩, pas, ⟨sp, sq, sd⟩⟩, cd, ⟨hp, hq, hd⟩⟩ := m
  try dsimp only at HM ⊢
  go_enter Tryz.func72, Tryz.ntmps72
  go_wp2_with ((with_reducible refine guardLoad (ty := 35) ?_); refine wpList_loadA (VarA.new w _ _) rfl Tryz.underlying35 rfl (by kernel_rfl) ?_)
  refine Calls.mono (HM.out _ (Below.newH _)) ?_
  rintro e w2 ⟨rfl, b_⟩
  have HB : Hid (Below w.heap.size w w2) := (Below.newH (w := w) _).trans (b_.mono (by simp))
  clear b_ HM
  go_wp2
  go_ret2
  exact ⟨_, rfl, isBytes_nil, ⟨rfl, .inl ⟨rfl, rfl⟩⟩, HB.out⟩
end
end Go.Proofs.YtklhikadhohjbaaGreat
