/- Joined: SpecD12 BT1 BT2 ImplT4 MapH WOk3 ImplT5 IC3 IC4 WMsg0 WSame MapH2. -/
import Derived.Test.YtcicadfhfojdpaaGreatRSpecD11
import Derived.Test.YtcicadfhfojdpaaGreatRA01
import Derived.ArgAppend
import Derived.Test.YtcicadfhfojdpaaGreatRA02
import Derived.Test.YtcicadfhfojdpaaGreatROpOks2
import Derived.Maps.OwnSet
import Derived.DeepKeys4
import Derived.Deep.RegionHeld3
import Derived.WideKeyEntry

namespace Go.Proofs.YtcicadfhfojdpaaGreat
open Go.RowKit
set_option linter.unusedVariables false
set_option linter.unusedSimpArgs false
set_option maxRecDepth 100000
section
abbrev LT (lo tb : Nat) : Nat → Prop := fun b => lo ≤ b ∧ b ≠ tb
def TV (w : World) (tb lo : Nat) (L : Nat → Prop) (l : List Nd) : Prop := ∃ v, VarA w tb 25 #[v] ∧ SG w lo L v l ∧ v.ownBlock ≠ some tb
def Small (l : List Nd) : Prop := l.length ≤ 3000 ∧ ∀ i : Nat, (l[i]?.getD nd0).es.length ≤ 4000 ∧ 0 ≤ (l[i]?.getD nd0).links ∧ (l[i]?.getD nd0).links ≤ 2147483647
theorem SG.rd {w : World} {lo : Nat} {L : Nat → Prop} {v : Value} {l : List Nd} (s : SG w lo L v l) : RdV w (fun b => b < w.heap.size) v (ndsDt l) := by
 obtain ⟨V, C, h1, h2, h3⟩ := s
 unfold ndsDt
 refine RdV.mkRows _ ?_
 rcases h1.2 with ⟨hv, h0⟩ | ⟨g, c, cur, hv, hg, hh, hnc, hm, _⟩
 ·subst hv
  rw [h0]
  exact ⟨none, 0, fun _ _ => undef, rfl, ⟨Nat.le_refl _, Nat.zero_le _, fun _ => ⟨rfl, rfl⟩⟩, .inl rfl, fun i j hi => absurd hi (Nat.not_lt_zero _)⟩
 ·subst hv
  refine ⟨some ⟨g, 0, none⟩, c, fun i j => ndVal (l[i]?.getD nd0) (V i) j, rfl, ⟨hnc, hm, fun e => by cases e⟩, .inr ⟨g, 0, rfl, lt_of_block hh, lt_of_block hh, fun i j hi hj => ?_⟩, fun i j hi hj => ?_⟩
  ·rw [Nat.zero_add, World.ownsRow.cellAt h1 (i * 9 + j) (place_lt hi hj)]
   exact h2 i j hi hj
  ·match j, hj with
   | 0, _ => rfl
   | 1, _ => rfl
   | 2, _ => rfl
   | 3, _ => rfl
   | 4, _ => rfl
   | 5, _ => rfl
   | 6, _ => rfl
   | 7, _ => rfl
   | 8, _ => exact RdV.mono (fun b hb => hb.2.1) (h3 i hi).en
theorem SG.rdL {w : World} {lo : Nat} {L : Nat → Prop} {v : Value} {l : List Nd} (s : SG w lo L v l) (hL : ∀ b, v.ownBlock = some b → L b) : RdV w L v (ndsDt l) := by
 obtain ⟨V, C, h1, h2, h3⟩ := s
 unfold ndsDt
 refine RdV.mkRows _ ?_
 rcases h1.2 with ⟨hv, h0⟩ | ⟨g, c, cur, hv, hg, hh, hnc, hm, _⟩
 ·subst hv
  rw [h0]
  exact ⟨none, 0, fun _ _ => undef, rfl, ⟨Nat.le_refl _, Nat.zero_le _, fun _ => ⟨rfl, rfl⟩⟩, .inl rfl, fun i j hi => absurd hi (Nat.not_lt_zero _)⟩
 ·subst hv
  refine ⟨some ⟨g, 0, none⟩, c, fun i j => ndVal (l[i]?.getD nd0) (V i) j, rfl, ⟨hnc, hm, fun e => by cases e⟩, .inr ⟨g, 0, rfl, hL g rfl, lt_of_block hh, fun i j hi hj => ?_⟩, fun i j hi hj => ?_⟩
  ·rw [Nat.zero_add, World.ownsRow.cellAt h1 (i * 9 + j) (place_lt hi hj)]
   exact h2 i j hi hj
  ·match j, hj with
   | 0, _ => rfl
   | 1, _ => rfl
   | 2, _ => rfl
   | 3, _ => rfl
   | 4, _ => rfl
   | 5, _ => rfl
   | 6, _ => rfl
   | 7, _ => rfl
   | 8, _ => exact RdV.mono (fun b hb => hb.1) (h3 i hi).en
def ndsO (l : List Nd) : Dt :=
 ⟨fun w S v => SG w 0 S v l ∧ ∀ b, v.ownBlock = some b → S b, fun w S v => SG w 0 S v l ∧ ∀ b, v.ownBlock = some b → S b,
  fun w w' S v t h => ⟨h.1.keep (t.mono (fun b hb => hb.2.elim id (fun e => h.2 b e))), h.2⟩, fun w S S' v t h => ⟨h.1.mono (fun b _ hb => t b hb), fun b hb => t b (h.2 b hb)⟩,
  fun w w' S v t h => ⟨h.1.keep (t.mono (fun b hb => hb.2.elim id (fun e => h.2 b e))), h.2⟩, fun w S S' v t h => ⟨h.1.mono (fun b _ hb => t b hb), fun b hb => t b (h.2 b hb)⟩, fun w S v h => h⟩
theorem RdV.nds {w : World} {S : Nat → Prop} {v : Value} {l : List Nd} (r : RdV w S v (ndsO l)) : RdV w S v (ndsDt l) := SG.rdL r.1 r.2
theorem RdV.sg {w : World} {S : Nat → Prop} {v : Value} {l : List Nd} (r : RdV w S v (ndsO l)) : SG w 0 S v l := r.1
theorem RdV.own9 {w : World} {S : Nat → Prop} {v : Value} {l : List Nd} (r : RdV w S v (ndsO l)) : ∀ b, v.ownBlock = some b → S b := r.2
theorem SN.rdO {w : World} {lo : Nat} {v : Value} {l : List Nd} (s : SN w lo v l) : RdV w (fun b => lo ≤ b ∧ b < w.heap.size) v (ndsO l) := by
 have hb := s.lt
 have h : SG w 0 (fun b => lo ≤ b ∧ b < w.heap.size) v l := (SG.low (SG.mono (s.sg) (fun b hlt h => ⟨h, hlt⟩)) (Nat.zero_le _))
 exact ⟨h, fun b hb' => hb b hb'⟩
theorem OwV.nds {w : World} {S : Nat → Prop} {v : Value} {l : List Nd} (o : OwV w S v (ndsDt l)) (hS : ∀ b, S b → b < w.heap.size) : RdV w S v (ndsO l) := by
 obtain ⟨V, C, Q, h1, h2, h3, h4, h5, h6⟩ := OwV.inv o
 refine ⟨⟨fun i => V i 8, C, ownsRow_base h1, fun i j hi hj => ?_, fun i hi => ?_⟩, h2⟩
 ·rw [h3 i j hi hj]
  have h := h4 i j hi hj
  match j, hj with
  | 0, _ => exact congrArg some h
  | 1, _ => exact congrArg some h
  | 2, _ => exact congrArg some h
  | 3, _ => exact congrArg some h
  | 4, _ => exact congrArg some h
  | 5, _ => exact congrArg some h
  | 6, _ => exact congrArg some h
  | 7, _ => exact congrArg some h
  | 8, _ => rfl
 ·exact RdV.mono (fun b hb => ⟨(h5 i 8 b hi (by decide) hb).1, hS b (h5 i 8 b hi (by decide) hb).1, (h5 i 8 b hi (by decide) hb).2⟩) (OwV.en (h4 i 8 hi (by decide)))
theorem SG.callE {w W : World} {lo g cap : Nat} {L : Nat → Prop} {l : List Nd} (s : SG w lo L (.slice (some ⟨g, 0, none⟩) l.length cap) l) (hL : ∀ b, w.heap.size ≤ b → L b) {d : Nat} (hd : d < l.length) {x : Value} {es : List En} (hB : Below w.heap.size w W) (hg : g < w.heap.size)
  (hx : RdV W (fun b => ((L b ∧ b < w.heap.size ∧ b ≠ g) ∨ w.heap.size ≤ b) ∧ b < W.heap.size) x (ensO es)) : SG (W.setCell ⟨g, d * 9 + 8, none⟩ x) lo L (.slice (some ⟨g, 0, none⟩) l.length cap) (l.set d ((l[d]?.getD nd0).setEs es)) :=
 SG.setE (s.step hB) hd (RdV.mono (fun b hb => ⟨hb.1.elim (fun h => h.1) (fun h => hL b h), hb.2, hb.1.elim (fun h => h.2.2) (fun h => by omega)⟩) hx)
theorem length_cutE (es : List En) (e : Nat) : (cutE es e).length ≤ es.length := by unfold cutE; simp; omega
def Nd.setLk (n : Nd) (k : Int) : Nd := ⟨n.h, n.par, k, n.val, n.es⟩
def Nd.setVal (n : Nd) (k : Int) : Nd := ⟨n.h, n.par, n.links, k, n.es⟩
def Nd.setPar (n : Nd) (h : Hd) : Nd := ⟨n.h, h, n.links, n.val, n.es⟩
theorem SG.setLk {L : Nat → Prop} {w : World} {lo g cap m : Nat} {l : List Nd} (s : SG w lo L (.slice (some ⟨g, 0, none⟩) m cap) l) {d : Nat} (hd : d < l.length) (k : Int) : SG (w.setCell ⟨g, d * 9 + 6, none⟩ (.i k)) lo L (.slice (some ⟨g, 0, none⟩) m cap) (l.set d ((l[d]?.getD nd0).setLk k)) :=
 SG.setN s hd (by omega) rfl (fun _ => rfl) (fun x j' h1 h2 => by
  match j', h1 with
  | 0, _ => rfl
  | 1, _ => rfl
  | 2, _ => rfl
  | 3, _ => rfl
  | 4, _ => rfl
  | 5, _ => rfl
  | 6, _ => omega
  | 7, _ => rfl)
theorem SG.setVal {L : Nat → Prop} {w : World} {lo g cap m : Nat} {l : List Nd} (s : SG w lo L (.slice (some ⟨g, 0, none⟩) m cap) l) {d : Nat} (hd : d < l.length) (k : Int) : SG (w.setCell ⟨g, d * 9 + 7, none⟩ (.i k)) lo L (.slice (some ⟨g, 0, none⟩) m cap) (l.set d ((l[d]?.getD nd0).setVal k)) :=
 SG.setN s hd (by omega) rfl (fun _ => rfl) (fun x j' h1 h2 => by
  match j', h1 with
  | 0, _ => rfl
  | 1, _ => rfl
  | 2, _ => rfl
  | 3, _ => rfl
  | 4, _ => rfl
  | 5, _ => rfl
  | 6, _ => rfl
  | 7, _ => omega)
theorem SG.setPar {L : Nat → Prop} {w : World} {lo g cap m : Nat} {l : List Nd} (s : SG w lo L (.slice (some ⟨g, 0, none⟩) m cap) l) {d : Nat} (hd : d < l.length) (h : Hd) : SG (((w.setCell ⟨g, d * 9 + 3, none⟩ (.i h.sh)).setCell ⟨g, d * 9 + 4, none⟩ (.i h.ino)).setCell ⟨g, d * 9 + 5, none⟩ (.bool h.dir)) lo L (.slice (some ⟨g, 0, none⟩) m cap) (l.set d ((l[d]?.getD nd0).setPar h)) := by
 have s1 := SG.setN s hd (j := 3) (u := .i h.sh) (n := (l[d]?.getD nd0).setPar (h.sh, (l[d]?.getD nd0).par.ino, (l[d]?.getD nd0).par.dir)) (by omega) rfl (fun _ => rfl) (fun x j' h1 h2 => by
  match j', h1 with
  | 0, _ => rfl
  | 1, _ => rfl
  | 2, _ => rfl
  | 3, _ => omega
  | 4, _ => rfl
  | 5, _ => rfl
  | 6, _ => rfl
  | 7, _ => rfl)
 have s2 := SG.setN s1 (d := d) (by simpa using hd) (j := 4) (u := .i h.ino) (n := (l[d]?.getD nd0).setPar (h.sh, h.ino, (l[d]?.getD nd0).par.dir)) (by omega) (by rw [List.getElem?_set_self hd]; rfl) (fun _ => rfl) (fun x j' h1 h2 => by
  rw [List.getElem?_set_self hd]
  match j', h1 with
  | 0, _ => rfl
  | 1, _ => rfl
  | 2, _ => rfl
  | 3, _ => rfl
  | 4, _ => omega
  | 5, _ => rfl
  | 6, _ => rfl
  | 7, _ => rfl)
 rw [List.set_set] at s2
 have s3 := SG.setN s2 (d := d) (by simpa using hd) (j := 5) (u := .bool h.dir) (n := (l[d]?.getD nd0).setPar h) (by omega) (by rw [List.getElem?_set_self hd]; rfl) (fun _ => rfl) (fun x j' h1 h2 => by
  rw [List.getElem?_set_self hd]
  match j', h1 with
  | 0, _ => rfl
  | 1, _ => rfl
  | 2, _ => rfl
  | 3, _ => rfl
  | 4, _ => rfl
  | 5, _ => omega
  | 6, _ => rfl
  | 7, _ => rfl)
 rw [List.set_set] at s3
 exact s3
def cutN (l : List Nd) (d e : Nat) : List Nd := l.set d ((l[d]?.getD nd0).setEs (cutE (l[d]?.getD nd0).es e))
def addN (l : List Nd) (d : Nat) (nm : List Int) (h : Hd) : List Nd := l.set d ((l[d]?.getD nd0).setEs (addE (l[d]?.getD nd0).es nm h))
def lkN (l : List Nd) (k : Nat) (c : Int) : List Nd := l.set k ((l[k]?.getD nd0).setLk ((l[k]?.getD nd0).links + c))
def outN (l : List Nd) (k : Nat) : List Nd := l.take k ++ l.drop (k + 1)
def dropD (l : List Nd) (d e : Nat) (h : Hd) : List Nd × Int :=
 if h.dir = true ∧ 0 < (l[fi l h]?.getD nd0).es.length then (l, 7) else
 if ((cutN l d e)[fi l h]?.getD nd0).links - 1 = 0 then (outN (lkN (cutN l d e) (fi l h) (-1)) (fi l h), 0) else (lkN (cutN l d e) (fi l h) (-1), 0)
end
section
structure Pk (w W : World) (e n : Nat) (f : Nat → Value) : Prop where
 row : ∃ cur cur', w.heap[e]? = some (.cells cur 81 (0, 0)) ∧ W.heap[e]? = some (.cells cur' 81 (0, 0)) ∧ cur'.size = cur.size
 hit : ∀ j, j < 4 → W.cell? ⟨e, n * 4 + j, none⟩ = some (f j)
 off : ∀ t, t < n * 4 ∨ n * 4 + 4 ≤ t → W.cell? ⟨e, t, none⟩ = w.cell? ⟨e, t, none⟩
 oth : ∀ b, b ≠ e → W.heap[b]? = w.heap[b]?
 size : w.heap.size ≤ W.heap.size
theorem Pk.keeps {w W : World} {e n : Nat} {f : Nat → Value} (p : Pk w W e n f) {S : Nat → Prop} (h : ∀ b, S b → b ≠ e) : Keeps S w W := ⟨p.size, fun b hb _ => p.oth b (h b hb)⟩
theorem Pk.bytes {w W : World} {e n : Nat} {f : Nat → Value} (p : Pk w W e n f) {S : Nat → Prop} {v : Value} {zs : List Int} (r : RdV w S v (.bytes zs)) : RdV W S v (.bytes zs) := by
 obtain ⟨hb, a, len, cap, hv, hl, hh, hc⟩ := r.b
 have h : RdS w (fun b => S b ∧ b ≠ e) v zs := by
  refine ⟨hb, a, len, cap, hv, hl, hh, ?_⟩
  rcases hc with h0 | ⟨b, off, ha, h1, h2, ⟨cu, q, hty⟩, hc⟩
  ·exact .inl h0
  ·refine .inr ⟨b, off, ha, ⟨h1, fun hbe => ?_⟩, h2, ⟨cu, q, hty⟩, hc⟩
   subst hbe
   obtain ⟨cur, cur', hr, _⟩ := p.row
   rw [hr] at hty
   cases hty
 exact RdS.mono (RdS.keep h (p.keeps (fun b hb => hb.2))) (fun b hb => hb.1)
def EnR (w : World) (S : Nat → Prop) (f : Nat → Value) (x : En) : Prop := ∀ j, j < 4 → RdV w S (f j) (enCell x j)
theorem Pk.cell {w W : World} {e n : Nat} {f : Nat → Value} (p : Pk w W e n f) {S : Nat → Prop} {u : Value} {x : En} {j : Nat} (hj : j < 4) (r : RdV w S u (enCell x j)) : RdV W S u (enCell x j) := by
 match j, hj with
 | 0, _ => exact p.bytes r
 | 1, _ => exact r
 | 2, _ => exact r
 | 3, _ => exact r
def pkE (e n : Nat) (x : En) (v : Value) (es : List En) : List En := if v.ownBlock = some e then es.set n x else es
theorem pkE_len (e n : Nat) (x : En) (v : Value) (es : List En) : (pkE e n x v es).length = es.length := by unfold pkE; split <;> simp
theorem Pk.ens {w W : World} {e n : Nat} {f : Nat → Value} (p : Pk w W e n f) {S : Nat → Prop} {v : Value} {es : List En} {x : En} (hx : EnR w S f x) (r : RdV w S v (ensO es)) : RdV W S v (ensO (pkE e n x v es)) := by
 obtain ⟨C, hC⟩ := r.row4
 have hown := r.own4
 obtain ⟨a, cap, V, hv, hh, hc, he⟩ := RdV.inv r.en
 by_cases hb : v.ownBlock = some e
 ·have hpk : pkE e n x v es = es.set n x := by unfold pkE; rw [if_pos hb]
  rw [hpk]
  rcases hC.2 with ⟨h0, _⟩ | ⟨g, c, cur, hv2, _, hg, hnc, hm, hsz, htk⟩
  ·rw [h0] at hb; cases hb
  ·rw [hv2] at hb
   have hge : g = e := by simpa [Value.ownBlock] using hb
   subst hge
   have hln : (es.set n x).length = es.length := List.length_set
   obtain ⟨cur0, cur', hr0, hr1, hsz1⟩ := p.row
   rw [hg] at hr0
   simp only [Option.some.injEq, Obj.cells.injEq] at hr0
   obtain ⟨rfl, -⟩ := hr0
   have hS : S g := hown g (by rw [hv2]; rfl)
   have hcells : ∀ i j, i < es.length → j < 4 → w.cell? ⟨g, i * 4 + j, none⟩ = some (V i j) := by
    intro i j hi hj
    rcases hc with h0 | ⟨b, off, ha, h1, h2, hc⟩
    ·omega
    ·rw [hv2] at hv
     simp only [Value.slice.injEq] at hv
     rw [← hv.1] at ha
     simp only [Option.some.injEq, Addr.mk.injEq] at ha
     obtain ⟨rfl, rfl, -⟩ := ha
     have := hc i j hi hj
     rwa [Nat.zero_add] at this
   have hrd : RdV W S v (ensDt (es.set n x)) := by
    refine RdV.mkRows _ ⟨some ⟨g, 0, none⟩, c, fun i j => if i = n then f j else V i j, by rw [hln]; exact hv2, ⟨by rw [hln]; exact hnc, hm, fun h => by cases h⟩, .inr ⟨g, 0, rfl, hS, lt_of_block hr1, fun i j hi hj => ?_⟩, fun i j hi hj => ?_⟩
    ·rw [hln] at hi
     rw [Nat.zero_add]
     by_cases hin : i = n
     ·subst hin
      dsimp only; rw [if_pos rfl]; exact p.hit j hj
     ·dsimp only; rw [if_neg hin, p.off _ (by omega)]
      exact hcells i j hi hj
    ·rw [hln] at hi
     by_cases hin : i = n
     ·subst hin
      simp only [if_pos]
      rw [List.getElem?_set_self hi]
      exact p.cell hj (hx j hj)
     ·simp only [if_neg hin]
      rw [List.getElem?_set_ne (by omega)]
      exact p.cell hj (he i j hi hj)
   refine ⟨hrd, ⟨cur'.toList.take ((es.set n x).length * 4), ?_, .inr ⟨g, c, cur', by rw [hln]; exact hv2, Nat.zero_le _, hr1, by rw [hln]; exact hnc, hm, by rw [hsz1]; exact hsz, rfl⟩⟩, hown⟩
   have hcl : cur'.toList.length = c * 4 := by rw [Array.length_toList, hsz1, hsz]
   rw [List.length_take, hcl, hln]
   have : es.length * 4 ≤ c * 4 := Nat.mul_le_mul_right _ hnc
   omega
 ·have hpk : pkE e n x v es = es := by unfold pkE; rw [if_neg hb]
  rw [hpk]
  have hrd : RdV W S v (ensDt es) := by
   refine RdV.mkRows _ ⟨a, cap, V, hv, hh, ?_, fun i j hi hj => p.cell hj (he i j hi hj)⟩
   rcases hc with h0 | ⟨b, off, ha, h1, h2, hc⟩
   ·exact .inl h0
   ·have hbe : b ≠ e := fun h => hb (by rw [hv, ha, h]; rfl)
    exact .inr ⟨b, off, ha, h1, Nat.lt_of_lt_of_le h2 p.size, fun i j hi hj => by rw [World.cell?_of_block (w := w) (p.oth b hbe)]; exact hc i j hi hj⟩
  refine ⟨hrd, ⟨C, ownsRow_keep (S := fun b => b ≠ e) hC (fun b h he => hb (by rw [h, he])) (p.keeps (fun b h => h))⟩, hown⟩
theorem pkE_mem {e n : Nat} {x : En} {v : Value} {es : List En} {u : En} (h : u ∈ pkE e n x v es) : u ∈ es ∨ u = x := by
 unfold pkE at h
 split at h
 ·exact List.mem_or_eq_of_mem_set h
 ·exact .inl h
def Bent (x : En) (l l' : List Nd) : Prop := l'.length = l.length ∧ ∀ i : Nat, i < l.length → (l'[i]?.getD nd0).h = (l[i]?.getD nd0).h ∧ (l'[i]?.getD nd0).es.length = (l[i]?.getD nd0).es.length ∧ ∀ u ∈ (l'[i]?.getD nd0).es, u ∈ (l[i]?.getD nd0).es ∨ u = x
theorem Pk.sg {w W : World} {e n : Nat} {f : Nat → Value} (p : Pk w W e n f) {lo : Nat} {L : Nat → Prop} {v : Value} {l : List Nd} {x : En} (hx : EnR w (EntL w L v) f x) (hv : v.ownBlock ≠ some e) (s : SG w lo L v l) : ∃ l', SG W lo L v l' ∧ Bent x l l' := by
 obtain ⟨V, C, h1, h2, h3⟩ := s
 have hget : ∀ i, i < l.length → ((List.range l.length).map (fun i => (l[i]?.getD nd0).setEs (pkE e n x (V i) (l[i]?.getD nd0).es)))[i]?.getD nd0 = (l[i]?.getD nd0).setEs (pkE e n x (V i) (l[i]?.getD nd0).es) := fun i hi => by
  rw [List.getElem?_map, List.getElem?_range hi]; rfl
 have hln : ((List.range l.length).map (fun i => (l[i]?.getD nd0).setEs (pkE e n x (V i) (l[i]?.getD nd0).es))).length = l.length := by simp
 refine ⟨(List.range l.length).map (fun i => (l[i]?.getD nd0).setEs (pkE e n x (V i) (l[i]?.getD nd0).es)), ⟨V, C, ?_, fun i j hi hj => ?_, fun i hi => ?_⟩, hln, fun i hi => ?_⟩
 ·rw [hln]
  exact ownsRow_keep (S := fun b => b ≠ e) h1 (fun b h he => hv (by rw [h, he])) (p.keeps (fun b h => h))
 ·rw [hln] at hi
  rw [hget i hi, h2 i j hi hj]
  match j, hj with
  | 0, _ => rfl
  | 1, _ => rfl
  | 2, _ => rfl
  | 3, _ => rfl
  | 4, _ => rfl
  | 5, _ => rfl
  | 6, _ => rfl
  | 7, _ => rfl
  | 8, _ => rfl
 ·rw [hln] at hi
  rw [hget i hi]
  exact RdV.mono (fun b hb => ⟨hb.1, Nat.lt_of_lt_of_le hb.2.1 p.size, hb.2.2⟩) (p.ens hx (h3 i hi))
 ·rw [hget i hi]
  exact ⟨rfl, pkE_len _ _ _ _ _, fun u hu => pkE_mem hu⟩
theorem Pk.cells {w : World} {e n : Nat} {cur : Array Value} (hr : w.heap[e]? = some (.cells cur 81 (0, 0))) (hn : n * 4 + 4 ≤ cur.size) (f : Nat → Value) : Pk w (w.setCells e (n * 4) [f 0, f 1, f 2, f 3]) e n f := by
 have hc : ∀ j, j < 4 → (w.cell? ⟨e, n * 4 + j, none⟩).isSome = true := fun j hj => by
  rw [cell_of_row _ _ _ _ _ _ hr]
  simp [show n * 4 + j < cur.size by omega]
 have hin := World.cell?_setCells_in e [f 0, f 1, f 2, f 3] (n * 4) w (by simpa using hc)
 refine ⟨?_, fun j hj => ?_, fun t ht => World.cell?_setCells_out e _ _ w _ (fun _ _ => by simpa using ht), fun b hb => ?_, ?_⟩
 ·have h1 := heap_setCell_same w e (n * 4) cur _ (f 0) hr
  have h2 := heap_setCell_same _ e (n * 4 + 1) _ _ (f 1) h1
  have h3 := heap_setCell_same _ e (n * 4 + 1 + 1) _ _ (f 2) h2
  have h4 := heap_setCell_same _ e (n * 4 + 1 + 1 + 1) _ _ (f 3) h3
  exact ⟨cur, _, hr, h4, by simp⟩
 ·match j, hj with
  | 0, _ => exact hin 0 (by simp)
  | 1, _ => exact hin 1 (by simp)
  | 2, _ => exact hin 2 (by simp)
  | 3, _ => exact hin 3 (by simp)
 ·have h1 := heap_setCell_other w ⟨e, n * 4, none⟩ b (f 0) hb
  have h2 := heap_setCell_other (w.setCell ⟨e, n * 4, none⟩ (f 0)) ⟨e, n * 4 + 1, none⟩ b (f 1) hb
  have h3 := heap_setCell_other ((w.setCell ⟨e, n * 4, none⟩ (f 0)).setCell ⟨e, n * 4 + 1, none⟩ (f 1)) ⟨e, n * 4 + 1 + 1, none⟩ b (f 2) hb
  have h4 := heap_setCell_other (((w.setCell ⟨e, n * 4, none⟩ (f 0)).setCell ⟨e, n * 4 + 1, none⟩ (f 1)).setCell ⟨e, n * 4 + 1 + 1, none⟩ (f 2)) ⟨e, n * 4 + 1 + 1 + 1, none⟩ b (f 3) hb
  exact h4.trans (h3.trans (h2.trans h1))
 ·simp [World.setCells]
theorem RdV.row0 {w : World} {S : Nat → Prop} {x : Value} {es : List En} (r : RdV w S x (ensO es)) (h0 : 0 < es.length) :
  ∃ (e c : Nat) (cur : Array Value) (V : Nat → Nat → Value), x = .slice (some ⟨e, 0, none⟩) es.length c ∧ S e ∧ w.heap[e]? = some (.cells cur 81 (0, 0)) ∧ cur.size = c * 4 ∧ es.length ≤ c ∧ c ≤ maxLen ∧
   (∀ i j, i < es.length → j < 4 → w.cell? ⟨e, i * 4 + j, none⟩ = some (V i j)) ∧ ∀ i j, i < es.length → j < 4 → RdV w S (V i j) (enCell (es[i]?.getD en0) j) := by
 obtain ⟨C, hC⟩ := r.row4
 have hown := r.own4
 obtain ⟨a, cap, V, hv, hh, hc, he⟩ := RdV.inv r.en
 rcases hC.2 with ⟨_, h1⟩ | ⟨g, c, cur, hv2, _, hg, hnc, hm, hsz, htk⟩
 ·omega
 ·refine ⟨g, c, cur, V, hv2, hown g (by rw [hv2]; rfl), hg, hsz, hnc, hm, fun i j hi hj => ?_, he⟩
  rcases hc with h1 | ⟨b, off, ha, h1, h2, hc⟩
  ·omega
  ·rw [hv2] at hv
   simp only [Value.slice.injEq] at hv
   rw [← hv.1] at ha
   simp only [Option.some.injEq, Addr.mk.injEq] at ha
   obtain ⟨rfl, rfl, -⟩ := ha
   have := hc i j hi hj
   rwa [Nat.zero_add] at this
theorem Pk.ino {w : World} {S : Nat → Prop} {x : Value} {es : List En} (r : RdV w S x (ensO es)) (h0 : 0 < es.length) :
  ∃ e c, x = .slice (some ⟨e, 0, none⟩) es.length c ∧ S e ∧ e < w.heap.size ∧ (∃ i, w.cell? ⟨e, 2, none⟩ = some (.i i)) ∧ (∀ j, w.frozen? ⟨e, j, none⟩ = false) ∧ ∀ k, ∃ f y, Pk w (w.setCell ⟨e, 2, none⟩ (.i k)) e 0 f ∧ EnR w S f y ∧ y.nm = (es[0]?.getD en0).nm := by
 obtain ⟨e, c, cur, V, rfl, hS, hr, hsz, hnc, hm, hc, he⟩ := r.row0 h0
 refine ⟨e, c, rfl, hS, lt_of_block hr, ⟨(es[0]?.getD en0).h.ino, ?_⟩, fun j => frozen_of_row _ _ _ _ _ hr, fun k => ⟨fun j => if j = 2 then .i k else V 0 j, ⟨(es[0]?.getD en0).nm, ((es[0]?.getD en0).h.sh, k, (es[0]?.getD en0).h.dir)⟩, ⟨⟨cur, _, hr, heap_setCell_same w e 2 cur _ _ hr, by simp⟩, fun j hj => ?_, fun t ht => ?_, fun b hb => heap_setCell_other w ⟨e, 2, none⟩ b _ hb, by simp⟩, fun j hj => ?_, rfl⟩⟩
 ·have := hc 0 2 h0 (by decide)
  rw [show 0 * 4 + 2 = 2 from rfl] at this
  rw [this]
  exact congrArg some (RdV.i (he 0 2 h0 (by decide)))
 ·rw [cell_of_row _ _ _ _ _ _ (heap_setCell_same w e 2 cur _ _ hr)]
  have h4 : 2 < cur.size := by rw [hsz]; omega
  by_cases hj2 : j = 2
  ·subst hj2
   simp [h4]
  ·have := hc 0 j h0 hj
   rw [cell_of_row _ _ _ _ _ _ hr] at this
   rw [if_neg hj2]
   rw [Array.getElem?_setIfInBounds_ne (by omega)]
   exact this
 ·rw [cell_of_row _ _ _ _ _ _ (heap_setCell_same w e 2 cur _ _ hr), cell_of_row _ _ _ _ _ _ hr, Array.getElem?_setIfInBounds_ne (by omega)]
 ·match j, hj with
  | 0, _ => exact he 0 0 h0 (by decide)
  | 1, _ => exact he 0 1 h0 (by decide)
  | 2, _ => exact RdV.int k
  | 3, _ => exact he 0 3 h0 (by decide)
theorem Pk.longer {w W : World} {e c : Nat} {f : Nat → Value} {S : Nat → Prop} {es : List En} {y : En} (p : Pk w W e es.length f) (r : RdV w S (.slice (some ⟨e, 0, none⟩) es.length c) (ensO es)) (hc1 : es.length + 1 ≤ c) (hy : EnR w S f y) : RdV W S (.slice (some ⟨e, 0, none⟩) (es.length + 1) c) (ensO (es ++ [y])) := by
 obtain ⟨C, hC⟩ := r.row4
 have hown := r.own4
 obtain ⟨a, cap, V, hv, hh, hc, he⟩ := RdV.inv r.en
 simp only [Value.slice.injEq, true_and] at hv
 obtain ⟨rfl, rfl⟩ := hv
 rcases hC.2 with ⟨h1, _⟩ | ⟨g, c, cur, hv2, _, hg, hnc, hm, hsz, htk⟩
 ·cases h1
 ·simp only [Value.slice.injEq, Option.some.injEq, Addr.mk.injEq, true_and, and_true] at hv2
  obtain ⟨rfl, rfl⟩ := hv2
  obtain ⟨cur0, cur', hr0, hr1, hsz1⟩ := p.row
  rw [hg] at hr0
  simp only [Option.some.injEq, Obj.cells.injEq] at hr0
  obtain ⟨rfl, -⟩ := hr0
  have hln : (es ++ [y]).length = es.length + 1 := by simp
  have hS : S e := hown e rfl
  refine ⟨RdV.mkRows _ ⟨some ⟨e, 0, none⟩, c, fun i j => if i = es.length then f j else V i j, by rw [hln], ⟨by rw [hln]; exact hc1, hm, fun h => by cases h⟩, .inr ⟨e, 0, rfl, hS, lt_of_block hr1, fun i j hi hj => ?_⟩, fun i j hi hj => ?_⟩, ⟨cur'.toList.take ((es ++ [y]).length * 4), ?_, .inr ⟨e, c, cur', by rw [hln], Nat.zero_le _, hr1, by rw [hln]; exact hc1, hm, by rw [hsz1]; exact hsz, rfl⟩⟩, hown⟩
  ·rw [hln] at hi
   rw [Nat.zero_add]
   by_cases hin : i = es.length
   ·subst hin
    dsimp only; rw [if_pos rfl]; exact p.hit j hj
   ·dsimp only; rw [if_neg hin, p.off _ (by omega)]
    rcases hc with h1 | ⟨b, off, ha, h1, h2, hc⟩
    ·omega
    ·simp only [Option.some.injEq, Addr.mk.injEq] at ha
     obtain ⟨rfl, rfl, -⟩ := ha
     have := hc i j (by omega) hj
     rwa [Nat.zero_add] at this
  ·rw [hln] at hi
   by_cases hin : i = es.length
   ·subst hin
    simp only [if_pos]
    rw [show (es ++ [y])[es.length]?.getD en0 = y by simp]
    exact p.cell hj (hy j hj)
   ·simp only [if_neg hin]
    rw [List.getElem?_append_left (by omega)]
    exact p.cell hj (he i j (by omega) hj)
  ·have hcl : cur'.toList.length = c * 4 := by rw [Array.length_toList, hsz1, hsz]
   rw [List.length_take, hcl, hln]
   have : (es.length + 1) * 4 ≤ c * 4 := Nat.mul_le_mul_right _ hc1
   omega
end
section
theorem SG.atO {w : World} {lo g cap : Nat} {L : Nat → Prop} {l : List Nd} (s : SG w lo L (.slice (some ⟨g, 0, none⟩) l.length cap) l) {i : Nat} (hi : i < l.length) :
  ∃ x, RdV w (fun b => L b ∧ b < w.heap.size ∧ b ≠ g) x (ensO (l[i]?.getD nd0).es) ∧ ∀ j, j < 9 → w.cell? ⟨g, i * 9 + j, none⟩ = some (ndVal (l[i]?.getD nd0) x j) := by
 obtain ⟨V, C, h1, h2, h3⟩ := s
 refine ⟨V i, RdV.mono (fun b hb => ⟨hb.1, hb.2.1, fun e => hb.2.2 (by rw [e]; rfl)⟩) (h3 i hi), fun j hj => ?_⟩
 rw [World.ownsRow.cellAt h1 (i * 9 + j) (place_lt hi hj)]
 exact h2 i j hi hj
theorem RdV.cells4 {w : World} {S : Nat → Prop} {x : Value} {es : List En} (r : RdV w S x (ensO es)) :
  ∃ (C : List Value) (V : Nat → Nat → Value), w.ownsRow 0 81 4 x es.length C ∧ (∀ i j, i < es.length → j < 4 → C[i * 4 + j]? = some (V i j)) ∧ ∀ i j, i < es.length → j < 4 → RdV w S (V i j) (enCell (es[i]?.getD en0) j) := by
 obtain ⟨C, hC⟩ := r.row4
 by_cases h0 : 0 < es.length
 ·obtain ⟨e, c, cur, V, rfl, hS, hr, hsz, hnc, hm, hc, he⟩ := r.row0 h0
  exact ⟨C, V, hC, fun i j hi hj => by rw [← World.ownsRow.cellAt hC (i * 4 + j) (place_lt hi hj)]; exact hc i j hi hj, he⟩
 ·exact ⟨C, fun _ _ => undef, hC, fun i j hi => by omega, fun i j hi => by omega⟩
theorem ens_new {w w' : World} {S S' : Nat → Prop} {es : List En} {C : List Value} {V : Nat → Nat → Value} {f : Nat → Value} {y : En} {n c : Nat} (hB : Below w.heap.size w w') (hn : n = es.length + 1)
  (h2 : ∀ i j, i < es.length → j < 4 → C[i * 4 + j]? = some (V i j)) (h3 : ∀ i j, i < es.length → j < 4 → RdV w S (V i j) (enCell (es[i]?.getD en0) j)) (hy : EnR w S f y) (hCl : C.length = es.length * 4)
  (ho : w'.ownsRow 0 81 4 (.slice (some ⟨w.heap.size, 0, none⟩) n c) n (C ++ [f 0, f 1, f 2, f 3])) (hS : ∀ b, S b → S' b) (hS' : S' w.heap.size) :
  RdV w' S' (.slice (some ⟨w.heap.size, 0, none⟩) n c) (ensO (es ++ [y])) := by
 subst hn
 have hln : (es ++ [y]).length = es.length + 1 := by simp
 have hlt := ho.lt w.heap.size rfl
 obtain ⟨hh1, hh2⟩ : es.length + 1 ≤ c ∧ c ≤ maxLen := by
  rcases ho.2 with ⟨h1, _⟩ | ⟨g, c', cur, hv2, _, hg, hnc, hm, hsz, htk⟩
  ·cases h1
  ·simp only [Value.slice.injEq, true_and] at hv2
   rw [hv2.2]; exact ⟨hnc, hm⟩
 refine ⟨RdV.mkRows _ ⟨some ⟨w.heap.size, 0, none⟩, c, fun i j => if i = es.length then f j else V i j, by rw [hln], ⟨by rw [hln]; exact hh1, hh2, fun h => by cases h⟩, .inr ⟨w.heap.size, 0, rfl, hS', hlt.2, fun i j hi hj => ?_⟩, fun i j hi hj => ?_⟩, ⟨_, by rw [hln]; exact ho⟩, fun b hb => by cases hb; exact hS'⟩
 ·rw [hln] at hi
  rw [Nat.zero_add, World.ownsRow.cellAt ho (i * 4 + j) (place_lt hi hj)]
  by_cases hin : i = es.length
  ·subst hin
   dsimp only
   rw [if_pos rfl, List.getElem?_append_right (by omega), hCl, show es.length * 4 + j - es.length * 4 = j by omega]
   match j, hj with
   | 0, _ => rfl
   | 1, _ => rfl
   | 2, _ => rfl
   | 3, _ => rfl
  ·dsimp only
   rw [if_neg hin, List.getElem?_append_left (by rw [hCl]; exact place_lt (by omega) hj)]
   exact h2 i j (by omega) hj
 ·rw [hln] at hi
  by_cases hin : i = es.length
  ·subst hin
   simp only [if_pos]
   rw [show (es ++ [y])[es.length]?.getD en0 = y by simp]
   exact RdV.mono hS (RdV.step (hy j hj) hB)
  ·simp only [if_neg hin]
   rw [List.getElem?_append_left (by omega)]
   exact RdV.mono hS (RdV.step (h3 i j (by omega) hj) hB)
theorem run_appB {ty : TypeId} (w : World) (xv : Value) (q : Nat) (fr : Nat × Nat) (y : En) (f : Nat → Value) (hq : w.heap[q]? = some (.cells #[f 0, f 1, f 2, f 3] 81 fr)) (h1 : ∀ j, j < 4 → (f j).oneCell' = true)
  {lo : Nat} {L : Nat → Prop} {g m cap : Nat} {l : List Nd} (sg : SG w lo L (.slice (some ⟨g, 0, none⟩) m cap) l) (es : List En) (r : RdV w (fun b => L b ∧ b < w.heap.size ∧ b ≠ g) xv (ensO es)) (hy : EnR w (fun b => L b ∧ b < w.heap.size ∧ b ≠ g) f y)
  (hL : L w.heap.size) (hg : g < w.heap.size) (hn : es.length ≤ 4000) :
  ∃ ga m' c' w', (Builtin.append_ #[32, 32] ty #[xv, .slice (some ⟨q, 0, none⟩) 1 1]).run Tryz.prog w = .ok (.slice ga m' c') w' ∧ (∃ l', SG w' lo L (.slice (some ⟨g, 0, none⟩) m cap) l' ∧ Bent y l l') ∧
   RdV w' (fun b => L b ∧ b < w'.heap.size ∧ b ≠ g) (.slice ga m' c') (ensO (es ++ [y])) ∧ Turned (fun b => L b ∧ b ≠ g) w w' := by
 obtain ⟨i0, hi0, hz0, hz1, hz2⟩ := info_parts Tryz.infoEn
 obtain ⟨C, V, hC, h2, h3⟩ := r.cells4
 have hnews : ∀ j u, [f 0, f 1, f 2, f 3][j]? = some u → w.cell? ((⟨q, 0, none⟩ : Addr).add j) = some u := World.news_of_block hq
 have hone : ∀ u ∈ [f 0, f 1, f 2, f 3], u.oneCell' = true := fun u hu => by
  simp only [List.mem_cons, List.not_mem_nil, or_false] at hu
  rcases hu with rfl | rfl | rfl | rfl
  ·exact h1 0 (by decide)
  ·exact h1 1 (by decide)
  ·exact h1 2 (by decide)
  ·exact h1 3 (by decide)
 obtain ⟨v', w', hrun, ho', hgr, _, hgg⟩ := run_append_own_at (P := Tryz.prog) w 0 32 ty 81 i0 (.agg #[.n0, .i 0, .i 0, .bool false]) 4 48 Tryz.underlying32 hi0 hz0 hz1 hz2 rfl (by decide) xv es.length C hC ⟨q, 0, none⟩ 1 1 [f 0, f 1, f 2, f 3] rfl hnews hone (by unfold maxLen; omega) (by omega) (Nat.zero_le _)
 have newCase : ∀ n c obj, n = es.length + 1 → v' = .slice (some ⟨w.heap.size, 0, none⟩) n c → w' = w.drew.alloc obj → ∃ ga m' c' w', (Builtin.append_ #[32, 32] ty #[xv, .slice (some ⟨q, 0, none⟩) 1 1]).run Tryz.prog w = .ok (.slice ga m' c') w' ∧ (∃ l', SG w' lo L (.slice (some ⟨g, 0, none⟩) m cap) l' ∧ Bent y l l') ∧
   RdV w' (fun b => L b ∧ b < w'.heap.size ∧ b ≠ g) (.slice ga m' c') (ensO (es ++ [y])) ∧ Turned (fun b => L b ∧ b ≠ g) w w' := by
  intro n c obj hnn hv hw
  have hB : Below w.heap.size w w' := by rw [hw]; exact (Below.drew (Below.refl w.heap.size w)).alloc (Nat.le_refl _) _
  have hsz : w.heap.size < w'.heap.size := by rw [hw]; simp
  rw [hv] at ho'
  refine ⟨_, n, c, w', by rw [hrun, hv], ⟨l, sg.step hB, rfl, fun i hi => ⟨rfl, rfl, fun u hu => .inl hu⟩⟩, ens_new hB hnn h2 h3 hy hC.1 (by rw [hnn]; rw [hnn] at ho'; exact ho') (fun b hb => ⟨hb.1, by omega, hb.2.2⟩) ⟨hL, hsz, by omega⟩, Turned.ofBelow hB⟩
 rcases hC.2 with ⟨rfl, h0⟩ | ⟨e, c, cur, rfl, _, hr, hnc, hm, hsz, htk⟩
 ·have hr2 := run_append_nil (P := Tryz.prog) w 32 ty 81 i0 _ Tryz.underlying32 hi0 hz0 ⟨q, 0, none⟩ 1 1 [f 0, f 1, f 2, f 3] (by rw [hz1]; rfl) hnews (by omega) (by omega) (by rw [hz2]; omega)
  rw [hrun] at hr2
  simp only [Result.ok.injEq] at hr2
  exact newCase _ _ _ (by omega) hr2.1 hr2.2
 ·by_cases hroom : es.length + 1 ≤ c
  ·have hfit : es.length * 4 + 4 ≤ cur.size := by rw [hsz]; omega
   have hpk := Pk.cells hr hfit f
   have hc : ∀ j, j < 4 → (w.cell? ⟨e, es.length * 4 + j, none⟩).isSome = true := fun j hj => by
    rw [cell_of_row _ _ _ _ _ _ hr]
    simp [show es.length * 4 + j < cur.size by omega]
   have hr2 := run_append_room_cells (P := Tryz.prog) w 32 ty 81 i0 Tryz.underlying32 hi0 e 0 es.length c ⟨q, 0, none⟩ 1 1 [f 0, f 1, f 2, f 3] (by rw [hz1]; rfl) hnews hone hroom (fun j hj => by rw [hz1, Nat.zero_add]; exact hc j (by simpa using hj)) (fun j hj => frozen_of_row _ _ _ _ _ hr)
   rw [hz1, Nat.zero_add] at hr2
   have hLe := r.own4 e rfl
   have hsz2 : (w.setCells e (es.length * 4) [f 0, f 1, f 2, f 3]).heap.size = w.heap.size := by simp [World.setCells]
   refine ⟨_, _, _, _, hr2, hpk.sg (fun j hj => RdV.mono (fun b hb => ⟨hb.1, hb.2.1, fun h => hb.2.2 (by simpa [Value.ownBlock] using h.symm)⟩) (hy j hj)) (fun h => hLe.2.2 (by simpa [Value.ownBlock] using h.symm)) sg, RdV.mono (fun b hb => ⟨hb.1, by rw [hsz2]; exact hb.2.1, hb.2.2⟩) (hpk.longer r hroom hy), ?_⟩
   exact ⟨rfl, rfl, rfl, hpk.size, fun k _ hk => hpk.oth k (fun h => hk (by rw [h]; exact ⟨hLe.1, hLe.2.2⟩))⟩
  ·have holds : ∀ j u, C[j]? = some u → w.cell? ((⟨e, 0, none⟩ : Addr).add j) = some u := hC.cells (g := e) rfl
   have hr2 := run_append_grow (P := Tryz.prog) w 32 ty 81 i0 _ Tryz.underlying32 hi0 hz0 ⟨e, 0, none⟩ es.length c C (by rw [hz1]; exact hC.1) holds ⟨q, 0, none⟩ 1 1 [f 0, f 1, f 2, f 3] (by rw [hz1]; rfl) hnews (by omega) (by omega) (growslice_fits (by omega) (by rw [hz2]; omega))
   rw [hrun] at hr2
   simp only [Result.ok.injEq] at hr2
   exact newCase _ _ _ rfl hr2.1 hr2.2
theorem step_appB {ops : Array Oper} {o : Oper} {a : Act} {K : Act → World → Prop} {Q : Exit → Act → World → Prop} {E : Prop} (w : World) (hgd : o.guard = none) (s x : Operand)
  (ho : o.op = .call { callee := .builtin .append, args := #[s, x], argTypes := #[32, 32] })
  (xv : Value) (hs : a.eval s = xv) (q : Nat) (hx : a.eval x = .slice (some ⟨q, 0, none⟩) 1 1) (fr : Nat × Nat) (y : En) (f : Nat → Value) (hq : w.heap[q]? = some (.cells #[f 0, f 1, f 2, f 3] 81 fr)) (h1 : ∀ j, j < 4 → (f j).oneCell' = true)
  {lo : Nat} {L : Nat → Prop} {g m cap : Nat} {l : List Nd} (sg : SG w lo L (.slice (some ⟨g, 0, none⟩) m cap) l) (es : List En) (r : RdV w (fun b => L b ∧ b < w.heap.size ∧ b ≠ g) xv (ensO es)) (hy : EnR w (fun b => L b ∧ b < w.heap.size ∧ b ≠ g) f y)
  (hL : L w.heap.size) (hg : g < w.heap.size) (hn : es.length ≤ 4000)
  (h : ∀ ga m' c' w' l', SG w' lo L (.slice (some ⟨g, 0, none⟩) m cap) l' → Bent y l l' → RdV w' (fun b => L b ∧ b < w'.heap.size ∧ b ≠ g) (.slice ga m' c') (ensO (es ++ [y])) → Turned (fun b => L b ∧ b ≠ g) w w' → K (a.put o.dst (.slice ga m' c')) w') : if Region.wanted o (yielded ops a.tmps) = true then Oper.wp Tryz.prog o a w K Q else E := by
 have hw : Region.wanted o (yielded ops a.tmps) = true := by simp [Region.wanted, hgd]
 rw [if_pos hw]
 obtain ⟨ga, m', c', w', hrun, ⟨l', hl1, hl2⟩, hr2, ht⟩ := run_appB (ty := o.type) w xv q fr y f hq h1 sg es r hy hL hg hn
 unfold Oper.wp execOp
 simp only [ho, resolve, invoke, builtin, Sem.run_bind, Sem.run_pure, Result.andThen_ok, List.map_toArray, List.map_cons, List.map_nil, hs, hx, hrun]
 exact h ga m' c' w' l' hl1 hl2 hr2 ht
theorem RdV.drop1 {w : World} {S : Nat → Prop} {g c : Nat} {l : List Nd} (r : RdV w S (.slice (some ⟨g, 0, none⟩) l.length c) (ndsDt l)) (h0 : 0 < l.length) :
  RdV w S (.slice (if c = 1 then some ⟨g, 0, none⟩ else (some (⟨g, 0, none⟩ : Addr)).map (·.add (1 * 9))) (l.length - 1) (c - 1)) (ndsDt (l.drop 1)) := by
 obtain ⟨a, cap, V, hv, hh, hc, he⟩ := RdV.inv r
 simp only [Value.slice.injEq, true_and] at hv
 obtain ⟨rfl, rfl⟩ := hv
 have hln : (l.drop 1).length = l.length - 1 := List.length_drop
 obtain ⟨h1, h2, h3⟩ := hh
 have hget : ∀ i, (l.drop 1)[i]?.getD nd0 = l[i + 1]?.getD nd0 := fun i => by rw [List.getElem?_drop, Nat.add_comm]
 rcases hc with h | ⟨b, off, ha, hS, hb, hc⟩
 ·omega
 ·simp only [Option.some.injEq, Addr.mk.injEq] at ha
  obtain ⟨rfl, rfl, -⟩ := ha
  by_cases hc1 : c = 1
  ·rw [if_pos hc1]
   have hl1 : l.length = 1 := by omega
   exact RdV.mkRows _ ⟨some ⟨g, 0, none⟩, c - 1, fun i j => V (i + 1) j, by rw [hln], ⟨by rw [hln]; omega, by omega, fun h => by cases h⟩, .inl (by rw [hln]; omega), fun i j hi => by rw [hln] at hi; omega⟩
  ·rw [if_neg hc1]
   refine RdV.mkRows _ ⟨some ⟨g, 9, none⟩, c - 1, fun i j => V (i + 1) j, by rw [hln]; rfl, ⟨by rw [hln]; omega, by omega, fun h => by cases h⟩, .inr ⟨g, 9, rfl, hS, hb, fun i j hi hj => ?_⟩, fun i j hi hj => ?_⟩
   ·rw [hln] at hi
    have := hc (i + 1) j (by omega) hj
    rwa [show 0 + ((i + 1) * 9 + j) = 9 + (i * 9 + j) by omega] at this
   ·rw [hln] at hi
    dsimp only
    rw [hget]
    exact he (i + 1) j (by omega) hj
end
section
def ndI (n : Nd) : Bool := (HOk n.h && (decide (1 ≤ n.links) && decide (n.links ≤ 2147483647))) && (if n.h.dir then dirOk n && entsI n.es else (decide (0 ≤ n.val) && decide (n.val ≤ 2147483647)) && fileOk n)

set_option maxHeartbeats 2000000 in
theorem implNode_any (x : Value) (n : Nd) (S : Nat → Prop) (w : World) (r : RdV w S x (ensDt n.es)) (hl : szEns n.es ≤ 2097152) :
  Calls Tryz.prog 50 #[ndV n x] w fun e w' => e = .returned (.bool (ndI n)) ∧ Below w.heap.size w w' := by
 obtain ⟨a, cap, rfl, _⟩ := RdV.sliced r
 obtain ⟨⟨p, q, d⟩, ⟨p2, q2, d2⟩, lk, vl, es⟩ := n
 dsimp only at r hl ⊢
 have HR : Hid (∀ W, Below w.heap.size w W → RdV W S (.slice a es.length cap) (ensDt es)) := RdV.old r
 have HL : Hid _ := hl
 have HH : Hid (∀ W, _) := fun W => implHandleOk_w (p, q, d) W
 have HH2 : Hid (∀ W, _) := fun W => implHandleOk_w (p2, q2, d2) W
 have HNUM : Hid (∀ W, _) := fun W => isNumber_any vl W
 have HEN : Hid (∀ W, Below w.heap.size w W → _) := fun W hW => entriesOk_any _ es S W (HR.out W hW) hl
 obtain ⟨res, hres⟩ : ∃ res, ndI ⟨(p, q, d), (p2, q2, d2), lk, vl, es⟩ = res := ⟨_, rfl⟩
 rw [hres]
 simp only [ndI, fileOk, dirOk] at hres
 generalize HOk (p, q, d) = bd at HH hres
 generalize HOk (p2, q2, d2) = bt at HH2 hres
 generalize entsI es = be at HEN hres
 obtain ⟨m, hm⟩ : ∃ m, es.length = m := ⟨_, rfl⟩
 have hm21 : m ≤ 2097152 := by unfold szEns at hl; omega
 rw [hm] at hres HEN ⊢
 have HRES : Hid _ := hres
 clear r hl hm hres HR HL
 by_cases hA : bd = true ∧ 1 ≤ lk ∧ lk ≤ 2147483647
 case neg =>
  have HF : Hid (res = false) := by
   rw [← HRES.out]
   show _ = _
   rw [Bool.eq_false_iff]
   intro h
   rw [Bool.and_eq_true] at h
   have h1 := h.1
   simp only [Bool.and_eq_true, decide_eq_true_eq] at h1
   exact hA h1
  rw [HF.out]
  go_enter Tryz.func50, Tryz.ntmps50
  go_wp2_with fail
  refine Calls.mono (HH.out _) ?_
  rintro e w2 ⟨rfl, rfl⟩
  cases bd with
  | false =>
   go_wp2
   go_ret
   exact ⟨rfl, Below.newH2 _ _⟩
  | true =>
   have hA2 : ¬ (1 ≤ lk ∧ lk ≤ 2147483647) := fun h => hA ⟨rfl, h⟩
   clear HRES HF HEN HH2 HNUM hA
   go_wp2_with fail
   all_goals first | (go_ret; exact ⟨rfl, Below.newH2 _ _⟩) | (exfalso; omega)
 obtain ⟨rfl, hk1, hk2⟩ := hA
 have HRES2 : Hid ((if d then (decide (vl = 0) && (decide (lk = 1) && (bt && d2))) && be else (decide (0 ≤ vl) && decide (vl ≤ 2147483647)) && (decide (m = 0) && decide ((p2, q2, d2) = hd0))) = res) := by
  rw [← HRES.out]; show _ = _; simp [hk1, hk2]
 clear HRES
 cases d with
 | false =>
  simp only [Bool.false_eq_true, if_false] at HRES2
  clear HEN HH2
  by_cases hV : 0 ≤ vl ∧ vl ≤ 2147483647
  case neg =>
   have hn : (decide (0 ≤ vl) && decide (vl ≤ 2147483647)) = false := by
    rw [Bool.eq_false_iff]; intro h; simp only [Bool.and_eq_true, decide_eq_true_eq] at h; exact hV h
   have HF : Hid (res = false) := by rw [← HRES2.out]; show _ = _; rw [hn]; rfl
   rw [hn] at HNUM
   rw [HF.out]
   clear HRES2 HF hn
   go_enter Tryz.func50, Tryz.ntmps50
   go_wp2_with fail
   refine Calls.mono (HH.out _) ?_
   rintro e w2 ⟨rfl, rfl⟩
   go_wp2_with fail
   refine Calls.mono (HNUM.out _) ?_
   rintro e w2 ⟨rfl, rfl⟩
   go_wp2
   go_ret
   exact ⟨rfl, Below.newH2 _ _⟩
  have hn : (decide (0 ≤ vl) && decide (vl ≤ 2147483647)) = true := by simp [hV.1, hV.2]
  rw [hn] at HNUM HRES2
  simp only [Bool.true_and] at HRES2
  clear hn
  go_enter Tryz.func50, Tryz.ntmps50
  go_wp2_with fail
  refine Calls.mono (HH.out _) ?_
  rintro e w2 ⟨rfl, rfl⟩
  go_wp2_with fail
  refine Calls.mono (HNUM.out _) ?_
  rintro e w2 ⟨rfl, rfl⟩
  go_wp2
  all_goals (go_ret; exact ⟨by rw [← HRES2.out]; first | rfl | (simp_all [hd0, Hd.sh, Hd.ino, Hd.dir] <;> omega) | (simp_all [hd0, Hd.sh, Hd.ino, Hd.dir]; rw [Bool.eq_iff_iff]; simp), Below.newH2 _ _⟩)
 | true =>
  simp only [if_true] at HRES2
  clear HNUM
  by_cases hB : vl = 0 ∧ lk = 1
  case neg =>
   have HF : Hid (res = false) := by
    rw [← HRES2.out]
    show _ = _
    by_cases h1 : vl = 0 <;> by_cases h2 : lk = 1 <;> simp_all
   rw [HF.out]
   clear HRES2 HF HEN HH2
   go_enter Tryz.func50, Tryz.ntmps50
   go_wp2_with fail
   refine Calls.mono (HH.out _) ?_
   rintro e w2 ⟨rfl, rfl⟩
   go_wp2_with fail
   all_goals first | (go_ret; exact ⟨rfl, Below.newH2 _ _⟩) | (exfalso; omega)
  obtain ⟨rfl, rfl⟩ := hB
  cases bt with
  | false =>
   have HF : Hid (res = false) := by rw [← HRES2.out]; show _ = _; simp
   rw [HF.out]
   clear HRES2 HF HEN
   go_enter Tryz.func50, Tryz.ntmps50
   go_wp2_with fail
   refine Calls.mono (HH.out _) ?_
   rintro e w2 ⟨rfl, rfl⟩
   go_wp2_with fail
   refine Calls.mono (HH2.out _) ?_
   rintro e w3 ⟨rfl, rfl⟩
   go_wp2
   go_ret
   exact ⟨rfl, (Below.newH2 (w := w) _ _).alloc (by simp; omega) _⟩
  | true =>
  cases d2 with
  | false =>
   have HF : Hid (res = false) := by rw [← HRES2.out]; show _ = _; simp
   rw [HF.out]
   clear HRES2 HF HEN
   go_enter Tryz.func50, Tryz.ntmps50
   go_wp2_with fail
   refine Calls.mono (HH.out _) ?_
   rintro e w2 ⟨rfl, rfl⟩
   go_wp2_with fail
   refine Calls.mono (HH2.out _) ?_
   rintro e w3 ⟨rfl, rfl⟩
   go_wp2
   go_ret
   exact ⟨rfl, (Below.newH2 (w := w) _ _).alloc (by simp; omega) _⟩
  | true =>
   have HF : Hid (be = res) := by rw [← HRES2.out]; show _ = _; simp
   rw [← HF.out]
   clear HRES2 HF
   go_enter Tryz.func50, Tryz.ntmps50
   go_wp2_with fail
   refine Calls.mono (HH.out _) ?_
   rintro e w2 ⟨rfl, rfl⟩
   go_wp2_with fail
   refine Calls.mono (HH2.out _) ?_
   rintro e w3 ⟨rfl, rfl⟩
   have HB : Hid (Below w.heap.size w (((w.alloc (.cells #[.i p, .i q, .bool true, .i p2, .i q2, .bool true, .i 1, .i 0, .slice a m cap] 75)).alloc (.cells #[.i p, .i q, .bool true] 27)).alloc (.cells #[.i p2, .i q2, .bool true] 27))) := (Below.newH2 (w := w) _ _).alloc (by simp; omega) _
   go_wp2_with fail
   refine Calls.mono (HEN.out _ HB.out) ?_
   rintro e w4 ⟨rfl, hb4⟩
   go_wp2
   go_ret
   exact ⟨rfl, HB.out.trans (hb4.mono HB.out.size)⟩
end
section
open Go.Maps
theorem rowHd : (27 : TypeId) < Tryz.prog.types.size := of_decide_eq_true (by kernel_rfl)
theorem cellsHd : Tryz.prog.cellsOf 27 = 3 := by kernel_rfl
theorem wideHd : (match Tryz.prog.underlying 27 with | some (.array _ _) | some (.struct _) => true | _ => false) = true := by kernel_rfl
theorem laidHd : laidOutB Tryz.prog = true := by kernel_rfl
theorem lawHd : Keyed Tryz.prog 27 := Keyed.of_law (deep_law_laid laidHd (m := 3) (by omega) rowHd (by kernel_rfl) wideHd)

def HIn (h : Hd) : Prop := (Lit.int .i64 h.sh).wf = true ∧ (Lit.int .i64 h.ino).wf = true
def klH (h : Hd) : Lit := .string (keyBytes [.int .i64 h.sh, .int .i64 h.ino, .bool h.dir])
theorem underHd : ∃ fs, Tryz.prog.underlying 27 = some (.struct fs) ∧ fs.all (·.name != "_") = true ∧ fs.toList.map (fun f => (f.type, f.offset)) = [(3, 0), (3, 1), (4, 2)] := ⟨_, Tryz.underlying27, by kernel_rfl, by kernel_rfl⟩
theorem mapM_two (fs : Array Field) (g : TypeId → Nat → Option (List Lit)) : fs.toList.mapM (fun f => g f.type f.offset) = (fs.toList.map (fun f => (f.type, f.offset))).mapM (fun p => g p.1 p.2) := by
 rw [List.mapM_map]; rfl
theorem keyHd {h : Hd} (hh : HIn h) : keyOf Tryz.prog 27 h.v = some (klH h) := by
 obtain ⟨fs, hu, hn, hf⟩ := underHd
 have hkt : Tryz.prog.keyType 27 = true := by kernel_rfl
 have h3 : Tryz.prog.underlying 3 = some (.int .i64) := by kernel_rfl
 have h4 : Tryz.prog.underlying 4 = some .bool := by kernel_rfl
 have c3 : Tryz.prog.cellsOf 3 = 1 := by kernel_rfl
 have c4 : Tryz.prog.cellsOf 4 = 1 := by kernel_rfl
 obtain ⟨m, hm⟩ : ∃ m, Tryz.prog.types.size = m + 1 := ⟨_, (Nat.succ_pred_eq_of_pos (Nat.lt_of_le_of_lt (Nat.zero_le _) rowHd)).symm⟩
 have hfs := fun g => mapM_two fs g
 unfold keyOf
 simp only [hu]
 rw [if_pos (by simp [hkt, Value.formed, hu, cellsHd]), hm]
 have hk : Tryz.prog.keyLits (m + 1 + 1) 27 [.int .i64 h.sh, .int .i64 h.ino, .bool h.dir] = some [.int .i64 h.sh, .int .i64 h.ino, .bool h.dir] := by
  unfold Program.keyLits
  simp only [hu]
  rw [if_pos ⟨by rw [cellsHd]; rfl, hn⟩, hfs (fun t o => Tryz.prog.keyLits (m + 1) t ((([.int .i64 h.sh, .int .i64 h.ino, .bool h.dir] : List Value).drop o).take (Tryz.prog.cellsOf t))), hf]
  simp [Program.keyLits, h3, h4, c3, c4, hh.1, hh.2]
 show Option.map _ (Tryz.prog.keyLits (m + 1 + 1) 27 [.int .i64 h.sh, .int .i64 h.ino, .bool h.dir]) = _
 rw [hk]
 rfl
theorem klH_ne {h g : Hd} (hh : HIn h) (hg : HIn g) (hne : h ≠ g) : klH h ≠ klH g := by
 intro e
 have h1 := lawHd.inj (keyHd hh) (by rw [e]; exact keyHd hg)
 obtain ⟨a, b, c⟩ := h
 obtain ⟨a2, b2, c2⟩ := g
 simp only [Value.agg.injEq, Array.mk.injEq, List.cons.injEq, Value.int.injEq, Value.bool.injEq, true_and, and_true] at h1
 exact hne (Prod.ext h1.1 (Prod.ext h1.2.1 h1.2.2))

def tokR (v : Value) : Option (DataW Value × List MemPlace) := some (.held v, [])
def MapH {α : Type} (V : α → Value → Prop) (w : World) (b s : Nat) (f : Hd → Option α) : Prop :=
 ∃ D : DataW Value, w.ownsMap Tryz.prog 27 tokR b s D ∧ Maps.size D = s ∧ ∀ h, HIn h → (f h = none → Maps.has D (klH h) = false) ∧ ∀ a, f h = some a → Maps.has D (klH h) = true ∧ ∃ v, V a v ∧ ∀ z, D.atKey (klH h) z = .held v

theorem ownsMap_tight {w : World} {b n : Nat} {D : DataW Value} (h : w.ownsMap Tryz.prog 27 tokR b n D) : w.ownsMap Tryz.prog 27 tokR b (Maps.size D) D := by
 obtain ⟨es, clock, hb, F, hs, rfl⟩ := h
 exact ⟨es, clock, hb, F, by rw [Maps.size_eq, length_read]; exact Nat.le_refl _, rfl⟩

section
variable {α : Type} {V : α → Value → Prop} {w : World} {b s : Nat} {f : Hd → Option α}
theorem MapH.made (V : α → Value → Prop) (w : World) : MapH V (w.alloc (.map #[] 0)) w.heap.size 0 (fun _ => none) :=
 ⟨.map [], World.ownsMap_made w _ _ _, rfl, fun h _ => ⟨fun _ => rfl, fun a ha => by cases ha⟩⟩
theorem MapH.lt (m : MapH V w b s f) : b < w.heap.size := by obtain ⟨D, hD, _⟩ := m; exact hD.lt
theorem MapH.kept {w' : World} {row : Option Nat} (m : MapH V w b s f) (hg : w.grownBy w' row) (hne : some b ≠ row) : MapH V w' b s f := by
 obtain ⟨D, hD, h1, h2⟩ := m; exact ⟨D, hD.kept hg hne, h1, h2⟩
theorem MapH.blk {w' : World} (m : MapH V w b s f) (hg : w'.heap[b]? = w.heap[b]?) : MapH V w' b s f := by
 obtain ⟨D, ⟨es, clock, hb, hF⟩, h1, h2⟩ := m; exact ⟨D, ⟨es, clock, hg.trans hb, hF⟩, h1, h2⟩
theorem MapH.to {β : Type} {U : β → Value → Prop} (m : MapH V w b s f) (g : Hd → Option β) (hn : ∀ h, g h = none → f h = none) (hs : ∀ h c, g h = some c → ∃ a, f h = some a ∧ ∀ v, V a v → U c v) : MapH U w b s g := by
 obtain ⟨D, hD, h1, h2⟩ := m
 refine ⟨D, hD, h1, fun h hh => ⟨fun hg => (h2 h hh).1 (hn h hg), fun c hc => ?_⟩⟩
 obtain ⟨a, ha, hv⟩ := hs h c hc
 obtain ⟨x1, v, x2, x3⟩ := (h2 h hh).2 a ha
 exact ⟨x1, v, hv v x2, x3⟩
theorem MapH.put {t e : TypeId} (m : MapH V w b s f) (ht : Tryz.prog.underlying t = some (.map 27 e)) (hn : s < maxLen) {h : Hd} (hh : HIn h) {a : α} {v : Value} (hv : V a v) :
  ∃ w', (Instr.mapUpdate t (.map (some b)) h.v v).run Tryz.prog w = .ok () w' ∧ MapH V w' b (if (f h).isSome then s else s + 1) (fun g => if g = h then some a else f g) ∧ w.grownBy w' (some b) := by
 obtain ⟨D, hD, h1, h2⟩ := m
 obtain ⟨w', hrun, ho, hg⟩ := hD.update lawHd ht hn (keyHd hh) (d := .held v) (ps := []) rfl
 have hty := hD.tidy lawHd
 have hkl := lawHd.key (keyHd hh)
 refine ⟨w', hrun, ⟨D.put (klH h) (.held v), ?_, ?_, ?_⟩, hg⟩
 ·have h3 := ownsMap_tight ho
  rw [Maps.size_put hty] at h3
  cases hf : f h with
  | none => rw [(h2 h hh).1 hf] at h3; simpa [h1] using h3
  | some a => rw [((h2 h hh).2 a hf).1] at h3; simpa [h1] using h3
 ·rw [Maps.size_put hty]
  cases hf : f h with
  | none => rw [(h2 h hh).1 hf]; simp [h1]
  | some a => rw [((h2 h hh).2 a hf).1]; simp [h1]
 ·intro g hgi
  by_cases hgh : g = h
  ·subst hgh
   refine ⟨fun hc => by simp at hc, fun c hc => ?_⟩
   simp only [if_true, Option.some.injEq] at hc
   subst hc
   exact ⟨Maps.has_put_same hty.isMap hkl _, v, hv, fun z => Maps.atKey_put_same hty.isMap hkl _ z⟩
  ·have hne := klH_ne hgi hh hgh
   simp only [if_neg hgh]
   refine ⟨fun hc => ?_, fun c hc => ?_⟩
   ·rw [Maps.has_put_other hne]; exact (h2 g hgi).1 hc
   ·obtain ⟨x1, u, x2, x3⟩ := (h2 g hgi).2 c hc
    exact ⟨by rw [Maps.has_put_other hne]; exact x1, u, x2, fun z => by rw [Maps.atKey_put_other hne]; exact x3 z⟩
theorem MapH.look {t e : TypeId} (m : MapH V w b s f) (ht : Tryz.prog.underlying t = some (.map 27 e)) {z : Value} (hz : (zeroValue e).run Tryz.prog w = .ok z w) {h : Hd} (hh : HIn h) :
  ∃ v, (Instr.lookup t (.map (some b)) h.v false).run Tryz.prog w = .ok v w ∧ (f h = none → v = z) ∧ ∀ a, f h = some a → V a v := by
 obtain ⟨D, hD, h1, h2⟩ := m
 obtain ⟨v, ps, hrun, hR⟩ := hD.lookup lawHd ht hz (zd := .held z) (zp := []) rfl (keyHd hh)
 simp only [tokR, Option.some.injEq, Prod.mk.injEq] at hR
 refine ⟨v, hrun, fun hf => ?_, fun a hf => ?_⟩
 ·rw [Maps.atKey_of_not_has ((h2 h hh).1 hf)] at hR
  exact DataW.held.inj hR.1
 ·obtain ⟨_, u, hu, hat⟩ := (h2 h hh).2 a hf
  rw [hat] at hR
  rw [DataW.held.inj hR.1]; exact hu
theorem MapH.look_ok {t e : TypeId} (m : MapH V w b s f) (ht : Tryz.prog.underlying t = some (.map 27 e)) {z : Value} (hz : (zeroValue e).run Tryz.prog w = .ok z w) {h : Hd} (hh : HIn h) :
  ∃ v, (Instr.lookup t (.map (some b)) h.v true).run Tryz.prog w = .ok (.tuple #[v, .bool (f h).isSome]) w ∧ (f h = none → v = z) ∧ ∀ a, f h = some a → V a v := by
 obtain ⟨D, hD, h1, h2⟩ := m
 obtain ⟨v, ps, hrun, hR⟩ := hD.look_ok lawHd ht hz (zd := .held z) (zp := []) rfl (keyHd hh)
 simp only [tokR, Option.some.injEq, Prod.mk.injEq] at hR
 cases hf : f h with
 | none =>
  have h3 := (h2 h hh).1 hf
  rw [h3] at hrun
  rw [Maps.atKey_of_not_has h3] at hR
  exact ⟨v, hrun, (fun _ => DataW.held.inj hR.1), (fun a ha => by cases ha)⟩
 | some a =>
  obtain ⟨h3, u, hu, hat⟩ := (h2 h hh).2 a hf
  rw [h3] at hrun
  rw [hat] at hR
  exact ⟨v, hrun, (fun hc => by cases hc), (fun c hc => by cases hc; rw [DataW.held.inj hR.1]; exact hu)⟩
theorem MapH.len {t e : TypeId} (m : MapH V w b s f) (ht : Tryz.prog.underlying t = some (.map 27 e)) (ty : TypeId) : (Builtin.len_ #[t] ty #[.map (some b)]).run Tryz.prog w = .ok (.int .i64 s) w := by
 obtain ⟨D, hD, h1, h2⟩ := m
 rw [← h1]; exact hD.len ht ty
end
theorem HOk.inn {h : Hd} (hh : HOk h = true) : HIn h := by
 simp only [HOk, Bool.and_eq_true, decide_eq_true_eq] at hh
 exact ⟨WalkArith.wf_i64 (by omega), WalkArith.wf_i64 (by omega)⟩
theorem hd0_in : HIn hd0 := ⟨by decide, by decide⟩
end
section
def enOk (e : En) : Bool := isNm e.nm && HOk e.h
def enOkAt (l : List En) (i : Nat) : Bool := enOk (l[i]?.getD en0)
def noneOk (h : Hd) : Bool := decide (h = hd0) || HOk h
def ROk (r : RpD) : Bool := ((decide (0 ≤ r.code) && decide (r.code ≤ 11)) && (num r.val && (noneOk r.h && decide (r.list.length ≤ 12)))) && (List.range r.list.length).all (enOkAt r.list)
end
section
open Go.Maps
def ndP (n : Nd) (v : Value) : Prop := ∃ a m c, v = ndV n (.slice a m c)
def atH (l : List Nd) (k : Nat) (h : Hd) : Option Nd := (l.take k).find? (fun n => decide (n.h = h))
def OneH (l : List Nd) : Prop := ∀ i j, i < l.length → j < l.length → (l[i]?.getD nd0).h = (l[j]?.getD nd0).h → i = j
theorem atH_new {l : List Nd} (ho : OneH l) {k : Nat} (hk : k < l.length) : atH l k (l[k]?.getD nd0).h = none := by
  unfold atH
  rw [List.find?_eq_none]
  intro n hn
  obtain ⟨i, hi, rfl⟩ := List.getElem_of_mem hn
  have hi2 : i < k ∧ i < l.length := by have h9 : i < min k l.length := by simpa using hi
                                        omega
  simp only [List.getElem_take, decide_eq_true_eq]
  intro he
  have := ho i k hi2.2 hk (by rw [List.getElem?_eq_getElem hi2.2]; exact he)
  omega
theorem atH_next {l : List Nd} (ho : OneH l) {k : Nat} (hk : k < l.length) : (fun g => if g = (l[k]?.getD nd0).h then some (l[k]?.getD nd0) else atH l k g) = atH l (k + 1) := by
  funext g
  have hg : l[k]?.getD nd0 = l[k] := by rw [List.getElem?_eq_getElem hk]; rfl
  have ht : l.take (k + 1) = l.take k ++ [l[k]] := (List.take_append_getElem hk).symm
  have hstep : atH l (k + 1) g = (atH l k g).or ([l[k]].find? (fun n => decide (n.h = g))) := by
    unfold atH; rw [ht, List.find?_append]
  rw [hstep]
  by_cases hgh : g = (l[k]?.getD nd0).h
  · rw [if_pos hgh]
    have h1 := atH_new ho hk
    rw [← hgh] at h1
    rw [h1, hg] at *
    simp [hgh]
  · rw [if_neg hgh]
    rw [hg] at hgh
    have h2 : [l[k]].find? (fun n => decide (n.h = g)) = none := by
      simp only [List.find?_cons, List.find?_nil]
      rw [decide_eq_false (fun h => hgh h.symm)]
    rw [h2]; simp

section
variable {α : Type} {V : α → Value → Prop} {w : World} {b s : Nat} {f : Hd → Option α}
theorem MapH.alloc (m : MapH V w b s f) (o : Obj) : MapH V (w.alloc o) b s f := m.kept (World.grownBy_alloc w o none) (by simp)
end

theorem wpList_putH {α : Type} {V : α → Value → Prop} (w : World) {ops : Array Oper} {rest : List Oper} {o : Oper} {a : Act} {Q : Exit → Act → World → Prop}
    (hg : o.guard = none) (m x v : Operand) (t : TypeId) (hop : o.op = Op.mapUpdate t m x v) (e : TypeId) (ht : Tryz.prog.underlying t = some (.map 27 e)) (b s : Nat) (f : Hd → Option α)
    (hm : a.eval m = .map (some b)) (M : MapH V w b s f) (hn : s < maxLen) (h : Hd) (hh : HIn h) (hx : a.eval x = h.v) (c : α) (hv : V c (a.eval v))
    (hK : ∀ w', MapH V w' b (if (f h).isSome then s else s + 1) (fun g => if g = h then some c else f g) → w.grownBy w' (some b) → wpList Tryz.prog ops Q rest (a.put o.dst undef) w') :
    wpList Tryz.prog ops Q (o :: rest) a w := by
  refine wpList_plain hg fun K' hK' => ?_
  obtain ⟨w', hrun, r1, r2⟩ := M.put ht hn hh hv
  unfold Oper.wp
  simp [execOp, hop, hm, hx, hrun, Result.andThen]
  exact hK' _ _ (hK w' r1 r2)

set_option maxRecDepth 100000 in
set_option maxHeartbeats 1000000 in
theorem nodesByHandle_any (x : Value) (l : List Nd) (S : Nat → Prop) (w : World) (r : RdV w S x (ndsDt l)) (hl : l.length ≤ 2097152) (ho : OneH l) (hin : ∀ i, i < l.length → HIn (l[i]?.getD nd0).h) :
    Calls Tryz.prog 35 #[x] w fun e w' => e = .returned (.map (some w.heap.size)) ∧ Below w.heap.size w w' ∧ MapH ndP w' w.heap.size l.length (atH l l.length) := by
  obtain ⟨a, cap, rfl, _⟩ := RdV.sliced r
  have HR : Hid (∀ W, Below w.heap.size w W → RdV W S (.slice a l.length cap) (.rows 75 9 l.length (fun i j => ndCell (l[i]?.getD nd0) j))) := RdV.old r
  obtain ⟨n, hn⟩ : ∃ n, l.length = n := ⟨_, rfl⟩
  have HN : Hid _ := hn
  have HST : Hid (∀ k, k < n → (fun g => if g = (l[k]?.getD nd0).h then some (l[k]?.getD nd0) else atH l k g) = atH l (k + 1) ∧ atH l k (l[k]?.getD nd0).h = none) := fun k hk => ⟨atH_next ho (by rw [hn]; exact hk), atH_new ho (by rw [hn]; exact hk)⟩
  have HIN : Hid (∀ i, i < l.length → HIn (l[i]?.getD nd0).h) := hin
  rw [hn] at hl HR HIN ⊢
  clear r hn ho hin
  have hmm := @run_makeMap Tryz.prog
  go_enter Tryz.func35, Tryz.ntmps35
  go_wp2
  go_loopw [9] (fun i wr => ∃ k : Nat, k ≤ n ∧ i = .i k ∧ Below w.heap.size w wr ∧ MapH ndP wr w.heap.size k (atH l k)) (fun i _ => n - (intOf i).toNat)
  case atStart => exact ⟨0, Nat.zero_le _, rfl, Below.newH _, MapH.made _ _⟩
  case round =>
    clear hmm
    obtain ⟨k, hk, rfl, hbel, M⟩ := hrel
    have HM : Hid (MapH ndP wr w.heap.size k (atH l k)) := M
    by_cases hlt : k < n
    case neg =>
      have he : k = n := by omega
      subst he
      go_wp2
      go_ret
      exact ⟨rfl, hbel, HM.out⟩
    obtain ⟨b, off, rfl, hbl, _, hx⟩ := RdV.at (HR.out wr hbel) hlt
    obtain ⟨x0, g0, s0⟩ := hx 0 (by omega)
    obtain ⟨x1, g1, s1⟩ := hx 1 (by omega)
    obtain ⟨x2, g2, s2⟩ := hx 2 (by omega)
    obtain ⟨x3, g3, s3⟩ := hx 3 (by omega)
    obtain ⟨x4, g4, s4⟩ := hx 4 (by omega)
    obtain ⟨x5, g5, s5⟩ := hx 5 (by omega)
    obtain ⟨x6, g6, s6⟩ := hx 6 (by omega)
    obtain ⟨x7, g7, s7⟩ := hx 7 (by omega)
    obtain ⟨x8, g8, s8⟩ := hx 8 (by omega)
    have HSK := HST.out k hlt
    have HIK := HIN.out k hlt
    generalize l[k]?.getD nd0 = e at *
    obtain ⟨⟨p, q, d⟩, ⟨p2, q2, d2⟩, lk, vl, es⟩ := e
    obtain rfl : x0 = .i p := s0
    obtain rfl : x1 = .i q := s1
    obtain rfl : x2 = .bool d := s2
    obtain rfl : x3 = .i p2 := s3
    obtain rfl : x4 = .i q2 := s4
    obtain rfl : x5 = .bool d2 := s5
    obtain rfl : x6 = .i lk := s6
    obtain rfl : x7 = .i vl := s7
    obtain ⟨xa, xc, rfl, _⟩ := RdV.sliced s8
    simp only [Nat.add_zero] at g0
    generalize es.length = xn at *
    have hws := M.lt
    have HS : Hid _ := HSK
    have HI : Hid (HIn (p, q, d)) := HIK
    clear HSK HIK hx M s8 HST HIN
    go_wp2_with (at_mapUpdate; refine wpList_putH (α := Nd) (V := ndP) _ rfl _ _ _ 69 rfl 75 Tryz.underlying69 w.heap.size k (atH l k) rfl (HM.out.alloc _) (by unfold maxLen; omega) (p, q, d) HI.out rfl (Nd.mk (p, q, d) (p2, q2, d2) lk vl es) (Exists.intro xa (Exists.intro xn (Exists.intro xc rfl))) ?_; intro w1 hm1 hgr1)
    have R0 := HS.out.2
    rw [R0] at hm1
    have R1 : MapH ndP w1 w.heap.size (k + 1) (atH l (k + 1)) := by rw [← HS.out.1]; simpa using hm1
    have R2 : Below w.heap.size w w1 := by
      refine Below.grown ?_ hgr1 ?_ (fun j hj => by cases hj; exact Nat.le_refl _)
      · exact hbel.alloc hbel.size _
      · exact Nat.le_trans hbel.size (by simp)
    clear hm1 hgr1 R0
    go_wp2
    first
    | exact ⟨⟨k + 1, by omega, by go_num, R2, R1⟩, by simp [intOf]; omega⟩
    | (go_roundw
       case rel => exact ⟨k + 1, by omega, by go_num, R2, R1⟩
       case measure => simp [intOf]; omega)
end
section
def ndX (X : Hd → Value) (n : Nd) (v : Value) : Prop := v = ndV n (X n.h)
theorem ndX_of {X : Hd → Value} {n : Nd} {a : Option Addr} {m c : Nat} (h : Value.slice a m c = X n.h) : ndX X n (ndV n (.slice a m c)) := by unfold ndX; rw [← h]
def EntsAt (w : World) (x : Value) (l : List Nd) (X : Hd → Value) : Prop := ∀ b off n c, x = .slice (some ⟨b, off, none⟩) n c → ∀ k, k < l.length → b < w.heap.size ∧ w.cell? ⟨b, off + k * 9 + 8, none⟩ = some (X (l[k]?.getD nd0).h)
set_option maxRecDepth 100000 in
set_option maxHeartbeats 1000000 in
theorem nodesX_any (x : Value) (l : List Nd) (S : Nat → Prop) (w : World) (r : RdV w S x (ndsDt l)) (X : Hd → Value) (hX : EntsAt w x l X) (hl : l.length ≤ 2097152) (ho : OneH l) (hin : ∀ i, i < l.length → HIn (l[i]?.getD nd0).h) :
    Calls Tryz.prog 35 #[x] w fun e w' => e = .returned (.map (some w.heap.size)) ∧ Below w.heap.size w w' ∧ MapH (ndX X) w' w.heap.size l.length (atH l l.length) := by
  obtain ⟨a, cap, rfl, _⟩ := RdV.sliced r
  have HR : Hid (∀ W, Below w.heap.size w W → RdV W S (.slice a l.length cap) (.rows 75 9 l.length (fun i j => ndCell (l[i]?.getD nd0) j))) := RdV.old r
  obtain ⟨n, hn⟩ : ∃ n, l.length = n := ⟨_, rfl⟩
  have HN : Hid _ := hn
  have HST : Hid (∀ k, k < n → (fun g => if g = (l[k]?.getD nd0).h then some (l[k]?.getD nd0) else atH l k g) = atH l (k + 1) ∧ atH l k (l[k]?.getD nd0).h = none) := fun k hk => ⟨atH_next ho (by rw [hn]; exact hk), atH_new ho (by rw [hn]; exact hk)⟩
  have HIN : Hid (∀ i, i < l.length → HIn (l[i]?.getD nd0).h) := hin
  have HXA : Hid (EntsAt w (.slice a l.length cap) l X) := hX
  rw [hn] at hl HR HIN ⊢
  clear r hn ho hin hX
  have hmm := @run_makeMap Tryz.prog
  go_enter Tryz.func35, Tryz.ntmps35
  go_wp2
  go_loopw [9] (fun i wr => ∃ k : Nat, k ≤ n ∧ i = .i k ∧ Below w.heap.size w wr ∧ MapH (ndX X) wr w.heap.size k (atH l k)) (fun i _ => n - (intOf i).toNat)
  case atStart => exact ⟨0, Nat.zero_le _, rfl, Below.newH _, MapH.made _ _⟩
  case round =>
    clear hmm
    obtain ⟨k, hk, rfl, hbel, M⟩ := hrel
    have HM : Hid (MapH (ndX X) wr w.heap.size k (atH l k)) := M
    by_cases hlt : k < n
    case neg =>
      have he : k = n := by omega
      subst he
      go_wp2
      go_ret
      exact ⟨rfl, hbel, HM.out⟩
    obtain ⟨b, off, rfl, hbl, _, hx⟩ := RdV.at (HR.out wr hbel) hlt
    obtain ⟨x0, g0, s0⟩ := hx 0 (by omega)
    obtain ⟨x1, g1, s1⟩ := hx 1 (by omega)
    obtain ⟨x2, g2, s2⟩ := hx 2 (by omega)
    obtain ⟨x3, g3, s3⟩ := hx 3 (by omega)
    obtain ⟨x4, g4, s4⟩ := hx 4 (by omega)
    obtain ⟨x5, g5, s5⟩ := hx 5 (by omega)
    obtain ⟨x6, g6, s6⟩ := hx 6 (by omega)
    obtain ⟨x7, g7, s7⟩ := hx 7 (by omega)
    obtain ⟨x8, g8, s8⟩ := hx 8 (by omega)
    have h8 : x8 = X (l[k]?.getD nd0).h := by
      have h1 := HXA.out b off _ _ rfl k (by rw [HN.out]; exact hlt)
      have h2 := (hbel.cell (p := ⟨b, off + k * 9 + 8, none⟩) h1.1).trans h1.2
      rw [g8] at h2
      exact Option.some.inj h2
    have HSK := HST.out k hlt
    have HIK := HIN.out k hlt
    generalize l[k]?.getD nd0 = e at *
    obtain ⟨⟨p, q, d⟩, ⟨p2, q2, d2⟩, lk, vl, es⟩ := e
    obtain rfl : x0 = .i p := s0
    obtain rfl : x1 = .i q := s1
    obtain rfl : x2 = .bool d := s2
    obtain rfl : x3 = .i p2 := s3
    obtain rfl : x4 = .i q2 := s4
    obtain rfl : x5 = .bool d2 := s5
    obtain rfl : x6 = .i lk := s6
    obtain rfl : x7 = .i vl := s7
    obtain ⟨xa, xc, rfl, _⟩ := RdV.sliced s8
    have H8 : Hid (Value.slice xa es.length xc = X (p, q, d)) := h8
    clear h8
    simp only [Nat.add_zero] at g0
    generalize es.length = xn at *
    have hws := M.lt
    have HS : Hid _ := HSK
    have HI : Hid (HIn (p, q, d)) := HIK
    clear HSK HIK hx M s8 HST HIN
    go_wp2_with (at_mapUpdate; refine wpList_putH (α := Nd) (V := ndX X) _ rfl _ _ _ 69 rfl 75 Tryz.underlying69 w.heap.size k (atH l k) rfl (HM.out.alloc _) (by unfold maxLen; omega) (p, q, d) HI.out rfl (Nd.mk (p, q, d) (p2, q2, d2) lk vl es) (ndX_of H8.out) ?_; intro w1 hm1 hgr1)
    have R0 := HS.out.2
    rw [R0] at hm1
    have R1 : MapH (ndX X) w1 w.heap.size (k + 1) (atH l (k + 1)) := by rw [← HS.out.1]; simpa using hm1
    have R2 : Below w.heap.size w w1 := by
      refine Below.grown ?_ hgr1 ?_ (fun j hj => by cases hj; exact Nat.le_refl _)
      · exact hbel.alloc hbel.size _
      · exact Nat.le_trans hbel.size (by simp)
    clear hm1 hgr1 R0
    go_wp2
    first
    | exact ⟨⟨k + 1, by omega, by go_num, R2, R1⟩, by simp [intOf]; omega⟩
    | (go_roundw
       case rel => exact ⟨k + 1, by omega, by go_num, R2, R1⟩
       case measure => simp [intOf]; omega)
end
section
def idxH (l : List Nd) (h : Hd) : Nat := l.findIdx (fun n => decide (n.h = h))
theorem idxH_at {l : List Nd} (ho : OneH l) {i : Nat} (hi : i < l.length) : idxH l (l[i]?.getD nd0).h = i := by
 have hg : l[i]?.getD nd0 = l[i] := by rw [List.getElem?_eq_getElem hi]; rfl
 have hlt : idxH l (l[i]?.getD nd0).h < l.length := List.findIdx_lt_length_of_exists ⟨l[i], List.getElem_mem hi, by rw [hg]; simp⟩
 have hp := List.findIdx_getElem (w := hlt)
 have hp' : (l[idxH l (l[i]?.getD nd0).h]'hlt).h = (l[i]?.getD nd0).h := of_decide_eq_true hp
 exact ho _ _ hlt hi (by rw [List.getElem?_eq_getElem hlt]; exact hp')
theorem entsX {w : World} {S : Nat → Prop} {v : Value} {l : List Nd} (ho : OneH l) (o : OwV w S v (ndsDt l)) :
  ∃ (X : Hd → Value) (Q : Hd → Nat → Prop), EntsAt w v l X ∧ (∀ i, i < l.length → OwV w (Q (l[i]?.getD nd0).h) (X (l[i]?.getD nd0).h) (ensDt (l[i]?.getD nd0).es)) ∧ (∀ i b, i < l.length → Q (l[i]?.getD nd0).h b → S b ∧ v.ownBlock ≠ some b) ∧
   (∀ i j b, i < l.length → j < l.length → Q (l[i]?.getD nd0).h b → Q (l[j]?.getD nd0).h b → i = j) := by
 unfold ndsDt at o
 obtain ⟨V, C, Qs, h1, hS, h3, h4, h5, h6⟩ := OwV.inv o
 refine ⟨fun h => V (idxH l h) 8, fun h => Qs (idxH l h) 8, ?_, ?_, ?_, ?_⟩
 ·intro b off n c hv k hk
  rcases h1.2 with ⟨hv', _⟩ | ⟨g, cp, cur, hv', hg, hh, hnc, hm, _⟩
  ·rw [hv] at hv'; cases hv'
  ·rw [hv] at hv'
   simp only [Value.slice.injEq, Option.some.injEq, Addr.mk.injEq, and_true] at hv'
   obtain ⟨⟨rfl, rfl⟩, rfl, rfl⟩ := hv'
   rw [hv] at h1
   refine ⟨lt_of_block hh, ?_⟩
   have hc := World.ownsRow.cellAt h1 (k * 9 + 8) (place_lt hk (by omega))
   rw [h3 k 8 hk (by omega)] at hc
   simp only [idxH_at ho hk]
   rw [← hc]
   congr 2
   omega
 ·intro i hi
  simp only [idxH_at ho hi]
  exact h4 i 8 hi (by omega)
 ·intro i b hi hb
  simp only [idxH_at ho hi] at hb
  exact h5 i 8 b hi (by omega) hb
 ·intro i j b hi hj hb hb'
  simp only [idxH_at ho hi] at hb
  simp only [idxH_at ho hj] at hb'
  exact (h6 i 8 j 8 b hi (by omega) hj (by omega) hb hb').1
end
section
def isEndB (n : Int) : Bool := decide (0 ≤ n) && decide (n < 8)
def isCd (n : Int) : Bool := decide (0 ≤ n) && decide (n ≤ 11)
def zOp (o : OpD) : Bool := decide (o.kind = 0) && (decide (o.dir = hd0) && (decide (o.nm.length = 0) && (decide (o.to = hd0) && (decide (o.asn.length = 0) && decide (o.val = 0)))))
def zRp (r : RpD) : Bool := decide (r.code = 0) && (decide (r.h = hd0) && (decide (r.val = 0) && decide (r.list.length = 0)))
def zPt (p : PtD) : Bool := decide (p.kind = 0) && (decide (p.h = hd0) && (decide (p.asn.length = 0) && decide (p.to = hd0)))
def zTx (t : TxD) : Bool := decide (t = tx0)
def MBody (m : MsD) : Bool :=
 if m.kind = 0 then (num m.req && OOk m.op) && (zRp m.rp && (zTx m.tx && (zPt m.pt && (decide (m.code = 0) && decide (m.h = hd0)))))
 else if m.kind = 1 then (num m.req && ROk m.rp) && (zOp m.op && (zTx m.tx && (zPt m.pt && (decide (m.code = 0) && decide (m.h = hd0)))))
 else if m.kind = 2 then (TOk m.tx && POk m.pt) && (decide (m.req = 0) && (zOp m.op && (zRp m.rp && (decide (m.code = 0) && decide (m.h = hd0)))))
 else if m.kind = 3 then (TOk m.tx && (POk m.pt && (isCd m.code && noneOk m.h))) && (decide (m.req = 0) && (zOp m.op && zRp m.rp))
 else if m.kind = 4 then TOk m.tx && (decide (m.req = 0) && (zOp m.op && (zRp m.rp && (zPt m.pt && (decide (m.code = 0) && decide (m.h = hd0))))))
 else if m.kind = 5 then (TOk m.tx && (decide (m.code = 0) || decide (m.code = 1))) && (decide (m.req = 0) && (zOp m.op && (zRp m.rp && (zPt m.pt && decide (m.h = hd0)))))
 else if m.kind = 6 then (TOk m.tx && (num m.req && (HOk m.h && m.h.dir))) && (zOp m.op && (zRp m.rp && (zPt m.pt && decide (m.code = 0))))
 else (TOk m.tx && (num m.req && (isCd m.code && noneOk m.h))) && (zOp m.op && (zRp m.rp && zPt m.pt))
def MOk (m : MsD) : Bool := (decide (0 ≤ m.kind) && decide (m.kind ≤ 7)) && ((isEndB m.fr && isEndB m.to) && MBody m)
end
section
set_option maxHeartbeats 1000000 in
theorem bytesEq_any (v u : Value) (xs ys : List Int) (S S2 : Nat → Prop) (w : World) (r : RdV w S v (.bytes xs)) (r2 : RdV w S2 u (.bytes ys)) :
  Calls Tryz.prog 131 #[v, u] w fun e w' => e = .returned (.bool (decide (xs = ys))) ∧ w' = w := by
 obtain ⟨a, cap, rfl, _, hx⟩ := r.b.reads
 obtain ⟨a2, cap2, rfl, _, hy⟩ := r2.b.reads
 have h1 := conv_any a xs xs.length cap w hx rfl
 have h2 := conv_any a2 ys ys.length cap2 w hy rfl
 have hst := str_eq xs ys hx.1 hy.1
 rw [← hst]
 generalize strOfNums xs = s1 at h1 hst
 generalize strOfNums ys = s2 at h2 hst
 clear hst hx hy r r2
 generalize xs.length = n1 at *
 generalize ys.length = n2 at *
 go_enter Tryz.func131, Tryz.ntmps131
 go_wp2
 go_ret
 exact ⟨rfl, rfl⟩
theorem nilB (w : World) (S : Nat → Prop) : RdV w S (.n0) (.bytes []) := ⟨isBytes_nil, none, 0, 0, rfl, rfl, ⟨Nat.le_refl _, Nat.zero_le _, fun _ => ⟨rfl, rfl⟩⟩, .inl rfl⟩
end
section
open Go.Maps Go.ChangeMaps Go.MapKept
theorem lawHd0 : WideMaps.KeyLaw Tryz.prog 27 := deep_law_laid laidHd (m := 3) (by omega) rowHd (by kernel_rfl) wideHd
theorem setBlock_twice (w : World) (b : Nat) (x y : Obj) : setBlock (setBlock w b x) b y = setBlock w b y := by
 unfold setBlock; simp

section
variable {α : Type} {V : α → Value → Prop} {w : World} {b s : Nat} {f : Hd → Option α}
theorem MapH.entry {t e : TypeId} (m : MapH V w b s f) (ht : Tryz.prog.underlying t = some (.map 27 e)) {z : Value} (hz : ∀ u : World, (zeroValue e).run Tryz.prog u = .ok z u) (hn : s < maxLen) {h : Hd} (hh : HIn h) :
  ∃ (v0 : Value) (st : Nat) (w1 : World), (Instr.mapEntry t (.map (some b)) h.v).run Tryz.prog w = .ok (.tuple #[v0, .int .i64 st]) w1 ∧ w.grownBy w1 (some b) ∧
   ∀ a v, V a v → ∃ w2, (Instr.entryStore t (.map (some b)) (.int .i64 st) v).run Tryz.prog w1 = .ok () w2 ∧ MapH V w2 b (if (f h).isSome then s else s + 1) (fun g => if g = h then some a else f g) ∧ w.grownBy w2 (some b) := by
 have m0 := m
 obtain ⟨D, ⟨es, clock, hb, F, hs, hD⟩, h1, h2⟩ := m
 obtain ⟨v0, st, es1, clock1, hE, _, hS⟩ := WideElems.entry_then_store lawHd0 ht hz hb F (keyHd hh)
 refine ⟨v0, st, _, hE, ⟨rfl, rfl, rfl, by simp [setBlock], fun i _ hi => heap_setBlock_other hb _ (fun e => hi (by rw [e]))⟩, fun a v hv => ?_⟩
 obtain ⟨es', clock', hE2, hU⟩ := hS _ v (heap_setBlock_same hb _)
 obtain ⟨w2, hrun, r1, r2⟩ := m0.put ht hn hh hv
 rw [hU] at hrun
 have he : setBlock w b (.map es' clock') = w2 := (Result.ok.inj hrun).2
 rw [setBlock_twice, he] at hE2
 exact ⟨w2, hE2, r1, r2⟩
theorem setBlock_self {w : World} {b : Nat} {o : Obj} (hb : w.heap[b]? = some o) : setBlock w b o = w := by
 unfold setBlock
 have h1 : w.heap.setIfInBounds b o = w.heap := by
  apply Array.ext_getElem?
  intro i
  rw [Array.getElem?_setIfInBounds]
  split
  ·rename_i h; subst h; split
   ·exact hb.symm
   ·rename_i h2; rw [Array.getElem?_eq_none (by omega)]
  ·rfl
 rw [h1]
theorem MapH.entryLook {t e : TypeId} (m : MapH V w b s f) (ht : Tryz.prog.underlying t = some (.map 27 e)) {z : Value} (hz : ∀ u : World, (zeroValue e).run Tryz.prog u = .ok z u) (hn : s < maxLen) {h : Hd} (hh : HIn h) {v0 v : Value} {w1 : World}
  (hE : (Instr.mapEntry t (.map (some b)) h.v).run Tryz.prog w = .ok v0 w1) (hL : (Instr.lookup t (.map (some b)) h.v false).run Tryz.prog w = .ok v w) : (Instr.lookup t (.map (some b)) h.v false).run Tryz.prog w1 = .ok v w1 := by
 obtain ⟨D, hD0, h1, h2⟩ := m
 have hD := hD0
 obtain ⟨es, clock, hb, F, hs, hDe⟩ := hD
 rcases lawHd0.find w (keyHd hh) es.toList F.keys with ⟨f1, f2⟩ | ⟨j, e0, f1, f2, f3⟩
 ·have hU : (Instr.mapUpdate t (.map (some b)) h.v z).run Tryz.prog w = .ok () w1 := by
   simp [Instr.mapEntry, run_underlying ht, MapKept.run_getObj_map hb, lawHd0.check w false (keyHd hh), f1, hz, MapKept.run_setObj_map _ hb, Result.andThen] at hE
   simp [Instr.mapUpdate, run_underlying ht, MapKept.run_getObj_map hb, lawHd0.check w false (keyHd hh), f1, MapKept.run_setObj_map _ hb, Result.andThen, hE.2]
  have hv : v = z := by
   simp [Instr.lookup, run_underlying ht, MapKept.run_getObj_map hb, lawHd0.check w es.isEmpty (keyHd hh), f1, hz, Result.andThen] at hL
   exact hL.symm
  obtain ⟨w', hrun, ho, _⟩ := hD0.update lawHd ht hn (keyHd hh) (d := .held z) (ps := []) rfl
  rw [hU] at hrun
  have he : w1 = w' := (Result.ok.inj hrun).2
  subst he
  obtain ⟨u, ps, hr, hR⟩ := ho.lookup lawHd ht (hz _) (zd := .held z) (zp := []) rfl (keyHd hh)
  have hty := hD0.tidy lawHd
  rw [Maps.atKey_put_same hty.isMap (lawHd.key (keyHd hh))] at hR
  simp only [tokR, Option.some.injEq, Prod.mk.injEq] at hR
  rw [hr, hv, DataW.held.inj hR.1]
 ·have hj : es[j]? = some e0 := by simpa using f2
  have hsame : es.modify j (fun e => { e with key := h.v }) = es := by
   apply Array.ext'
   rw [Array.toList_modify, modify_eq_set _ _ _ _ f2]
   have : ({ e0 with key := h.v } : MapEntry) = e0 := by rw [← f3]
   rw [this]
   exact WideElems.set_self _ _ _ f2
  have hw : w1 = setBlock w b (.map es clock) := by
   simp [Instr.mapEntry, run_underlying ht, MapKept.run_getObj_map hb, lawHd0.check w false (keyHd hh), f1, hj, f3, lawHd0.stays w (keyHd hh), hsame, MapKept.run_setObj_map _ hb, Result.andThen] at hE
   exact hE.2.symm
  rw [setBlock_self hb] at hw
  rw [hw]; exact hL
end
end
end Go.Proofs.YtcicadfhfojdpaaGreat
