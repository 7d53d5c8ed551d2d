/- Joined: SpecD17 DW5 DW6 IC26 DP1 DP2 DP3 DP4 DP5 DP6 IC27a IC27b. -/
import Derived.Test.YtcicadfhfojdpaaGreatRSpecD16k0
import Derived.Test.YtcicadfhfojdpaaGreatRSpecD16k1
import Derived.Test.YtcicadfhfojdpaaGreatRSpecD16k2
import Derived.Test.YtcicadfhfojdpaaGreatRSpecD16k3
import Derived.Test.YtcicadfhfojdpaaGreatRSpecD16k4
import Derived.Test.YtcicadfhfojdpaaGreatRSpecD16k5
import Derived.Test.YtcicadfhfojdpaaGreatRSpecD16k6
import Derived.Test.YtcicadfhfojdpaaGreatRA05
import Derived.Test.YtcicadfhfojdpaaGreatRSpecT6
import Derived.Test.YtcicadfhfojdpaaGreatROpOks
import Derived.Test.YtcicadfhfojdpaaGreatRA02
import Derived.Test.YtcicadfhfojdpaaGreatRIC25
import Derived.Test.YtcicadfhfojdpaaGreatRA01

namespace Go.Proofs.YtcicadfhfojdpaaGreat
open Go.RowKit
set_option linter.unusedVariables false
set_option linter.unusedSimpArgs false
set_option maxRecDepth 100000
section
theorem treeOk_at {l : List Nd} (h : treeOk l = true) {i : Nat} (hi : i < l.length) : nodeT l i = true := by
 unfold treeOk at h
 rw [Bool.and_eq_true] at h
 exact (List.all_eq_true.1 h.2) i (by simpa using hi)
theorem treeOk_len {l : List Nd} (h : treeOk l = true) : 1 ≤ l.length ∧ l.length ≤ 240 := by
 unfold treeOk headT at h
 simp only [Bool.and_eq_true, decide_eq_true_eq] at h
 exact h.1.1
theorem ndOk_small {n : Nd} (h : ndOk n = true) : n.es.length ≤ 12 ∧ 1 ≤ n.links ∧ n.links ≤ 2147483647 := by
 unfold ndOk baseOk at h
 simp only [Bool.and_eq_true, decide_eq_true_eq] at h
 omega
theorem nodeT_parts {l : List Nd} {i : Nat} (h : nodeT l i = true) : ndOk (l[i]?.getD nd0) = true ∧ (i = 0 ∨ lessH (l[i - 1]?.getD nd0).h (l[i]?.getD nd0).h = true) ∧ (∀ e ∈ (l[i]?.getD nd0).es, entLead l (l[i]?.getD nd0) e = true) ∧ tailT l (l[i]?.getD nd0) = true := by
 unfold nodeT at h
 simp only [Bool.and_eq_true, Bool.or_eq_true, decide_eq_true_eq, List.all_eq_true] at h
 exact ⟨h.1, h.2.1, h.2.2.1, h.2.2.2⟩
theorem treeOk_small {l : List Nd} (h : treeOk l = true) : Small l := by
 refine ⟨by have := (treeOk_len h).2; omega, fun i => ?_⟩
 by_cases hi : i < l.length
 ·have := ndOk_small (nodeT_parts (treeOk_at h hi)).1
  omega
 ·rw [List.getElem?_eq_none (by omega)]
  simp [nd0]
theorem treeOk_in {l : List Nd} (h : treeOk l = true) (i j : Nat) (hi : i < l.length) (hj : j < (l[i]?.getD nd0).es.length) : fi l ((l[i]?.getD nd0).es[j]?.getD en0).h < l.length := by
 have h3 := (nodeT_parts (treeOk_at h hi)).2.2.1 _ (List.getElem_mem hj)
 unfold entLead at h3
 simp only [Bool.and_eq_true, decide_eq_true_eq] at h3
 rw [List.getElem?_eq_getElem hj]
 exact h3.1
theorem OOk_kind {o : OpD} (h : OOk o = true) : 0 ≤ o.kind ∧ o.kind ≤ 7 := by
 unfold OOk at h
 simp only [Bool.and_eq_true, decide_eq_true_eq] at h
 exact h.1.1
theorem specL4do_any (tb lo : Nat) (o : OpD) (fr : Hd) (y z : Value) (l : List Nd) (S2 L : Nat → Prop) (w : World) (tv : TV w tb lo L l) (hLt : ¬ L tb) (hLn : ∀ b, w.heap.size ≤ b → L b) (hlo : lo ≤ w.heap.size) (htbl : lo ≤ tb) (ht : treeOk l = true) (hsz : szNds l ≤ 2097152) (r1 : RdV w S2 y (.bytes o.nm)) (r2 : RdV w S2 z (.bytes o.asn)) (hS2 : ∀ b, S2 b → b < lo) (hn1 : o.nm.length ≤ 2097152) (hn2 : o.asn.length ≤ 2097152) (hk : 0 ≤ o.kind ∧ o.kind ≤ 7) :
  Calls Tryz.prog 62 #[.pointer (some ⟨tb, 0, none⟩), opV o y z, fr.v] w (DoPost w tb lo L (doD l o fr)) := by
 have h0 : 0 < l.length := (treeOk_len ht).1
 have sm := treeOk_small ht
 have hin := treeOk_in ht
 rcases kinds hk.1 hk.2 with h | h | h | h | h | h | h | h
 ·exact specDo0 tb lo o fr y z l S2 L w tv hLt hLn h0 hlo htbl sm hsz r1 r2 hS2 hn1 hn2 hin h
 ·exact specDo1 tb lo o fr y z l S2 L w tv hLt hLn h0 hlo htbl sm hsz r1 r2 hS2 hn1 hn2 hin h
 ·exact specDo2 tb lo o fr y z l S2 L w tv hLt hLn h0 hlo htbl sm hsz r1 r2 hS2 hn1 hn2 hin h
 ·exact specDo3 tb lo o fr y z l S2 L w tv hLt hLn h0 hlo htbl sm hsz r1 r2 hS2 hn1 hn2 hin h
 ·exact specDo4 tb lo o fr y z l S2 L w tv hLt hLn h0 hlo htbl sm hsz r1 r2 hS2 hn1 hn2 hin h
 ·exact specDo5 tb lo o fr y z l S2 L w tv hLt hLn h0 hlo htbl sm hsz r1 r2 hS2 hn1 hn2 hin h
 ·exact specDo6 tb lo o fr y z l S2 L w tv hLt hLn h0 hlo htbl sm hsz r1 r2 hS2 hn1 hn2 hin h
 ·exact specDo7 tb lo o fr y z l S2 L w tv hLt hLn h0 hlo htbl sm hsz r1 r2 hS2 hn1 hn2 hin h
def badFr (l : List Nd) (o : OpD) (fr : Hd) : Bool := !HOk fr || (decide (fr.sh ≠ o.to.sh) || (decide (fr.dir ≠ o.to.dir) || (decide (fi l fr < l.length) || (decide (fi l (fr.sh, fr.ino, !fr.dir) < l.length) || decide (240 ≤ l.length)))))
def dO (l : List Nd) (o : OpD) (fr : Hd) : List Nd × RpD :=
 if (treeOk l && OOk o) = true then (if o.kind = 4 ∧ badFr l o fr = true then (l, rc 11) else doD l o fr) else ([], rc 11)
end
section
def NP (c : Nat) (n : Nd) : Prop := HdR n.h ∧ n.es.length ≤ c ∧ ∀ e ∈ n.es, e.nm.length ≤ 6 ∧ HdR e.h
def AllN (c : Nat) (l : List Nd) : Prop := ∀ n ∈ l, NP c n
theorem NP.up {c c' : Nat} {n : Nd} (h : NP c n) (hc : c ≤ c') : NP c' n := ⟨h.1, Nat.le_trans h.2.1 hc, h.2.2⟩
theorem AllN.up {c c' : Nat} {l : List Nd} (h : AllN c l) (hc : c ≤ c') : AllN c' l := fun n hn => (h n hn).up hc
theorem hdR_ok {h : Hd} (k : HOk h = true) : HdR h := by
 unfold HOk at k
 simp only [Bool.and_eq_true, decide_eq_true_eq] at k
 exact ⟨k.1, k.2.1, by omega, by omega⟩
theorem getD_mem {l : List Nd} {i : Nat} (hi : i < l.length) : l[i]?.getD nd0 ∈ l := by rw [List.getElem?_eq_getElem hi]; exact List.getElem_mem hi
theorem AllN.at {c : Nat} {l : List Nd} (h : AllN c l) {i : Nat} (hi : i < l.length) : NP c (l[i]?.getD nd0) := h _ (getD_mem hi)
theorem AllN.set {c : Nat} {l : List Nd} {n : Nd} (h : AllN c l) (hn : NP c n) (d : Nat) : AllN c (l.set d n) := fun m hm => by
 rcases List.mem_or_eq_of_mem_set hm with h1 | h1
 ·exact h m h1
 ·rw [h1]; exact hn
theorem treeOk_all {l : List Nd} (h : treeOk l = true) : AllN 12 l := fun n hn => by
 obtain ⟨i, hi, rfl⟩ := List.getElem_of_mem hn
 have p := nodeT_parts (treeOk_at h hi)
 rw [List.getElem?_eq_getElem hi] at p
 have p1 : ndOk l[i] = true := p.1
 have hb : baseOk l[i] = true ∧ (if l[i].h.dir then dirOk l[i] && entsOk l[i].es else fileOk l[i]) = true := by
  unfold ndOk at p1; rw [Bool.and_eq_true] at p1; exact p1
 have hh : HOk l[i].h = true := by
  have := hb.1; unfold baseOk at this; rw [Bool.and_eq_true] at this; exact this.1
 refine ⟨hdR_ok hh, (ndOk_small p1).1, fun e he => ?_⟩
 have h2 := hb.2
 by_cases hd : l[i].h.dir = true
 ·rw [if_pos hd, Bool.and_eq_true] at h2
  have h3 := h2.2
  unfold entsOk at h3
  obtain ⟨j, hj, rfl⟩ := List.getElem_of_mem he
  have h4 := (List.all_eq_true.1 h3) j (by simpa using hj)
  unfold entOk at h4
  rw [List.getElem?_eq_getElem hj] at h4
  simp only [Bool.and_eq_true] at h4
  have h5 : isNm l[i].es[j].nm = true := h4.1
  have h6 : HOk l[i].es[j].h = true := h4.2.1
  refine ⟨?_, hdR_ok h6⟩
  unfold isNm at h5
  simp only [Bool.and_eq_true, decide_eq_true_eq] at h5
  omega
 ·rw [if_neg hd] at h2
  unfold fileOk at h2
  simp only [Bool.and_eq_true, decide_eq_true_eq] at h2
  have : l[i].es = [] := List.eq_nil_of_length_eq_zero h2.1
  rw [this] at he
  cases he
theorem np_add {c : Nat} {n : Nd} (h : NP c n) (nm : List Int) (hnm : nm.length ≤ 6) {x : Hd} (hx : HdR x) : NP (c + 1) (n.setEs (addE n.es nm x)) := by
 refine ⟨h.1, ?_, fun e he => ?_⟩
 ·show (addE n.es nm x).length ≤ c + 1
  unfold addE
  have := h.2.1
  simp
  omega
 ·have he' : e ∈ addE n.es nm x := he
  unfold addE at he'
  rcases List.mem_append.1 he' with h1 | h1
  ·rcases List.mem_append.1 h1 with h2 | h2
   ·exact h.2.2 e (List.mem_of_mem_take h2)
   ·simp only [List.mem_cons, List.not_mem_nil, or_false] at h2
    rw [h2]; exact ⟨hnm, hx⟩
  ·exact h.2.2 e (List.mem_of_mem_drop h1)
theorem np_cut {c : Nat} {n : Nd} (h : NP c n) (e : Nat) : NP c (n.setEs (cutE n.es e)) := by
 refine ⟨h.1, Nat.le_trans (length_cutE _ _) h.2.1, fun x hx => ?_⟩
 have hx' : x ∈ cutE n.es e := hx
 unfold cutE at hx'
 rcases List.mem_append.1 hx' with h1 | h1
 ·exact h.2.2 x (List.mem_of_mem_take h1)
 ·exact h.2.2 x (List.mem_of_mem_drop h1)
theorem all_cut {c : Nat} {l : List Nd} (h : AllN c l) (d e : Nat) (hd : d < l.length) : AllN c (cutN l d e) := h.set (np_cut (h.at hd) e) d
theorem all_add {c : Nat} {l : List Nd} (h : AllN c l) (d : Nat) (hd : d < l.length) (nm : List Int) (hnm : nm.length ≤ 6) {x : Hd} (hx : HdR x) : AllN (c + 1) (addN l d nm x) := (h.up (Nat.le_succ c)).set (np_add (h.at hd) nm hnm hx) d
theorem NP.lk {c : Nat} {n : Nd} (h : NP c n) (k : Int) : NP c (n.setLk k) := h
theorem NP.par {c : Nat} {n : Nd} (h : NP c n) (k : Hd) : NP c (n.setPar k) := h
theorem NP.val {c : Nat} {n : Nd} (h : NP c n) (k : Int) : NP c (n.setVal k) := h
theorem all_lk {c : Nat} {l : List Nd} (h : AllN c l) (d : Nat) (hd : d < l.length) (k : Int) : AllN c (lkN l d k) := h.set ((h.at hd).lk _) d
theorem all_par {c : Nat} {l : List Nd} (h : AllN c l) (d : Nat) (hd : d < l.length) (k : Hd) : AllN c (parN l d k) := h.set ((h.at hd).par _) d
theorem all_val {c : Nat} {l : List Nd} (h : AllN c l) (d : Nat) (hd : d < l.length) (k : Int) : AllN c (valN l d k) := h.set ((h.at hd).val _) d
theorem all_out {c : Nat} {l : List Nd} (h : AllN c l) (k : Nat) : AllN c (outN l k) := fun n hn => by
 unfold outN at hn
 rcases List.mem_append.1 hn with h1 | h1
 ·exact h n (List.mem_of_mem_take h1)
 ·exact h n (List.mem_of_mem_drop h1)
theorem all_ins {c : Nat} {l : List Nd} (h : AllN c l) {n : Nd} (hn : NP c n) : AllN c (insN l n) := fun m hm => by
 unfold insN at hm
 rcases List.mem_append.1 hm with h1 | h1
 ·rcases List.mem_append.1 h1 with h2 | h2
  ·exact h m (List.mem_of_mem_take h2)
  ·simp only [List.mem_cons, List.not_mem_nil, or_false] at h2
   rw [h2]; exact hn
 ·exact h m (List.mem_of_mem_drop h1)
theorem sum_le {α : Type} (f : α → Nat) (c : Nat) : ∀ (l : List α), (∀ a ∈ l, f a ≤ c) → (l.map f).sum ≤ l.length * c
 | [], _ => by simp
 | a :: r, h => by
  have h1 := sum_le f c r (fun b hb => h b (List.mem_cons_of_mem _ hb))
  have h2 := h a (List.mem_cons_self ..)
  simp only [List.map_cons, List.sum_cons, List.length_cons, Nat.add_mul, Nat.one_mul]
  omega
theorem sz_all {l : List Nd} (h : AllN 13 l) (hl : l.length ≤ 300) : szNds l ≤ 40000 := by
 have h1 : ∀ n ∈ l, szEns n.es ≤ 91 := fun n hn => by
  have h2 := h n hn
  have h3 := sum_le (fun e : En => e.nm.length) 6 n.es (fun e he => (h2.2.2 e he).1)
  have := h2.2.1
  unfold szEns
  omega
 have h4 := sum_le (fun n : Nd => szEns n.es) 91 l h1
 unfold szNds
 omega
theorem es_mem {n : Nd} {j : Nat} (hj : j < n.es.length) : n.es[j]?.getD en0 ∈ n.es := by rw [List.getElem?_eq_getElem hj]; exact List.getElem_mem hj
theorem length_lkN (l : List Nd) (d : Nat) (k : Int) : (lkN l d k).length = l.length := List.length_set
theorem length_valN (l : List Nd) (d : Nat) (k : Int) : (valN l d k).length = l.length := List.length_set
theorem length_insN (l : List Nd) (n : Nd) : (insN l n).length = l.length + 1 := by
 have : plN l n.h ≤ l.length := List.findIdx_le_length
 unfold insN; simp; omega
theorem length_outN (l : List Nd) (k : Nat) (hk : k < l.length) : (outN l k).length = l.length - 1 := by unfold outN; simp; omega
theorem moveD_all {l : List Nd} {o : OpD} {d : Nat} (h : AllN 12 l) (hd : d < l.length) (hin : ∀ j, j < (l[d]?.getD nd0).es.length → fi l ((l[d]?.getD nd0).es[j]?.getD en0).h < l.length) (ha : o.asn.length ≤ 6) : AllN 13 (moveD l o d).1 ∧ (moveD l o d).1.length = l.length := by
 have h13 : AllN 13 l := h.up (by omega)
 unfold moveD
 by_cases h1 : ei (l[d]?.getD nd0).es o.nm < (l[d]?.getD nd0).es.length
 ·rw [if_neg (fun k => k h1)]
  have hx : HdR ((l[d]?.getD nd0).es[ei (l[d]?.getD nd0).es o.nm]?.getD en0).h := ((h.at hd).2.2 _ (es_mem h1)).2
  have hk := hin _ h1
  generalize ((l[d]?.getD nd0).es[ei (l[d]?.getD nd0).es o.nm]?.getD en0).h = x at *
  generalize ei (l[d]?.getD nd0).es o.nm = e at *
  split
  ·exact ⟨h13, rfl⟩
  split
  ·exact ⟨h13, rfl⟩
  rename_i ht
  have ht' : fi l o.to < l.length := Classical.not_not.1 ht
  split
  ·split
   ·exact ⟨h13, rfl⟩
   ·exact ⟨all_add (all_cut h d e hd) d (by rw [length_cutN]; exact hd) _ ha hx, by rw [length_addN, length_cutN]⟩
  split
  ·exact ⟨h13, rfl⟩
  split
  ·split
   ·exact ⟨h13, rfl⟩
   split
   ·exact ⟨h13, rfl⟩
   ·exact ⟨all_add (all_cut (all_par h _ hk _) d e (by rw [length_parN]; exact hd)) _ (by rw [length_cutN, length_parN]; exact ht') _ ha hx, by rw [length_addN, length_cutN, length_parN]⟩
  ·exact ⟨all_add (all_cut h d e hd) _ (by rw [length_cutN]; exact ht') _ ha hx, by rw [length_addN, length_cutN]⟩
 ·rw [if_pos h1]; exact ⟨h13, rfl⟩
theorem dropD_all {l : List Nd} {d e : Nat} {x : Hd} (h : AllN 12 l) (hd : d < l.length) (hk : fi l x < l.length) (h2 : 2 ≤ l.length) : AllN 13 (dropD l d e x).1 ∧ 0 < (dropD l d e x).1.length ∧ (dropD l d e x).1.length ≤ l.length := by
 have h13 : AllN 13 l := h.up (by omega)
 unfold dropD
 split
 ·exact ⟨h13, by show 0 < l.length; omega, Nat.le_refl _⟩
 have hc := all_lk (all_cut h13 d e hd) (fi l x) (by rw [length_cutN]; exact hk) (-1)
 have hlen : (lkN (cutN l d e) (fi l x) (-1)).length = l.length := by rw [length_lkN, length_cutN]
 split
 ·refine ⟨all_out hc _, ?_, ?_⟩
  ·show 0 < (outN _ _).length; rw [length_outN _ _ (by rw [hlen]; exact hk), hlen]; omega
  ·show (outN _ _).length ≤ _; rw [length_outN _ _ (by rw [hlen]; exact hk), hlen]; omega
 ·exact ⟨hc, by show 0 < (lkN _ _ _).length; rw [hlen]; omega, by show (lkN _ _ _).length ≤ _; rw [hlen]; exact Nat.le_refl _⟩
end
section
theorem tree_two {l : List Nd} (h : treeOk l = true) {d j : Nat} (hd : d < l.length) (hj : j < (l[d]?.getD nd0).es.length) : 2 ≤ l.length := by
 by_cases h2 : 2 ≤ l.length
 ·exact h2
 ·exfalso
  have h1 : l.length = 1 := by have := (treeOk_len h).1; omega
  obtain ⟨n, rfl⟩ : ∃ n, l = [n] := by
   match l, h1 with
   | [n], _ => exact ⟨n, rfl⟩
  have hd0 : d = 0 := by simpa using hd
  subst hd0
  have hr : n.h = rootH := by
   unfold treeOk headT at h
   simp only [Bool.and_eq_true, decide_eq_true_eq] at h
   exact h.1.2.1
  have p := nodeT_parts (treeOk_at h (i := 0) (by simp))
  have hj' : j < n.es.length := hj
  have hl := p.2.2.1 n.es[j] (List.getElem_mem hj')
  unfold entLead at hl
  simp only [Bool.and_eq_true, decide_eq_true_eq] at hl
  have he : n.h = n.es[j].h := by
   have h3 := hl.1
   unfold fi at h3
   rw [List.findIdx_lt_length] at h3
   obtain ⟨m, hm, h4⟩ := h3
   simp only [List.mem_cons, List.not_mem_nil, or_false] at hm
   subst hm
   simpa using h4
  have ht := p.2.2.2
  have ht' : tailT [n] n = true := ht
  unfold tailT at ht'
  rw [if_pos hr] at ht'
  simp only [decide_eq_true_eq] at ht'
  have hc : 0 < cntE n.es n.h := by
   unfold cntE
   rw [List.countP_pos_iff]
   exact ⟨n.es[j], List.getElem_mem hj', by simp [he]⟩
  unfold cntH at ht'
  simp [psum] at ht'
  omega
def Sm (q : List Nd × RpD) : Prop := AllN 13 q.1 ∧ 0 < q.1.length ∧ q.1.length ≤ 241
theorem Sm.mk' {l : List Nd} (c : RpD) (h : AllN 13 l) (h0 : 0 < l.length) (h1 : l.length ≤ 241) : Sm (l, c) := ⟨h, h0, h1⟩
set_option maxHeartbeats 4000000 in
theorem doD_sm {l : List Nd} {o : OpD} {fr : Hd} (ht : treeOk l = true) (hfr : HdR fr) (hto : HdR o.to) (hn : o.nm.length ≤ 6) (ha : o.asn.length ≤ 6) : Sm (doD l o fr) := by
 have hall := treeOk_all ht
 have h13 : AllN 13 l := hall.up (by omega)
 have hlen := treeOk_len ht
 have hlp : ∀ c, Sm (l, c) := fun c => Sm.mk' c h13 (by omega) (by omega)
 unfold doD
 split
 ·split
  ·exact hlp _
  split
  ·exact hlp _
  rename_i hd
  have hd' := Classical.not_not.1 hd
  split
  ·exact Sm.mk' _ (all_val h13 _ hd' _) (by rw [length_valN]; omega) (by rw [length_valN]; omega)
  ·exact hlp _
 split
 ·exact hlp _
 split
 ·exact hlp _
 rename_i hd
 have hd' := Classical.not_not.1 hd
 generalize fi l o.dir = d at *
 split
 ·exact hlp _
 split
 ·have := moveD_all (o := o) hall hd' (fun j hj => treeOk_in ht d j hd' hj) ha
  exact Sm.mk' _ this.1 (by rw [this.2]; omega) (by rw [this.2]; omega)
 split
 ·split
  ·exact hlp _
  rename_i he
  have he' := Classical.not_not.1 he
  split
  ·exact hlp _
  ·have := dropD_all (e := ei (l[d]?.getD nd0).es o.nm) hall hd' (treeOk_in ht d _ hd' he') (tree_two ht hd' he')
   exact Sm.mk' _ this.1 this.2.1 (Nat.le_trans this.2.2 (by omega))
 split
 ·exact hlp _
 split
 ·have h4 := all_add (c := 12) hall d hd' o.nm hn hfr
  exact Sm.mk' _ (all_ins h4 ⟨hfr, Nat.zero_le _, fun e he => by cases he⟩) (by rw [length_insN]; omega) (by rw [length_insN, length_addN]; omega)
 split
 ·exact hlp _
 split
 ·exact hlp _
 rename_i hk
 have hk' := Classical.not_not.1 hk
 exact Sm.mk' _ (all_add (c := 12) (all_lk hall _ hk' 1) d (by rw [length_lkN]; exact hd') o.nm hn hto) (by rw [length_addN, length_lkN]; omega) (by rw [length_addN, length_lkN]; omega)
theorem dO_sm {l : List Nd} {o : OpD} {fr : Hd} (hc : (dO l o fr).2.code = 0) (hfr : HdR fr) (hto : HdR o.to) (hn : o.nm.length ≤ 6) (ha : o.asn.length ≤ 6) : Sm (dO l o fr) := by
 unfold dO at hc ⊢
 by_cases h1 : (treeOk l && OOk o) = true
 case neg => rw [if_neg h1] at hc; exact absurd (show (11 : Int) = 0 from hc) (by decide)
 rw [if_pos h1] at hc ⊢
 rw [Bool.and_eq_true] at h1
 by_cases h2 : o.kind = 4 ∧ badFr l o fr = true
 case pos => rw [if_pos h2] at hc; exact absurd (show (11 : Int) = 0 from hc) (by decide)
 rw [if_neg h2]
 exact doD_sm h1.1 hfr hto hn ha
end
section
open Go.Maps
def DSub (W : World) (b : Nat) (P : Nat → Prop) (res : (Hd → Option Nd) × Nat × RpD) (e : Ending) (w' : World) : Prop :=
 ∃ a n c, ∃ (R P' : Nat → Prop), e = .returned (rpV res.2.2 (.slice a n c)) ∧ OwV w' R (.slice a n c) (ensDt res.2.2.list) ∧ NM w' b res.2.1 res.1 P' ∧ (∀ c, R c → ¬ P' c) ∧ (∀ c, R c → W.heap.size ≤ c ∧ c < w'.heap.size) ∧ (∀ c, P' c → P c ∨ W.heap.size ≤ c) ∧ Turned P W w'
theorem DSub.of {W w' : World} {b : Nat} {P : Nat → Prop} {res : (Hd → Option Nd) × Nat × RpD} {e : Ending} (h : MPost W b P res e w') : DSub W b P res e w' := by
 obtain ⟨z, he, ho, rfl, N, t⟩ := h
 by_cases hl : res.2.2.list = []
 ·exact ⟨none, 0, 0, fun _ => False, _, he, by rw [hl]; exact OwV.nilR _ _ _ _ _, N, fun c hc => hc.elim, fun c hc => hc.elim, fun c hc => by rcases hc with hc | hc; exact .inl hc; exact .inr hc.1, t⟩
 ·refine ⟨none, 0, 0, fun c => False, P, he, ?_, N.mono (fun c hc => by rcases hc with hc | hc; exact hc; exact absurd hc.2.2 hl) (fun c hc => N.sm c (.inl hc)), fun c hc => hc.elim, fun c hc => hc.elim, fun c hc => .inl hc, t⟩
  obtain ⟨V, C, Qs, h1, hS, h3, h4, h5, h6⟩ := OwV.inv ho
  rcases h1.2 with ⟨_, h0⟩ | ⟨g, c, cur, hv, _⟩
  ·exact absurd (List.eq_nil_of_length_eq_zero h0) hl
  ·cases hv
theorem DSub.ret {w W w1 w2 : World} {b rb : Nat} {P : Nat → Prop} {res : (Hd → Option Nd) × Nat × RpD} {a : Option Addr} {n c : Nat} {R P' : Nat → Prop} (hb : Below w.heap.size w W) (ho : OwV w1 R (.slice a n c) (ensDt res.2.2.list)) (N : NM w1 b res.2.1 res.1 P') (hd : ∀ c, R c → ¬ P' c) (hR : ∀ c, R c → W.heap.size ≤ c ∧ c < w1.heap.size) (hP' : ∀ c, P' c → P c ∨ W.heap.size ≤ c) (t : Turned P W w1)
  (t2 : Turned (fun c => c = rb) w1 w2) (h1 : w.heap.size ≤ rb) (h2 : rb < W.heap.size) (hP : ∀ c, P c → c < w.heap.size) : DSub w b P res (.returned (rpV res.2.2 (.slice a n c))) w2 := by
 have s1 := hb.size
 have s2 := t.size
 have s3 := t2.size
 refine ⟨a, n, c, R, P', rfl, OwV.keep (t2.keeps (fun c hc e => by have := (hR c hc).1; omega)) ho, N.keep (t2.keeps (fun c hc e => by subst e; rcases hP' _ hc with h | h; (have := hP _ h; omega); omega)), hd, fun c hc => ⟨by have := (hR c hc).1; omega, by have := (hR c hc).2; omega⟩, fun c hc => by rcases hP' c hc with h | h; exact .inl h; exact .inr (by omega), ?_⟩
 exact Turned.past ((Turned.ofBelow hb).trans t) t2 h1
theorem NX.same {w w' : World} {b s : Nat} {f : Hd → Option Nd} {X : Hd → Value} {Q : Hd → Nat → Prop} {P : Nat → Prop} (N : NX w b s f X Q P) {g : Hd} {n n' : Nd} (hf : f g = some n) (hes : n'.es = n.es) (hn : n'.h = g) (M : MapH (ndX X) w' b s (setN f g n')) (t : Turned (fun c => c = b) w w') : NX w' b s (setN f g n') X Q P := by
 have hk : ∀ h m, setN f g n' h = some m → ∃ k, f h = some k ∧ k.es = m.es := by
  intro h m hm
  unfold setN at hm
  by_cases x : h = g
  ·rw [if_pos x] at hm; obtain rfl := Option.some.inj hm; subst x; exact ⟨n, hf, hes.symm⟩
  ·rw [if_neg x] at hm; exact ⟨m, hm, rfl⟩
 refine ⟨M, setN_key N.key hn, ?_, ?_, ?_, N.bP, fun c hc => Nat.lt_of_lt_of_le (N.small c hc) t.size⟩
 ·intro h m hm
  obtain ⟨k, e, e2⟩ := hk h m hm
  rw [← e2]
  exact OwV.keep (t.keeps (fun c hc x => (N.inP h k c e hc).2 x)) (N.own h k e)
 ·intro h m c hm hc
  obtain ⟨k, e, _⟩ := hk h m hm
  exact N.inP h k c e hc
 ·intro h h' m m' c hm hm' hc hc'
  obtain ⟨k, e, _⟩ := hk h m hm
  obtain ⟨k', e', _⟩ := hk h' m' hm'
  exact N.apart h h' k k' c e e' hc hc'
def lookF (f : Hd → Option Nd) (s : Nat) (o : OpD) : (Hd → Option Nd) × Nat × RpD := (f, s, if fdB ((f o.dir).getD nd0).es o.nm = true then ⟨0, fdH ((f o.dir).getD nd0).es o.nm, 0, []⟩ else ⟨3, hd0, 0, []⟩)
def writeF (f : Hd → Option Nd) (s : Nat) (o : OpD) : (Hd → Option Nd) × Nat × RpD := (setN f o.dir { (f o.dir).getD nd0 with val := o.val }, s, rp0)
theorem lookD (b s : Nat) (f : Hd → Option Nd) (o : OpD) (n : Nd) (y : Value) (za : Option Addr) (zn zc : Nat) (S2 P : Nat → Prop) (w : World) (N : NM w b s f P) (hin : HIn o.dir) (hf : f o.dir = some n) (r2 : RdV w S2 y (.bytes o.nm)) (hl : n.es.length ≤ 4000) :
  Calls Tryz.prog 86 #[.map (some b), opV o y (.slice za zn zc)] w (DSub w b P (lookF f s o)) := by
 have NM' := N
 obtain ⟨X, Q, N⟩ := N
 refine (look_any b s f X o y za zn zc P S2 w N.m hin N.rd r2 (by rw [hf]; exact Nat.le_trans hl (by omega))).mono ?_
 rintro e w' ⟨he, hb⟩
 refine ⟨none, 0, 0, fun _ => False, P, he, ?_, NM'.step hb, fun c hc => hc.elim, fun c hc => hc.elim, fun c hc => .inl hc, Turned.ofBelow hb⟩
 have : (lookF f s o).2.2.list = [] := by unfold lookF; dsimp only; split <;> rfl
 rw [this]
 exact OwV.nilR _ _ _ _ _
theorem writeD (b s : Nat) (f : Hd → Option Nd) (o : OpD) (n : Nd) (ya za : Option Addr) (yn yc zn zc : Nat) (P : Nat → Prop) (w : World) (N : NM w b s f P) (hin : HIn o.dir) (hf : f o.dir = some n) (hs : s ≤ 2097000) :
  Calls Tryz.prog 87 #[.map (some b), opV o (.slice ya yn yc) (.slice za zn zc)] w (DSub w b P (writeF f s o)) := by
 obtain ⟨X, Q, N⟩ := N
 obtain ⟨a, c, hx, _⟩ := RdV.sliced (OwV.rd (N.own _ n hf))
 refine (write_any b s f X o ya za yn yc zn zc n w N.m N.key hin hf ⟨a, _, c, hx⟩ (by omega)).mono ?_
 rintro e w' ⟨he, M, t⟩
 refine ⟨none, 0, 0, fun _ => False, P, he, OwV.nilR _ _ _ _ _, ⟨X, Q, ?_⟩, fun c hc => hc.elim, fun c hc => hc.elim, fun c hc => .inl hc, t.wide (fun c e => by rw [e]; exact N.bP)⟩
 show NX w' b s (setN f o.dir { (f o.dir).getD nd0 with val := o.val }) X Q P
 rw [hf]
 exact N.same hf rfl (N.key _ n hf) M t
structure FOk (f : Hd → Option Nd) : Prop where
 len : ∀ g t, f g = some t → t.es.length ≤ 4000 ∧ HIn t.par
 lks : ∀ g t, f g = some t → 0 ≤ t.links ∧ t.links ≤ 2147483647
 sz : ∀ g t, f g = some t → szEns t.es ≤ 2097152
 ent : ∀ g t nm, f g = some t → fdB t.es nm = true → ∃ t', f (fdH t.es nm) = some t' ∧ HIn (fdH t.es nm)
 add : ∀ g t h nm, isNm nm = true → f g = some t → fdB t.es nm = false → (t.es ++ [En.mk nm h]).Perm (addE t.es nm h) ∧ (addE t.es nm h).Pairwise (fun a b => cmpB a.nm b.nm < 0)
 add2 : ∀ g t h nm nm2, isNm nm = true → f g = some t → fdB t.es nm = false → ((outE t.es nm2) ++ [En.mk nm h]).Perm (addE (outE t.es nm2) nm h) ∧ (addE (outE t.es nm2) nm h).Pairwise (fun a b => cmpB a.nm b.nm < 0)
theorem room0 {f : Hd → Option Nd} {g : Hd} {t : Nd} {nm : List Int} (hf : f g = some t) (h : roomI f g nm = 0) : fdB t.es nm = false := by
 unfold roomI at h
 rw [hf] at h
 simp only [Option.getD_some] at h
 cases hb : fdB t.es nm with
 | false => rfl
 | true => rw [hb] at h; simp at h
theorem makeD (b s : Nat) (f : Hd → Option Nd) (o : OpD) (hq : isNm o.nm = true) (fr : Hd) (n : Nd) (y : Value) (za : Option Addr) (zn zc : Nat) (S2 P : Nat → Prop) (w : World) (N : NM w b s f P) (ok : FOk f) (hin : HIn o.dir) (hfr : HIn fr) (hf : f o.dir = some n) (hnew : f fr = none) (r2 : RdV w S2 y (.bytes o.nm)) (hS2 : ∀ c, S2 c → ¬ P c) (hnm : o.nm.length ≤ 2097152) (hs : s ≤ 2097000) :
  Calls Tryz.prog 88 #[.map (some b), opV o y (.slice za zn zc), fr.v] w (DSub w b P (makeF f s o fr)) :=
 (makeNode_any b s f o fr n y za zn zc S2 P w N hin hfr hf hnew r2 hS2 (ok.len _ n hf).1 hnm hs (fun h => ok.add _ n fr o.nm hq hf (room0 hf h))).mono (fun _ _ h => DSub.of h)
theorem linkD (b s : Nat) (f : Hd → Option Nd) (o : OpD) (hq : isNm o.nm = true) (n : Nd) (y : Value) (za : Option Addr) (zn zc : Nat) (S2 P : Nat → Prop) (w : World) (N : NM w b s f P) (ok : FOk f) (hin : HIn o.dir) (hito : HIn o.to) (hf : f o.dir = some n) (hdd : o.dir.dir = true) (r2 : RdV w S2 y (.bytes o.nm)) (hS2 : ∀ c, S2 c → ¬ P c) (hnm : o.nm.length ≤ 2097152) (hs : s ≤ 2097000) :
  Calls Tryz.prog 90 #[.map (some b), opV o y (.slice za zn zc)] w (DSub w b P (linkF f s o)) :=
 (link_any b s f o n y za zn zc S2 P w N hin hito hf hdd r2 hS2 (ok.len _ n hf).1 hnm hs (fun t ht => by have := ok.lks _ t ht; omega) (fun h => ok.add _ n o.to o.nm hq hf (room0 hf h))).mono (fun _ _ h => DSub.of h)
theorem dropD_ (b s : Nat) (f : Hd → Option Nd) (o : OpD) (n : Nd) (y : Value) (za : Option Addr) (zn zc : Nat) (S2 P : Nat → Prop) (w : World) (N : NM w b s f P) (ok : FOk f) (hin : HIn o.dir) (hf : f o.dir = some n) (r2 : RdV w S2 y (.bytes o.nm)) (hS2 : ∀ c, S2 c → ¬ P c) (hs : s ≤ 2097000) :
  Calls Tryz.prog 89 #[.map (some b), opV o y (.slice za zn zc)] w (DSub w b P (dropF f s o)) :=
 (drop_any b s f o n y za zn zc S2 P w N hin hf r2 hS2 (ok.len _ n hf).1 hs (ok.ent _ n o.nm hf) ok.lks).mono (fun _ _ h => DSub.of h)
theorem moveD_ (b s : Nat) (f : Hd → Option Nd) (o : OpD) (hq : isNm o.asn = true) (n : Nd) (y z : Value) (S2 P : Nat → Prop) (w : World) (N : NM w b s f P) (ok : FOk f) (hin : HIn o.dir) (hito : HIn o.to) (hf : f o.dir = some n) (r2 : RdV w S2 y (.bytes o.nm)) (r3 : RdV w S2 z (.bytes o.asn)) (hS2 : ∀ c, S2 c → ¬ P c) (hSb : ∀ c, S2 c → c < w.heap.size) (hs : s ≤ 2097000) (hna : o.asn.length ≤ 2097152) :
  Calls Tryz.prog 91 #[.map (some b), opV o y z] w (DSub w b P (moveF f s o)) := by
 refine (move_any b s f o n y z S2 P w N hin hito hf r2 r3 hS2 hSb (ok.len _ n hf).1 hs hna ok.len (ok.ent _ n o.nm hf) ?_).mono (fun _ _ h => DSub.of h)
 intro h1 h2 n2 hn2
 unfold setN at hn2
 by_cases x : o.to = o.dir
 ·rw [if_pos x] at hn2
  obtain rfl := Option.some.inj hn2
  refine ok.add2 _ n _ _ _ hq hf ?_
  unfold moveI at h2
  rw [x, hf] at h2
  cases hb : fdB n.es o.asn with
  | false => rfl
  | true =>
   simp only [Option.getD_some, Option.isSome_some, hb, if_true] at h2
   by_cases hd : o.dir.dir = false
   ·rw [if_pos hd] at h2; omega
   ·rw [if_neg hd, if_neg (by simp)] at h2; omega
 ·rw [if_neg x] at hn2
  refine ok.add _ n2 _ _ hq hn2 ?_
  unfold moveI at h2
  by_cases hd : o.to.dir = false
  ·rw [if_pos hd] at h2; omega
  ·rw [if_neg hd, if_neg (by rw [hn2]; simp), if_neg x] at h2
   by_cases hr : roomI f o.to o.asn = 0
   ·exact room0 hn2 hr
   ·rw [if_pos (.inl hr)] at h2; exact absurd h2 hr
def doF2 (f : Hd → Option Nd) (s : Nat) (o : OpD) (fr : Hd) : (Hd → Option Nd) × Nat × RpD :=
 if o.kind = 0 then lookF f s o else if o.kind = 1 then (f, s, ⟨0, hd0, 0, ((f o.dir).getD nd0).es⟩) else if o.kind = 2 then (f, s, ⟨0, hd0, ((f o.dir).getD nd0).val, []⟩) else if o.kind = 3 then writeF f s o else
 if o.kind = 4 then makeF f s o fr else if o.kind = 5 then dropF f s o else if o.kind = 6 then linkF f s o else moveF f s o
def doF (f : Hd → Option Nd) (s : Nat) (o : OpD) (fr : Hd) : (Hd → Option Nd) × Nat × RpD :=
 if o.kind = 4 ∧ takesB fr o.to (f (fr.sh, fr.ino, false)).isSome (f (fr.sh, fr.ino, true)).isSome s = false then (f, s, rcI 11) else
 if dirC o.kind o.dir.dir (f o.dir).isSome ≠ 0 then (f, s, rcI (dirC o.kind o.dir.dir (f o.dir).isSome)) else
 doF2 f s o fr
end
section
open Go.RowKit Go.Sort
theorem geS_cmp (a b : List Int) : geS a b = false ↔ cmpB a b < 0 := by
 have h := cmpB_ge a b
 constructor
 ·intro e; rw [e] at h; have := of_decide_eq_false h; omega
 ·intro e; rw [← h]; exact decide_eq_false (by omega)
theorem low_byte {c : Int} (h : isLow c = true) : 97 ≤ c ∧ c ≤ 122 := by
 simp [isLow] at h
 omega
theorem bytesOf_inj : ∀ {xs ys : List Int}, xs.all isLow = true → ys.all isLow = true → Lib.bytesOf xs = Lib.bytesOf ys → xs = ys
 | [], [], _, _, _ => rfl
 | [], _ :: _, _, _, h => by simp [Lib.bytesOf] at h
 | _ :: _, [], _, _, h => by simp [Lib.bytesOf] at h
 | x :: xs, y :: ys, hx, hy, h => by
  simp only [List.all_cons, Bool.and_eq_true] at hx hy
  simp only [Lib.bytesOf, List.map_cons, List.cons.injEq] at h
  have h1 := low_byte hx.1
  have h2 := low_byte hy.1
  have h3 : x.toNat % 256 = y.toNat % 256 := by
   have := congrArg UInt8.toNat h.1
   simpa using this
  rw [bytesOf_inj hx.2 hy.2 h.2]
  congr 1
  omega
theorem nm_low {nm : List Int} (h : isNm nm = true) : nm.all isLow = true := by
 simp only [isNm, Bool.and_eq_true] at h
 exact h.2
theorem cmpB_tri {a b : List Int} (ha : isNm a = true) (hb : isNm b = true) (hne : a ≠ b) (h : ¬ cmpB a b < 0) : cmpB b a < 0 := by
 have e1 := cmpB_lt a b
 have e2 := cmpB_lt b a
 rw [decide_eq_false h] at e1
 have h1 : ¬ Lib.bytesOf a < Lib.bytesOf b := of_decide_eq_false e1.symm
 have h2 : Lib.bytesOf b < Lib.bytesOf a := by
  by_cases h3 : Lib.bytesOf b < Lib.bytesOf a
  ·exact h3
  ·exact absurd (bytesOf_inj (nm_low hb) (nm_low ha) (List.le_antisymm (List.not_lt.1 h1) (List.not_lt.1 h3))).symm hne
 have h4 : ltStr (Lib.bytesOf b) (Lib.bytesOf a) = true := decide_eq_true h2
 rw [h4] at e2
 exact of_decide_eq_true e2
theorem cmpB_tr {a b c : List Int} (h1 : cmpB a b < 0) (h2 : cmpB b c < 0) : cmpB a c < 0 := by
 have := (swo_nm (fun x : List Int => x)).trans a b c (decide_eq_true h1) (decide_eq_true h2)
 exact of_decide_eq_true this
theorem cmpB_ir (a : List Int) : ¬ cmpB a a < 0 := fun h => by
 have := (swo_nm (fun x : List Int => x)).irrefl a
 rw [show Go.Proofs.ltOf (fun x y : List Int => cmpB x y) a a = decide (cmpB a a < 0) from rfl, decide_eq_true h] at this
 cases this
def AscE (es : List En) : Prop := es.Pairwise (fun a b => cmpB a.nm b.nm < 0) ∧ ∀ e ∈ es, isNm e.nm = true
theorem ascE_of {es : List En} (h : ∀ i, i < es.length → enAt es i = true) : AscE es := by
 refine ⟨?_, fun e he => ?_⟩
 ·rw [List.pairwise_iff_getElem]
  intro i j hi hj hij
  have h1 := asc_nm h i (j - i - 1) (by omega)
  rw [show i + (j - i - 1) + 1 = j by omega, List.getElem?_eq_getElem hi, List.getElem?_eq_getElem hj] at h1
  exact (geS_cmp _ _).1 h1
 ·obtain ⟨i, hi, rfl⟩ := List.getElem_of_mem he
  have h1 := h i hi
  rw [show es[i] = es[i]?.getD en0 by rw [List.getElem?_eq_getElem hi]; rfl]
  simp only [enAt, Bool.and_eq_true] at h1
  exact h1.1
theorem fdB_no {es : List En} {nm : List Int} : fdB es nm = false ↔ ∀ e ∈ es, e.nm ≠ nm := by
 unfold fdB ei
 rw [decide_eq_false_iff_not, List.findIdx_lt_length]
 simp
theorem outE_asc {es : List En} (h : AscE es) (nm : List Int) : AscE (outE es nm) :=
 ⟨h.1.sublist List.filter_sublist, fun e he => h.2 e (List.mem_filter.1 he).1⟩
theorem addE_perm (es : List En) (nm : List Int) (h : Hd) : (es ++ [En.mk nm h]).Perm (addE es nm h) := by
 unfold addE
 have h1 : es ++ [En.mk nm h] = (es.take (pl es nm) ++ es.drop (pl es nm)) ++ [En.mk nm h] := by rw [List.take_append_drop]
 rw [h1, List.append_assoc, List.append_assoc]
 exact (List.perm_append_comm (l₁ := es.drop (pl es nm)) (l₂ := [En.mk nm h])).append_left _
theorem addE_asc {es : List En} (h : AscE es) {nm : List Int} (hn : isNm nm = true) (hf : fdB es nm = false) (hd : Hd) : (addE es nm hd).Pairwise (fun a b => cmpB a.nm b.nm < 0) := by
 have hno := fdB_no.1 hf
 unfold addE
 have h0 := h.1
 rw [← List.take_append_drop (pl es nm) es, List.pairwise_append] at h0
 have ht : ∀ a ∈ es.take (pl es nm), cmpB a.nm nm < 0 := by
  intro a ha
  obtain ⟨i, hi, rfl⟩ := List.getElem_of_mem ha
  rw [List.length_take] at hi
  have h9 := List.not_of_lt_findIdx (p := fun e : En => geS e.nm nm) (xs := es) (i := i) (by unfold pl at hi; omega)
  rw [List.getElem_take]
  exact (geS_cmp _ _).1 (by simpa using h9)
 have hdr : ∀ b ∈ es.drop (pl es nm), cmpB nm b.nm < 0 := by
  intro b hb
  obtain ⟨j, hj, rfl⟩ := List.getElem_of_mem hb
  rw [List.length_drop] at hj
  rw [List.getElem_drop]
  have hpl : pl es nm < es.length := by omega
  have hg : geS (es[pl es nm]'hpl).nm nm = true := List.findIdx_getElem (p := fun e : En => geS e.nm nm) (w := hpl)
  have hb0 : cmpB nm (es[pl es nm]'hpl).nm < 0 := by
   refine cmpB_tri (h.2 _ (List.getElem_mem hpl)) hn (hno _ (List.getElem_mem hpl)) (fun hlt => ?_)
   rw [(geS_cmp _ _).2 hlt] at hg
   cases hg
  by_cases hj0 : j = 0
  ·subst hj0; simpa using hb0
  ·have h8 := h.1
   rw [List.pairwise_iff_getElem] at h8
   exact cmpB_tr hb0 (h8 (pl es nm) (pl es nm + j) hpl (by omega) (by omega))
 rw [List.append_assoc, List.pairwise_append]
 refine ⟨h0.1, ?_, ?_⟩
 ·rw [List.singleton_append, List.pairwise_cons]
  exact ⟨hdr, h0.2.1⟩
 ·intro a ha b hb
  rw [List.singleton_append, List.mem_cons] at hb
  rcases hb with rfl | hb
  ·exact ht a ha
  ·exact h0.2.2 a ha b hb
theorem cut_out {es : List En} (h : AscE es) {nm : List Int} (hf : ei es nm < es.length) : cutE es (ei es nm) = outE es nm := by
 have hat : (es[ei es nm]'hf).nm = nm := by
  have := List.findIdx_getElem (p := fun e : En => decide (e.nm = nm)) (w := hf)
  exact of_decide_eq_true this
 obtain ⟨k, hk⟩ : ∃ k, ei es nm = k := ⟨_, rfl⟩
 rw [hk]
 simp only [hk] at hf hat
 unfold cutE outE
 have hsp : es = es.take k ++ es[k]'hf :: es.drop (k + 1) := by rw [List.getElem_cons_drop, List.take_append_drop]
 have h0 := h.1
 rw [hsp, List.pairwise_append, List.pairwise_cons] at h0
 conv => rhs; rw [hsp]
 rw [List.filter_append, List.filter_cons]
 rw [if_neg (by simp [hat])]
 rw [List.filter_eq_self.2, List.filter_eq_self.2]
 ·intro b hb
  have h1 := h0.2.1.1 b hb
  simp only [Bool.not_eq_true', decide_eq_false_iff_not]
  intro e
  rw [hat, e] at h1
  exact cmpB_ir _ h1
 ·intro a ha
  have h1 := h0.2.2 a ha (es[k]'hf) (List.mem_cons_self)
  simp only [Bool.not_eq_true', decide_eq_false_iff_not]
  intro e
  rw [hat, e] at h1
  exact cmpB_ir _ h1
end
section
structure Rp (l : List Nd) (f : Hd → Option Nd) : Prop where
 mem : ∀ n, n ∈ l ↔ f n.h = some n
 asc : l.Pairwise (fun a b => lessH a.h b.h = true)
 key : ∀ g n, f g = some n → n.h = g
theorem less_ne {a b : Hd} (h : lessH a b = true) : a ≠ b := fun e => by rw [e, lessH_irr] at h; cases h
theorem Rp.set' {A B : List Nd} {x n : Nd} {f : Hd → Option Nd} (r : Rp (A ++ x :: B) f) (hn : n.h = x.h) : Rp (A ++ n :: B) (setN f n.h n) := by
 have hp := r.asc
 rw [List.pairwise_append, List.pairwise_cons] at hp
 refine ⟨fun m => ?_, ?_, setN_key r.key rfl⟩
 ·by_cases e : m.h = n.h
  ·unfold setN
   rw [if_pos e]
   constructor
   ·intro h
    rcases List.mem_append.1 h with h | h
    ·exact absurd (e.trans hn) (less_ne (hp.2.2 m h x List.mem_cons_self))
    ·rcases List.mem_cons.1 h with h | h
     ·rw [h]
     ·exact absurd (e.trans hn).symm (less_ne (hp.2.1.1 m h))
   ·intro h
    rw [Option.some.inj h]
    exact List.mem_append_right _ List.mem_cons_self
  ·unfold setN
   rw [if_neg e, ← r.mem]
   constructor
   ·intro h
    rcases List.mem_append.1 h with h | h
    ·exact List.mem_append_left _ h
    ·rcases List.mem_cons.1 h with h | h
     ·exact absurd (by rw [h]) e
     ·exact List.mem_append_right _ (List.mem_cons_of_mem _ h)
   ·intro h
    rcases List.mem_append.1 h with h | h
    ·exact List.mem_append_left _ h
    ·rcases List.mem_cons.1 h with h | h
     ·exact absurd (by rw [h, hn]) e
     ·exact List.mem_append_right _ (List.mem_cons_of_mem _ h)
 ·rw [List.pairwise_append, List.pairwise_cons]
  refine ⟨hp.1, ⟨fun b hb => by rw [hn]; exact hp.2.1.1 b hb, hp.2.1.2⟩, fun a ha b hb => ?_⟩
  rcases List.mem_cons.1 hb with rfl | hb
  ·rw [hn]; exact hp.2.2 a ha x List.mem_cons_self
  ·exact hp.2.2 a ha b (List.mem_cons_of_mem _ hb)
theorem Rp.del' {A B : List Nd} {x : Nd} {f : Hd → Option Nd} (r : Rp (A ++ x :: B) f) : Rp (A ++ B) (delN f x.h) := by
 have hp := r.asc
 rw [List.pairwise_append, List.pairwise_cons] at hp
 refine ⟨fun m => ?_, ?_, fun g n h => r.key g n (delN_at h).2⟩
 ·by_cases e : m.h = x.h
  ·unfold delN
   rw [if_pos e]
   constructor
   ·intro h
    rcases List.mem_append.1 h with h | h
    ·exact absurd e (less_ne (hp.2.2 m h x List.mem_cons_self))
    ·exact absurd e.symm (less_ne (hp.2.1.1 m h))
   ·intro h; cases h
  ·unfold delN
   rw [if_neg e, ← r.mem]
   constructor
   ·intro h
    rcases List.mem_append.1 h with h | h
    ·exact List.mem_append_left _ h
    ·exact List.mem_append_right _ (List.mem_cons_of_mem _ h)
   ·intro h
    rcases List.mem_append.1 h with h | h
    ·exact List.mem_append_left _ h
    ·rcases List.mem_cons.1 h with h | h
     ·exact absurd (by rw [h]) e
     ·exact List.mem_append_right _ h
 ·rw [List.pairwise_append]
  exact ⟨hp.1, hp.2.1.2, fun a ha b hb => hp.2.2 a ha b (List.mem_cons_of_mem _ hb)⟩
theorem Rp.ins' {A B : List Nd} {n : Nd} {f : Hd → Option Nd} (r : Rp (A ++ B) f) (hA : ∀ a ∈ A, lessH a.h n.h = true) (hB : ∀ b ∈ B, lessH n.h b.h = true) : Rp (A ++ n :: B) (setN f n.h n) := by
 have hp := r.asc
 rw [List.pairwise_append] at hp
 refine ⟨fun m => ?_, ?_, setN_key r.key rfl⟩
 ·by_cases e : m.h = n.h
  ·unfold setN
   rw [if_pos e]
   constructor
   ·intro h
    rcases List.mem_append.1 h with h | h
    ·exact absurd e (less_ne (hA m h))
    ·rcases List.mem_cons.1 h with h | h
     ·rw [h]
     ·exact absurd e.symm (less_ne (hB m h))
   ·intro h
    rw [Option.some.inj h]
    exact List.mem_append_right _ List.mem_cons_self
  ·unfold setN
   rw [if_neg e, ← r.mem]
   constructor
   ·intro h
    rcases List.mem_append.1 h with h | h
    ·exact List.mem_append_left _ h
    ·rcases List.mem_cons.1 h with h | h
     ·exact absurd (by rw [h]) e
     ·exact List.mem_append_right _ h
   ·intro h
    rcases List.mem_append.1 h with h | h
    ·exact List.mem_append_left _ h
    ·exact List.mem_append_right _ (List.mem_cons_of_mem _ h)
 ·rw [List.pairwise_append, List.pairwise_cons]
  refine ⟨hp.1, ⟨hB, hp.2.1⟩, fun a ha b hb => ?_⟩
  rcases List.mem_cons.1 hb with rfl | hb
  ·exact hA a ha
  ·exact hp.2.2 a ha b hb
theorem split_at {l : List Nd} {i : Nat} (hi : i < l.length) : l = l.take i ++ (l[i]?.getD nd0) :: l.drop (i + 1) := by
 rw [List.getElem?_eq_getElem hi]
 simp only [Option.getD_some]
 rw [List.getElem_cons_drop, List.take_append_drop]
theorem Rp.set {l : List Nd} {f : Hd → Option Nd} (r : Rp l f) {i : Nat} (hi : i < l.length) {n : Nd} (hn : n.h = (l[i]?.getD nd0).h) : Rp (l.set i n) (setN f n.h n) := by
 have h := r
 rw [split_at hi] at h
 have h2 := h.set' hn
 rw [List.set_eq_take_append_cons_drop, if_pos hi]
 exact h2
theorem Rp.out {l : List Nd} {f : Hd → Option Nd} (r : Rp l f) {i : Nat} (hi : i < l.length) : Rp (outN l i) (delN f (l[i]?.getD nd0).h) := by
 have h := r
 rw [split_at hi] at h
 exact h.del'
theorem Rp.ins {l : List Nd} {f : Hd → Option Nd} (r : Rp l f) {n : Nd} (hn : ∀ m ∈ l, ¬ (m.h.sh = n.h.sh ∧ m.h.ino = n.h.ino)) : Rp (insN l n) (setN f n.h n) := by
 unfold insN
 rw [List.append_assoc, List.singleton_append]
 refine Rp.ins' (by rw [List.take_append_drop]; exact r) ?_ ?_
 ·intro a ha
  obtain ⟨i, hi, rfl⟩ := List.getElem_of_mem ha
  rw [List.length_take] at hi
  have h9 := List.not_of_lt_findIdx (p := fun m : Nd => !lessH m.h n.h) (xs := l) (i := i) (by unfold plN at hi; omega)
  rw [List.getElem_take]
  simpa using h9
 ·intro b hb
  obtain ⟨j, hj, rfl⟩ := List.getElem_of_mem hb
  rw [List.length_drop] at hj
  rw [List.getElem_drop]
  have hpl : plN l n.h < l.length := by omega
  have hg : (!lessH (l[plN l n.h]'hpl).h n.h) = true := List.findIdx_getElem (p := fun m : Nd => !lessH m.h n.h) (w := hpl)
  have hno := hn _ (List.getElem_mem hpl)
  have h0 : lessH n.h (l[plN l n.h]'hpl).h = true := by
   simp only [Bool.not_eq_true', lessH, Bool.or_eq_false_iff, Bool.and_eq_false_iff, decide_eq_false_iff_not] at hg
   simp only [lessH, Bool.or_eq_true, Bool.and_eq_true, decide_eq_true_eq]
   omega
  by_cases hj0 : j = 0
  ·subst hj0; simpa using h0
  ·have h8 := r.asc
   rw [List.pairwise_iff_getElem] at h8
   exact lessH_trans h0 (h8 (plN l n.h) (plN l n.h + j) hpl (by omega) (by omega))
theorem set_at {l : List Nd} {i j : Nat} {n : Nd} (hi : i < l.length) : (l.set i n)[j]?.getD nd0 = if j = i then n else l[j]?.getD nd0 := by
 rw [List.getElem?_set]
 by_cases h : i = j
 ·subst h; simp [hi]
 ·simp [h, Ne.symm h]
theorem setN_comm (f : Hd → Option Nd) {g h : Hd} (hne : g ≠ h) (n m : Nd) : setN (setN f g n) h m = setN (setN f h m) g n := by
 funext k
 unfold setN
 by_cases h1 : k = g <;> by_cases h2 : k = h
 ·exact absurd (h1.symm.trans h2) hne
 ·simp [h1, hne]
 ·simp [h2, Ne.symm hne]
 ·simp [h1, h2]
theorem setN_twice (f : Hd → Option Nd) (g : Hd) (n m : Nd) : setN (setN f g n) g m = setN f g m := by
 funext k
 unfold setN
 by_cases h1 : k = g <;> simp [h1]
theorem delN_set (f : Hd → Option Nd) (g : Hd) (n : Nd) : delN (setN f g n) g = delN f g := by
 funext k
 unfold setN delN
 by_cases h1 : k = g <;> simp [h1]
theorem setN_self {f : Hd → Option Nd} {g : Hd} {n : Nd} (h : f g = some n) : setN f g n = f := by
 funext k
 unfold setN
 by_cases h1 : k = g
 ·rw [if_pos h1, h1, h]
 ·rw [if_neg h1]
end
section
theorem tree_asc {l : List Nd} (ht : treeOk l = true) : ascL l = true := by
 unfold ascL
 rw [List.all_eq_true]
 intro i hi
 have h := (nodeT_parts (treeOk_at ht (by simpa using hi))).2.1
 unfold ascAt
 rcases h with h | h
 ·simp [h]
 ·simp [h]
theorem tree_one {l : List Nd} (ht : treeOk l = true) : OneH l := ascL_one (tree_asc ht)
theorem tree_rp {l : List Nd} (ht : treeOk l = true) : Rp l (atH l l.length) := by
 refine ⟨fun n => ⟨fun h => ?_, fun h => atH_mem h⟩, ?_, fun g n h => ?_⟩
 ·obtain ⟨i, hi, rfl⟩ := List.getElem_of_mem h
  have h1 := fiP_at (tree_one ht) hi
  have h2 : l[i]?.getD nd0 = l[i] := by rw [List.getElem?_eq_getElem hi]; rfl
  rw [h2] at h1
  rw [atH_fi, h1, if_pos hi, h2]
 ·rw [List.pairwise_iff_getElem]
  intro i j hi hj hij
  have h1 := ascL_less (tree_asc ht) i (j - i - 1) (by omega)
  rw [show i + (j - i - 1) + 1 = j by omega, List.getElem?_eq_getElem hi, List.getElem?_eq_getElem hj] at h1
  exact h1
 ·rw [atH_fi] at h
  by_cases hf : fi l g < l.length
  ·rw [if_pos hf] at h; rw [← Option.some.inj h]; exact fi_h hf
  ·rw [if_neg hf] at h; cases h
theorem tree_nd {l : List Nd} (ht : treeOk l = true) {n : Nd} (hn : n ∈ l) : ndOk n = true := by
 obtain ⟨i, hi, rfl⟩ := List.getElem_of_mem hn
 have h := (nodeT_parts (treeOk_at ht hi)).1
 rw [List.getElem?_eq_getElem hi] at h
 exact h
theorem tree_lead {l : List Nd} (ht : treeOk l = true) {n : Nd} (hn : n ∈ l) {e : En} (he : e ∈ n.es) : entLead l n e = true := by
 obtain ⟨i, hi, rfl⟩ := List.getElem_of_mem hn
 have h := (nodeT_parts (treeOk_at ht hi)).2.2.1
 rw [List.getElem?_eq_getElem hi] at h
 exact h e he
theorem tree_tail {l : List Nd} (ht : treeOk l = true) {n : Nd} (hn : n ∈ l) : tailT l n = true := by
 obtain ⟨i, hi, rfl⟩ := List.getElem_of_mem hn
 have h := (nodeT_parts (treeOk_at ht hi)).2.2.2
 rw [List.getElem?_eq_getElem hi] at h
 exact h
theorem nd_asc {n : Nd} (h : ndOk n = true) : AscE n.es := by
 unfold ndOk at h
 rw [Bool.and_eq_true] at h
 have h2 := h.2
 split at h2
 ·rw [Bool.and_eq_true, ents_same, List.all_eq_true] at h2
  exact ascE_of (fun i hi => h2.2 i (by simpa using hi))
 ·simp only [fileOk, Bool.and_eq_true, decide_eq_true_eq] at h2
  rw [List.eq_nil_of_length_eq_zero h2.1]
  exact ⟨List.Pairwise.nil, fun e he => by cases he⟩
theorem at_get (l : List Nd) (g : Hd) : (atH l l.length g).getD nd0 = l[fi l g]?.getD nd0 := by
 rw [atH_fi]
 by_cases hf : fi l g < l.length
 ·rw [if_pos hf]; rfl
 ·rw [if_neg hf, List.getElem?_eq_none (by omega)]
theorem at_is (l : List Nd) (g : Hd) : (atH l l.length g).isSome = decide (fi l g < l.length) := by
 rw [atH_fi]
 by_cases hf : fi l g < l.length
 ·simp [hf]
 ·simp [hf]
theorem at_so {l : List Nd} {g : Hd} (hf : fi l g < l.length) : atH l l.length g = some (l[fi l g]?.getD nd0) := by rw [atH_fi, if_pos hf]
theorem fdB_ei (es : List En) (nm : List Int) : fdB es nm = decide (ei es nm < es.length) := rfl
theorem findE_ei (es : List En) (nm : List Int) : (0 ≤ findE es nm) ↔ ei es nm < es.length := by
 unfold findE
 by_cases h : ei es nm < es.length
 ·rw [if_pos h]; exact ⟨fun _ => h, fun _ => by omega⟩
 ·rw [if_neg h]; exact ⟨fun h2 => by omega, fun h2 => absurd h2 h⟩
theorem room_ref (l : List Nd) (g : Hd) (nm : List Int) : roomI (atH l l.length) g nm = refD (l[fi l g]?.getD nd0).es nm := by
 unfold roomI refD
 rw [at_get, fdB_ei]
 by_cases h : ei (l[fi l g]?.getD nd0).es nm < (l[fi l g]?.getD nd0).es.length
 ·rw [if_pos ((findE_ei _ _).2 h)]; simp [h]
 ·rw [if_neg (fun h2 => h ((findE_ei _ _).1 h2))]; simp [h]
theorem takes_bad (l : List Nd) (o : OpD) (fr : Hd) : takesB fr o.to (atH l l.length (fr.sh, fr.ino, false)).isSome (atH l l.length (fr.sh, fr.ino, true)).isSome l.length = !badFr l o fr := by
 unfold takesB badFr
 rw [at_is, at_is]
 obtain ⟨a, b, c⟩ := fr
 have e240 : decide ((l.length : Int) < 240) = !decide (240 ≤ l.length) := by
  by_cases h : 240 ≤ l.length
  ·simp [h]; omega
  ·simp [h]; omega
 have e1 : decide (a = o.to.sh) = !decide (a ≠ o.to.sh) := by by_cases h : a = o.to.sh <;> simp [h]
 have e2 : decide (c = o.to.dir) = !decide (c ≠ o.to.dir) := by by_cases h : c = o.to.dir <;> simp [h]
 dsimp only [Hd.sh, Hd.ino, Hd.dir] at e1 e2 ⊢
 rw [e240, e1, e2]
 generalize HOk (a, b, c) = x1
 generalize decide (a ≠ o.to.1) = x2
 generalize decide (c ≠ o.to.2.2) = x3
 generalize decide (240 ≤ l.length) = x4
 cases c
 ·generalize decide (fi l (a, b, false) < l.length) = x5
  simp only [Bool.not_false]
  generalize decide (fi l (a, b, true) < l.length) = x6
  cases x1 <;> cases x2 <;> cases x3 <;> cases x4 <;> cases x5 <;> cases x6 <;> rfl
 ·simp only [Bool.not_true]
  generalize decide (fi l (a, b, false) < l.length) = x5
  generalize decide (fi l (a, b, true) < l.length) = x6
  cases x1 <;> cases x2 <;> cases x3 <;> cases x4 <;> cases x5 <;> cases x6 <;> rfl
theorem tree_up {l : List Nd} (ht : treeOk l = true) {g : Hd} (hd : g.dir = true) (hf : fi l g < l.length) (hr : g ≠ rootH) : (l[fi l g]?.getD nd0).par.dir = true ∧ fi l (l[fi l g]?.getD nd0).par < l.length := by
 have hm := node_mem hf
 have hh := fi_h hf
 have h1 := tree_nd ht hm
 have h2 := tree_tail ht hm
 generalize l[fi l g]?.getD nd0 = n at hm hh h1 h2 ⊢
 have hnd : n.h.dir = true := by rw [hh]; exact hd
 have hnr : n.h ≠ rootH := by rw [hh]; exact hr
 refine ⟨?_, ?_⟩
 ·unfold ndOk at h1
  rw [Bool.and_eq_true, if_pos hnd, Bool.and_eq_true] at h1
  simp only [dirOk, Bool.and_eq_true] at h1
  exact h1.2.1.2.2.2
 ·unfold tailT at h2
  rw [if_neg hnr, Bool.and_eq_true] at h2
  have h3 := h2.2
  unfold rch at h3
  have hup : up n = true := by unfold up; rw [hnd]; simp [hnr]
  rw [if_pos hup] at h3
  by_cases hx : fi l n.par < l.length
  ·exact hx
  ·rw [if_neg hx] at h3; cases h3
theorem way_und {l : List Nd} (ht : treeOk l = true) (h : Hd) : ∀ (k : Nat) (g : Hd), g.dir = true → fi l g < l.length → wayI (atH l l.length) h k g = (if undN l h k g = 1 then 8 else if undN l h k g = 2 then 9 else 0)
 | 0, g, _, _ => by simp [wayI, undN]
 | k + 1, g, hd, hf => by
  unfold wayI undN
  by_cases h1 : g = h
  ·simp [h1]
  ·rw [if_neg h1, if_neg h1]
   by_cases h2 : g = rootH
   ·simp [h2]
   ·rw [if_neg h2, if_neg h2, if_pos hf, at_get]
    obtain ⟨h3, h4⟩ := tree_up ht hd hf h2
    exact way_und ht h k _ h3 h4
theorem und_vals (l : List Nd) (h : Hd) : ∀ (k : Nat) (g : Hd), undN l h k g = 0 ∨ undN l h k g = 1 ∨ undN l h k g = 2
 | 0, g => by simp [undN]
 | k + 1, g => by
  unfold undN
  by_cases h1 : g = h
  ·simp [h1]
  ·rw [if_neg h1]
   by_cases h2 : g = rootH
   ·simp [h2]
   ·rw [if_neg h2]
    by_cases h3 : fi l g < l.length
    ·rw [if_pos h3]; exact und_vals l h k _
    ·rw [if_neg h3]; simp
theorem rch_round {l : List Nd} {n : Nd} (hup : up n = true) (hself : l[fi l n.par]?.getD nd0 = n) : ∀ k, rch l k n = false
 | 0 => by simp [rch, hup]
 | k + 1 => by
  unfold rch
  rw [if_pos hup]
  by_cases h : fi l n.par < l.length
  ·rw [if_pos h, hself]; exact rch_round hup hself k
  ·rw [if_neg h]
theorem not_self {l : List Nd} (ht : treeOk l = true) {g : Hd} (hg : g.dir = true) (hf : fi l g < l.length) {e : En} (he : e ∈ (l[fi l g]?.getD nd0).es) : e.h ≠ g := by
 intro hx
 have hm := node_mem hf
 have hh := fi_h hf
 have hl := tree_lead ht hm he
 have h2 := tree_tail ht hm
 unfold entLead at hl
 simp only [Bool.and_eq_true, Bool.or_eq_true, Bool.not_eq_true', decide_eq_true_eq] at hl
 rw [hx] at hl
 obtain ⟨N, hN⟩ : ∃ N, l[fi l g]?.getD nd0 = N := ⟨_, rfl⟩
 rw [hN] at hm hh hl h2 he
 have hpar : N.par = N.h := by
  rcases hl.2 with h | h
  ·rw [hg] at h; cases h
  ·exact h
 unfold tailT at h2
 by_cases hr : N.h = rootH
 ·rw [if_pos hr, decide_eq_true_eq] at h2
  have hc : 0 < cntH l N.h := by
   rw [cnt_same]
   unfold cntE
   rw [List.countP_pos_iff]
   exact ⟨e, List.mem_flatMap.2 ⟨N, hm, he⟩, by simp [hx, hh]⟩
  omega
 ·rw [if_neg hr, Bool.and_eq_true] at h2
  have hup : up N = true := by unfold up; rw [hh, hg]; simp; rw [← hh]; exact hr
  rw [rch_round hup (by rw [hpar, hh]; exact hN)] at h2
  cases h2.2
theorem tree_fok {l : List Nd} (ht : treeOk l = true) (hsz : szNds l ≤ 2097152) : FOk (atH l l.length) := by
 have rp := tree_rp ht
 have hm : ∀ g t, atH l l.length g = some t → t ∈ l := fun g t h => atH_mem h
 have hi : ∀ g t, atH l l.length g = some t → ndI t = true := fun g t h => by rw [← nd_same]; exact tree_nd ht (hm g t h)
 refine ⟨fun g t h => ⟨by have := (ndI_es (hi g t h)).1; omega, ndI_par (hi g t h)⟩, fun g t h => ?_, fun g t h => ?_, fun g t nm h hb => ?_, fun g t hd nm hq h hb => ⟨addE_perm _ _ _, addE_asc (nd_asc (tree_nd ht (hm g t h))) hq hb hd⟩, fun g t hd nm nm2 hq h hb => ⟨addE_perm _ _ _, addE_asc (outE_asc (nd_asc (tree_nd ht (hm g t h))) nm2) hq (fdB_no.2 (fun e he => fdB_no.1 hb e (List.mem_filter.1 he).1)) hd⟩⟩
 ·have := ndOk_small (tree_nd ht (hm g t h)); omega
 ·obtain ⟨i, hi', rfl⟩ := List.getElem_of_mem (hm g t h)
  have := szNds_at l i
  rw [List.getElem?_eq_getElem hi'] at this
  exact Nat.le_trans this hsz
 ·have hei : ei t.es nm < t.es.length := by rw [fdB_ei] at hb; exact of_decide_eq_true hb
  have he : fdH t.es nm = (t.es[ei t.es nm]'hei).h := by unfold fdH; rw [if_pos hei, List.getElem?_eq_getElem hei]; rfl
  have hl := tree_lead ht (hm g t h) (List.getElem_mem hei)
  unfold entLead at hl
  simp only [Bool.and_eq_true, decide_eq_true_eq] at hl
  rw [he]
  refine ⟨_, at_so hl.1, ?_⟩
  have h9 := (ndI_es (hi g t h)).2 _ hei
  rw [List.getElem?_eq_getElem hei] at h9
  exact h9
end
section
def Ag (a : List Nd × RpD) (b : (Hd → Option Nd) × Nat × RpD) : Prop := Rp a.1 b.1 ∧ b.2.2 = a.2 ∧ a.1.length ≤ 3000 ∧ b.2.1 ≤ 3000 ∧ ∀ g n, b.1 g = some n → HIn g
theorem tree_hin {l : List Nd} (ht : treeOk l = true) (g : Hd) (n : Nd) (h : atH l l.length g = some n) : HIn g := by
 have h1 := ndI_h (n := n) (by rw [← nd_same]; exact tree_nd ht (atH_mem h))
 rw [(tree_rp ht).key g n h] at h1
 exact h1
theorem ag_same {l : List Nd} (ht : treeOk l = true) (r : RpD) : Ag (l, r) (atH l l.length, l.length, r) :=
 ⟨tree_rp ht, rfl, by have := (treeOk_len ht).2; show l.length ≤ 3000; omega, by have := (treeOk_len ht).2; show l.length ≤ 3000; omega, tree_hin ht⟩
theorem hin_set {f : Hd → Option Nd} (h : ∀ g n, f g = some n → HIn g) {k : Hd} (hk : HIn k) (m : Nd) : ∀ g n, setN f k m g = some n → HIn g := by
 intro g n e
 unfold setN at e
 by_cases x : g = k
 ·rw [x]; exact hk
 ·rw [if_neg x] at e; exact h g n e
theorem hin_del {f : Hd → Option Nd} (h : ∀ g n, f g = some n → HIn g) (k : Hd) : ∀ g n, delN f k g = some n → HIn g := fun g n e => h g n (delN_at e).2
section
variable {l : List Nd} (ht : treeOk l = true) (dir tt fr : Hd) (nm asn : List Int) (ov : Int)
include ht
theorem agK0 : Ag (doD l ⟨0, dir, nm, tt, asn, ov⟩ fr) (doF (atH l l.length) l.length ⟨0, dir, nm, tt, asn, ov⟩ fr) := by
 have hlen := (treeOk_len ht).2
 by_cases hd : dir.dir = true
 ·by_cases hf : fi l dir < l.length
  ·by_cases he : ei (l[fi l dir]?.getD nd0).es nm < (l[fi l dir]?.getD nd0).es.length
   ·have hD : doD l ⟨0, dir, nm, tt, asn, ov⟩ fr = (l, ⟨0, ((l[fi l dir]?.getD nd0).es[ei (l[fi l dir]?.getD nd0).es nm]?.getD en0).h, 0, []⟩) := by
     unfold doD 
     dsimp only
     generalize l[fi l dir]?.getD nd0 = N at he ⊢; simp [hd, hf, he]
    have hF : doF (atH l l.length) l.length ⟨0, dir, nm, tt, asn, ov⟩ fr = (atH l l.length, l.length, ⟨0, ((l[fi l dir]?.getD nd0).es[ei (l[fi l dir]?.getD nd0).es nm]?.getD en0).h, 0, []⟩) := by
     unfold doF dirC doF2 lookF fdH
     dsimp only
     simp only [at_is, at_get, fdB_ei, room_ref]
     generalize l[fi l dir]?.getD nd0 = N at he ⊢; simp [hd, hf, he]
     try rfl
    rw [hD, hF]
    exact ag_same ht _
   ·have hD : doD l ⟨0, dir, nm, tt, asn, ov⟩ fr = (l, rc 3) := by
     unfold doD 
     dsimp only
     generalize l[fi l dir]?.getD nd0 = N at he ⊢; simp [hd, hf, he]
    have hF : doF (atH l l.length) l.length ⟨0, dir, nm, tt, asn, ov⟩ fr = (atH l l.length, l.length, rc 3) := by
     unfold doF dirC doF2 lookF fdH
     dsimp only
     simp only [at_is, at_get, fdB_ei, room_ref]
     generalize l[fi l dir]?.getD nd0 = N at he ⊢; simp [hd, hf, he]
     try rfl
    rw [hD, hF]
    exact ag_same ht _
  ·have hD : doD l ⟨0, dir, nm, tt, asn, ov⟩ fr = (l, rc 1) := by
    unfold doD 
    dsimp only
    simp [hd, hf]
   have hF : doF (atH l l.length) l.length ⟨0, dir, nm, tt, asn, ov⟩ fr = (atH l l.length, l.length, rc 1) := by
    unfold doF dirC doF2 
    dsimp only
    simp only [at_is, at_get, fdB_ei, room_ref]
    simp [hd, hf]
    try rfl
   rw [hD, hF]
   exact ag_same ht _
 ·have hD : doD l ⟨0, dir, nm, tt, asn, ov⟩ fr = (l, rc 2) := by
   unfold doD 
   dsimp only
   simp [hd]
  have hF : doF (atH l l.length) l.length ⟨0, dir, nm, tt, asn, ov⟩ fr = (atH l l.length, l.length, rc 2) := by
   unfold doF dirC doF2 
   dsimp only
   simp only [at_is, at_get, fdB_ei, room_ref]
   simp [hd]
   try rfl
  rw [hD, hF]
  exact ag_same ht _
theorem agK1 : Ag (doD l ⟨1, dir, nm, tt, asn, ov⟩ fr) (doF (atH l l.length) l.length ⟨1, dir, nm, tt, asn, ov⟩ fr) := by
 have hlen := (treeOk_len ht).2
 by_cases hd : dir.dir = true
 ·by_cases hf : fi l dir < l.length
  ·have hD : doD l ⟨1, dir, nm, tt, asn, ov⟩ fr = (l, ⟨0, hd0, 0, (l[fi l dir]?.getD nd0).es⟩) := by
    unfold doD 
    dsimp only
    generalize l[fi l dir]?.getD nd0 = N at  ⊢; simp [hd, hf]
   have hF : doF (atH l l.length) l.length ⟨1, dir, nm, tt, asn, ov⟩ fr = (atH l l.length, l.length, ⟨0, hd0, 0, (l[fi l dir]?.getD nd0).es⟩) := by
    unfold doF dirC doF2 
    dsimp only
    simp only [at_is, at_get, fdB_ei, room_ref]
    generalize l[fi l dir]?.getD nd0 = N at  ⊢; simp [hd, hf]
    try rfl
   rw [hD, hF]
   exact ag_same ht _
  ·have hD : doD l ⟨1, dir, nm, tt, asn, ov⟩ fr = (l, rc 1) := by
    unfold doD 
    dsimp only
    simp [hd, hf]
   have hF : doF (atH l l.length) l.length ⟨1, dir, nm, tt, asn, ov⟩ fr = (atH l l.length, l.length, rc 1) := by
    unfold doF dirC doF2 
    dsimp only
    simp only [at_is, at_get, fdB_ei, room_ref]
    simp [hd, hf]
    try rfl
   rw [hD, hF]
   exact ag_same ht _
 ·have hD : doD l ⟨1, dir, nm, tt, asn, ov⟩ fr = (l, rc 2) := by
   unfold doD 
   dsimp only
   simp [hd]
  have hF : doF (atH l l.length) l.length ⟨1, dir, nm, tt, asn, ov⟩ fr = (atH l l.length, l.length, rc 2) := by
   unfold doF dirC doF2 
   dsimp only
   simp only [at_is, at_get, fdB_ei, room_ref]
   simp [hd]
   try rfl
  rw [hD, hF]
  exact ag_same ht _
theorem agK2 : Ag (doD l ⟨2, dir, nm, tt, asn, ov⟩ fr) (doF (atH l l.length) l.length ⟨2, dir, nm, tt, asn, ov⟩ fr) := by
 have hlen := (treeOk_len ht).2
 by_cases hd : dir.dir = true
 ·have hD : doD l ⟨2, dir, nm, tt, asn, ov⟩ fr = (l, rc 6) := by
   unfold doD 
   dsimp only
   simp [hd]
  have hF : doF (atH l l.length) l.length ⟨2, dir, nm, tt, asn, ov⟩ fr = (atH l l.length, l.length, rc 6) := by
   unfold doF dirC doF2 
   dsimp only
   simp only [at_is, at_get, fdB_ei, room_ref]
   simp [hd]
   try rfl
  rw [hD, hF]
  exact ag_same ht _
 ·by_cases hf : fi l dir < l.length
  ·have hD : doD l ⟨2, dir, nm, tt, asn, ov⟩ fr = (l, ⟨0, hd0, (l[fi l dir]?.getD nd0).val, []⟩) := by
    unfold doD 
    dsimp only
    generalize l[fi l dir]?.getD nd0 = N at  ⊢; simp [hd, hf]
   have hF : doF (atH l l.length) l.length ⟨2, dir, nm, tt, asn, ov⟩ fr = (atH l l.length, l.length, ⟨0, hd0, (l[fi l dir]?.getD nd0).val, []⟩) := by
    unfold doF dirC doF2 
    dsimp only
    simp only [at_is, at_get, fdB_ei, room_ref]
    generalize l[fi l dir]?.getD nd0 = N at  ⊢; simp [hd, hf]
    try rfl
   rw [hD, hF]
   exact ag_same ht _
  ·have hD : doD l ⟨2, dir, nm, tt, asn, ov⟩ fr = (l, rc 1) := by
    unfold doD 
    dsimp only
    simp [hd, hf]
   have hF : doF (atH l l.length) l.length ⟨2, dir, nm, tt, asn, ov⟩ fr = (atH l l.length, l.length, rc 1) := by
    unfold doF dirC doF2 
    dsimp only
    simp only [at_is, at_get, fdB_ei, room_ref]
    simp [hd, hf]
    try rfl
   rw [hD, hF]
   exact ag_same ht _
theorem agK3 : Ag (doD l ⟨3, dir, nm, tt, asn, ov⟩ fr) (doF (atH l l.length) l.length ⟨3, dir, nm, tt, asn, ov⟩ fr) := by
 have hlen := (treeOk_len ht).2
 by_cases hd : dir.dir = true
 ·have hD : doD l ⟨3, dir, nm, tt, asn, ov⟩ fr = (l, rc 6) := by
   unfold doD 
   dsimp only
   simp [hd]
  have hF : doF (atH l l.length) l.length ⟨3, dir, nm, tt, asn, ov⟩ fr = (atH l l.length, l.length, rc 6) := by
   unfold doF dirC doF2 
   dsimp only
   simp only [at_is, at_get, fdB_ei, room_ref]
   simp [hd]
   try rfl
  rw [hD, hF]
  exact ag_same ht _
 ·by_cases hf : fi l dir < l.length
  ·have hD : doD l ⟨3, dir, nm, tt, asn, ov⟩ fr = (valN l (fi l dir) ov, rc 0) := by
    unfold doD 
    dsimp only
    simp [hd, hf]
   have hF : doF (atH l l.length) l.length ⟨3, dir, nm, tt, asn, ov⟩ fr = (setN (atH l l.length) dir { l[fi l dir]?.getD nd0 with val := ov }, l.length, rc 0) := by
    unfold doF dirC doF2 writeF
    dsimp only
    simp only [at_is, at_get, fdB_ei, room_ref]
    simp [hd, hf]
    try rfl
   rw [hD, hF]
   have hh := fi_h hf
   have r := (tree_rp ht).set hf (n := (l[fi l dir]?.getD nd0).setVal ov) rfl
   have e : ((l[fi l dir]?.getD nd0).setVal ov).h = dir := hh
   rw [e] at r
   exact ⟨r, rfl, by show (valN _ _ _).length ≤ 3000; unfold valN; rw [List.length_set]; omega, by show l.length ≤ 3000; omega, hin_set (tree_hin ht) (tree_hin ht _ _ (at_so hf)) _⟩
  ·have hD : doD l ⟨3, dir, nm, tt, asn, ov⟩ fr = (l, rc 1) := by
    unfold doD 
    dsimp only
    simp [hd, hf]
   have hF : doF (atH l l.length) l.length ⟨3, dir, nm, tt, asn, ov⟩ fr = (atH l l.length, l.length, rc 1) := by
    unfold doF dirC doF2 
    dsimp only
    simp only [at_is, at_get, fdB_ei, room_ref]
    simp [hd, hf]
    try rfl
   rw [hD, hF]
   exact ag_same ht _
theorem agK6 : Ag (doD l ⟨6, dir, nm, tt, asn, ov⟩ fr) (doF (atH l l.length) l.length ⟨6, dir, nm, tt, asn, ov⟩ fr) := by
 have hlen := (treeOk_len ht).2
 by_cases hd : dir.dir = true
 ·by_cases hf : fi l dir < l.length
  ·by_cases hr : refD (l[fi l dir]?.getD nd0).es nm = 0
   ·by_cases hdt : tt.dir = true
    ·have hD : doD l ⟨6, dir, nm, tt, asn, ov⟩ fr = (l, rc 6) := by
      unfold doD
      dsimp only
      simp only [hr]
      simp [hd, hf, hdt]
     have hF : doF (atH l l.length) l.length ⟨6, dir, nm, tt, asn, ov⟩ fr = (atH l l.length, l.length, rc 6) := by
      unfold doF dirC doF2 linkF
      dsimp only
      simp only [at_is, at_get, room_ref, hr]
      simp [hd, hf, hdt]
      try rfl
     rw [hD, hF]
     exact ag_same ht _
    ·by_cases hft : fi l tt < l.length
     ·have hD : doD l ⟨6, dir, nm, tt, asn, ov⟩ fr = (addN (lkN l (fi l tt) 1) (fi l dir) nm tt, rc 0) := by
       unfold doD
       dsimp only
       simp only [hr]
       simp [hd, hf, hdt, hft]
      have hF : doF (atH l l.length) l.length ⟨6, dir, nm, tt, asn, ov⟩ fr = (setN (setN (atH l l.length) tt { l[fi l tt]?.getD nd0 with links := (l[fi l tt]?.getD nd0).links + 1 }) dir { l[fi l dir]?.getD nd0 with es := addE (l[fi l dir]?.getD nd0).es nm tt }, l.length, rc 0) := by
       unfold doF dirC doF2 linkF
       dsimp only
       simp only [at_is, at_get, room_ref, hr]
       simp [hd, hf, hdt, hft]
       try rfl
      rw [hD, hF]
      have hh := fi_h hf
      have hht := fi_h hft
      have hne : fi l dir ≠ fi l tt := fun x => by rw [x, hht] at hh; rw [hh] at hdt; exact hdt hd
      have r1 := (tree_rp ht).set hft (n := (l[fi l tt]?.getD nd0).setLk ((l[fi l tt]?.getD nd0).links + 1)) rfl
      have e1 : ((l[fi l tt]?.getD nd0).setLk ((l[fi l tt]?.getD nd0).links + 1)).h = tt := hht
      rw [e1] at r1
      have hf2 : fi l dir < (lkN l (fi l tt) 1).length := by unfold lkN; rw [List.length_set]; exact hf
      have eN : (lkN l (fi l tt) 1)[fi l dir]?.getD nd0 = l[fi l dir]?.getD nd0 := by unfold lkN; rw [set_at hft, if_neg hne]
      have r2 := Rp.set (l := lkN l (fi l tt) 1) r1 hf2 (n := (l[fi l dir]?.getD nd0).setEs (addE (l[fi l dir]?.getD nd0).es nm tt)) (by rw [eN]; rfl)
      have e2 : ((l[fi l dir]?.getD nd0).setEs (addE (l[fi l dir]?.getD nd0).es nm tt)).h = dir := hh
      rw [e2] at r2
      have eA : addN (lkN l (fi l tt) 1) (fi l dir) nm tt = (lkN l (fi l tt) 1).set (fi l dir) ((l[fi l dir]?.getD nd0).setEs (addE (l[fi l dir]?.getD nd0).es nm tt)) := by unfold addN; rw [eN]
      rw [eA]
      refine ⟨r2, rfl, ?_, by show l.length ≤ 3000; omega, hin_set (hin_set (tree_hin ht) (tree_hin ht _ _ (at_so hft)) _) (tree_hin ht _ _ (at_so hf)) _⟩
      show (List.set _ _ _).length ≤ 3000
      unfold lkN
      simp
      omega
     ·have hD : doD l ⟨6, dir, nm, tt, asn, ov⟩ fr = (l, rc 1) := by
       unfold doD
       dsimp only
       simp only [hr]
       simp [hd, hf, hdt, hft]
      have hF : doF (atH l l.length) l.length ⟨6, dir, nm, tt, asn, ov⟩ fr = (atH l l.length, l.length, rc 1) := by
       unfold doF dirC doF2 linkF
       dsimp only
       simp only [at_is, at_get, room_ref, hr]
       simp [hd, hf, hdt, hft]
       try rfl
      rw [hD, hF]
      exact ag_same ht _
   ·have hD : doD l ⟨6, dir, nm, tt, asn, ov⟩ fr = (l, rc (refD (l[fi l dir]?.getD nd0).es nm)) := by
     unfold doD 
     dsimp only
     generalize l[fi l dir]?.getD nd0 = N at hr ⊢; simp [hd, hf, hr]
    have hF : doF (atH l l.length) l.length ⟨6, dir, nm, tt, asn, ov⟩ fr = (atH l l.length, l.length, rc (refD (l[fi l dir]?.getD nd0).es nm)) := by
     unfold doF dirC doF2 linkF
     dsimp only
     simp only [at_is, at_get, fdB_ei, room_ref]
     generalize l[fi l dir]?.getD nd0 = N at hr ⊢; simp [hd, hf, hr]
     try rfl
    rw [hD, hF]
    exact ag_same ht _
  ·have hD : doD l ⟨6, dir, nm, tt, asn, ov⟩ fr = (l, rc 1) := by
    unfold doD 
    dsimp only
    simp [hd, hf]
   have hF : doF (atH l l.length) l.length ⟨6, dir, nm, tt, asn, ov⟩ fr = (atH l l.length, l.length, rc 1) := by
    unfold doF dirC doF2 
    dsimp only
    simp only [at_is, at_get, fdB_ei, room_ref]
    simp [hd, hf]
    try rfl
   rw [hD, hF]
   exact ag_same ht _
 ·have hD : doD l ⟨6, dir, nm, tt, asn, ov⟩ fr = (l, rc 2) := by
   unfold doD 
   dsimp only
   simp [hd]
  have hF : doF (atH l l.length) l.length ⟨6, dir, nm, tt, asn, ov⟩ fr = (atH l l.length, l.length, rc 2) := by
   unfold doF dirC doF2 
   dsimp only
   simp only [at_is, at_get, fdB_ei, room_ref]
   simp [hd]
   try rfl
  rw [hD, hF]
  exact ag_same ht _
theorem agK4 (htk : takesB fr tt (atH l l.length (fr.sh, fr.ino, false)).isSome (atH l l.length (fr.sh, fr.ino, true)).isSome l.length = true) (hfi : HIn fr) (hnew : atH l l.length fr = none) (hpl : ∀ c, ¬ fi l (fr.sh, fr.ino, c) < l.length) : Ag (doD l ⟨4, dir, nm, tt, asn, ov⟩ fr) (doF (atH l l.length) l.length ⟨4, dir, nm, tt, asn, ov⟩ fr) := by
 have hlen := (treeOk_len ht).2
 by_cases hd : dir.dir = true
 ·by_cases hf : fi l dir < l.length
  ·by_cases hr : refD (l[fi l dir]?.getD nd0).es nm = 0
   ·have hD : doD l ⟨4, dir, nm, tt, asn, ov⟩ fr = (insN (addN l (fi l dir) nm fr) ⟨fr, if fr.dir = true then dir else hd0, 1, 0, []⟩, ⟨0, fr, 0, []⟩) := by
     unfold doD
     dsimp only
     simp only [hr]
     simp [hd, hf, htk]
    have hF : doF (atH l l.length) l.length ⟨4, dir, nm, tt, asn, ov⟩ fr = (setN (setN (atH l l.length) fr ⟨fr, if fr.dir = true then dir else hd0, 1, 0, []⟩) dir { l[fi l dir]?.getD nd0 with es := addE (l[fi l dir]?.getD nd0).es nm fr }, l.length + 1, ⟨0, fr, 0, []⟩) := by
     unfold doF dirC doF2 makeF
     dsimp only
     rw [htk]
     simp only [at_is, at_get, room_ref, hr]
     simp [hd, hf, htk]
    rw [hD, hF]
    have hh := fi_h hf
    have e : ((l[fi l dir]?.getD nd0).setEs (addE (l[fi l dir]?.getD nd0).es nm fr)).h = dir := hh
    have r1 := (tree_rp ht).set hf (n := (l[fi l dir]?.getD nd0).setEs (addE (l[fi l dir]?.getD nd0).es nm fr)) rfl
    rw [e] at r1
    have hfd : fr ≠ dir := fun x => by rw [x, at_so hf] at hnew; cases hnew
    have hno : ∀ m ∈ l.set (fi l dir) ((l[fi l dir]?.getD nd0).setEs (addE (l[fi l dir]?.getD nd0).es nm fr)), ¬ (m.h.sh = fr.sh ∧ m.h.ino = fr.ino) := by
     intro m hm hx
     have hm2 : m.h = dir ∨ m ∈ l := by
      rcases List.mem_or_eq_of_mem_set hm with h | h
      ·exact .inr h
      ·left; rw [h]; exact hh
     have hloc : ∀ g, fi l g < l.length → ¬ (g.sh = fr.sh ∧ g.ino = fr.ino) := fun g hg hx2 => by
      obtain ⟨a, b, c⟩ := fr
      obtain ⟨a2, b2, c2⟩ := g
      obtain ⟨rfl, rfl⟩ : a2 = a ∧ b2 = b := hx2
      have := hpl c2
      exact this hg
     rcases hm2 with h | h
     ·exact hloc dir hf (by rw [← h]; exact hx)
     ·have h9 := ((tree_rp ht).mem m).1 h
      rw [atH_fi] at h9
      by_cases hq : fi l m.h < l.length
      ·exact hloc m.h hq hx
      ·rw [if_neg hq] at h9; cases h9
    have r2 := r1.ins (n := ⟨fr, if fr.dir = true then dir else hd0, 1, 0, []⟩) hno
    rw [setN_comm (atH l l.length) hfd]
    refine ⟨r2, rfl, ?_, by show l.length + 1 ≤ 3000; omega, hin_set (hin_set (tree_hin ht) (tree_hin ht _ _ (at_so hf)) _) hfi _⟩
    show (insN _ _).length ≤ 3000
    unfold insN addN
    simp
    omega
   ·have hD : doD l ⟨4, dir, nm, tt, asn, ov⟩ fr = (l, rc (refD (l[fi l dir]?.getD nd0).es nm)) := by
     unfold doD 
     dsimp only
     generalize l[fi l dir]?.getD nd0 = N at hr ⊢; simp [hd, hf, hr, htk]
    have hF : doF (atH l l.length) l.length ⟨4, dir, nm, tt, asn, ov⟩ fr = (atH l l.length, l.length, rc (refD (l[fi l dir]?.getD nd0).es nm)) := by
     unfold doF dirC doF2 makeF
     dsimp only
     rw [htk]
     simp only [at_is, at_get, fdB_ei, room_ref]
     generalize l[fi l dir]?.getD nd0 = N at hr ⊢; simp [hd, hf, hr, htk]
     try rfl
    rw [hD, hF]
    exact ag_same ht _
  ·have hD : doD l ⟨4, dir, nm, tt, asn, ov⟩ fr = (l, rc 1) := by
    unfold doD 
    dsimp only
    simp [hd, hf, htk]
   have hF : doF (atH l l.length) l.length ⟨4, dir, nm, tt, asn, ov⟩ fr = (atH l l.length, l.length, rc 1) := by
    unfold doF dirC doF2 
    dsimp only
    rw [htk]
    simp only [at_is, at_get, fdB_ei, room_ref]
    simp [hd, hf, htk]
    try rfl
   rw [hD, hF]
   exact ag_same ht _
 ·have hD : doD l ⟨4, dir, nm, tt, asn, ov⟩ fr = (l, rc 2) := by
   unfold doD 
   dsimp only
   simp [hd, htk]
  have hF : doF (atH l l.length) l.length ⟨4, dir, nm, tt, asn, ov⟩ fr = (atH l l.length, l.length, rc 2) := by
   unfold doF dirC doF2 
   dsimp only
   rw [htk]
   simp only [at_is, at_get, fdB_ei, room_ref]
   simp [hd, htk]
   try rfl
  rw [hD, hF]
  exact ag_same ht _
end
end
section
section
variable {l : List Nd} (ht : treeOk l = true) (dir tt fr : Hd) (nm asn : List Int) (ov : Int)
include ht
theorem ag5 (hd : dir.dir = true) (hf : fi l dir < l.length) {NN : Nd} (hNN : l[fi l dir]?.getD nd0 = NN) : Ag (doD l ⟨5, dir, nm, tt, asn, ov⟩ fr) (doF (atH l l.length) l.length ⟨5, dir, nm, tt, asn, ov⟩ fr) := by
 have hlen := (treeOk_len ht).2
 by_cases he : ei NN.es nm < NN.es.length
 case neg =>
  have hD : doD l ⟨5, dir, nm, tt, asn, ov⟩ fr = (l, rc 3) := by unfold doD; dsimp only; simp only [hNN]; simp [hd, hf, he]
  have hF : doF (atH l l.length) l.length ⟨5, dir, nm, tt, asn, ov⟩ fr = (atH l l.length, l.length, rc 3) := by unfold doF dirC doF2 dropF; dsimp only; simp only [at_is, at_get, hNN, fdB_ei]; simp [hd, hf, he]; rfl
  rw [hD, hF]; exact ag_same ht _
 have hmN : NN ∈ l := by rw [← hNN]; exact node_mem hf
 have hhN : NN.h = dir := by rw [← hNN]; exact fi_h hf
 obtain ⟨h, hh⟩ : ∃ h, (NN.es[ei NN.es nm]?.getD en0).h = h := ⟨_, rfl⟩
 have hfdH : fdH NN.es nm = h := by unfold fdH; rw [if_pos he]; exact hh
 have hmem : NN.es[ei NN.es nm]?.getD en0 ∈ NN.es := by rw [List.getElem?_eq_getElem he]; exact List.getElem_mem he
 have hne : h ≠ dir := by rw [← hh]; exact not_self ht hd hf (by rw [hNN]; exact hmem)
 have hfh : fi l h < l.length := by
  have hl := tree_lead ht hmN hmem
  unfold entLead at hl
  simp only [Bool.and_eq_true, decide_eq_true_eq] at hl
  rw [← hh]; exact hl.1
 obtain ⟨H, hH⟩ : ∃ n, l[fi l h]?.getD nd0 = n := ⟨_, rfl⟩
 have hhH : H.h = h := by rw [← hH]; exact fi_h hfh
 have hlk := ndOk_small (tree_nd ht (show H ∈ l by rw [← hH]; exact node_mem hfh))
 have hset : ∀ X, (setN (atH l l.length) dir X h).getD nd0 = H := fun X => by unfold setN; rw [if_neg hne, at_get, hH]
 by_cases hc : h.dir = true ∧ 0 < H.es.length
 ·have hD : doD l ⟨5, dir, nm, tt, asn, ov⟩ fr = (l, rc 7) := by unfold doD dropD; dsimp only; simp only [hNN, hh, hH]; simp [hd, hf, he, hc]
  have hF : doF (atH l l.length) l.length ⟨5, dir, nm, tt, asn, ov⟩ fr = (atH l l.length, l.length, rc 7) := by unfold doF dirC doF2 dropF; dsimp only; simp only [at_is, at_get, hNN, fdB_ei, hfdH, hH]; simp [hd, hf, he, hc]; rfl
  rw [hD, hF]; exact ag_same ht _
 have hkd : fi l h ≠ fi l dir := fun x => by
  have h1 := fi_h hfh
  rw [x, hNN, hhN] at h1
  exact hne h1.symm
 have hck : (cutN l (fi l dir) (ei NN.es nm))[fi l h]?.getD nd0 = H := by unfold cutN; rw [set_at hf, if_neg hkd, hH]
 have hcl : (cutN l (fi l dir) (ei NN.es nm)).length = l.length := by unfold cutN; rw [List.length_set]
 have hcut := cut_out (nd_asc (tree_nd ht hmN)) he
 have r1 := (tree_rp ht).set hf (n := NN.setEs (cutE NN.es (ei NN.es nm))) (by rw [hNN]; rfl)
 have eC : cutN l (fi l dir) (ei NN.es nm) = l.set (fi l dir) (NN.setEs (cutE NN.es (ei NN.es nm))) := by unfold cutN; rw [hNN]
 rw [← eC, show (NN.setEs (cutE NN.es (ei NN.es nm))).h = dir from hhN, hcut] at r1
 have r2 := r1.set (by rw [hcl]; exact hfh) (n := H.setLk (H.links + -1)) (by rw [hck]; rfl)
 have eL : lkN (cutN l (fi l dir) (ei NN.es nm)) (fi l h) (-1) = (cutN l (fi l dir) (ei NN.es nm)).set (fi l h) (H.setLk (H.links + -1)) := by unfold lkN; rw [hck]
 rw [← eL, show (H.setLk (H.links + -1)).h = h from hhH] at r2
 have hF : doF (atH l l.length) l.length ⟨5, dir, nm, tt, asn, ov⟩ fr = (unlN (setN (atH l l.length) dir { NN with es := outE NN.es nm }) h H, unlS l.length H, rc 0) := by unfold doF dirC doF2 dropF; dsimp only; simp only [at_is, at_get, hNN, fdB_ei, hfdH, hH, hset]; simp [hd, hf, he, hc]; rfl
 have hin2 := hin_set (tree_hin ht) (tree_hin ht _ _ (at_so hf)) ({ NN with es := outE NN.es nm })
 by_cases hz : H.links - 1 = 0
 ·have hD : doD l ⟨5, dir, nm, tt, asn, ov⟩ fr = (outN (lkN (cutN l (fi l dir) (ei NN.es nm)) (fi l h) (-1)) (fi l h), rc 0) := by unfold doD dropD; dsimp only; simp only [hNN, hh, hH, hck]; simp [hd, hf, he, hc, hz]
  have hll : fi l h < (lkN (cutN l (fi l dir) (ei NN.es nm)) (fi l h) (-1)).length := by unfold lkN; rw [List.length_set, hcl]; exact hfh
  have r3 := r2.out hll
  have e3 : ((lkN (cutN l (fi l dir) (ei NN.es nm)) (fi l h) (-1))[fi l h]?.getD nd0).h = h := by rw [eL, set_at (by rw [hcl]; exact hfh), if_pos rfl]; exact hhH
  rw [e3, delN_set] at r3
  rw [hD, hF]
  have eU : unlN (setN (atH l l.length) dir { NN with es := outE NN.es nm }) h H = delN (setN (atH l l.length) dir { NN with es := outE NN.es nm }) h := by unfold unlN; rw [if_pos (by omega)]
  refine ⟨by rw [eU]; exact r3, rfl, ?_, ?_, by rw [eU]; exact hin_del hin2 h⟩
  ·show (outN _ _).length ≤ 3000
   unfold outN
   have : (lkN (cutN l (fi l dir) (ei NN.es nm)) (fi l h) (-1)).length = l.length := by unfold lkN; rw [List.length_set, hcl]
   simp [this]; omega
  ·show unlS _ _ ≤ 3000
   unfold unlS; split <;> omega
 ·have hD : doD l ⟨5, dir, nm, tt, asn, ov⟩ fr = (lkN (cutN l (fi l dir) (ei NN.es nm)) (fi l h) (-1), rc 0) := by unfold doD dropD; dsimp only; simp only [hNN, hh, hH, hck]; simp [hd, hf, he, hc, hz]
  rw [hD, hF]
  have eU : unlN (setN (atH l l.length) dir { NN with es := outE NN.es nm }) h H = setN (setN (atH l l.length) dir { NN with es := outE NN.es nm }) h (H.setLk (H.links + -1)) := by unfold unlN; rw [if_neg (by omega)]; rfl
  refine ⟨by rw [eU]; exact r2, rfl, ?_, ?_, by rw [eU]; exact hin_set hin2 (tree_hin ht _ _ (at_so hfh)) _⟩
  ·show (lkN _ _ _).length ≤ 3000
   unfold lkN; rw [List.length_set, hcl]; omega
  ·show unlS _ _ ≤ 3000
   unfold unlS; split <;> omega
end
end
section
section
variable {l : List Nd} (ht : treeOk l = true) (dir tt fr : Hd) (nm asn : List Int) (ov : Int)
include ht
set_option maxHeartbeats 1000000 in
theorem ag7 (hd : dir.dir = true) (hf : fi l dir < l.length) {NN : Nd} (hNN : l[fi l dir]?.getD nd0 = NN) : Ag (doD l ⟨7, dir, nm, tt, asn, ov⟩ fr) (doF (atH l l.length) l.length ⟨7, dir, nm, tt, asn, ov⟩ fr) := by
 have hlen := (treeOk_len ht).2
 by_cases he : ei NN.es nm < NN.es.length
 case neg =>
  have hD : doD l ⟨7, dir, nm, tt, asn, ov⟩ fr = (l, rc 3) := by unfold doD moveD; dsimp only; simp only [hNN]; simp [hd, hf, he]
  have hF : doF (atH l l.length) l.length ⟨7, dir, nm, tt, asn, ov⟩ fr = (atH l l.length, l.length, rc 3) := by unfold doF dirC doF2 moveF; dsimp only; simp only [at_is, at_get, hNN, fdB_ei]; simp [hd, hf, he]; rfl
  rw [hD, hF]; exact ag_same ht _
 have hmN : NN ∈ l := by rw [← hNN]; exact node_mem hf
 have hhN : NN.h = dir := by rw [← hNN]; exact fi_h hf
 obtain ⟨h, hh⟩ : ∃ h, (NN.es[ei NN.es nm]?.getD en0).h = h := ⟨_, rfl⟩
 have hfdH : fdH NN.es nm = h := by unfold fdH; rw [if_pos he]; exact hh
 have hmem : NN.es[ei NN.es nm]?.getD en0 ∈ NN.es := by rw [List.getElem?_eq_getElem he]; exact List.getElem_mem he
 have hne : h ≠ dir := by rw [← hh]; exact not_self ht hd hf (by rw [hNN]; exact hmem)
 have hlead : fi l h < l.length ∧ (h.dir = false ∨ (l[fi l h]?.getD nd0).par = dir) := by
  have hl := tree_lead ht hmN hmem
  unfold entLead at hl
  simp only [Bool.and_eq_true, Bool.or_eq_true, Bool.not_eq_true', decide_eq_true_eq] at hl
  rw [hh, hhN] at hl
  exact hl
 have hfh := hlead.1
 obtain ⟨H, hH⟩ : ∃ n, l[fi l h]?.getD nd0 = n := ⟨_, rfl⟩
 rw [hH] at hlead
 have hhH : H.h = h := by rw [← hH]; exact fi_h hfh
 by_cases h2 : tt.dir = true
 case neg =>
  have hD : doD l ⟨7, dir, nm, tt, asn, ov⟩ fr = (l, rc 2) := by unfold doD moveD; dsimp only; simp only [hNN]; simp [hd, hf, he, h2]
  have hF : doF (atH l l.length) l.length ⟨7, dir, nm, tt, asn, ov⟩ fr = (atH l l.length, l.length, rc 2) := by unfold doF dirC doF2 moveF moveI; dsimp only; simp only [at_is, at_get, hNN, fdB_ei, hfdH]; simp [hd, hf, he, h2]; rfl
  rw [hD, hF]; exact ag_same ht _
 by_cases h3 : fi l tt < l.length
 case neg =>
  have hD : doD l ⟨7, dir, nm, tt, asn, ov⟩ fr = (l, rc 1) := by unfold doD moveD; dsimp only; simp only [hNN]; simp [hd, hf, he, h2, h3]
  have hF : doF (atH l l.length) l.length ⟨7, dir, nm, tt, asn, ov⟩ fr = (atH l l.length, l.length, rc 1) := by unfold doF dirC doF2 moveF moveI; dsimp only; simp only [at_is, at_get, hNN, fdB_ei, hfdH]; simp [hd, hf, he, h2, h3]; rfl
  rw [hD, hF]; exact ag_same ht _
 have hcut := cut_out (nd_asc (tree_nd ht hmN)) he
 have hkd : fi l h ≠ fi l dir := fun x => by
  have h1 := fi_h hfh
  rw [x, hNN, hhN] at h1
  exact hne h1.symm
 have eC : cutN l (fi l dir) (ei NN.es nm) = l.set (fi l dir) (NN.setEs (outE NN.es nm)) := by unfold cutN; rw [hNN, hcut]
 have hcl : (cutN l (fi l dir) (ei NN.es nm)).length = l.length := by unfold cutN; rw [List.length_set]
 have r1 := (tree_rp ht).set hf (n := NN.setEs (outE NN.es nm)) (by rw [hNN]; rfl)
 rw [← eC, show (NN.setEs (outE NN.es nm)).h = dir from hhN] at r1
 have hin1 := fun X => hin_set (tree_hin ht) (tree_hin ht _ _ (at_so hf)) X
 by_cases h4 : tt = dir
 case pos =>
  subst h4
  by_cases h5 : ei NN.es asn < NN.es.length
  ·have hD : doD l ⟨7, tt, nm, tt, asn, ov⟩ fr = (l, rc 4) := by unfold doD moveD; dsimp only; simp only [hNN, findE_ei]; simp [hd, hf, he, h5]
   have hF : doF (atH l l.length) l.length ⟨7, tt, nm, tt, asn, ov⟩ fr = (atH l l.length, l.length, rc 4) := by unfold doF dirC doF2 moveF moveI; dsimp only; simp only [at_is, at_get, hNN, fdB_ei, hfdH]; simp [hd, hf, he, h5]; rfl
   rw [hD, hF]; exact ag_same ht _
  ·have hD : doD l ⟨7, tt, nm, tt, asn, ov⟩ fr = (addN (cutN l (fi l tt) (ei NN.es nm)) (fi l tt) asn h, rc 0) := by unfold doD moveD; dsimp only; simp only [hNN, findE_ei, hh]; simp [hd, hf, he, h5]
   have hsD : ∀ X, (setN (atH l l.length) tt X tt).getD nd0 = X := fun X => by simp [setN]
   have hsH : ∀ X Y, (setN (setN (atH l l.length) tt X) tt Y h).getD nd0 = H := fun X Y => by rw [setN_twice]; unfold setN; rw [if_neg hne, at_get, hH]
   have hF : doF (atH l l.length) l.length ⟨7, tt, nm, tt, asn, ov⟩ fr = (if h.dir = true then setN (setN (setN (atH l l.length) tt { NN with es := outE NN.es nm }) tt { NN with es := addE (outE NN.es nm) asn h }) h { H with par := tt } else setN (setN (atH l l.length) tt { NN with es := outE NN.es nm }) tt { NN with es := addE (outE NN.es nm) asn h }, l.length, rc 0) := by
    unfold doF dirC doF2 moveF moveI mvF
    dsimp only
    simp only [at_is, at_get, hNN, fdB_ei, hfdH, hsD, hsH]
    simp [hd, hf, he, h5]
    rfl
   rw [hD, hF]
   have hcN : (cutN l (fi l tt) (ei NN.es nm))[fi l tt]?.getD nd0 = NN.setEs (outE NN.es nm) := by rw [eC, set_at hf, if_pos rfl]
   have r2 := r1.set (by rw [hcl]; exact hf) (n := NN.setEs (addE (outE NN.es nm) asn h)) (by rw [hcN]; rfl)
   rw [show (NN.setEs (addE (outE NN.es nm) asn h)).h = tt from hhN] at r2
   have eA : addN (cutN l (fi l tt) (ei NN.es nm)) (fi l tt) asn h = (cutN l (fi l tt) (ei NN.es nm)).set (fi l tt) (NN.setEs (addE (outE NN.es nm) asn h)) := by unfold addN; rw [hcN]; rfl
   rw [← eA] at r2
   have hfin : (if h.dir = true then setN (setN (setN (atH l l.length) tt { NN with es := outE NN.es nm }) tt { NN with es := addE (outE NN.es nm) asn h }) h { H with par := tt } else setN (setN (atH l l.length) tt { NN with es := outE NN.es nm }) tt { NN with es := addE (outE NN.es nm) asn h }) = setN (setN (atH l l.length) tt (NN.setEs (outE NN.es nm))) tt (NN.setEs (addE (outE NN.es nm) asn h)) := by
    by_cases h6 : h.dir = true
    ·rw [if_pos h6]
     have hp : H.par = tt := by
      rcases hlead.2 with x | x
      ·rw [h6] at x; cases x
      ·exact x
     have hH2 : ({ H with par := tt } : Nd) = H := by rw [← hp]
     rw [hH2]
     refine setN_self ?_
     rw [setN_twice]
     unfold setN
     rw [if_neg hne, at_so hfh, hH]
    ·rw [if_neg h6]; rfl
   rw [hfin]
   refine ⟨r2, rfl, ?_, by show l.length ≤ 3000; omega, hin_set (hin1 _) (tree_hin ht _ _ (at_so hf)) _⟩
   show (addN _ _ _ _).length ≤ 3000
   rw [eA, List.length_set, hcl]; omega
 have h4' : ¬ fi l tt = fi l dir := fun x => by
  have h1 := fi_h h3
  rw [x, hNN, hhN] at h1
  exact h4 h1.symm
 obtain ⟨TT, hTT⟩ : ∃ n, l[fi l tt]?.getD nd0 = n := ⟨_, rfl⟩
 have hhT : TT.h = tt := by rw [← hTT]; exact fi_h h3
 by_cases h5 : refD TT.es asn = 0
 case neg =>
  have hD : doD l ⟨7, dir, nm, tt, asn, ov⟩ fr = (l, rc (refD TT.es asn)) := by unfold doD moveD; dsimp only; simp only [hNN, hTT]; simp [hd, hf, he, h2, h3, h4', h5]
  have hF : doF (atH l l.length) l.length ⟨7, dir, nm, tt, asn, ov⟩ fr = (atH l l.length, l.length, rc (refD TT.es asn)) := by unfold doF dirC doF2 moveF moveI; dsimp only; simp only [at_is, at_get, hNN, fdB_ei, hfdH, room_ref, hTT]; simp [hd, hf, he, h2, h3, h4, h5]; rfl
  rw [hD, hF]; exact ag_same ht _
 have hsT : ∀ X, (setN (atH l l.length) dir X tt).getD nd0 = TT := fun X => by unfold setN; rw [if_neg h4, at_get, hTT]
 by_cases h6 : h.dir = true
 case neg =>
  have hD : doD l ⟨7, dir, nm, tt, asn, ov⟩ fr = (addN (cutN l (fi l dir) (ei NN.es nm)) (fi l tt) asn h, rc 0) := by unfold doD moveD; dsimp only; simp only [hNN, hTT, hh, h5]; simp [hd, hf, he, h2, h3, h4', h6]
  have hF : doF (atH l l.length) l.length ⟨7, dir, nm, tt, asn, ov⟩ fr = (setN (setN (atH l l.length) dir { NN with es := outE NN.es nm }) tt { TT with es := addE TT.es asn h }, l.length, rc 0) := by unfold doF dirC doF2 moveF moveI mvF; dsimp only; simp only [at_is, at_get, hNN, fdB_ei, hfdH, room_ref, hTT, h5, hsT]; simp [hd, hf, he, h2, h3, h4, h6]; rfl
  rw [hD, hF]
  have hcT : (cutN l (fi l dir) (ei NN.es nm))[fi l tt]?.getD nd0 = TT := by rw [eC, set_at hf, if_neg h4', hTT]
  have r2 := r1.set (by rw [hcl]; exact h3) (n := TT.setEs (addE TT.es asn h)) (by rw [hcT]; rfl)
  rw [show (TT.setEs (addE TT.es asn h)).h = tt from hhT] at r2
  have eA : addN (cutN l (fi l dir) (ei NN.es nm)) (fi l tt) asn h = (cutN l (fi l dir) (ei NN.es nm)).set (fi l tt) (TT.setEs (addE TT.es asn h)) := by unfold addN; rw [hcT]
  rw [← eA] at r2
  refine ⟨r2, rfl, ?_, by show l.length ≤ 3000; omega, hin_set (hin1 _) (tree_hin ht _ _ (at_so h3)) _⟩
  show (addN _ _ _ _).length ≤ 3000
  rw [eA, List.length_set, hcl]; omega
 have hway := way_und ht h 12 tt h2 h3
 rcases und_vals l h 12 tt with hu | hu | hu
 case inr.inl =>
  rw [hu] at hway
  simp at hway
  have hD : doD l ⟨7, dir, nm, tt, asn, ov⟩ fr = (l, rc 8) := by unfold doD moveD; dsimp only; simp only [hNN, hTT, hh, h5, hu]; simp [hd, hf, he, h2, h3, h4', h6]
  have hF : doF (atH l l.length) l.length ⟨7, dir, nm, tt, asn, ov⟩ fr = (atH l l.length, l.length, rc 8) := by unfold doF dirC doF2 moveF moveI; dsimp only; simp only [at_is, at_get, hNN, fdB_ei, hfdH, room_ref, hTT, h5, hway]; simp [hd, hf, he, h2, h3, h4, h6]; rfl
  rw [hD, hF]; exact ag_same ht _
 case inr.inr =>
  rw [hu] at hway
  simp at hway
  have hD : doD l ⟨7, dir, nm, tt, asn, ov⟩ fr = (l, rc 9) := by unfold doD moveD; dsimp only; simp only [hNN, hTT, hh, h5, hu]; simp [hd, hf, he, h2, h3, h4', h6]
  have hF : doF (atH l l.length) l.length ⟨7, dir, nm, tt, asn, ov⟩ fr = (atH l l.length, l.length, rc 9) := by unfold doF dirC doF2 moveF moveI; dsimp only; simp only [at_is, at_get, hNN, fdB_ei, hfdH, room_ref, hTT, h5, hway]; simp [hd, hf, he, h2, h3, h4, h6]; rfl
  rw [hD, hF]; exact ag_same ht _
 rw [hu] at hway
 simp at hway
 have hht : tt ≠ h := fun x => by
  rw [show (12 : Nat) = 11 + 1 from rfl] at hu
  unfold undN at hu
  rw [if_pos x] at hu
  cases hu
 have hkt : fi l tt ≠ fi l h := fun x => by
  have h1 := fi_h h3
  rw [x, hH, hhH] at h1
  exact hht h1.symm
 have hsH : ∀ X Y, (setN (setN (atH l l.length) dir X) tt Y h).getD nd0 = H := fun X Y => by unfold setN; rw [if_neg (Ne.symm hht), if_neg hne, at_get, hH]
 have hD : doD l ⟨7, dir, nm, tt, asn, ov⟩ fr = (addN (cutN (parN l (fi l h) tt) (fi l dir) (ei NN.es nm)) (fi l tt) asn h, rc 0) := by unfold doD moveD; dsimp only; simp only [hNN, hTT, hh, h5, hu]; simp [hd, hf, he, h2, h3, h4', h6]
 have hF : doF (atH l l.length) l.length ⟨7, dir, nm, tt, asn, ov⟩ fr = (setN (setN (setN (atH l l.length) dir { NN with es := outE NN.es nm }) tt { TT with es := addE TT.es asn h }) h { H with par := tt }, l.length, rc 0) := by unfold doF dirC doF2 moveF moveI mvF; dsimp only; simp only [at_is, at_get, hNN, fdB_ei, hfdH, room_ref, hTT, h5, hway, hsT, hsH]; simp [hd, hf, he, h2, h3, h4, h6]; rfl
 rw [hD, hF]
 have rA := (tree_rp ht).set hfh (n := H.setPar tt) (by rw [hH]; rfl)
 have eP : parN l (fi l h) tt = l.set (fi l h) (H.setPar tt) := by unfold parN; rw [hH]
 rw [← eP, show (H.setPar tt).h = h from hhH] at rA
 have hpl : (parN l (fi l h) tt).length = l.length := by rw [eP, List.length_set]
 have hpN : (parN l (fi l h) tt)[fi l dir]?.getD nd0 = NN := by rw [eP, set_at hfh, if_neg (Ne.symm hkd), hNN]
 have rB := rA.set (by rw [hpl]; exact hf) (n := NN.setEs (outE NN.es nm)) (by rw [hpN]; rfl)
 have eB : cutN (parN l (fi l h) tt) (fi l dir) (ei NN.es nm) = (parN l (fi l h) tt).set (fi l dir) (NN.setEs (outE NN.es nm)) := by unfold cutN; rw [hpN, hcut]
 rw [← eB, show (NN.setEs (outE NN.es nm)).h = dir from hhN] at rB
 have hbl : (cutN (parN l (fi l h) tt) (fi l dir) (ei NN.es nm)).length = l.length := by rw [eB, List.length_set, hpl]
 have hbT : (cutN (parN l (fi l h) tt) (fi l dir) (ei NN.es nm))[fi l tt]?.getD nd0 = TT := by rw [eB, set_at (by rw [hpl]; exact hf), if_neg h4', eP, set_at hfh, if_neg hkt, hTT]
 have rC := rB.set (by rw [hbl]; exact h3) (n := TT.setEs (addE TT.es asn h)) (by rw [hbT]; rfl)
 have eD : addN (cutN (parN l (fi l h) tt) (fi l dir) (ei NN.es nm)) (fi l tt) asn h = (cutN (parN l (fi l h) tt) (fi l dir) (ei NN.es nm)).set (fi l tt) (TT.setEs (addE TT.es asn h)) := by unfold addN; rw [hbT]
 rw [← eD, show (TT.setEs (addE TT.es asn h)).h = tt from hhT, setN_comm _ hne, setN_comm _ (Ne.symm hht)] at rC
 refine ⟨rC, rfl, ?_, by show l.length ≤ 3000; omega, hin_set (hin_set (hin1 _) (tree_hin ht _ _ (at_so h3)) _) (tree_hin ht _ _ (at_so hfh)) _⟩
 show (addN _ _ _ _).length ≤ 3000
 rw [eD, List.length_set, hbl]; omega
end
end
section
open Go.Maps
set_option maxHeartbeats 4000000 in
theorem implDo0 (b s : Nat) (f : Hd → Option Nd) (o : OpD) (fr : Hd) (y z : Value) (S2 P : Nat → Prop) (w : World) (N : NM w b s f P) (ok : FOk f) (hin : HIn o.dir) (hito : HIn o.to) (hfr : HIn fr) (r2 : RdV w S2 y (.bytes o.nm)) (r3 : RdV w S2 z (.bytes o.asn)) (hS2 : ∀ c, S2 c → ¬ P c) (hSS : ∀ c, S2 c → c < w.heap.size) (hnm : o.nm.length ≤ 2097152) (hna : o.asn.length ≤ 2097152) (hs : s ≤ 2097000) (hok : OOk o = true) (hk : o.kind = 0) :
  Calls Tryz.prog 37 #[.map (some b), opV o y z, fr.v] w (DSub w b P (doF f s o fr)) := by
 obtain ⟨ya, yc, rfl⟩ := r2.sliceB
 obtain ⟨za, zc, rfl⟩ := r3.sliceB
 have HNM : Hid (NM w b s f P) := N
 have HPS : Hid (∀ c, P c → c < w.heap.size) := N.sm
 have hbw := N.lt
 obtain ⟨X, Q, N⟩ := N
 have HN : Hid (NX w b s f X Q P) := N
 have hXs : ∀ h n, f h = some n → ∃ a m c, X n.h = .slice a m c := fun h n hn => by obtain ⟨a, c, e, _⟩ := RdV.sliced (N.rd h n hn); exact ⟨a, _, c, e⟩
 obtain ⟨kd, ⟨p, q, d⟩, nm, ⟨p2, q2, d2⟩, asn, ov⟩ := o
 obtain ⟨pf, qf, df⟩ := fr
 dsimp only at hin hito hfr r2 r3 hnm hna hk
 subst hk
 clear hok
 have HI : Hid (HIn (p, q, d)) := hin
 have HIT : Hid (HIn (p2, q2, d2)) := hito
 have HIF : Hid (HIn (pf, qf, df)) := hfr
 have HS2 : Hid (∀ c, S2 c → ¬ P c) := hS2
 have HSS : Hid (∀ c, S2 c → c < w.heap.size) := hSS
 have OK : Hid (FOk f) := ok
 obtain ⟨th, hth⟩ : ∃ th, (f (p, q, d)).isSome = th := ⟨_, rfl⟩
 obtain ⟨dc, hdc0⟩ : ∃ r, dirC 0 d th = r := ⟨_, rfl⟩
 obtain ⟨tv, htv⟩ : ∃ r, takesB (pf, qf, df) (p2, q2, d2) (f (pf, qf, false)).isSome (f (pf, qf, true)).isSome s = r := ⟨_, rfl⟩
 have HDC : Hid (∀ W, Below w.heap.size w W → Calls Tryz.prog 85 #[.map (some b), .agg #[.i 0, .i p, .i q, .bool d, .slice ya nm.length yc, .i p2, .i q2, .bool d2, .slice za asn.length zc, .i ov]] W fun e w' => e = .returned (.i dc) ∧ Below W.heap.size W w') := fun W hW => by
  have h9 := dirCode_any b s f X ⟨0, (p, q, d), nm, (p2, q2, d2), asn, ov⟩ ya za nm.length yc asn.length zc W (N.m.blk (hW.block b hbw)) hin (fun n hn => hXs _ n hn)
  dsimp only at h9
  rw [hth, hdc0] at h9
  exact h9
 have HTK : Hid (∀ W, Below w.heap.size w W → Calls Tryz.prog 84 #[.map (some b), .agg #[.i pf, .i qf, .bool df], .agg #[.i p2, .i q2, .bool d2]] W fun e w' => e = .returned (.bool tv) ∧ Below W.heap.size W w') := fun W hW => by
  have h9 := takes_any b s f X (pf, qf, df) (p2, q2, d2) W (N.m.blk (hW.block b hbw)) hfr hXs
  rw [show takesB (pf, qf, df) (p2, q2, d2) (f (Hd.sh (pf, qf, df), Hd.ino (pf, qf, df), false)).isSome (f (Hd.sh (pf, qf, df), Hd.ino (pf, qf, df), true)).isSome s = tv from htv] at h9
  exact h9
 obtain ⟨res, hres⟩ : ∃ r, doF f s ⟨0, (p, q, d), nm, (p2, q2, d2), asn, ov⟩ (pf, qf, df) = r := ⟨_, rfl⟩
 have HRES : Hid ((if (0 : Int) = 4 ∧ tv = false then (f, s, rcI 11) else if dc ≠ 0 then (f, s, rcI dc) else doF2 f s ⟨0, (p, q, d), nm, (p2, q2, d2), asn, ov⟩ (pf, qf, df)) = res) := by
  show _ = _
  rw [← hres]
  unfold doF
  dsimp only [Hd.dir, Hd.sh, Hd.ino]
  rw [hth, hdc0, htv]
 rw [hres]
 have HNEW : Hid (tv = true → f (pf, qf, df) = none) := fun h => by
  rw [← htv] at h
  unfold takesB at h
  simp only [Bool.and_eq_true, Bool.not_eq_true', decide_eq_true_eq] at h
  cases df
  ·exact Option.isNone_iff_eq_none.1 (by simpa using h.2.2.2.1)
  ·exact Option.isNone_iff_eq_none.1 (by simpa using h.2.2.2.2.1)
 have HR2 : Hid (RdV w S2 (.slice ya nm.length yc) (.bytes nm)) := r2
 have HR3 : Hid (RdV w S2 (.slice za asn.length zc) (.bytes asn)) := r3
 have HDV : Hid (dirC 0 d th = dc) := hdc0
 have HTH : Hid ((f (p, q, d)).isSome = th) := hth
 clear N hXs r2 r3 hS2 hSS hin hito hfr ok hres htv hdc0 hth
 generalize hyn : nm.length = yn at *
 generalize hzn : asn.length = zn at *
 go_enter Tryz.func37, Tryz.ntmps37
 go_wp2_with fail
 go_at_call 85
 refine Calls.mono (HDC.out _ (by repeat (first | exact Below.refl _ _ | refine Below.al2 ?_ _))) ?_
 rintro e w1 ⟨rfl, hb1⟩
 have vO : VarA w1 w.heap.size 29 #[.i 0, .i p, .i q, .bool d, .slice ya yn yc, .i p2, .i q2, .bool d2, .slice za zn zc, .i ov] := (((VarA.new w _ _).alloc _).alloc _).step hb1
 have vF : VarA w1 (w.heap.size + 1) 27 #[.i pf, .i qf, .bool df] := ((by simpa using VarA.new (w.alloc _) 27 _ : VarA ((w.alloc _).alloc (.cells #[.i pf, .i qf, .bool df] 27)) (w.heap.size + 1) _ _).alloc _).step hb1
 have vR : VarA w1 (w.heap.size + 2) 34 #[.i 0, .i 0, .i 0, .bool false, .i 0, .n0] := (by simpa using VarA.new ((w.alloc _).alloc _) 34 _ : VarA (((w.alloc _).alloc _).alloc (.cells #[.i 0, .i 0, .i 0, .bool false, .i 0, .n0] 34)) (w.heap.size + 2) _ _).step hb1
 have HB1 : Hid (Below w.heap.size w w1) := (show Below w.heap.size w (((w.alloc _).alloc _).alloc _) by repeat (first | exact Below.refl _ _ | refine Below.al2 ?_ _)).trans (hb1.mono (by simp <;> omega))
 have HVR : Hid (VarA w1 (w.heap.size + 2) 34 _) := vR
 have HVO : Hid (VarA w1 w.heap.size 29 _) := vO
 have HVF : Hid (VarA w1 (w.heap.size + 1) 27 _) := vF
 have s1 : w.heap.size + 3 ≤ w1.heap.size := by have := vR.lt; omega
 obtain ⟨q0, q1, q2_, q3, q4, q5, q6, q7, q8, q9⟩ := vO.l10
 obtain ⟨g0, g1, g2⟩ := vF.l3
 clear hb1 vO vF vR
 by_cases hdc : dc = 0
 case neg =>
  have hres2 : res = (f, s, rcI dc) := by rw [← HRES.out]; simp [hdc]
  subst hres2
  have hc1 : (dc == 0) = false := by simpa using hdc
  have hc2 : (dc != 0) = true := by simpa using hdc
  go_wp2_with ((with_reducible refine gS 34 ?_); refine sF HVR.out rfl rfl (by kernel_rfl) rfl rfl ?_; intro w8 v8 t8)
  refine bpR Tryz.results37 v8 Tryz.underlying34 rfl rfl (by kernel_rfl) rfl ?_
  exact DSub.ret (R := fun _ => False) (P' := P) HB1.out (OwV.nilR _ _ _ _ _) (HNM.out.step HB1.out) (fun c hc => hc.elim) (fun c hc => hc.elim) (fun c hc => .inl hc) (Turned.refl _ _) t8 (by omega) (by omega) HPS.out
 subst hdc
 obtain ⟨rfl, rfl⟩ : d = true ∧ th = true := by
  have h9 := HDV.out
  cases d <;> cases th <;> simp [dirC] at h9 ⊢
 obtain ⟨n, hf⟩ : ∃ n, f (p, q, true) = some n := Option.isSome_iff_exists.1 HTH.out
 have hres2 : res = lookF f s ⟨0, (p, q, true), nm, (p2, q2, d2), asn, ov⟩ := by rw [← HRES.out]; simp [doF2]
 subst hres2
 have HSB : Hid (∀ W, Below w.heap.size w W → _) := fun W hW => lookD b s f ⟨0, (p, q, true), nm, (p2, q2, d2), asn, ov⟩ n (.slice ya yn yc) za zn zc S2 P W (HNM.out.step hW) HI.out hf (HR2.out.step hW) (OK.out.len _ n hf).1
 clear HRES HDC HTK HTH HDV
 go_wp2_with (first | (go_at_call 86; refine Calls.mono (HSB.out _ HB1.out) ?_; rintro e w9 ⟨a9, n9, c9, R9, P9, rfl, o9, N9, d9, r9, p9, t9⟩; have s9 := t9.size; have kR := HVR.out.turn t9 (fun h => by have := HPS.out _ h; omega); have HR9 : Hid (VarA w9 (w.heap.size + 2) 34 _) := kR; clear kR) | ((with_reducible refine gS 34 ?_); refine sF HR9.out rfl rfl (by kernel_rfl) rfl rfl ?_; intro w8 v8 t8))
 refine bpR Tryz.results37 v8 Tryz.underlying34 rfl rfl (by kernel_rfl) rfl ?_
 exact DSub.ret HB1.out o9 N9 d9 r9 p9 t9 t8 (by omega) (by omega) HPS.out
set_option maxHeartbeats 4000000 in
theorem implDo1 (b s : Nat) (f : Hd → Option Nd) (o : OpD) (fr : Hd) (y z : Value) (S2 P : Nat → Prop) (w : World) (N : NM w b s f P) (ok : FOk f) (hin : HIn o.dir) (hito : HIn o.to) (hfr : HIn fr) (r2 : RdV w S2 y (.bytes o.nm)) (r3 : RdV w S2 z (.bytes o.asn)) (hS2 : ∀ c, S2 c → ¬ P c) (hSS : ∀ c, S2 c → c < w.heap.size) (hnm : o.nm.length ≤ 2097152) (hna : o.asn.length ≤ 2097152) (hs : s ≤ 2097000) (hok : OOk o = true) (hk : o.kind = 1) :
  Calls Tryz.prog 37 #[.map (some b), opV o y z, fr.v] w (DSub w b P (doF f s o fr)) := by
 obtain ⟨ya, yc, rfl⟩ := r2.sliceB
 obtain ⟨za, zc, rfl⟩ := r3.sliceB
 have HNM : Hid (NM w b s f P) := N
 have HPS : Hid (∀ c, P c → c < w.heap.size) := N.sm
 have hbw := N.lt
 obtain ⟨X, Q, N⟩ := N
 have HN : Hid (NX w b s f X Q P) := N
 have hXs : ∀ h n, f h = some n → ∃ a m c, X n.h = .slice a m c := fun h n hn => by obtain ⟨a, c, e, _⟩ := RdV.sliced (N.rd h n hn); exact ⟨a, _, c, e⟩
 obtain ⟨kd, ⟨p, q, d⟩, nm, ⟨p2, q2, d2⟩, asn, ov⟩ := o
 obtain ⟨pf, qf, df⟩ := fr
 dsimp only at hin hito hfr r2 r3 hnm hna hk
 subst hk
 clear hok
 have HI : Hid (HIn (p, q, d)) := hin
 have HIT : Hid (HIn (p2, q2, d2)) := hito
 have HIF : Hid (HIn (pf, qf, df)) := hfr
 have HS2 : Hid (∀ c, S2 c → ¬ P c) := hS2
 have HSS : Hid (∀ c, S2 c → c < w.heap.size) := hSS
 have OK : Hid (FOk f) := ok
 obtain ⟨th, hth⟩ : ∃ th, (f (p, q, d)).isSome = th := ⟨_, rfl⟩
 obtain ⟨dc, hdc0⟩ : ∃ r, dirC 1 d th = r := ⟨_, rfl⟩
 obtain ⟨tv, htv⟩ : ∃ r, takesB (pf, qf, df) (p2, q2, d2) (f (pf, qf, false)).isSome (f (pf, qf, true)).isSome s = r := ⟨_, rfl⟩
 have HDC : Hid (∀ W, Below w.heap.size w W → Calls Tryz.prog 85 #[.map (some b), .agg #[.i 1, .i p, .i q, .bool d, .slice ya nm.length yc, .i p2, .i q2, .bool d2, .slice za asn.length zc, .i ov]] W fun e w' => e = .returned (.i dc) ∧ Below W.heap.size W w') := fun W hW => by
  have h9 := dirCode_any b s f X ⟨1, (p, q, d), nm, (p2, q2, d2), asn, ov⟩ ya za nm.length yc asn.length zc W (N.m.blk (hW.block b hbw)) hin (fun n hn => hXs _ n hn)
  dsimp only at h9
  rw [hth, hdc0] at h9
  exact h9
 have HTK : Hid (∀ W, Below w.heap.size w W → Calls Tryz.prog 84 #[.map (some b), .agg #[.i pf, .i qf, .bool df], .agg #[.i p2, .i q2, .bool d2]] W fun e w' => e = .returned (.bool tv) ∧ Below W.heap.size W w') := fun W hW => by
  have h9 := takes_any b s f X (pf, qf, df) (p2, q2, d2) W (N.m.blk (hW.block b hbw)) hfr hXs
  rw [show takesB (pf, qf, df) (p2, q2, d2) (f (Hd.sh (pf, qf, df), Hd.ino (pf, qf, df), false)).isSome (f (Hd.sh (pf, qf, df), Hd.ino (pf, qf, df), true)).isSome s = tv from htv] at h9
  exact h9
 obtain ⟨res, hres⟩ : ∃ r, doF f s ⟨1, (p, q, d), nm, (p2, q2, d2), asn, ov⟩ (pf, qf, df) = r := ⟨_, rfl⟩
 have HRES : Hid ((if (1 : Int) = 4 ∧ tv = false then (f, s, rcI 11) else if dc ≠ 0 then (f, s, rcI dc) else doF2 f s ⟨1, (p, q, d), nm, (p2, q2, d2), asn, ov⟩ (pf, qf, df)) = res) := by
  show _ = _
  rw [← hres]
  unfold doF
  dsimp only [Hd.dir, Hd.sh, Hd.ino]
  rw [hth, hdc0, htv]
 rw [hres]
 have HNEW : Hid (tv = true → f (pf, qf, df) = none) := fun h => by
  rw [← htv] at h
  unfold takesB at h
  simp only [Bool.and_eq_true, Bool.not_eq_true', decide_eq_true_eq] at h
  cases df
  ·exact Option.isNone_iff_eq_none.1 (by simpa using h.2.2.2.1)
  ·exact Option.isNone_iff_eq_none.1 (by simpa using h.2.2.2.2.1)
 have HR2 : Hid (RdV w S2 (.slice ya nm.length yc) (.bytes nm)) := r2
 have HR3 : Hid (RdV w S2 (.slice za asn.length zc) (.bytes asn)) := r3
 have HDV : Hid (dirC 1 d th = dc) := hdc0
 have HTH : Hid ((f (p, q, d)).isSome = th) := hth
 clear N hXs r2 r3 hS2 hSS hin hito hfr ok hres htv hdc0 hth
 generalize hyn : nm.length = yn at *
 generalize hzn : asn.length = zn at *
 go_enter Tryz.func37, Tryz.ntmps37
 go_wp2_with fail
 go_at_call 85
 refine Calls.mono (HDC.out _ (by repeat (first | exact Below.refl _ _ | refine Below.al2 ?_ _))) ?_
 rintro e w1 ⟨rfl, hb1⟩
 have vO : VarA w1 w.heap.size 29 #[.i 1, .i p, .i q, .bool d, .slice ya yn yc, .i p2, .i q2, .bool d2, .slice za zn zc, .i ov] := (((VarA.new w _ _).alloc _).alloc _).step hb1
 have vF : VarA w1 (w.heap.size + 1) 27 #[.i pf, .i qf, .bool df] := ((by simpa using VarA.new (w.alloc _) 27 _ : VarA ((w.alloc _).alloc (.cells #[.i pf, .i qf, .bool df] 27)) (w.heap.size + 1) _ _).alloc _).step hb1
 have vR : VarA w1 (w.heap.size + 2) 34 #[.i 0, .i 0, .i 0, .bool false, .i 0, .n0] := (by simpa using VarA.new ((w.alloc _).alloc _) 34 _ : VarA (((w.alloc _).alloc _).alloc (.cells #[.i 0, .i 0, .i 0, .bool false, .i 0, .n0] 34)) (w.heap.size + 2) _ _).step hb1
 have HB1 : Hid (Below w.heap.size w w1) := (show Below w.heap.size w (((w.alloc _).alloc _).alloc _) by repeat (first | exact Below.refl _ _ | refine Below.al2 ?_ _)).trans (hb1.mono (by simp <;> omega))
 have HVR : Hid (VarA w1 (w.heap.size + 2) 34 _) := vR
 have HVO : Hid (VarA w1 w.heap.size 29 _) := vO
 have HVF : Hid (VarA w1 (w.heap.size + 1) 27 _) := vF
 have s1 : w.heap.size + 3 ≤ w1.heap.size := by have := vR.lt; omega
 obtain ⟨q0, q1, q2_, q3, q4, q5, q6, q7, q8, q9⟩ := vO.l10
 obtain ⟨g0, g1, g2⟩ := vF.l3
 clear hb1 vO vF vR
 by_cases hdc : dc = 0
 case neg =>
  have hres2 : res = (f, s, rcI dc) := by rw [← HRES.out]; simp [hdc]
  subst hres2
  have hc1 : (dc == 0) = false := by simpa using hdc
  have hc2 : (dc != 0) = true := by simpa using hdc
  go_wp2_with ((with_reducible refine gS 34 ?_); refine sF HVR.out rfl rfl (by kernel_rfl) rfl rfl ?_; intro w8 v8 t8)
  refine bpR Tryz.results37 v8 Tryz.underlying34 rfl rfl (by kernel_rfl) rfl ?_
  exact DSub.ret (R := fun _ => False) (P' := P) HB1.out (OwV.nilR _ _ _ _ _) (HNM.out.step HB1.out) (fun c hc => hc.elim) (fun c hc => hc.elim) (fun c hc => .inl hc) (Turned.refl _ _) t8 (by omega) (by omega) HPS.out
 subst hdc
 obtain ⟨rfl, rfl⟩ : d = true ∧ th = true := by
  have h9 := HDV.out
  cases d <;> cases th <;> simp [dirC] at h9 ⊢
 obtain ⟨n, hf⟩ : ∃ n, f (p, q, true) = some n := Option.isSome_iff_exists.1 HTH.out
 obtain ⟨a, cap, hat, rx⟩ := atX_rd f X (p, q, true) P w (HN.out.rd _)
 rw [hf] at hat rx
 simp only [Option.getD_some] at hat rx
 have HA : Hid _ := hat
 have HM1 : Hid (MapH (ndX X) w1 b s f) := HN.out.m.blk (HB1.out.block b hbw)
 have hres2 : res = (f, s, ⟨0, hd0, 0, n.es⟩) := by rw [← HRES.out]; simp [doF2, hf]
 subst hres2
 have HCP : Hid (∀ W, Below w.heap.size w W → _) := fun W hW => implCopyEn_any (.slice a n.es.length cap) n.es P W (rx.step hW) (OK.out.sz _ n hf) (OK.out.len _ n hf).1
 clear HRES HDC HTK HTH HDV hat rx hf
 obtain ⟨⟨s0, s1_, s2⟩, ⟨s3, s4, s5⟩, lk, vl, es⟩ := n
 dsimp only at HA HCP ⊢
 generalize hmm : es.length = m at *
 have kf4 : ∀ W : World, (Instr.field 75 (.agg #[.i s0, .i s1_, .bool s2, .i s3, .i s4, .bool s5, .i lk, .i vl, .slice a m cap]) 4).run Tryz.prog W = .ok (.slice a m cap) W := fun W => by kernel_rfl
 have kf3 : ∀ W : World, (Instr.field 75 (.agg #[.i s0, .i s1_, .bool s2, .i s3, .i s4, .bool s5, .i lk, .i vl, .slice a m cap]) 3).run Tryz.prog W = .ok (.i vl) W := fun W => by kernel_rfl
 go_wp2_with (first | (at_lookup; refine wpList_lookX _ rfl (.tmp 39) (.tmp 41) rfl b s f X rfl HM1.out (p, q, true) HI.out rfl ?_; rw [HA.out]) | (go_at_call 83; refine Calls.mono (HCP.out _ HB1.out) ?_; rintro e w9 ⟨a9, n9, c9, rfl, o9, b9⟩; have s9 := b9.size; have kR := HVR.out.step b9; have HR9 : Hid (VarA w9 (w.heap.size + 2) 34 _) := kR; clear kR) | ((with_reducible refine gS 34 ?_); refine sF HR9.out rfl rfl (by kernel_rfl) rfl rfl ?_; intro w8 v8 t8))
 refine bpR Tryz.results37 v8 Tryz.underlying34 rfl rfl (by kernel_rfl) rfl ?_
 exact DSub.ret (R := fun c => w1.heap.size ≤ c ∧ c < w9.heap.size) (P' := P) HB1.out o9 ((HNM.out.step HB1.out).step b9) (fun c hc hp => by have := HPS.out c hp; omega) (fun c hc => hc) (fun c hc => .inl hc) (Turned.ofBelow b9) t8 (by omega) (by omega) HPS.out
set_option maxHeartbeats 4000000 in
theorem implDo2 (b s : Nat) (f : Hd → Option Nd) (o : OpD) (fr : Hd) (y z : Value) (S2 P : Nat → Prop) (w : World) (N : NM w b s f P) (ok : FOk f) (hin : HIn o.dir) (hito : HIn o.to) (hfr : HIn fr) (r2 : RdV w S2 y (.bytes o.nm)) (r3 : RdV w S2 z (.bytes o.asn)) (hS2 : ∀ c, S2 c → ¬ P c) (hSS : ∀ c, S2 c → c < w.heap.size) (hnm : o.nm.length ≤ 2097152) (hna : o.asn.length ≤ 2097152) (hs : s ≤ 2097000) (hok : OOk o = true) (hk : o.kind = 2) :
  Calls Tryz.prog 37 #[.map (some b), opV o y z, fr.v] w (DSub w b P (doF f s o fr)) := by
 obtain ⟨ya, yc, rfl⟩ := r2.sliceB
 obtain ⟨za, zc, rfl⟩ := r3.sliceB
 have HNM : Hid (NM w b s f P) := N
 have HPS : Hid (∀ c, P c → c < w.heap.size) := N.sm
 have hbw := N.lt
 obtain ⟨X, Q, N⟩ := N
 have HN : Hid (NX w b s f X Q P) := N
 have hXs : ∀ h n, f h = some n → ∃ a m c, X n.h = .slice a m c := fun h n hn => by obtain ⟨a, c, e, _⟩ := RdV.sliced (N.rd h n hn); exact ⟨a, _, c, e⟩
 obtain ⟨kd, ⟨p, q, d⟩, nm, ⟨p2, q2, d2⟩, asn, ov⟩ := o
 obtain ⟨pf, qf, df⟩ := fr
 dsimp only at hin hito hfr r2 r3 hnm hna hk
 subst hk
 clear hok
 have HI : Hid (HIn (p, q, d)) := hin
 have HIT : Hid (HIn (p2, q2, d2)) := hito
 have HIF : Hid (HIn (pf, qf, df)) := hfr
 have HS2 : Hid (∀ c, S2 c → ¬ P c) := hS2
 have HSS : Hid (∀ c, S2 c → c < w.heap.size) := hSS
 have OK : Hid (FOk f) := ok
 obtain ⟨th, hth⟩ : ∃ th, (f (p, q, d)).isSome = th := ⟨_, rfl⟩
 obtain ⟨dc, hdc0⟩ : ∃ r, dirC 2 d th = r := ⟨_, rfl⟩
 obtain ⟨tv, htv⟩ : ∃ r, takesB (pf, qf, df) (p2, q2, d2) (f (pf, qf, false)).isSome (f (pf, qf, true)).isSome s = r := ⟨_, rfl⟩
 have HDC : Hid (∀ W, Below w.heap.size w W → Calls Tryz.prog 85 #[.map (some b), .agg #[.i 2, .i p, .i q, .bool d, .slice ya nm.length yc, .i p2, .i q2, .bool d2, .slice za asn.length zc, .i ov]] W fun e w' => e = .returned (.i dc) ∧ Below W.heap.size W w') := fun W hW => by
  have h9 := dirCode_any b s f X ⟨2, (p, q, d), nm, (p2, q2, d2), asn, ov⟩ ya za nm.length yc asn.length zc W (N.m.blk (hW.block b hbw)) hin (fun n hn => hXs _ n hn)
  dsimp only at h9
  rw [hth, hdc0] at h9
  exact h9
 have HTK : Hid (∀ W, Below w.heap.size w W → Calls Tryz.prog 84 #[.map (some b), .agg #[.i pf, .i qf, .bool df], .agg #[.i p2, .i q2, .bool d2]] W fun e w' => e = .returned (.bool tv) ∧ Below W.heap.size W w') := fun W hW => by
  have h9 := takes_any b s f X (pf, qf, df) (p2, q2, d2) W (N.m.blk (hW.block b hbw)) hfr hXs
  rw [show takesB (pf, qf, df) (p2, q2, d2) (f (Hd.sh (pf, qf, df), Hd.ino (pf, qf, df), false)).isSome (f (Hd.sh (pf, qf, df), Hd.ino (pf, qf, df), true)).isSome s = tv from htv] at h9
  exact h9
 obtain ⟨res, hres⟩ : ∃ r, doF f s ⟨2, (p, q, d), nm, (p2, q2, d2), asn, ov⟩ (pf, qf, df) = r := ⟨_, rfl⟩
 have HRES : Hid ((if (2 : Int) = 4 ∧ tv = false then (f, s, rcI 11) else if dc ≠ 0 then (f, s, rcI dc) else doF2 f s ⟨2, (p, q, d), nm, (p2, q2, d2), asn, ov⟩ (pf, qf, df)) = res) := by
  show _ = _
  rw [← hres]
  unfold doF
  dsimp only [Hd.dir, Hd.sh, Hd.ino]
  rw [hth, hdc0, htv]
 rw [hres]
 have HNEW : Hid (tv = true → f (pf, qf, df) = none) := fun h => by
  rw [← htv] at h
  unfold takesB at h
  simp only [Bool.and_eq_true, Bool.not_eq_true', decide_eq_true_eq] at h
  cases df
  ·exact Option.isNone_iff_eq_none.1 (by simpa using h.2.2.2.1)
  ·exact Option.isNone_iff_eq_none.1 (by simpa using h.2.2.2.2.1)
 have HR2 : Hid (RdV w S2 (.slice ya nm.length yc) (.bytes nm)) := r2
 have HR3 : Hid (RdV w S2 (.slice za asn.length zc) (.bytes asn)) := r3
 have HDV : Hid (dirC 2 d th = dc) := hdc0
 have HTH : Hid ((f (p, q, d)).isSome = th) := hth
 clear N hXs r2 r3 hS2 hSS hin hito hfr ok hres htv hdc0 hth
 generalize hyn : nm.length = yn at *
 generalize hzn : asn.length = zn at *
 go_enter Tryz.func37, Tryz.ntmps37
 go_wp2_with fail
 go_at_call 85
 refine Calls.mono (HDC.out _ (by repeat (first | exact Below.refl _ _ | refine Below.al2 ?_ _))) ?_
 rintro e w1 ⟨rfl, hb1⟩
 have vO : VarA w1 w.heap.size 29 #[.i 2, .i p, .i q, .bool d, .slice ya yn yc, .i p2, .i q2, .bool d2, .slice za zn zc, .i ov] := (((VarA.new w _ _).alloc _).alloc _).step hb1
 have vF : VarA w1 (w.heap.size + 1) 27 #[.i pf, .i qf, .bool df] := ((by simpa using VarA.new (w.alloc _) 27 _ : VarA ((w.alloc _).alloc (.cells #[.i pf, .i qf, .bool df] 27)) (w.heap.size + 1) _ _).alloc _).step hb1
 have vR : VarA w1 (w.heap.size + 2) 34 #[.i 0, .i 0, .i 0, .bool false, .i 0, .n0] := (by simpa using VarA.new ((w.alloc _).alloc _) 34 _ : VarA (((w.alloc _).alloc _).alloc (.cells #[.i 0, .i 0, .i 0, .bool false, .i 0, .n0] 34)) (w.heap.size + 2) _ _).step hb1
 have HB1 : Hid (Below w.heap.size w w1) := (show Below w.heap.size w (((w.alloc _).alloc _).alloc _) by repeat (first | exact Below.refl _ _ | refine Below.al2 ?_ _)).trans (hb1.mono (by simp <;> omega))
 have HVR : Hid (VarA w1 (w.heap.size + 2) 34 _) := vR
 have HVO : Hid (VarA w1 w.heap.size 29 _) := vO
 have HVF : Hid (VarA w1 (w.heap.size + 1) 27 _) := vF
 have s1 : w.heap.size + 3 ≤ w1.heap.size := by have := vR.lt; omega
 obtain ⟨q0, q1, q2_, q3, q4, q5, q6, q7, q8, q9⟩ := vO.l10
 obtain ⟨g0, g1, g2⟩ := vF.l3
 clear hb1 vO vF vR
 by_cases hdc : dc = 0
 case neg =>
  have hres2 : res = (f, s, rcI dc) := by rw [← HRES.out]; simp [hdc]
  subst hres2
  have hc1 : (dc == 0) = false := by simpa using hdc
  have hc2 : (dc != 0) = true := by simpa using hdc
  go_wp2_with ((with_reducible refine gS 34 ?_); refine sF HVR.out rfl rfl (by kernel_rfl) rfl rfl ?_; intro w8 v8 t8)
  refine bpR Tryz.results37 v8 Tryz.underlying34 rfl rfl (by kernel_rfl) rfl ?_
  exact DSub.ret (R := fun _ => False) (P' := P) HB1.out (OwV.nilR _ _ _ _ _) (HNM.out.step HB1.out) (fun c hc => hc.elim) (fun c hc => hc.elim) (fun c hc => .inl hc) (Turned.refl _ _) t8 (by omega) (by omega) HPS.out
 subst hdc
 obtain ⟨rfl, rfl⟩ : d = false ∧ th = true := by
  have h9 := HDV.out
  cases d <;> cases th <;> simp [dirC] at h9 ⊢
 obtain ⟨n, hf⟩ : ∃ n, f (p, q, false) = some n := Option.isSome_iff_exists.1 HTH.out
 obtain ⟨a, cap, hat, rx⟩ := atX_rd f X (p, q, false) P w (HN.out.rd _)
 rw [hf] at hat rx
 simp only [Option.getD_some] at hat rx
 have HA : Hid _ := hat
 have HM1 : Hid (MapH (ndX X) w1 b s f) := HN.out.m.blk (HB1.out.block b hbw)
 have hres2 : res = (f, s, ⟨0, hd0, n.val, []⟩) := by rw [← HRES.out]; simp [doF2, hf]
 subst hres2
 have HCP : Hid (∀ W, Below w.heap.size w W → _) := fun W hW => implCopyEn_any (.slice a n.es.length cap) n.es P W (rx.step hW) (OK.out.sz _ n hf) (OK.out.len _ n hf).1
 clear HRES HDC HTK HTH HDV hat rx hf
 obtain ⟨⟨s0, s1_, s2⟩, ⟨s3, s4, s5⟩, lk, vl, es⟩ := n
 dsimp only at HA HCP ⊢
 generalize hmm : es.length = m at *
 have kf4 : ∀ W : World, (Instr.field 75 (.agg #[.i s0, .i s1_, .bool s2, .i s3, .i s4, .bool s5, .i lk, .i vl, .slice a m cap]) 4).run Tryz.prog W = .ok (.slice a m cap) W := fun W => by kernel_rfl
 have kf3 : ∀ W : World, (Instr.field 75 (.agg #[.i s0, .i s1_, .bool s2, .i s3, .i s4, .bool s5, .i lk, .i vl, .slice a m cap]) 3).run Tryz.prog W = .ok (.i vl) W := fun W => by kernel_rfl
 go_wp2_with (first | (at_lookup; refine wpList_lookX _ rfl (.tmp 48) (.tmp 50) rfl b s f X rfl HM1.out (p, q, false) HI.out rfl ?_; rw [HA.out]) | ((with_reducible refine gS 34 ?_); refine sF HVR.out rfl rfl (by kernel_rfl) rfl rfl ?_; intro w8 v8 t8))
 refine bpR Tryz.results37 v8 Tryz.underlying34 rfl rfl (by kernel_rfl) rfl ?_
 exact DSub.ret (R := fun _ => False) (P' := P) HB1.out (OwV.nilR _ _ _ _ _) (HNM.out.step HB1.out) (fun c hc => hc.elim) (fun c hc => hc.elim) (fun c hc => .inl hc) (Turned.refl _ _) t8 (by omega) (by omega) HPS.out
set_option maxHeartbeats 4000000 in
theorem implDo3 (b s : Nat) (f : Hd → Option Nd) (o : OpD) (fr : Hd) (y z : Value) (S2 P : Nat → Prop) (w : World) (N : NM w b s f P) (ok : FOk f) (hin : HIn o.dir) (hito : HIn o.to) (hfr : HIn fr) (r2 : RdV w S2 y (.bytes o.nm)) (r3 : RdV w S2 z (.bytes o.asn)) (hS2 : ∀ c, S2 c → ¬ P c) (hSS : ∀ c, S2 c → c < w.heap.size) (hnm : o.nm.length ≤ 2097152) (hna : o.asn.length ≤ 2097152) (hs : s ≤ 2097000) (hok : OOk o = true) (hk : o.kind = 3) :
  Calls Tryz.prog 37 #[.map (some b), opV o y z, fr.v] w (DSub w b P (doF f s o fr)) := by
 obtain ⟨ya, yc, rfl⟩ := r2.sliceB
 obtain ⟨za, zc, rfl⟩ := r3.sliceB
 have HNM : Hid (NM w b s f P) := N
 have HPS : Hid (∀ c, P c → c < w.heap.size) := N.sm
 have hbw := N.lt
 obtain ⟨X, Q, N⟩ := N
 have HN : Hid (NX w b s f X Q P) := N
 have hXs : ∀ h n, f h = some n → ∃ a m c, X n.h = .slice a m c := fun h n hn => by obtain ⟨a, c, e, _⟩ := RdV.sliced (N.rd h n hn); exact ⟨a, _, c, e⟩
 obtain ⟨kd, ⟨p, q, d⟩, nm, ⟨p2, q2, d2⟩, asn, ov⟩ := o
 obtain ⟨pf, qf, df⟩ := fr
 dsimp only at hin hito hfr r2 r3 hnm hna hk
 subst hk
 clear hok
 have HI : Hid (HIn (p, q, d)) := hin
 have HIT : Hid (HIn (p2, q2, d2)) := hito
 have HIF : Hid (HIn (pf, qf, df)) := hfr
 have HS2 : Hid (∀ c, S2 c → ¬ P c) := hS2
 have HSS : Hid (∀ c, S2 c → c < w.heap.size) := hSS
 have OK : Hid (FOk f) := ok
 obtain ⟨th, hth⟩ : ∃ th, (f (p, q, d)).isSome = th := ⟨_, rfl⟩
 obtain ⟨dc, hdc0⟩ : ∃ r, dirC 3 d th = r := ⟨_, rfl⟩
 obtain ⟨tv, htv⟩ : ∃ r, takesB (pf, qf, df) (p2, q2, d2) (f (pf, qf, false)).isSome (f (pf, qf, true)).isSome s = r := ⟨_, rfl⟩
 have HDC : Hid (∀ W, Below w.heap.size w W → Calls Tryz.prog 85 #[.map (some b), .agg #[.i 3, .i p, .i q, .bool d, .slice ya nm.length yc, .i p2, .i q2, .bool d2, .slice za asn.length zc, .i ov]] W fun e w' => e = .returned (.i dc) ∧ Below W.heap.size W w') := fun W hW => by
  have h9 := dirCode_any b s f X ⟨3, (p, q, d), nm, (p2, q2, d2), asn, ov⟩ ya za nm.length yc asn.length zc W (N.m.blk (hW.block b hbw)) hin (fun n hn => hXs _ n hn)
  dsimp only at h9
  rw [hth, hdc0] at h9
  exact h9
 have HTK : Hid (∀ W, Below w.heap.size w W → Calls Tryz.prog 84 #[.map (some b), .agg #[.i pf, .i qf, .bool df], .agg #[.i p2, .i q2, .bool d2]] W fun e w' => e = .returned (.bool tv) ∧ Below W.heap.size W w') := fun W hW => by
  have h9 := takes_any b s f X (pf, qf, df) (p2, q2, d2) W (N.m.blk (hW.block b hbw)) hfr hXs
  rw [show takesB (pf, qf, df) (p2, q2, d2) (f (Hd.sh (pf, qf, df), Hd.ino (pf, qf, df), false)).isSome (f (Hd.sh (pf, qf, df), Hd.ino (pf, qf, df), true)).isSome s = tv from htv] at h9
  exact h9
 obtain ⟨res, hres⟩ : ∃ r, doF f s ⟨3, (p, q, d), nm, (p2, q2, d2), asn, ov⟩ (pf, qf, df) = r := ⟨_, rfl⟩
 have HRES : Hid ((if (3 : Int) = 4 ∧ tv = false then (f, s, rcI 11) else if dc ≠ 0 then (f, s, rcI dc) else doF2 f s ⟨3, (p, q, d), nm, (p2, q2, d2), asn, ov⟩ (pf, qf, df)) = res) := by
  show _ = _
  rw [← hres]
  unfold doF
  dsimp only [Hd.dir, Hd.sh, Hd.ino]
  rw [hth, hdc0, htv]
 rw [hres]
 have HNEW : Hid (tv = true → f (pf, qf, df) = none) := fun h => by
  rw [← htv] at h
  unfold takesB at h
  simp only [Bool.and_eq_true, Bool.not_eq_true', decide_eq_true_eq] at h
  cases df
  ·exact Option.isNone_iff_eq_none.1 (by simpa using h.2.2.2.1)
  ·exact Option.isNone_iff_eq_none.1 (by simpa using h.2.2.2.2.1)
 have HR2 : Hid (RdV w S2 (.slice ya nm.length yc) (.bytes nm)) := r2
 have HR3 : Hid (RdV w S2 (.slice za asn.length zc) (.bytes asn)) := r3
 have HDV : Hid (dirC 3 d th = dc) := hdc0
 have HTH : Hid ((f (p, q, d)).isSome = th) := hth
 clear N hXs r2 r3 hS2 hSS hin hito hfr ok hres htv hdc0 hth
 generalize hyn : nm.length = yn at *
 generalize hzn : asn.length = zn at *
 go_enter Tryz.func37, Tryz.ntmps37
 go_wp2_with fail
 go_at_call 85
 refine Calls.mono (HDC.out _ (by repeat (first | exact Below.refl _ _ | refine Below.al2 ?_ _))) ?_
 rintro e w1 ⟨rfl, hb1⟩
 have vO : VarA w1 w.heap.size 29 #[.i 3, .i p, .i q, .bool d, .slice ya yn yc, .i p2, .i q2, .bool d2, .slice za zn zc, .i ov] := (((VarA.new w _ _).alloc _).alloc _).step hb1
 have vF : VarA w1 (w.heap.size + 1) 27 #[.i pf, .i qf, .bool df] := ((by simpa using VarA.new (w.alloc _) 27 _ : VarA ((w.alloc _).alloc (.cells #[.i pf, .i qf, .bool df] 27)) (w.heap.size + 1) _ _).alloc _).step hb1
 have vR : VarA w1 (w.heap.size + 2) 34 #[.i 0, .i 0, .i 0, .bool false, .i 0, .n0] := (by simpa using VarA.new ((w.alloc _).alloc _) 34 _ : VarA (((w.alloc _).alloc _).alloc (.cells #[.i 0, .i 0, .i 0, .bool false, .i 0, .n0] 34)) (w.heap.size + 2) _ _).step hb1
 have HB1 : Hid (Below w.heap.size w w1) := (show Below w.heap.size w (((w.alloc _).alloc _).alloc _) by repeat (first | exact Below.refl _ _ | refine Below.al2 ?_ _)).trans (hb1.mono (by simp <;> omega))
 have HVR : Hid (VarA w1 (w.heap.size + 2) 34 _) := vR
 have HVO : Hid (VarA w1 w.heap.size 29 _) := vO
 have HVF : Hid (VarA w1 (w.heap.size + 1) 27 _) := vF
 have s1 : w.heap.size + 3 ≤ w1.heap.size := by have := vR.lt; omega
 obtain ⟨q0, q1, q2_, q3, q4, q5, q6, q7, q8, q9⟩ := vO.l10
 obtain ⟨g0, g1, g2⟩ := vF.l3
 clear hb1 vO vF vR
 by_cases hdc : dc = 0
 case neg =>
  have hres2 : res = (f, s, rcI dc) := by rw [← HRES.out]; simp [hdc]
  subst hres2
  have hc1 : (dc == 0) = false := by simpa using hdc
  have hc2 : (dc != 0) = true := by simpa using hdc
  go_wp2_with ((with_reducible refine gS 34 ?_); refine sF HVR.out rfl rfl (by kernel_rfl) rfl rfl ?_; intro w8 v8 t8)
  refine bpR Tryz.results37 v8 Tryz.underlying34 rfl rfl (by kernel_rfl) rfl ?_
  exact DSub.ret (R := fun _ => False) (P' := P) HB1.out (OwV.nilR _ _ _ _ _) (HNM.out.step HB1.out) (fun c hc => hc.elim) (fun c hc => hc.elim) (fun c hc => .inl hc) (Turned.refl _ _) t8 (by omega) (by omega) HPS.out
 subst hdc
 obtain ⟨rfl, rfl⟩ : d = false ∧ th = true := by
  have h9 := HDV.out
  cases d <;> cases th <;> simp [dirC] at h9 ⊢
 obtain ⟨n, hf⟩ : ∃ n, f (p, q, false) = some n := Option.isSome_iff_exists.1 HTH.out
 have hres2 : res = writeF f s ⟨3, (p, q, false), nm, (p2, q2, d2), asn, ov⟩ := by rw [← HRES.out]; simp [doF2]
 subst hres2
 have HSB : Hid (∀ W, Below w.heap.size w W → _) := fun W hW => writeD b s f ⟨3, (p, q, false), nm, (p2, q2, d2), asn, ov⟩ n ya za yn yc zn zc P W (HNM.out.step hW) HI.out hf hs
 clear HRES HDC HTK HTH HDV
 go_wp2_with (first | (go_at_call 87; refine Calls.mono (HSB.out _ HB1.out) ?_; rintro e w9 ⟨a9, n9, c9, R9, P9, rfl, o9, N9, d9, r9, p9, t9⟩; have s9 := t9.size; have kR := HVR.out.turn t9 (fun h => by have := HPS.out _ h; omega); have HR9 : Hid (VarA w9 (w.heap.size + 2) 34 _) := kR; clear kR) | ((with_reducible refine gS 34 ?_); refine sF HR9.out rfl rfl (by kernel_rfl) rfl rfl ?_; intro w8 v8 t8))
 refine bpR Tryz.results37 v8 Tryz.underlying34 rfl rfl (by kernel_rfl) rfl ?_
 exact DSub.ret HB1.out o9 N9 d9 r9 p9 t9 t8 (by omega) (by omega) HPS.out
end
section
open Go.Maps
set_option maxHeartbeats 4000000 in
theorem implDo4 (b s : Nat) (f : Hd → Option Nd) (o : OpD) (fr : Hd) (y z : Value) (S2 P : Nat → Prop) (w : World) (N : NM w b s f P) (ok : FOk f) (hin : HIn o.dir) (hito : HIn o.to) (hfr : HIn fr) (r2 : RdV w S2 y (.bytes o.nm)) (r3 : RdV w S2 z (.bytes o.asn)) (hS2 : ∀ c, S2 c → ¬ P c) (hSS : ∀ c, S2 c → c < w.heap.size) (hnm : o.nm.length ≤ 2097152) (hna : o.asn.length ≤ 2097152) (hs : s ≤ 2097000) (hok : OOk o = true) (hk : o.kind = 4) :
  Calls Tryz.prog 37 #[.map (some b), opV o y z, fr.v] w (DSub w b P (doF f s o fr)) := by
 obtain ⟨ya, yc, rfl⟩ := r2.sliceB
 obtain ⟨za, zc, rfl⟩ := r3.sliceB
 have HNM : Hid (NM w b s f P) := N
 have HPS : Hid (∀ c, P c → c < w.heap.size) := N.sm
 have hbw := N.lt
 obtain ⟨X, Q, N⟩ := N
 have HN : Hid (NX w b s f X Q P) := N
 have hXs : ∀ h n, f h = some n → ∃ a m c, X n.h = .slice a m c := fun h n hn => by obtain ⟨a, c, e, _⟩ := RdV.sliced (N.rd h n hn); exact ⟨a, _, c, e⟩
 obtain ⟨kd, ⟨p, q, d⟩, nm, ⟨p2, q2, d2⟩, asn, ov⟩ := o
 obtain ⟨pf, qf, df⟩ := fr
 dsimp only at hin hito hfr r2 r3 hnm hna hk
 subst hk
 have HQ : Hid (isNm nm = true) := by simp [OOk, nmB, nmP] at hok; exact hok.2.1
 clear hok
 have HI : Hid (HIn (p, q, d)) := hin
 have HIT : Hid (HIn (p2, q2, d2)) := hito
 have HIF : Hid (HIn (pf, qf, df)) := hfr
 have HS2 : Hid (∀ c, S2 c → ¬ P c) := hS2
 have HSS : Hid (∀ c, S2 c → c < w.heap.size) := hSS
 have OK : Hid (FOk f) := ok
 obtain ⟨th, hth⟩ : ∃ th, (f (p, q, d)).isSome = th := ⟨_, rfl⟩
 obtain ⟨dc, hdc0⟩ : ∃ r, dirC 4 d th = r := ⟨_, rfl⟩
 obtain ⟨tv, htv⟩ : ∃ r, takesB (pf, qf, df) (p2, q2, d2) (f (pf, qf, false)).isSome (f (pf, qf, true)).isSome s = r := ⟨_, rfl⟩
 have HDC : Hid (∀ W, Below w.heap.size w W → Calls Tryz.prog 85 #[.map (some b), .agg #[.i 4, .i p, .i q, .bool d, .slice ya nm.length yc, .i p2, .i q2, .bool d2, .slice za asn.length zc, .i ov]] W fun e w' => e = .returned (.i dc) ∧ Below W.heap.size W w') := fun W hW => by
  have h9 := dirCode_any b s f X ⟨4, (p, q, d), nm, (p2, q2, d2), asn, ov⟩ ya za nm.length yc asn.length zc W (N.m.blk (hW.block b hbw)) hin (fun n hn => hXs _ n hn)
  dsimp only at h9
  rw [hth, hdc0] at h9
  exact h9
 have HTK : Hid (∀ W, Below w.heap.size w W → Calls Tryz.prog 84 #[.map (some b), .agg #[.i pf, .i qf, .bool df], .agg #[.i p2, .i q2, .bool d2]] W fun e w' => e = .returned (.bool tv) ∧ Below W.heap.size W w') := fun W hW => by
  have h9 := takes_any b s f X (pf, qf, df) (p2, q2, d2) W (N.m.blk (hW.block b hbw)) hfr hXs
  rw [show takesB (pf, qf, df) (p2, q2, d2) (f (Hd.sh (pf, qf, df), Hd.ino (pf, qf, df), false)).isSome (f (Hd.sh (pf, qf, df), Hd.ino (pf, qf, df), true)).isSome s = tv from htv] at h9
  exact h9
 obtain ⟨res, hres⟩ : ∃ r, doF f s ⟨4, (p, q, d), nm, (p2, q2, d2), asn, ov⟩ (pf, qf, df) = r := ⟨_, rfl⟩
 have HRES : Hid ((if (4 : Int) = 4 ∧ tv = false then (f, s, rcI 11) else if dc ≠ 0 then (f, s, rcI dc) else doF2 f s ⟨4, (p, q, d), nm, (p2, q2, d2), asn, ov⟩ (pf, qf, df)) = res) := by
  show _ = _
  rw [← hres]
  unfold doF
  dsimp only [Hd.dir, Hd.sh, Hd.ino]
  rw [hth, hdc0, htv]
 rw [hres]
 have HNEW : Hid (tv = true → f (pf, qf, df) = none) := fun h => by
  rw [← htv] at h
  unfold takesB at h
  simp only [Bool.and_eq_true, Bool.not_eq_true', decide_eq_true_eq] at h
  cases df
  ·exact Option.isNone_iff_eq_none.1 (by simpa using h.2.2.2.1)
  ·exact Option.isNone_iff_eq_none.1 (by simpa using h.2.2.2.2.1)
 have HR2 : Hid (RdV w S2 (.slice ya nm.length yc) (.bytes nm)) := r2
 have HR3 : Hid (RdV w S2 (.slice za asn.length zc) (.bytes asn)) := r3
 have HDV : Hid (dirC 4 d th = dc) := hdc0
 have HTH : Hid ((f (p, q, d)).isSome = th) := hth
 clear N hXs r2 r3 hS2 hSS hin hito hfr ok hres htv hdc0 hth
 generalize hyn : nm.length = yn at *
 generalize hzn : asn.length = zn at *
 go_enter Tryz.func37, Tryz.ntmps37
 go_wp2_with fail
 go_at_call 84
 refine Calls.mono (HTK.out _ (by repeat (first | exact Below.refl _ _ | refine Below.al2 ?_ _))) ?_
 rintro e wt ⟨rfl, hbt⟩
 have vO : VarA wt w.heap.size 29 #[.i 4, .i p, .i q, .bool d, .slice ya yn yc, .i p2, .i q2, .bool d2, .slice za zn zc, .i ov] := (((VarA.new w _ _).alloc _).alloc _).step hbt
 have vF : VarA wt (w.heap.size + 1) 27 #[.i pf, .i qf, .bool df] := ((by simpa using VarA.new (w.alloc _) 27 _ : VarA ((w.alloc _).alloc (.cells #[.i pf, .i qf, .bool df] 27)) (w.heap.size + 1) _ _).alloc _).step hbt
 have vR : VarA wt (w.heap.size + 2) 34 #[.i 0, .i 0, .i 0, .bool false, .i 0, .n0] := (by simpa using VarA.new ((w.alloc _).alloc _) 34 _ : VarA (((w.alloc _).alloc _).alloc (.cells #[.i 0, .i 0, .i 0, .bool false, .i 0, .n0] 34)) (w.heap.size + 2) _ _).step hbt
 have HBt : Hid (Below w.heap.size w wt) := (show Below w.heap.size w (((w.alloc _).alloc _).alloc _) by repeat (first | exact Below.refl _ _ | refine Below.al2 ?_ _)).trans (hbt.mono (by simp <;> omega))
 have HVR : Hid (VarA wt (w.heap.size + 2) 34 _) := vR
 have HVO : Hid (VarA wt w.heap.size 29 _) := vO
 have HVF : Hid (VarA wt (w.heap.size + 1) 27 _) := vF
 have s1 : w.heap.size + 3 ≤ wt.heap.size := by have := vR.lt; omega
 obtain ⟨q0, q1, q2_, q3, q4, q5, q6, q7, q8, q9⟩ := vO.l10
 clear hbt vO vF vR
 cases tv
 case false =>
  have hres2 : res = (f, s, rcI 11) := by rw [← HRES.out]; simp
  subst hres2
  go_wp2_with ((with_reducible refine gS 34 ?_); refine sF HVR.out rfl rfl (by kernel_rfl) rfl rfl ?_; intro w8 v8 t8)
  refine bpR Tryz.results37 v8 Tryz.underlying34 rfl rfl (by kernel_rfl) rfl ?_
  exact DSub.ret (R := fun _ => False) (P' := P) HBt.out (OwV.nilR _ _ _ _ _) (HNM.out.step HBt.out) (fun c hc => hc.elim) (fun c hc => hc.elim) (fun c hc => .inl hc) (Turned.refl _ _) t8 (by omega) (by omega) HPS.out
 go_wp2_with fail
 go_at_call 85
 refine Calls.mono (HDC.out _ HBt.out) ?_
 rintro e w1 ⟨rfl, hb1⟩
 have vO := HVO.out.step hb1
 have vF := HVF.out.step hb1
 have vR := HVR.out.step hb1
 have HB1 : Hid (Below w.heap.size w w1) := HBt.out.trans (hb1.mono HBt.out.size)
 clear HVO HVF HVR q0 q1 q2_ q3 q4 q5 q6 q7 q8 q9 s1
 have HVR : Hid (VarA w1 (w.heap.size + 2) 34 _) := vR
 have HVO : Hid (VarA w1 w.heap.size 29 _) := vO
 have HVF : Hid (VarA w1 (w.heap.size + 1) 27 _) := vF
 have s1 : w.heap.size + 3 ≤ w1.heap.size := by have := vR.lt; omega
 obtain ⟨q0, q1, q2_, q3, q4, q5, q6, q7, q8, q9⟩ := vO.l10
 obtain ⟨g0, g1, g2⟩ := vF.l3
 clear hb1 vO vF vR
 by_cases hdc : dc = 0
 case neg =>
  have hres2 : res = (f, s, rcI dc) := by rw [← HRES.out]; simp [hdc]
  subst hres2
  have hc1 : (dc == 0) = false := by simpa using hdc
  have hc2 : (dc != 0) = true := by simpa using hdc
  go_wp2_with ((with_reducible refine gS 34 ?_); refine sF HVR.out rfl rfl (by kernel_rfl) rfl rfl ?_; intro w8 v8 t8)
  refine bpR Tryz.results37 v8 Tryz.underlying34 rfl rfl (by kernel_rfl) rfl ?_
  exact DSub.ret (R := fun _ => False) (P' := P) HB1.out (OwV.nilR _ _ _ _ _) (HNM.out.step HB1.out) (fun c hc => hc.elim) (fun c hc => hc.elim) (fun c hc => .inl hc) (Turned.refl _ _) t8 (by omega) (by omega) HPS.out
 subst hdc
 obtain ⟨rfl, rfl⟩ : d = true ∧ th = true := by
  have h9 := HDV.out
  cases d <;> cases th <;> simp [dirC] at h9 ⊢
 obtain ⟨n, hf⟩ : ∃ n, f (p, q, true) = some n := Option.isSome_iff_exists.1 HTH.out
 have hres2 : res = makeF f s ⟨4, (p, q, true), nm, (p2, q2, d2), asn, ov⟩ (pf, qf, df) := by rw [← HRES.out]; simp [doF2]
 subst hres2
 have HSB : Hid (∀ W, Below w.heap.size w W → _) := fun W hW => makeD b s f ⟨4, (p, q, true), nm, (p2, q2, d2), asn, ov⟩ HQ.out (pf, qf, df) n (.slice ya yn yc) za zn zc S2 P W (HNM.out.step hW) OK.out HI.out HIF.out hf (HNEW.out (by simp)) (HR2.out.step hW) HS2.out (by dsimp only; omega) hs
 clear HRES HDC HTK HTH HDV
 go_wp2_with (first | (go_at_call 88; refine Calls.mono (HSB.out _ HB1.out) ?_; rintro e w9 ⟨a9, n9, c9, R9, P9, rfl, o9, N9, d9, r9, p9, t9⟩; have s9 := t9.size; have kR := HVR.out.turn t9 (fun h => by have := HPS.out _ h; omega); have HR9 : Hid (VarA w9 (w.heap.size + 2) 34 _) := kR; clear kR) | ((with_reducible refine gS 34 ?_); refine sF HR9.out rfl rfl (by kernel_rfl) rfl rfl ?_; intro w8 v8 t8))
 refine bpR Tryz.results37 v8 Tryz.underlying34 rfl rfl (by kernel_rfl) rfl ?_
 exact DSub.ret HB1.out o9 N9 d9 r9 p9 t9 t8 (by omega) (by omega) HPS.out
set_option maxHeartbeats 4000000 in
theorem implDo5 (b s : Nat) (f : Hd → Option Nd) (o : OpD) (fr : Hd) (y z : Value) (S2 P : Nat → Prop) (w : World) (N : NM w b s f P) (ok : FOk f) (hin : HIn o.dir) (hito : HIn o.to) (hfr : HIn fr) (r2 : RdV w S2 y (.bytes o.nm)) (r3 : RdV w S2 z (.bytes o.asn)) (hS2 : ∀ c, S2 c → ¬ P c) (hSS : ∀ c, S2 c → c < w.heap.size) (hnm : o.nm.length ≤ 2097152) (hna : o.asn.length ≤ 2097152) (hs : s ≤ 2097000) (hok : OOk o = true) (hk : o.kind = 5) :
  Calls Tryz.prog 37 #[.map (some b), opV o y z, fr.v] w (DSub w b P (doF f s o fr)) := by
 obtain ⟨ya, yc, rfl⟩ := r2.sliceB
 obtain ⟨za, zc, rfl⟩ := r3.sliceB
 have HNM : Hid (NM w b s f P) := N
 have HPS : Hid (∀ c, P c → c < w.heap.size) := N.sm
 have hbw := N.lt
 obtain ⟨X, Q, N⟩ := N
 have HN : Hid (NX w b s f X Q P) := N
 have hXs : ∀ h n, f h = some n → ∃ a m c, X n.h = .slice a m c := fun h n hn => by obtain ⟨a, c, e, _⟩ := RdV.sliced (N.rd h n hn); exact ⟨a, _, c, e⟩
 obtain ⟨kd, ⟨p, q, d⟩, nm, ⟨p2, q2, d2⟩, asn, ov⟩ := o
 obtain ⟨pf, qf, df⟩ := fr
 dsimp only at hin hito hfr r2 r3 hnm hna hk
 subst hk
 clear hok
 have HI : Hid (HIn (p, q, d)) := hin
 have HIT : Hid (HIn (p2, q2, d2)) := hito
 have HIF : Hid (HIn (pf, qf, df)) := hfr
 have HS2 : Hid (∀ c, S2 c → ¬ P c) := hS2
 have HSS : Hid (∀ c, S2 c → c < w.heap.size) := hSS
 have OK : Hid (FOk f) := ok
 obtain ⟨th, hth⟩ : ∃ th, (f (p, q, d)).isSome = th := ⟨_, rfl⟩
 obtain ⟨dc, hdc0⟩ : ∃ r, dirC 5 d th = r := ⟨_, rfl⟩
 obtain ⟨tv, htv⟩ : ∃ r, takesB (pf, qf, df) (p2, q2, d2) (f (pf, qf, false)).isSome (f (pf, qf, true)).isSome s = r := ⟨_, rfl⟩
 have HDC : Hid (∀ W, Below w.heap.size w W → Calls Tryz.prog 85 #[.map (some b), .agg #[.i 5, .i p, .i q, .bool d, .slice ya nm.length yc, .i p2, .i q2, .bool d2, .slice za asn.length zc, .i ov]] W fun e w' => e = .returned (.i dc) ∧ Below W.heap.size W w') := fun W hW => by
  have h9 := dirCode_any b s f X ⟨5, (p, q, d), nm, (p2, q2, d2), asn, ov⟩ ya za nm.length yc asn.length zc W (N.m.blk (hW.block b hbw)) hin (fun n hn => hXs _ n hn)
  dsimp only at h9
  rw [hth, hdc0] at h9
  exact h9
 have HTK : Hid (∀ W, Below w.heap.size w W → Calls Tryz.prog 84 #[.map (some b), .agg #[.i pf, .i qf, .bool df], .agg #[.i p2, .i q2, .bool d2]] W fun e w' => e = .returned (.bool tv) ∧ Below W.heap.size W w') := fun W hW => by
  have h9 := takes_any b s f X (pf, qf, df) (p2, q2, d2) W (N.m.blk (hW.block b hbw)) hfr hXs
  rw [show takesB (pf, qf, df) (p2, q2, d2) (f (Hd.sh (pf, qf, df), Hd.ino (pf, qf, df), false)).isSome (f (Hd.sh (pf, qf, df), Hd.ino (pf, qf, df), true)).isSome s = tv from htv] at h9
  exact h9
 obtain ⟨res, hres⟩ : ∃ r, doF f s ⟨5, (p, q, d), nm, (p2, q2, d2), asn, ov⟩ (pf, qf, df) = r := ⟨_, rfl⟩
 have HRES : Hid ((if (5 : Int) = 4 ∧ tv = false then (f, s, rcI 11) else if dc ≠ 0 then (f, s, rcI dc) else doF2 f s ⟨5, (p, q, d), nm, (p2, q2, d2), asn, ov⟩ (pf, qf, df)) = res) := by
  show _ = _
  rw [← hres]
  unfold doF
  dsimp only [Hd.dir, Hd.sh, Hd.ino]
  rw [hth, hdc0, htv]
 rw [hres]
 have HNEW : Hid (tv = true → f (pf, qf, df) = none) := fun h => by
  rw [← htv] at h
  unfold takesB at h
  simp only [Bool.and_eq_true, Bool.not_eq_true', decide_eq_true_eq] at h
  cases df
  ·exact Option.isNone_iff_eq_none.1 (by simpa using h.2.2.2.1)
  ·exact Option.isNone_iff_eq_none.1 (by simpa using h.2.2.2.2.1)
 have HR2 : Hid (RdV w S2 (.slice ya nm.length yc) (.bytes nm)) := r2
 have HR3 : Hid (RdV w S2 (.slice za asn.length zc) (.bytes asn)) := r3
 have HDV : Hid (dirC 5 d th = dc) := hdc0
 have HTH : Hid ((f (p, q, d)).isSome = th) := hth
 clear N hXs r2 r3 hS2 hSS hin hito hfr ok hres htv hdc0 hth
 generalize hyn : nm.length = yn at *
 generalize hzn : asn.length = zn at *
 go_enter Tryz.func37, Tryz.ntmps37
 go_wp2_with fail
 go_at_call 85
 refine Calls.mono (HDC.out _ (by repeat (first | exact Below.refl _ _ | refine Below.al2 ?_ _))) ?_
 rintro e w1 ⟨rfl, hb1⟩
 have vO : VarA w1 w.heap.size 29 #[.i 5, .i p, .i q, .bool d, .slice ya yn yc, .i p2, .i q2, .bool d2, .slice za zn zc, .i ov] := (((VarA.new w _ _).alloc _).alloc _).step hb1
 have vF : VarA w1 (w.heap.size + 1) 27 #[.i pf, .i qf, .bool df] := ((by simpa using VarA.new (w.alloc _) 27 _ : VarA ((w.alloc _).alloc (.cells #[.i pf, .i qf, .bool df] 27)) (w.heap.size + 1) _ _).alloc _).step hb1
 have vR : VarA w1 (w.heap.size + 2) 34 #[.i 0, .i 0, .i 0, .bool false, .i 0, .n0] := (by simpa using VarA.new ((w.alloc _).alloc _) 34 _ : VarA (((w.alloc _).alloc _).alloc (.cells #[.i 0, .i 0, .i 0, .bool false, .i 0, .n0] 34)) (w.heap.size + 2) _ _).step hb1
 have HB1 : Hid (Below w.heap.size w w1) := (show Below w.heap.size w (((w.alloc _).alloc _).alloc _) by repeat (first | exact Below.refl _ _ | refine Below.al2 ?_ _)).trans (hb1.mono (by simp <;> omega))
 have HVR : Hid (VarA w1 (w.heap.size + 2) 34 _) := vR
 have HVO : Hid (VarA w1 w.heap.size 29 _) := vO
 have HVF : Hid (VarA w1 (w.heap.size + 1) 27 _) := vF
 have s1 : w.heap.size + 3 ≤ w1.heap.size := by have := vR.lt; omega
 obtain ⟨q0, q1, q2_, q3, q4, q5, q6, q7, q8, q9⟩ := vO.l10
 obtain ⟨g0, g1, g2⟩ := vF.l3
 clear hb1 vO vF vR
 by_cases hdc : dc = 0
 case neg =>
  have hres2 : res = (f, s, rcI dc) := by rw [← HRES.out]; simp [hdc]
  subst hres2
  have hc1 : (dc == 0) = false := by simpa using hdc
  have hc2 : (dc != 0) = true := by simpa using hdc
  go_wp2_with ((with_reducible refine gS 34 ?_); refine sF HVR.out rfl rfl (by kernel_rfl) rfl rfl ?_; intro w8 v8 t8)
  refine bpR Tryz.results37 v8 Tryz.underlying34 rfl rfl (by kernel_rfl) rfl ?_
  exact DSub.ret (R := fun _ => False) (P' := P) HB1.out (OwV.nilR _ _ _ _ _) (HNM.out.step HB1.out) (fun c hc => hc.elim) (fun c hc => hc.elim) (fun c hc => .inl hc) (Turned.refl _ _) t8 (by omega) (by omega) HPS.out
 subst hdc
 obtain ⟨rfl, rfl⟩ : d = true ∧ th = true := by
  have h9 := HDV.out
  cases d <;> cases th <;> simp [dirC] at h9 ⊢
 obtain ⟨n, hf⟩ : ∃ n, f (p, q, true) = some n := Option.isSome_iff_exists.1 HTH.out
 have hres2 : res = dropF f s ⟨5, (p, q, true), nm, (p2, q2, d2), asn, ov⟩ := by rw [← HRES.out]; simp [doF2]
 subst hres2
 have HSB : Hid (∀ W, Below w.heap.size w W → _) := fun W hW => dropD_ b s f ⟨5, (p, q, true), nm, (p2, q2, d2), asn, ov⟩ n (.slice ya yn yc) za zn zc S2 P W (HNM.out.step hW) OK.out HI.out hf (HR2.out.step hW) HS2.out hs
 clear HRES HDC HTK HTH HDV
 go_wp2_with (first | (go_at_call 89; refine Calls.mono (HSB.out _ HB1.out) ?_; rintro e w9 ⟨a9, n9, c9, R9, P9, rfl, o9, N9, d9, r9, p9, t9⟩; have s9 := t9.size; have kR := HVR.out.turn t9 (fun h => by have := HPS.out _ h; omega); have HR9 : Hid (VarA w9 (w.heap.size + 2) 34 _) := kR; clear kR) | ((with_reducible refine gS 34 ?_); refine sF HR9.out rfl rfl (by kernel_rfl) rfl rfl ?_; intro w8 v8 t8))
 refine bpR Tryz.results37 v8 Tryz.underlying34 rfl rfl (by kernel_rfl) rfl ?_
 exact DSub.ret HB1.out o9 N9 d9 r9 p9 t9 t8 (by omega) (by omega) HPS.out
set_option maxHeartbeats 4000000 in
theorem implDo6 (b s : Nat) (f : Hd → Option Nd) (o : OpD) (fr : Hd) (y z : Value) (S2 P : Nat → Prop) (w : World) (N : NM w b s f P) (ok : FOk f) (hin : HIn o.dir) (hito : HIn o.to) (hfr : HIn fr) (r2 : RdV w S2 y (.bytes o.nm)) (r3 : RdV w S2 z (.bytes o.asn)) (hS2 : ∀ c, S2 c → ¬ P c) (hSS : ∀ c, S2 c → c < w.heap.size) (hnm : o.nm.length ≤ 2097152) (hna : o.asn.length ≤ 2097152) (hs : s ≤ 2097000) (hok : OOk o = true) (hk : o.kind = 6) :
  Calls Tryz.prog 37 #[.map (some b), opV o y z, fr.v] w (DSub w b P (doF f s o fr)) := by
 obtain ⟨ya, yc, rfl⟩ := r2.sliceB
 obtain ⟨za, zc, rfl⟩ := r3.sliceB
 have HNM : Hid (NM w b s f P) := N
 have HPS : Hid (∀ c, P c → c < w.heap.size) := N.sm
 have hbw := N.lt
 obtain ⟨X, Q, N⟩ := N
 have HN : Hid (NX w b s f X Q P) := N
 have hXs : ∀ h n, f h = some n → ∃ a m c, X n.h = .slice a m c := fun h n hn => by obtain ⟨a, c, e, _⟩ := RdV.sliced (N.rd h n hn); exact ⟨a, _, c, e⟩
 obtain ⟨kd, ⟨p, q, d⟩, nm, ⟨p2, q2, d2⟩, asn, ov⟩ := o
 obtain ⟨pf, qf, df⟩ := fr
 dsimp only at hin hito hfr r2 r3 hnm hna hk
 subst hk
 have HQ : Hid (isNm nm = true) := by simp [OOk, nmB, nmP] at hok; exact hok.2.1
 clear hok
 have HI : Hid (HIn (p, q, d)) := hin
 have HIT : Hid (HIn (p2, q2, d2)) := hito
 have HIF : Hid (HIn (pf, qf, df)) := hfr
 have HS2 : Hid (∀ c, S2 c → ¬ P c) := hS2
 have HSS : Hid (∀ c, S2 c → c < w.heap.size) := hSS
 have OK : Hid (FOk f) := ok
 obtain ⟨th, hth⟩ : ∃ th, (f (p, q, d)).isSome = th := ⟨_, rfl⟩
 obtain ⟨dc, hdc0⟩ : ∃ r, dirC 6 d th = r := ⟨_, rfl⟩
 obtain ⟨tv, htv⟩ : ∃ r, takesB (pf, qf, df) (p2, q2, d2) (f (pf, qf, false)).isSome (f (pf, qf, true)).isSome s = r := ⟨_, rfl⟩
 have HDC : Hid (∀ W, Below w.heap.size w W → Calls Tryz.prog 85 #[.map (some b), .agg #[.i 6, .i p, .i q, .bool d, .slice ya nm.length yc, .i p2, .i q2, .bool d2, .slice za asn.length zc, .i ov]] W fun e w' => e = .returned (.i dc) ∧ Below W.heap.size W w') := fun W hW => by
  have h9 := dirCode_any b s f X ⟨6, (p, q, d), nm, (p2, q2, d2), asn, ov⟩ ya za nm.length yc asn.length zc W (N.m.blk (hW.block b hbw)) hin (fun n hn => hXs _ n hn)
  dsimp only at h9
  rw [hth, hdc0] at h9
  exact h9
 have HTK : Hid (∀ W, Below w.heap.size w W → Calls Tryz.prog 84 #[.map (some b), .agg #[.i pf, .i qf, .bool df], .agg #[.i p2, .i q2, .bool d2]] W fun e w' => e = .returned (.bool tv) ∧ Below W.heap.size W w') := fun W hW => by
  have h9 := takes_any b s f X (pf, qf, df) (p2, q2, d2) W (N.m.blk (hW.block b hbw)) hfr hXs
  rw [show takesB (pf, qf, df) (p2, q2, d2) (f (Hd.sh (pf, qf, df), Hd.ino (pf, qf, df), false)).isSome (f (Hd.sh (pf, qf, df), Hd.ino (pf, qf, df), true)).isSome s = tv from htv] at h9
  exact h9
 obtain ⟨res, hres⟩ : ∃ r, doF f s ⟨6, (p, q, d), nm, (p2, q2, d2), asn, ov⟩ (pf, qf, df) = r := ⟨_, rfl⟩
 have HRES : Hid ((if (6 : Int) = 4 ∧ tv = false then (f, s, rcI 11) else if dc ≠ 0 then (f, s, rcI dc) else doF2 f s ⟨6, (p, q, d), nm, (p2, q2, d2), asn, ov⟩ (pf, qf, df)) = res) := by
  show _ = _
  rw [← hres]
  unfold doF
  dsimp only [Hd.dir, Hd.sh, Hd.ino]
  rw [hth, hdc0, htv]
 rw [hres]
 have HNEW : Hid (tv = true → f (pf, qf, df) = none) := fun h => by
  rw [← htv] at h
  unfold takesB at h
  simp only [Bool.and_eq_true, Bool.not_eq_true', decide_eq_true_eq] at h
  cases df
  ·exact Option.isNone_iff_eq_none.1 (by simpa using h.2.2.2.1)
  ·exact Option.isNone_iff_eq_none.1 (by simpa using h.2.2.2.2.1)
 have HR2 : Hid (RdV w S2 (.slice ya nm.length yc) (.bytes nm)) := r2
 have HR3 : Hid (RdV w S2 (.slice za asn.length zc) (.bytes asn)) := r3
 have HDV : Hid (dirC 6 d th = dc) := hdc0
 have HTH : Hid ((f (p, q, d)).isSome = th) := hth
 clear N hXs r2 r3 hS2 hSS hin hito hfr ok hres htv hdc0 hth
 generalize hyn : nm.length = yn at *
 generalize hzn : asn.length = zn at *
 go_enter Tryz.func37, Tryz.ntmps37
 go_wp2_with fail
 go_at_call 85
 refine Calls.mono (HDC.out _ (by repeat (first | exact Below.refl _ _ | refine Below.al2 ?_ _))) ?_
 rintro e w1 ⟨rfl, hb1⟩
 have vO : VarA w1 w.heap.size 29 #[.i 6, .i p, .i q, .bool d, .slice ya yn yc, .i p2, .i q2, .bool d2, .slice za zn zc, .i ov] := (((VarA.new w _ _).alloc _).alloc _).step hb1
 have vF : VarA w1 (w.heap.size + 1) 27 #[.i pf, .i qf, .bool df] := ((by simpa using VarA.new (w.alloc _) 27 _ : VarA ((w.alloc _).alloc (.cells #[.i pf, .i qf, .bool df] 27)) (w.heap.size + 1) _ _).alloc _).step hb1
 have vR : VarA w1 (w.heap.size + 2) 34 #[.i 0, .i 0, .i 0, .bool false, .i 0, .n0] := (by simpa using VarA.new ((w.alloc _).alloc _) 34 _ : VarA (((w.alloc _).alloc _).alloc (.cells #[.i 0, .i 0, .i 0, .bool false, .i 0, .n0] 34)) (w.heap.size + 2) _ _).step hb1
 have HB1 : Hid (Below w.heap.size w w1) := (show Below w.heap.size w (((w.alloc _).alloc _).alloc _) by repeat (first | exact Below.refl _ _ | refine Below.al2 ?_ _)).trans (hb1.mono (by simp <;> omega))
 have HVR : Hid (VarA w1 (w.heap.size + 2) 34 _) := vR
 have HVO : Hid (VarA w1 w.heap.size 29 _) := vO
 have HVF : Hid (VarA w1 (w.heap.size + 1) 27 _) := vF
 have s1 : w.heap.size + 3 ≤ w1.heap.size := by have := vR.lt; omega
 obtain ⟨q0, q1, q2_, q3, q4, q5, q6, q7, q8, q9⟩ := vO.l10
 obtain ⟨g0, g1, g2⟩ := vF.l3
 clear hb1 vO vF vR
 by_cases hdc : dc = 0
 case neg =>
  have hres2 : res = (f, s, rcI dc) := by rw [← HRES.out]; simp [hdc]
  subst hres2
  have hc1 : (dc == 0) = false := by simpa using hdc
  have hc2 : (dc != 0) = true := by simpa using hdc
  go_wp2_with ((with_reducible refine gS 34 ?_); refine sF HVR.out rfl rfl (by kernel_rfl) rfl rfl ?_; intro w8 v8 t8)
  refine bpR Tryz.results37 v8 Tryz.underlying34 rfl rfl (by kernel_rfl) rfl ?_
  exact DSub.ret (R := fun _ => False) (P' := P) HB1.out (OwV.nilR _ _ _ _ _) (HNM.out.step HB1.out) (fun c hc => hc.elim) (fun c hc => hc.elim) (fun c hc => .inl hc) (Turned.refl _ _) t8 (by omega) (by omega) HPS.out
 subst hdc
 obtain ⟨rfl, rfl⟩ : d = true ∧ th = true := by
  have h9 := HDV.out
  cases d <;> cases th <;> simp [dirC] at h9 ⊢
 obtain ⟨n, hf⟩ : ∃ n, f (p, q, true) = some n := Option.isSome_iff_exists.1 HTH.out
 have hres2 : res = linkF f s ⟨6, (p, q, true), nm, (p2, q2, d2), asn, ov⟩ := by rw [← HRES.out]; simp [doF2]
 subst hres2
 have HSB : Hid (∀ W, Below w.heap.size w W → _) := fun W hW => linkD b s f ⟨6, (p, q, true), nm, (p2, q2, d2), asn, ov⟩ HQ.out n (.slice ya yn yc) za zn zc S2 P W (HNM.out.step hW) OK.out HI.out HIT.out hf rfl (HR2.out.step hW) HS2.out (by dsimp only; omega) hs
 clear HRES HDC HTK HTH HDV
 go_wp2_with (first | (go_at_call 90; refine Calls.mono (HSB.out _ HB1.out) ?_; rintro e w9 ⟨a9, n9, c9, R9, P9, rfl, o9, N9, d9, r9, p9, t9⟩; have s9 := t9.size; have kR := HVR.out.turn t9 (fun h => by have := HPS.out _ h; omega); have HR9 : Hid (VarA w9 (w.heap.size + 2) 34 _) := kR; clear kR) | ((with_reducible refine gS 34 ?_); refine sF HR9.out rfl rfl (by kernel_rfl) rfl rfl ?_; intro w8 v8 t8))
 refine bpR Tryz.results37 v8 Tryz.underlying34 rfl rfl (by kernel_rfl) rfl ?_
 exact DSub.ret HB1.out o9 N9 d9 r9 p9 t9 t8 (by omega) (by omega) HPS.out
set_option maxHeartbeats 4000000 in
theorem implDo7 (b s : Nat) (f : Hd → Option Nd) (o : OpD) (fr : Hd) (y z : Value) (S2 P : Nat → Prop) (w : World) (N : NM w b s f P) (ok : FOk f) (hin : HIn o.dir) (hito : HIn o.to) (hfr : HIn fr) (r2 : RdV w S2 y (.bytes o.nm)) (r3 : RdV w S2 z (.bytes o.asn)) (hS2 : ∀ c, S2 c → ¬ P c) (hSS : ∀ c, S2 c → c < w.heap.size) (hnm : o.nm.length ≤ 2097152) (hna : o.asn.length ≤ 2097152) (hs : s ≤ 2097000) (hok : OOk o = true) (hk : o.kind = 7) :
  Calls Tryz.prog 37 #[.map (some b), opV o y z, fr.v] w (DSub w b P (doF f s o fr)) := by
 obtain ⟨ya, yc, rfl⟩ := r2.sliceB
 obtain ⟨za, zc, rfl⟩ := r3.sliceB
 have HNM : Hid (NM w b s f P) := N
 have HPS : Hid (∀ c, P c → c < w.heap.size) := N.sm
 have hbw := N.lt
 obtain ⟨X, Q, N⟩ := N
 have HN : Hid (NX w b s f X Q P) := N
 have hXs : ∀ h n, f h = some n → ∃ a m c, X n.h = .slice a m c := fun h n hn => by obtain ⟨a, c, e, _⟩ := RdV.sliced (N.rd h n hn); exact ⟨a, _, c, e⟩
 obtain ⟨kd, ⟨p, q, d⟩, nm, ⟨p2, q2, d2⟩, asn, ov⟩ := o
 obtain ⟨pf, qf, df⟩ := fr
 dsimp only at hin hito hfr r2 r3 hnm hna hk
 subst hk
 have HQ : Hid (isNm asn = true) := by simp [OOk, asB, asP] at hok; exact hok.2.2.2.1
 clear hok
 have HI : Hid (HIn (p, q, d)) := hin
 have HIT : Hid (HIn (p2, q2, d2)) := hito
 have HIF : Hid (HIn (pf, qf, df)) := hfr
 have HS2 : Hid (∀ c, S2 c → ¬ P c) := hS2
 have HSS : Hid (∀ c, S2 c → c < w.heap.size) := hSS
 have OK : Hid (FOk f) := ok
 obtain ⟨th, hth⟩ : ∃ th, (f (p, q, d)).isSome = th := ⟨_, rfl⟩
 obtain ⟨dc, hdc0⟩ : ∃ r, dirC 7 d th = r := ⟨_, rfl⟩
 obtain ⟨tv, htv⟩ : ∃ r, takesB (pf, qf, df) (p2, q2, d2) (f (pf, qf, false)).isSome (f (pf, qf, true)).isSome s = r := ⟨_, rfl⟩
 have HDC : Hid (∀ W, Below w.heap.size w W → Calls Tryz.prog 85 #[.map (some b), .agg #[.i 7, .i p, .i q, .bool d, .slice ya nm.length yc, .i p2, .i q2, .bool d2, .slice za asn.length zc, .i ov]] W fun e w' => e = .returned (.i dc) ∧ Below W.heap.size W w') := fun W hW => by
  have h9 := dirCode_any b s f X ⟨7, (p, q, d), nm, (p2, q2, d2), asn, ov⟩ ya za nm.length yc asn.length zc W (N.m.blk (hW.block b hbw)) hin (fun n hn => hXs _ n hn)
  dsimp only at h9
  rw [hth, hdc0] at h9
  exact h9
 have HTK : Hid (∀ W, Below w.heap.size w W → Calls Tryz.prog 84 #[.map (some b), .agg #[.i pf, .i qf, .bool df], .agg #[.i p2, .i q2, .bool d2]] W fun e w' => e = .returned (.bool tv) ∧ Below W.heap.size W w') := fun W hW => by
  have h9 := takes_any b s f X (pf, qf, df) (p2, q2, d2) W (N.m.blk (hW.block b hbw)) hfr hXs
  rw [show takesB (pf, qf, df) (p2, q2, d2) (f (Hd.sh (pf, qf, df), Hd.ino (pf, qf, df), false)).isSome (f (Hd.sh (pf, qf, df), Hd.ino (pf, qf, df), true)).isSome s = tv from htv] at h9
  exact h9
 obtain ⟨res, hres⟩ : ∃ r, doF f s ⟨7, (p, q, d), nm, (p2, q2, d2), asn, ov⟩ (pf, qf, df) = r := ⟨_, rfl⟩
 have HRES : Hid ((if (7 : Int) = 4 ∧ tv = false then (f, s, rcI 11) else if dc ≠ 0 then (f, s, rcI dc) else doF2 f s ⟨7, (p, q, d), nm, (p2, q2, d2), asn, ov⟩ (pf, qf, df)) = res) := by
  show _ = _
  rw [← hres]
  unfold doF
  dsimp only [Hd.dir, Hd.sh, Hd.ino]
  rw [hth, hdc0, htv]
 rw [hres]
 have HNEW : Hid (tv = true → f (pf, qf, df) = none) := fun h => by
  rw [← htv] at h
  unfold takesB at h
  simp only [Bool.and_eq_true, Bool.not_eq_true', decide_eq_true_eq] at h
  cases df
  ·exact Option.isNone_iff_eq_none.1 (by simpa using h.2.2.2.1)
  ·exact Option.isNone_iff_eq_none.1 (by simpa using h.2.2.2.2.1)
 have HR2 : Hid (RdV w S2 (.slice ya nm.length yc) (.bytes nm)) := r2
 have HR3 : Hid (RdV w S2 (.slice za asn.length zc) (.bytes asn)) := r3
 have HDV : Hid (dirC 7 d th = dc) := hdc0
 have HTH : Hid ((f (p, q, d)).isSome = th) := hth
 clear N hXs r2 r3 hS2 hSS hin hito hfr ok hres htv hdc0 hth
 generalize hyn : nm.length = yn at *
 generalize hzn : asn.length = zn at *
 go_enter Tryz.func37, Tryz.ntmps37
 go_wp2_with fail
 go_at_call 85
 refine Calls.mono (HDC.out _ (by repeat (first | exact Below.refl _ _ | refine Below.al2 ?_ _))) ?_
 rintro e w1 ⟨rfl, hb1⟩
 have vO : VarA w1 w.heap.size 29 #[.i 7, .i p, .i q, .bool d, .slice ya yn yc, .i p2, .i q2, .bool d2, .slice za zn zc, .i ov] := (((VarA.new w _ _).alloc _).alloc _).step hb1
 have vF : VarA w1 (w.heap.size + 1) 27 #[.i pf, .i qf, .bool df] := ((by simpa using VarA.new (w.alloc _) 27 _ : VarA ((w.alloc _).alloc (.cells #[.i pf, .i qf, .bool df] 27)) (w.heap.size + 1) _ _).alloc _).step hb1
 have vR : VarA w1 (w.heap.size + 2) 34 #[.i 0, .i 0, .i 0, .bool false, .i 0, .n0] := (by simpa using VarA.new ((w.alloc _).alloc _) 34 _ : VarA (((w.alloc _).alloc _).alloc (.cells #[.i 0, .i 0, .i 0, .bool false, .i 0, .n0] 34)) (w.heap.size + 2) _ _).step hb1
 have HB1 : Hid (Below w.heap.size w w1) := (show Below w.heap.size w (((w.alloc _).alloc _).alloc _) by repeat (first | exact Below.refl _ _ | refine Below.al2 ?_ _)).trans (hb1.mono (by simp <;> omega))
 have HVR : Hid (VarA w1 (w.heap.size + 2) 34 _) := vR
 have HVO : Hid (VarA w1 w.heap.size 29 _) := vO
 have HVF : Hid (VarA w1 (w.heap.size + 1) 27 _) := vF
 have s1 : w.heap.size + 3 ≤ w1.heap.size := by have := vR.lt; omega
 obtain ⟨q0, q1, q2_, q3, q4, q5, q6, q7, q8, q9⟩ := vO.l10
 obtain ⟨g0, g1, g2⟩ := vF.l3
 clear hb1 vO vF vR
 by_cases hdc : dc = 0
 case neg =>
  have hres2 : res = (f, s, rcI dc) := by rw [← HRES.out]; simp [hdc]
  subst hres2
  have hc1 : (dc == 0) = false := by simpa using hdc
  have hc2 : (dc != 0) = true := by simpa using hdc
  go_wp2_with ((with_reducible refine gS 34 ?_); refine sF HVR.out rfl rfl (by kernel_rfl) rfl rfl ?_; intro w8 v8 t8)
  refine bpR Tryz.results37 v8 Tryz.underlying34 rfl rfl (by kernel_rfl) rfl ?_
  exact DSub.ret (R := fun _ => False) (P' := P) HB1.out (OwV.nilR _ _ _ _ _) (HNM.out.step HB1.out) (fun c hc => hc.elim) (fun c hc => hc.elim) (fun c hc => .inl hc) (Turned.refl _ _) t8 (by omega) (by omega) HPS.out
 subst hdc
 obtain ⟨rfl, rfl⟩ : d = true ∧ th = true := by
  have h9 := HDV.out
  cases d <;> cases th <;> simp [dirC] at h9 ⊢
 obtain ⟨n, hf⟩ : ∃ n, f (p, q, true) = some n := Option.isSome_iff_exists.1 HTH.out
 have hres2 : res = moveF f s ⟨7, (p, q, true), nm, (p2, q2, d2), asn, ov⟩ := by rw [← HRES.out]; simp [doF2]
 subst hres2
 have HSB : Hid (∀ W, Below w.heap.size w W → _) := fun W hW => moveD_ b s f ⟨7, (p, q, true), nm, (p2, q2, d2), asn, ov⟩ HQ.out n (.slice ya yn yc) (.slice za zn zc) S2 P W (HNM.out.step hW) OK.out HI.out HIT.out hf (HR2.out.step hW) (HR3.out.step hW) HS2.out (fun c hc => Nat.lt_of_lt_of_le (HSS.out c hc) hW.size) hs (by dsimp only; omega)
 clear HRES HDC HTK HTH HDV
 go_wp2_with (first | (go_at_call 91; refine Calls.mono (HSB.out _ HB1.out) ?_; rintro e w9 ⟨a9, n9, c9, R9, P9, rfl, o9, N9, d9, r9, p9, t9⟩; have s9 := t9.size; have kR := HVR.out.turn t9 (fun h => by have := HPS.out _ h; omega); have HR9 : Hid (VarA w9 (w.heap.size + 2) 34 _) := kR; clear kR) | ((with_reducible refine gS 34 ?_); refine sF HR9.out rfl rfl (by kernel_rfl) rfl rfl ?_; intro w8 v8 t8))
 refine bpR Tryz.results37 v8 Tryz.underlying34 rfl rfl (by kernel_rfl) rfl ?_
 exact DSub.ret HB1.out o9 N9 d9 r9 p9 t9 t8 (by omega) (by omega) HPS.out
end
end Go.Proofs.YtcicadfhfojdpaaGreat
