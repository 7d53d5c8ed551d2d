/- Joined: SpecD17 DW5 DW6 RSp RBy4 PRec PBackR WPut2 RVal RdR. -/
import Derived.Test.YtklhikadhohjbaaGreatRSpecD16k0
import Derived.Test.YtklhikadhohjbaaGreatRA05
import Derived.Test.YtklhikadhohjbaaGreatRSpecD16k4
import Derived.Test.YtklhikadhohjbaaGreatRSpecD16k5
import Derived.Test.YtklhikadhohjbaaGreatRSpecD16k6
import Derived.Test.YtklhikadhohjbaaGreatRSpecT6
import Derived.Test.YtklhikadhohjbaaGreatROpOks
import Derived.Test.YtklhikadhohjbaaGreatRA02
import Derived.Test.YtklhikadhohjbaaGreatRRSp1
import Derived.Test.YtklhikadhohjbaaGreatRRSp2
import Derived.Test.YtklhikadhohjbaaGreatRRSp3
import Derived.Test.YtklhikadhohjbaaGreatRRSp4
import Derived.Test.YtklhikadhohjbaaGreatRRBy3
import Derived.Test.YtklhikadhohjbaaGreatRA00
import Derived.Test.YtklhikadhohjbaaGreatRA03
import Derived.Test.YtklhikadhohjbaaGreatRWPut1
import Derived.Test.YtklhikadhohjbaaGreatRA02b

namespace Go.Proofs.YtklhikadhohjbaaGreat
open Go.RowKit
set_option linter.unusedVariables false
set_option linter.unusedSimpArgs false
set_option maxRecDepth 100000
section
theorem treeOk_at {l : List Nd} (h : treeOk l = true) {i : Nat} (hi : i < l.length) : nodeT l i = true := by
 unfold treeOk at h
 rw [Bool.and_eq_true] at h
 exact (List.all_eq_true.1 h.2) i (by simpa using hi)
theorem treeOk_len {l : List Nd} (h : treeOk l = true) : 1 ≤ l.length ∧ l.length ≤ 240 := by
 unfold treeOk headT at h
 simp only [Bool.and_eq_true, decide_eq_true_eq] at h
 exact h.1.1
theorem ndOk_small {n : Nd} (h : ndOk n = true) : n.es.length ≤ 12 ∧ 1 ≤ n.links ∧ n.links ≤ 2147483647 := by
 unfold ndOk baseOk at h
 simp only [Bool.and_eq_true, decide_eq_true_eq] at h
 omega
theorem nodeT_parts {l : List Nd} {i : Nat} (h : nodeT l i = true) : ndOk (l[i]?.getD nd0) = true ∧ (i = 0 ∨ lessH (l[i - 1]?.getD nd0).h (l[i]?.getD nd0).h = true) ∧ (∀ e ∈ (l[i]?.getD nd0).es, entLead l (l[i]?.getD nd0) e = true) ∧ tailT l (l[i]?.getD nd0) = true := by
 unfold nodeT at h
 simp only [Bool.and_eq_true, Bool.or_eq_true, decide_eq_true_eq, List.all_eq_true] at h
 exact ⟨h.1, h.2.1, h.2.2.1, h.2.2.2⟩
theorem treeOk_small {l : List Nd} (h : treeOk l = true) : Small l := by
 refine ⟨by have := (treeOk_len h).2; omega, fun i => ?_⟩
 by_cases hi : i < l.length
 ·have := ndOk_small (nodeT_parts (treeOk_at h hi)).1
  omega
 ·rw [List.getElem?_eq_none (by omega)]
  simp [nd0]
theorem treeOk_in {l : List Nd} (h : treeOk l = true) (i j : Nat) (hi : i < l.length) (hj : j < (l[i]?.getD nd0).es.length) : fi l ((l[i]?.getD nd0).es[j]?.getD en0).h < l.length := by
 have h3 := (nodeT_parts (treeOk_at h hi)).2.2.1 _ (List.getElem_mem hj)
 unfold entLead at h3
 simp only [Bool.and_eq_true, decide_eq_true_eq] at h3
 rw [List.getElem?_eq_getElem hj]
 exact h3.1
theorem OOk_kind {o : OpD} (h : OOk o = true) : 0 ≤ o.kind ∧ o.kind ≤ 7 := by
 unfold OOk at h
 simp only [Bool.and_eq_true, decide_eq_true_eq] at h
 exact h.1.1
theorem specL4do_any (tb lo : Nat) (o : OpD) (fr : Hd) (y z : Value) (l : List Nd) (S2 L : Nat → Prop) (w : World) (tv : TV w tb lo L l) (hLt : ¬ L tb) (hLn : ∀ b, w.heap.size ≤ b → L b) (hlo : lo ≤ w.heap.size) (htbl : lo ≤ tb) (ht : treeOk l = true) (hsz : szNds l ≤ 2097152) (r1 : RdV w S2 y (.bytes o.nm)) (r2 : RdV w S2 z (.bytes o.asn)) (hS2 : ∀ b, S2 b → b < lo) (hn1 : o.nm.length ≤ 2097152) (hn2 : o.asn.length ≤ 2097152) (hk : 0 ≤ o.kind ∧ o.kind ≤ 7) :
  Calls Tryz.prog 114 #[.pointer (some ⟨tb, 0, none⟩), opV o y z, fr.v] w (DoPost w tb lo L (doD l o fr)) := by
 have h0 : 0 < l.length := (treeOk_len ht).1
 have sm := treeOk_small ht
 have hin := treeOk_in ht
 rcases kinds hk.1 hk.2 with h | h | h | h | h | h | h | h
 ·exact specDo0 tb lo o fr y z l S2 L w tv hLt hLn h0 hlo htbl sm hsz r1 r2 hS2 hn1 hn2 hin h
 ·exact specDo1 tb lo o fr y z l S2 L w tv hLt hLn h0 hlo htbl sm hsz r1 r2 hS2 hn1 hn2 hin h
 ·exact specDo2 tb lo o fr y z l S2 L w tv hLt hLn h0 hlo htbl sm hsz r1 r2 hS2 hn1 hn2 hin h
 ·exact specDo3 tb lo o fr y z l S2 L w tv hLt hLn h0 hlo htbl sm hsz r1 r2 hS2 hn1 hn2 hin h
 ·exact specDo4 tb lo o fr y z l S2 L w tv hLt hLn h0 hlo htbl sm hsz r1 r2 hS2 hn1 hn2 hin h
 ·exact specDo5 tb lo o fr y z l S2 L w tv hLt hLn h0 hlo htbl sm hsz r1 r2 hS2 hn1 hn2 hin h
 ·exact specDo6 tb lo o fr y z l S2 L w tv hLt hLn h0 hlo htbl sm hsz r1 r2 hS2 hn1 hn2 hin h
 ·exact specDo7 tb lo o fr y z l S2 L w tv hLt hLn h0 hlo htbl sm hsz r1 r2 hS2 hn1 hn2 hin h
def badFr (l : List Nd) (o : OpD) (fr : Hd) : Bool := !HOk fr || (decide (fr.sh ≠ o.to.sh) || (decide (fr.dir ≠ o.to.dir) || (decide (fi l fr < l.length) || (decide (fi l (fr.sh, fr.ino, !fr.dir) < l.length) || decide (240 ≤ l.length)))))
def dO (l : List Nd) (o : OpD) (fr : Hd) : List Nd × RpD :=
 if (treeOk l && OOk o) = true then (if o.kind = 4 ∧ badFr l o fr = true then (l, rc 11) else doD l o fr) else ([], rc 11)
end
section
def NP (c : Nat) (n : Nd) : Prop := HdR n.h ∧ n.es.length ≤ c ∧ ∀ e ∈ n.es, e.nm.length ≤ 6 ∧ HdR e.h
def AllN (c : Nat) (l : List Nd) : Prop := ∀ n ∈ l, NP c n
theorem NP.up {c c' : Nat} {n : Nd} (h : NP c n) (hc : c ≤ c') : NP c' n := ⟨h.1, Nat.le_trans h.2.1 hc, h.2.2⟩
theorem AllN.up {c c' : Nat} {l : List Nd} (h : AllN c l) (hc : c ≤ c') : AllN c' l := fun n hn => (h n hn).up hc
theorem hdR_ok {h : Hd} (k : HOk h = true) : HdR h := by
 unfold HOk at k
 simp only [Bool.and_eq_true, decide_eq_true_eq] at k
 exact ⟨k.1, k.2.1, by omega, k.2.2.2⟩
theorem getD_mem {l : List Nd} {i : Nat} (hi : i < l.length) : l[i]?.getD nd0 ∈ l := by rw [List.getElem?_eq_getElem hi]; exact List.getElem_mem hi
theorem AllN.at {c : Nat} {l : List Nd} (h : AllN c l) {i : Nat} (hi : i < l.length) : NP c (l[i]?.getD nd0) := h _ (getD_mem hi)
theorem AllN.set {c : Nat} {l : List Nd} {n : Nd} (h : AllN c l) (hn : NP c n) (d : Nat) : AllN c (l.set d n) := fun m hm => by
 rcases List.mem_or_eq_of_mem_set hm with h1 | h1
 ·exact h m h1
 ·rw [h1]; exact hn
theorem treeOk_all {l : List Nd} (h : treeOk l = true) : AllN 12 l := fun n hn => by
 obtain ⟨i, hi, rfl⟩ := List.getElem_of_mem hn
 have p := nodeT_parts (treeOk_at h hi)
 rw [List.getElem?_eq_getElem hi] at p
 have p1 : ndOk l[i] = true := p.1
 have hb : baseOk l[i] = true ∧ (if l[i].h.dir then dirOk l[i] && entsOk l[i].es else fileOk l[i]) = true := by
  unfold ndOk at p1; rw [Bool.and_eq_true] at p1; exact p1
 have hh : HOk l[i].h = true := by
  have := hb.1; unfold baseOk at this; rw [Bool.and_eq_true] at this; exact this.1
 refine ⟨hdR_ok hh, (ndOk_small p1).1, fun e he => ?_⟩
 have h2 := hb.2
 by_cases hd : l[i].h.dir = true
 ·rw [if_pos hd, Bool.and_eq_true] at h2
  have h3 := h2.2
  unfold entsOk at h3
  obtain ⟨j, hj, rfl⟩ := List.getElem_of_mem he
  have h4 := (List.all_eq_true.1 h3) j (by simpa using hj)
  unfold entOk at h4
  rw [List.getElem?_eq_getElem hj] at h4
  simp only [Bool.and_eq_true] at h4
  have h5 : isNm l[i].es[j].nm = true := h4.1
  have h6 : HOk l[i].es[j].h = true := h4.2.1
  refine ⟨?_, hdR_ok h6⟩
  unfold isNm at h5
  simp only [Bool.and_eq_true, decide_eq_true_eq] at h5
  omega
 ·rw [if_neg hd] at h2
  unfold fileOk at h2
  simp only [Bool.and_eq_true, decide_eq_true_eq] at h2
  have : l[i].es = [] := List.eq_nil_of_length_eq_zero h2.1
  rw [this] at he
  cases he
theorem np_add {c : Nat} {n : Nd} (h : NP c n) (nm : List Int) (hnm : nm.length ≤ 6) {x : Hd} (hx : HdR x) : NP (c + 1) (n.setEs (addE n.es nm x)) := by
 refine ⟨h.1, ?_, fun e he => ?_⟩
 ·show (addE n.es nm x).length ≤ c + 1
  unfold addE
  have := h.2.1
  simp
  omega
 ·have he' : e ∈ addE n.es nm x := he
  unfold addE at he'
  rcases List.mem_append.1 he' with h1 | h1
  ·rcases List.mem_append.1 h1 with h2 | h2
   ·exact h.2.2 e (List.mem_of_mem_take h2)
   ·simp only [List.mem_cons, List.not_mem_nil, or_false] at h2
    rw [h2]; exact ⟨hnm, hx⟩
  ·exact h.2.2 e (List.mem_of_mem_drop h1)
theorem np_cut {c : Nat} {n : Nd} (h : NP c n) (e : Nat) : NP c (n.setEs (cutE n.es e)) := by
 refine ⟨h.1, Nat.le_trans (length_cutE _ _) h.2.1, fun x hx => ?_⟩
 have hx' : x ∈ cutE n.es e := hx
 unfold cutE at hx'
 rcases List.mem_append.1 hx' with h1 | h1
 ·exact h.2.2 x (List.mem_of_mem_take h1)
 ·exact h.2.2 x (List.mem_of_mem_drop h1)
theorem all_cut {c : Nat} {l : List Nd} (h : AllN c l) (d e : Nat) (hd : d < l.length) : AllN c (cutN l d e) := h.set (np_cut (h.at hd) e) d
theorem all_add {c : Nat} {l : List Nd} (h : AllN c l) (d : Nat) (hd : d < l.length) (nm : List Int) (hnm : nm.length ≤ 6) {x : Hd} (hx : HdR x) : AllN (c + 1) (addN l d nm x) := (h.up (Nat.le_succ c)).set (np_add (h.at hd) nm hnm hx) d
theorem NP.lk {c : Nat} {n : Nd} (h : NP c n) (k : Int) : NP c (n.setLk k) := h
theorem NP.par {c : Nat} {n : Nd} (h : NP c n) (k : Hd) : NP c (n.setPar k) := h
theorem NP.val {c : Nat} {n : Nd} (h : NP c n) (k : Int) : NP c (n.setVal k) := h
theorem all_lk {c : Nat} {l : List Nd} (h : AllN c l) (d : Nat) (hd : d < l.length) (k : Int) : AllN c (lkN l d k) := h.set ((h.at hd).lk _) d
theorem all_par {c : Nat} {l : List Nd} (h : AllN c l) (d : Nat) (hd : d < l.length) (k : Hd) : AllN c (parN l d k) := h.set ((h.at hd).par _) d
theorem all_val {c : Nat} {l : List Nd} (h : AllN c l) (d : Nat) (hd : d < l.length) (k : Int) : AllN c (valN l d k) := h.set ((h.at hd).val _) d
theorem all_out {c : Nat} {l : List Nd} (h : AllN c l) (k : Nat) : AllN c (outN l k) := fun n hn => by
 unfold outN at hn
 rcases List.mem_append.1 hn with h1 | h1
 ·exact h n (List.mem_of_mem_take h1)
 ·exact h n (List.mem_of_mem_drop h1)
theorem all_ins {c : Nat} {l : List Nd} (h : AllN c l) {n : Nd} (hn : NP c n) : AllN c (insN l n) := fun m hm => by
 unfold insN at hm
 rcases List.mem_append.1 hm with h1 | h1
 ·rcases List.mem_append.1 h1 with h2 | h2
  ·exact h m (List.mem_of_mem_take h2)
  ·simp only [List.mem_cons, List.not_mem_nil, or_false] at h2
   rw [h2]; exact hn
 ·exact h m (List.mem_of_mem_drop h1)
theorem sum_le {α : Type} (f : α → Nat) (c : Nat) : ∀ (l : List α), (∀ a ∈ l, f a ≤ c) → (l.map f).sum ≤ l.length * c
 | [], _ => by simp
 | a :: r, h => by
  have h1 := sum_le f c r (fun b hb => h b (List.mem_cons_of_mem _ hb))
  have h2 := h a (List.mem_cons_self ..)
  simp only [List.map_cons, List.sum_cons, List.length_cons, Nat.add_mul, Nat.one_mul]
  omega
theorem sz_all {l : List Nd} (h : AllN 13 l) (hl : l.length ≤ 300) : szNds l ≤ 40000 := by
 have h1 : ∀ n ∈ l, szEns n.es ≤ 91 := fun n hn => by
  have h2 := h n hn
  have h3 := sum_le (fun e : En => e.nm.length) 6 n.es (fun e he => (h2.2.2 e he).1)
  have := h2.2.1
  unfold szEns
  omega
 have h4 := sum_le (fun n : Nd => szEns n.es) 91 l h1
 unfold szNds
 omega
theorem es_mem {n : Nd} {j : Nat} (hj : j < n.es.length) : n.es[j]?.getD en0 ∈ n.es := by rw [List.getElem?_eq_getElem hj]; exact List.getElem_mem hj
theorem length_lkN (l : List Nd) (d : Nat) (k : Int) : (lkN l d k).length = l.length := List.length_set
theorem length_valN (l : List Nd) (d : Nat) (k : Int) : (valN l d k).length = l.length := List.length_set
theorem length_insN (l : List Nd) (n : Nd) : (insN l n).length = l.length + 1 := by
 have : plN l n.h ≤ l.length := List.findIdx_le_length
 unfold insN; simp; omega
theorem length_outN (l : List Nd) (k : Nat) (hk : k < l.length) : (outN l k).length = l.length - 1 := by unfold outN; simp; omega
theorem moveD_all {l : List Nd} {o : OpD} {d : Nat} (h : AllN 12 l) (hd : d < l.length) (hin : ∀ j, j < (l[d]?.getD nd0).es.length → fi l ((l[d]?.getD nd0).es[j]?.getD en0).h < l.length) (ha : o.asn.length ≤ 6) : AllN 13 (moveD l o d).1 ∧ (moveD l o d).1.length = l.length := by
 have h13 : AllN 13 l := h.up (by omega)
 unfold moveD
 by_cases h1 : ei (l[d]?.getD nd0).es o.nm < (l[d]?.getD nd0).es.length
 ·rw [if_neg (fun k => k h1)]
  have hx : HdR ((l[d]?.getD nd0).es[ei (l[d]?.getD nd0).es o.nm]?.getD en0).h := ((h.at hd).2.2 _ (es_mem h1)).2
  have hk := hin _ h1
  generalize ((l[d]?.getD nd0).es[ei (l[d]?.getD nd0).es o.nm]?.getD en0).h = x at *
  generalize ei (l[d]?.getD nd0).es o.nm = e at *
  split
  ·exact ⟨h13, rfl⟩
  split
  ·exact ⟨h13, rfl⟩
  rename_i ht
  have ht' : fi l o.to < l.length := Classical.not_not.1 ht
  split
  ·split
   ·exact ⟨h13, rfl⟩
   ·exact ⟨all_add (all_cut h d e hd) d (by rw [length_cutN]; exact hd) _ ha hx, by rw [length_addN, length_cutN]⟩
  split
  ·exact ⟨h13, rfl⟩
  split
  ·split
   ·exact ⟨h13, rfl⟩
   split
   ·exact ⟨h13, rfl⟩
   ·exact ⟨all_add (all_cut (all_par h _ hk _) d e (by rw [length_parN]; exact hd)) _ (by rw [length_cutN, length_parN]; exact ht') _ ha hx, by rw [length_addN, length_cutN, length_parN]⟩
  ·exact ⟨all_add (all_cut h d e hd) _ (by rw [length_cutN]; exact ht') _ ha hx, by rw [length_addN, length_cutN]⟩
 ·rw [if_pos h1]; exact ⟨h13, rfl⟩
theorem dropD_all {l : List Nd} {d e : Nat} {x : Hd} (h : AllN 12 l) (hd : d < l.length) (hk : fi l x < l.length) (h2 : 2 ≤ l.length) : AllN 13 (dropD l d e x).1 ∧ 0 < (dropD l d e x).1.length ∧ (dropD l d e x).1.length ≤ l.length := by
 have h13 : AllN 13 l := h.up (by omega)
 unfold dropD
 split
 ·exact ⟨h13, by show 0 < l.length; omega, Nat.le_refl _⟩
 have hc := all_lk (all_cut h13 d e hd) (fi l x) (by rw [length_cutN]; exact hk) (-1)
 have hlen : (lkN (cutN l d e) (fi l x) (-1)).length = l.length := by rw [length_lkN, length_cutN]
 split
 ·refine ⟨all_out hc _, ?_, ?_⟩
  ·show 0 < (outN _ _).length; rw [length_outN _ _ (by rw [hlen]; exact hk), hlen]; omega
  ·show (outN _ _).length ≤ _; rw [length_outN _ _ (by rw [hlen]; exact hk), hlen]; omega
 ·exact ⟨hc, by show 0 < (lkN _ _ _).length; rw [hlen]; omega, by show (lkN _ _ _).length ≤ _; rw [hlen]; exact Nat.le_refl _⟩
end
section
theorem tree_two {l : List Nd} (h : treeOk l = true) {d j : Nat} (hd : d < l.length) (hj : j < (l[d]?.getD nd0).es.length) : 2 ≤ l.length := by
 by_cases h2 : 2 ≤ l.length
 ·exact h2
 ·exfalso
  have h1 : l.length = 1 := by have := (treeOk_len h).1; omega
  obtain ⟨n, rfl⟩ : ∃ n, l = [n] := by
   match l, h1 with
   | [n], _ => exact ⟨n, rfl⟩
  have hd0 : d = 0 := by simpa using hd
  subst hd0
  have hr : n.h = rootH := by
   unfold treeOk headT at h
   simp only [Bool.and_eq_true, decide_eq_true_eq] at h
   exact h.1.2.1
  have p := nodeT_parts (treeOk_at h (i := 0) (by simp))
  have hj' : j < n.es.length := hj
  have hl := p.2.2.1 n.es[j] (List.getElem_mem hj')
  unfold entLead at hl
  simp only [Bool.and_eq_true, decide_eq_true_eq] at hl
  have he : n.h = n.es[j].h := by
   have h3 := hl.1
   unfold fi at h3
   rw [List.findIdx_lt_length] at h3
   obtain ⟨m, hm, h4⟩ := h3
   simp only [List.mem_cons, List.not_mem_nil, or_false] at hm
   subst hm
   simpa using h4
  have ht := p.2.2.2
  have ht' : tailT [n] n = true := ht
  unfold tailT at ht'
  rw [if_pos hr] at ht'
  simp only [decide_eq_true_eq] at ht'
  have hc : 0 < cntE n.es n.h := by
   unfold cntE
   rw [List.countP_pos_iff]
   exact ⟨n.es[j], List.getElem_mem hj', by simp [he]⟩
  unfold cntH at ht'
  simp [psum] at ht'
  omega
def Sm (q : List Nd × RpD) : Prop := AllN 13 q.1 ∧ 0 < q.1.length ∧ q.1.length ≤ 241
theorem Sm.mk' {l : List Nd} (c : RpD) (h : AllN 13 l) (h0 : 0 < l.length) (h1 : l.length ≤ 241) : Sm (l, c) := ⟨h, h0, h1⟩
set_option maxHeartbeats 4000000 in
theorem doD_sm {l : List Nd} {o : OpD} {fr : Hd} (ht : treeOk l = true) (hfr : HdR fr) (hto : HdR o.to) (hn : o.nm.length ≤ 6) (ha : o.asn.length ≤ 6) : Sm (doD l o fr) := by
 have hall := treeOk_all ht
 have h13 : AllN 13 l := hall.up (by omega)
 have hlen := treeOk_len ht
 have hlp : ∀ c, Sm (l, c) := fun c => Sm.mk' c h13 (by omega) (by omega)
 unfold doD
 split
 ·split
  ·exact hlp _
  split
  ·exact hlp _
  rename_i hd
  have hd' := Classical.not_not.1 hd
  split
  ·exact Sm.mk' _ (all_val h13 _ hd' _) (by rw [length_valN]; omega) (by rw [length_valN]; omega)
  ·exact hlp _
 split
 ·exact hlp _
 split
 ·exact hlp _
 rename_i hd
 have hd' := Classical.not_not.1 hd
 generalize fi l o.dir = d at *
 split
 ·exact hlp _
 split
 ·have := moveD_all (o := o) hall hd' (fun j hj => treeOk_in ht d j hd' hj) ha
  exact Sm.mk' _ this.1 (by rw [this.2]; omega) (by rw [this.2]; omega)
 split
 ·split
  ·exact hlp _
  rename_i he
  have he' := Classical.not_not.1 he
  split
  ·exact hlp _
  ·have := dropD_all (e := ei (l[d]?.getD nd0).es o.nm) hall hd' (treeOk_in ht d _ hd' he') (tree_two ht hd' he')
   exact Sm.mk' _ this.1 this.2.1 (Nat.le_trans this.2.2 (by omega))
 split
 ·exact hlp _
 split
 ·have h4 := all_add (c := 12) hall d hd' o.nm hn hfr
  exact Sm.mk' _ (all_ins h4 ⟨hfr, Nat.zero_le _, fun e he => by cases he⟩) (by rw [length_insN]; omega) (by rw [length_insN, length_addN]; omega)
 split
 ·exact hlp _
 split
 ·exact hlp _
 rename_i hk
 have hk' := Classical.not_not.1 hk
 exact Sm.mk' _ (all_add (c := 12) (all_lk hall _ hk' 1) d (by rw [length_lkN]; exact hd') o.nm hn hto) (by rw [length_addN, length_lkN]; omega) (by rw [length_addN, length_lkN]; omega)
theorem dO_sm {l : List Nd} {o : OpD} {fr : Hd} (hc : (dO l o fr).2.code = 0) (hfr : HdR fr) (hto : HdR o.to) (hn : o.nm.length ≤ 6) (ha : o.asn.length ≤ 6) : Sm (dO l o fr) := by
 unfold dO at hc ⊢
 by_cases h1 : (treeOk l && OOk o) = true
 case neg => rw [if_neg h1] at hc; exact absurd (show (11 : Int) = 0 from hc) (by decide)
 rw [if_pos h1] at hc ⊢
 rw [Bool.and_eq_true] at h1
 by_cases h2 : o.kind = 4 ∧ badFr l o fr = true
 case pos => rw [if_pos h2] at hc; exact absurd (show (11 : Int) = 0 from hc) (by decide)
 rw [if_neg h2]
 exact doD_sm h1.1 hfr hto hn ha
end
section
set_option maxHeartbeats 2000000 in
theorem specRecBad (x y z u : Value) (m : MsD) (S : Nat → Prop) (w : World) (r : RdM w S m x y z u) (hk : m.kind < 0 ∨ 4 < m.kind) :
  Calls Tryz.prog 19 #[rcV m x y z u] w fun e w' => e = .returned (.bool (COk m)) ∧ Below w.heap.size w w' := by
 obtain ⟨r1, r2, r3, r4⟩ := r
 obtain ⟨a1, cap1, rfl⟩ := r1.sliceB
 obtain ⟨a2, cap2, rfl⟩ := r2.sliceB
 obtain ⟨a3, cap3, rfl, _⟩ := RdV.sliced r3
 obtain ⟨a4, cap4, rfl⟩ := r4.sliceB
 have HF : Hid (COk m = false) := by show _ = _; unfold COk; rcases hk with h | h <;> simp <;> omega
 rw [HF.out]
 obtain ⟨kd, fr, to, rq, ⟨ok, ⟨op_, oq, od⟩, nm, ⟨tp, tq, td⟩, asn, ov⟩, ⟨rc, ⟨rp_, rq_, rd⟩, rv, es⟩, ⟨xs, xb, xn⟩, ⟨pk, ⟨pp, pq, pd⟩, pas, ⟨sp, sq, sd⟩⟩, cd, ⟨hp, hq, hd⟩⟩ := m
 clear r1 r2 r3 r4 HF
 dsimp only at hk ⊢
 generalize nm.length = n1 at *
 generalize asn.length = n2 at *
 generalize es.length = n3 at *
 generalize pas.length = n4 at *
 go_enter Tryz.func19, Tryz.ntmps19
 go_wp2_with fail
 all_goals first | (go_ret; exact ⟨rfl, Below.newH _⟩) | (exfalso; omega)
theorem specRecordOk_any (x y z u : Value) (m : MsD) (S : Nat → Prop) (w : World) (r : RdM w S m x y z u) (hl : szMs m ≤ 2097152) :
  Calls Tryz.prog 19 #[rcV m x y z u] w fun e w' => e = .returned (.bool (COk m)) ∧ Below w.heap.size w w' := by
 by_cases hk : m.kind < 0 ∨ 4 < m.kind
 ·exact specRecBad x y z u m S w r hk
 ·have h : m.kind = 0 ∨ m.kind = 1 ∨ m.kind = 2 ∨ m.kind = 3 ∨ m.kind = 4 := by omega
  rcases h with h | h | h | h | h
  ·exact specRec0 x y z u m S w r hl h
  ·exact specRec1 x y z u m S w r hl h
  ·exact specRec2 x y z u m S w r hl h
  ·exact specRec3 x y z u m S w r hl h
  ·exact specRec4 x y z u m S w r hl h
end
section
theorem COk_kind {m : MsD} (h : COk m = true) : 0 ≤ m.kind ∧ m.kind ≤ 4 := by
 simp only [COk, Bool.and_eq_true, decide_eq_true_eq] at h
 exact h.1
theorem zRp_len {r : RpD} (h : zRp r = true) : r.list.length ≤ 12 := by
 simp only [zRp, Bool.and_eq_true, decide_eq_true_eq] at h
 omega
theorem callB_len {m : MsD} (h : callB m = true) : m.rp.list.length ≤ 12 := by
 simp only [callB, Bool.and_eq_true, decide_eq_true_eq] at h
 omega
theorem COk_12 {m : MsD} (h : COk m = true) : m.rp.list.length ≤ 12 := by
 have hk := COk_kind h
 simp only [COk, Bool.and_eq_true] at h
 have hb := h.2
 rcases (show m.kind = 0 ∨ m.kind = 1 ∨ m.kind = 2 ∨ m.kind = 3 ∨ m.kind = 4 by omega) with h | h | h | h | h <;> simp [CBody, h] at hb
 ·exact zRp_len hb.2.2.2.2.1
 ·exact callB_len hb.1.1
 ·exact zRp_len hb.2.2.2.2
 ·exact callB_len hb.1.1
 ·exact zRp_len hb.2.2.2.2.2.1
theorem specRecB_any (m : MsD) (x y z u : Value) (S : Nat → Prop) (w : World) (r : RdM w S m x y z u) (hl : szMs m ≤ 1048576) (ho : COk m = true) : Ap 165 #[rcV m x y z u] w (rcB m) := by
 have hk := COk_kind ho
 rcases (show m.kind = 0 ∨ m.kind = 1 ∨ m.kind = 2 ∨ m.kind = 3 ∨ m.kind = 4 by omega) with h | h | h | h | h
 ·exact specRecB0 m x y z u S w r hl (COk_12 ho) h
 ·exact specRecB1 m x y z u S w r hl (COk_12 ho) h
 ·exact specRecB2 m x y z u S w r hl (COk_12 ho) h
 ·exact specRecB3 m x y z u S w r hl (COk_12 ho) h
 ·exact specRecB4 m x y z u S w r hl (COk_12 ho) h
def outR (m : MsD) : List Int := if COk m then rcB m else []
set_option maxHeartbeats 4000000 in
theorem specRecordBytes_any (m : MsD) (x y z u : Value) (S : Nat → Prop) (w : World) (r : RdM w S m x y z u) (hl : szMs m ≤ 1048576) :
  Calls Tryz.prog 82 #[rcV m x y z u] w fun e w' => ∃ v, e = .returned (.tuple #[v, .bool (COk m)]) ∧ isBytes (outR m) ∧ Owns w' w.heap.size v (outR m) ∧ Below w.heap.size w w' := by
 have HM : Hid (∀ W, Below w.heap.size w W → _) := fun W hW => specRecordOk_any x y z u m S W (r.step hW) (by omega)
 by_cases ho : COk m = true
 ·have HY : Hid (∀ W, Below w.heap.size w W → _) := fun W hW => specRecB_any m x y z u S W (r.step hW) hl ho
  have HF : Hid (outR m = rcB m) := by show _ = _; unfold outR; rw [if_pos ho]
  rw [HF.out, ho]
  rw [ho] at HM
  generalize rcB m = zs at HY ⊢
  clear r hl ho HF
  obtain ⟨kd, fr, to, rq, ⟨ok, ⟨op_, oq, od⟩, nm, ⟨tp, tq, td⟩, asn, ov⟩, ⟨rc, ⟨rp_, rq_, rd⟩, rv, es⟩, ⟨xs, xb, xn⟩, ⟨pk, ⟨pp, pq, pd⟩, pas, ⟨sp, sq, sd⟩⟩, cd, ⟨hp, hq, hd⟩⟩ := m
  try dsimp only at HM HY ⊢
  go_enter Tryz.func82, Tryz.ntmps82
  go_wp2_with ((with_reducible refine guardLoad (ty := 47) ?_); refine wpList_loadA (VarA.new w _ _) rfl Tryz.underlying47 rfl (by kernel_rfl) ?_)
  refine Calls.mono (HM.out _ (Below.newH _)) ?_
  rintro e w2 ⟨rfl, b_⟩
  have vA : VarA w2 w.heap.size 47 #[.int .i64 kd, .int .i64 fr, .int .i64 rq, .int .i64 ok, .int .i64 op_, .int .i64 oq, .bool od, x, .int .i64 tp, .int .i64 tq, .bool td, y, .int .i64 ov, .int .i64 hp, .int .i64 hq, .bool hd, .int .i64 rc, .int .i64 rp_, .int .i64 rq_, .bool rd, .int .i64 rv, z, .int .i64 xs, .int .i64 xb, .int .i64 xn, .int .i64 pk, .int .i64 pp, .int .i64 pq, .bool pd, u, .int .i64 sp, .int .i64 sq, .bool sd, .int .i64 cd] := VarA.step (VarA.new w _ _) b_
  have HB : Hid (Below w.heap.size w w2) := (Below.newH (w := w) _).trans (b_.mono (by simp))
  clear b_ HM
  go_wp2_with ((with_reducible refine guardLoad (ty := 47) ?_); refine wpList_loadA vA rfl Tryz.underlying47 rfl (by kernel_rfl) ?_)
  refine Calls.mono (HY.out _ HB.out) ?_
  rintro e w3 ⟨v, rfl, z1, o1, b_⟩
  have hsz := HB.out.size
  have HB2 : Hid _ := HB.out.trans (b_.mono HB.out.size)
  clear vA
  go_wp2
  go_ret2
  exact ⟨_, rfl, z1, o1.base hsz, HB2.out⟩
 ·have hof : COk m = false := by simpa using ho
  have HF : Hid (outR m = []) := by show _ = _; unfold outR; rw [if_neg ho]
  rw [HF.out, hof]
  rw [hof] at HM
  clear r hl ho hof HF
  obtain ⟨kd, fr, to, rq, ⟨ok, ⟨op_, oq, od⟩, nm, ⟨tp, tq, td⟩, asn, ov⟩, ⟨rc, ⟨rp_, rq_, rd⟩, rv, es⟩, ⟨xs, xb, xn⟩, ⟨pk, ⟨pp, pq, pd⟩, pas, ⟨sp, sq, sd⟩⟩, cd, ⟨hp, hq, hd⟩⟩ := m
  try dsimp only at HM ⊢
  go_enter Tryz.func82, Tryz.ntmps82
  go_wp2_with ((with_reducible refine guardLoad (ty := 47) ?_); refine wpList_loadA (VarA.new w _ _) rfl Tryz.underlying47 rfl (by kernel_rfl) ?_)
  refine Calls.mono (HM.out _ (Below.newH _)) ?_
  rintro e w2 ⟨rfl, b_⟩
  have HB : Hid (Below w.heap.size w w2) := (Below.newH (w := w) _).trans (b_.mono (by simp))
  clear b_ HM
  go_wp2
  go_ret2
  exact ⟨_, rfl, isBytes_nil, ⟨rfl, .inl ⟨rfl, rfl⟩⟩, HB.out⟩
end
section
def rdRc (e : Int → List En × Int) (zs : List Int) : MsD × Int :=
 let k := getNum zs 0
 if k.1 = 1 then let f := getNum zs k.2; let r := getNum zs f.2; let o := rdOp zs r.2; let h := rdHd zs o.2; let p := rdRp e zs h.2; (⟨k.1, f.1, 0, r.1, o.1, p.1, tx0, pt0, 0, h.1⟩, p.2)
 else if k.1 = 2 then let x := rdTx zs k.2; let t := rdPt zs x.2; let c := getNum zs t.2; let h := rdHd zs c.2; (⟨k.1, 0, 0, 0, op0, rp0, x.1, t.1, c.1, h.1⟩, h.2)
 else if k.1 = 3 then let x := rdTx zs k.2; let c := getNum zs x.2; let f := getNum zs c.2; let r := getNum zs f.2; let o := rdOp zs r.2; let p := rdRp e zs o.2; (⟨k.1, f.1, 0, r.1, o.1, p.1, x.1, pt0, c.1, hd0⟩, p.2)
 else if k.1 = 4 then let x := rdTx zs k.2; let c := getNum zs x.2; (⟨k.1, 0, 0, 0, op0, rp0, x.1, pt0, c.1, hd0⟩, c.2)
 else (⟨k.1, 0, 0, 0, op0, rp0, tx0, pt0, 0, hd0⟩, k.2)
theorem rc_took {zs : List Int} (hz : isBytes zs) (h : 0 ≤ (rdRc (rdEnP zs) zs).2) : Took zs 0 (rcB (rdRc (rdEnP zs) zs).1) (rdRc (rdEnP zs) zs).2 := by
 unfold rdRc at h ⊢
 dsimp only at h ⊢
 by_cases k1 : (getNum zs 0).1 = 1
 ·simp only [k1, if_true] at h ⊢
  have h1 := rp_neg h
  have h2 := hd_neg h1
  have h3 := op_neg h2
  have h4 := num_neg h3
  have h5 := num_neg h4
  have hh := (num_took hz h5).trans ((num_took hz h4).trans ((num_took hz h3).trans ((op_took hz h2).trans ((hd_took hz h1).trans (rp_took hz h)))))
  rw [k1] at hh
  simpa [rcB, rcRest] using hh
 by_cases k2 : (getNum zs 0).1 = 2
 ·simp only [k2, if_true] at h ⊢
  simp only [show ¬ ((2 : Int) = 1) by omega, if_false] at h ⊢
  have h1 := hd_neg h
  have h2 := num_neg h1
  have h3 := pt_neg h2
  have h4 := tx_neg h3
  have hh := (num_took hz h4).trans ((tx_took hz h3).trans ((pt_took hz h2).trans ((num_took hz h1).trans (hd_took hz h))))
  rw [k2] at hh
  simpa [rcB, rcRest] using hh
 by_cases k3 : (getNum zs 0).1 = 3
 ·simp only [k3, if_true] at h ⊢
  simp only [show ¬ ((3 : Int) = 1) by omega, show ¬ ((3 : Int) = 2) by omega, if_false] at h ⊢
  have h1 := rp_neg h
  have h2 := op_neg h1
  have h3 := num_neg h2
  have h4 := num_neg h3
  have h5 := num_neg h4
  have h6 := tx_neg h5
  have hh := (num_took hz h6).trans ((tx_took hz h5).trans ((num_took hz h4).trans ((num_took hz h3).trans ((num_took hz h2).trans ((op_took hz h1).trans (rp_took hz h))))))
  rw [k3] at hh
  simpa [rcB, rcRest] using hh
 by_cases k4 : (getNum zs 0).1 = 4
 ·simp only [k4, if_true] at h ⊢
  simp only [show ¬ ((4 : Int) = 1) by omega, show ¬ ((4 : Int) = 2) by omega, show ¬ ((4 : Int) = 3) by omega, if_false] at h ⊢
  have h1 := num_neg h
  have h2 := tx_neg h1
  have hh := (num_took hz h2).trans ((tx_took hz h1).trans (num_took hz h))
  rw [k4] at hh
  simpa [rcB, rcRest] using hh
 simp only [k1, k2, k3, k4, if_false] at h ⊢
 have hh := num_took hz h
 simpa [rcB, rcRest, k1, k2, k3, k4] using hh
def recRead (zs : List Int) : MsD × Bool := if (rdRc (rdEnP zs) zs).2 = zs.length ∧ COk (rdRc (rdEnP zs) zs).1 = true then ((rdRc (rdEnP zs) zs).1, true) else (ms0, false)
end
section
theorem rec_end {zs : List Int} {m : MsD} (hz : isBytes zs) (h1 : (rdRc (rdEnP zs) zs).1 = m) (h2 : 0 ≤ (rdRc (rdEnP zs) zs).2) (h3 : rcB m = zs) (h4 : COk m = true) : recRead zs = (m, true) := by
 have t := rc_took hz h2
 rw [h1, h3] at t
 have hs : (rdRc (rdEnP zs) zs).2 = zs.length := took_end t
 unfold recRead
 rw [h1, if_pos ⟨hs, h4⟩]
theorem COk_back {m : MsD} (hz : isBytes (outR m)) (h : COk m = true) : recRead (outR m) = (⟨m.kind, m.fr, 0, m.req, m.op, m.rp, m.tx, m.pt, m.code, m.h⟩, true) ∧ (outR m).length ≤ 200 := by
 have ho : outR m = rcB m := by unfold outR; rw [if_pos h]
 rw [ho] at hz ⊢
 have h' := h
 obtain ⟨kd, fr, tq, rq, o, r, t, p, cd, hh⟩ := m
 unfold COk at h
 simp only [Bool.and_eq_true, decide_eq_true_eq] at h
 obtain ⟨⟨hk0, hk1⟩, hb⟩ := h
 have hk : kd = 0 ∨ kd = 1 ∨ kd = 2 ∨ kd = 3 ∨ kd = 4 := by omega
 have l1 := putB_len kd
 have l2 := putB_len fr
 have l3 := putB_len rq
 have l4 := opB_len o
 have l5 := hdB_len hh
 have l6 := txB_len t
 have l7 := ptB_len p
 have l8 := putB_len cd
 rcases hk with rfl | rfl | rfl | rfl | rfl
 ·simp only [CBody, if_true, Bool.and_eq_true, decide_eq_true_eq] at hb
  obtain ⟨rfl, rfl, b1, rfl, b2, b3, b4, rfl⟩ := hb
  obtain rfl := zOp_eq b1
  obtain rfl := zRp_eq b2
  obtain rfl := zTx_eq b3
  obtain rfl := zPt_eq b4
  have e : rcB ⟨0, 0, tq, 0, op0, rp0, tx0, pt0, 0, hd0⟩ = putB 0 ++ [] := by simp [rcB, rcRest]
  rw [e] at hz ⊢
  obtain ⟨a1, _, q1⟩ := (Stands.all (putB 0 ++ [])).num ⟨by decide, by decide⟩
  refine ⟨rec_end hz ?_ ?_ (by simp [rcB, rcRest]) (by simpa [COk, CBody] using h'), by simp; omega⟩
  ·simp only [rdRc, a1, show ¬ ((0 : Int) = 1) by omega, show ¬ ((0 : Int) = 2) by omega, show ¬ ((0 : Int) = 3) by omega, show ¬ ((0 : Int) = 4) by omega, if_false]
  ·simp only [rdRc, a1, show ¬ ((0 : Int) = 1) by omega, show ¬ ((0 : Int) = 2) by omega, show ¬ ((0 : Int) = 3) by omega, show ¬ ((0 : Int) = 4) by omega, if_false]
   exact q1.pos
 ·simp only [CBody, callB, clB, show ¬ ((1 : Int) = 0) by omega, if_false, if_true, Bool.and_eq_true, decide_eq_true_eq] at hb
  obtain ⟨⟨⟨⟨f0, f1⟩, b1, b2, b3, b4⟩, b5⟩, b6, b7, rfl⟩ := hb
  obtain rfl := zTx_eq b6
  obtain rfl := zPt_eq b7
  have e : rcB ⟨1, fr, tq, rq, o, r, tx0, pt0, 0, hh⟩ = putB 1 ++ (putB fr ++ (putB rq ++ (opB o ++ (hdB hh ++ (rpB r ++ []))))) := by simp [rcB, rcRest]
  rw [e] at hz ⊢
  obtain ⟨a1, _, q1⟩ := (Stands.all (putB 1 ++ (putB fr ++ (putB rq ++ (opB o ++ (hdB hh ++ (rpB r ++ []))))))).num ⟨by decide, by decide⟩
  obtain ⟨a2, _, q2⟩ := q1.num ⟨by omega, by omega⟩
  obtain ⟨a3, _, q3⟩ := q2.num (num_r b1)
  obtain ⟨a4, q4⟩ := q3.op (OOk_n b2)
  obtain ⟨a5, q5⟩ := q4.hd (none_n b5)
  obtain ⟨a6, q6⟩ := q5.rp (ROk_n b3)
  refine ⟨rec_end hz ?_ ?_ (by simp [rcB, rcRest]) (by simpa [COk, CBody, callB, clB] using h'), ?_⟩
  ·simp only [rdRc, a1, if_true, a2, a3, a4, a5, a6]
  ·simp only [rdRc, a1, if_true]
   exact q6.pos
  ·have l9 := rpB_nil b4
   simp only [List.length_append, List.length_nil]
   omega
 ·simp only [CBody, show ¬ ((2 : Int) = 0) by omega, show ¬ ((2 : Int) = 1) by omega, if_false, if_true, Bool.and_eq_true, decide_eq_true_eq] at hb
  obtain ⟨⟨b1, b2, b3, b4⟩, rfl, rfl, b5, b6⟩ := hb
  obtain rfl := zOp_eq b5
  obtain rfl := zRp_eq b6
  have e : rcB ⟨2, 0, tq, 0, op0, rp0, t, p, cd, hh⟩ = putB 2 ++ (txB t ++ (ptB p ++ (putB cd ++ (hdB hh ++ [])))) := by simp [rcB, rcRest]
  rw [e] at hz ⊢
  obtain ⟨a1, _, q1⟩ := (Stands.all (putB 2 ++ (txB t ++ (ptB p ++ (putB cd ++ (hdB hh ++ [])))))).num ⟨by decide, by decide⟩
  obtain ⟨a2, q2⟩ := q1.tx (TOk_n b1)
  obtain ⟨a3, q3⟩ := q2.pt (POk_n b2)
  obtain ⟨a4, _, q4⟩ := q3.num (cd_r b3)
  obtain ⟨a5, q5⟩ := q4.hd (none_n b4)
  refine ⟨rec_end hz ?_ ?_ (by simp [rcB, rcRest]) (by simpa [COk, CBody] using h'), ?_⟩
  ·simp only [rdRc, a1, show ¬ ((2 : Int) = 1) by omega, if_false, if_true, a2, a3, a4, a5]
  ·simp only [rdRc, a1, show ¬ ((2 : Int) = 1) by omega, if_false, if_true]
   exact q5.pos
  ·simp only [List.length_append, List.length_nil]
   omega
 ·simp only [CBody, callB, clB, show ¬ ((3 : Int) = 0) by omega, show ¬ ((3 : Int) = 1) by omega, show ¬ ((3 : Int) = 2) by omega, if_false, if_true, Bool.and_eq_true, decide_eq_true_eq] at hb
  obtain ⟨⟨⟨⟨f0, f1⟩, b1, b2, b3, b4⟩, b5, b6⟩, rfl, b7⟩ := hb
  obtain rfl := zPt_eq b7
  have e : rcB ⟨3, fr, tq, rq, o, r, t, pt0, cd, hd0⟩ = putB 3 ++ (txB t ++ (putB cd ++ (putB fr ++ (putB rq ++ (opB o ++ (rpB r ++ [])))))) := by simp [rcB, rcRest]
  rw [e] at hz ⊢
  obtain ⟨a1, _, q1⟩ := (Stands.all (putB 3 ++ (txB t ++ (putB cd ++ (putB fr ++ (putB rq ++ (opB o ++ (rpB r ++ [])))))))).num ⟨by decide, by decide⟩
  obtain ⟨a2, q2⟩ := q1.tx (TOk_n b5)
  obtain ⟨a3, _, q3⟩ := q2.num (bit_r b6)
  obtain ⟨a4, _, q4⟩ := q3.num ⟨by omega, by omega⟩
  obtain ⟨a5, _, q5⟩ := q4.num (num_r b1)
  obtain ⟨a6, q6⟩ := q5.op (OOk_n b2)
  obtain ⟨a7, q7⟩ := q6.rp (ROk_n b3)
  refine ⟨rec_end hz ?_ ?_ (by simp [rcB, rcRest]) (by simpa [COk, CBody, callB, clB] using h'), ?_⟩
  ·simp only [rdRc, a1, show ¬ ((3 : Int) = 1) by omega, show ¬ ((3 : Int) = 2) by omega, if_false, if_true, a2, a3, a4, a5, a6, a7]
  ·simp only [rdRc, a1, show ¬ ((3 : Int) = 1) by omega, show ¬ ((3 : Int) = 2) by omega, if_false, if_true]
   exact q7.pos
  ·have l9 := rpB_nil b4
   simp only [List.length_append, List.length_nil]
   omega
 ·simp only [CBody, show ¬ ((4 : Int) = 0) by omega, show ¬ ((4 : Int) = 1) by omega, show ¬ ((4 : Int) = 2) by omega, show ¬ ((4 : Int) = 3) by omega, if_false, Bool.and_eq_true, decide_eq_true_eq] at hb
  obtain ⟨⟨b1, b2⟩, rfl, rfl, b3, rfl, b4, b5⟩ := hb
  obtain rfl := zOp_eq b3
  obtain rfl := zRp_eq b4
  obtain rfl := zPt_eq b5
  have e : rcB ⟨4, 0, tq, 0, op0, rp0, t, pt0, cd, hd0⟩ = putB 4 ++ (txB t ++ (putB cd ++ [])) := by simp [rcB, rcRest]
  rw [e] at hz ⊢
  obtain ⟨a1, _, q1⟩ := (Stands.all (putB 4 ++ (txB t ++ (putB cd ++ [])))).num ⟨by decide, by decide⟩
  obtain ⟨a2, q2⟩ := q1.tx (TOk_n b1)
  obtain ⟨a3, _, q3⟩ := q2.num (bit_r b2)
  refine ⟨rec_end hz ?_ ?_ (by simp [rcB, rcRest]) (by simpa [COk, CBody] using h'), ?_⟩
  ·simp only [rdRc, a1, show ¬ ((4 : Int) = 1) by omega, show ¬ ((4 : Int) = 2) by omega, show ¬ ((4 : Int) = 3) by omega, if_false, if_true, a2, a3]
  ·simp only [rdRc, a1, show ¬ ((4 : Int) = 1) by omega, show ¬ ((4 : Int) = 2) by omega, show ¬ ((4 : Int) = 3) by omega, if_false, if_true]
   exact q3.pos
  ·simp only [List.length_append, List.length_nil]
   omega
theorem recRead_only {zs : List Int} (hz : isBytes zs) (h : (recRead zs).2 = true) : COk (recRead zs).1 = true ∧ outR (recRead zs).1 = zs := by
 unfold recRead at h ⊢
 split at h
 ·rename_i hc
  rw [if_pos hc]
  refine ⟨hc.2, ?_⟩
  unfold outR
  rw [if_pos hc.2]
  have t := rc_took hz (by rw [hc.1]; omega)
  rw [hc.1] at t
  exact t.all
 ·simp at h
end
section
theorem ensB_mono (l : List En) (k : Nat) : (ensB (l.take k)).length ≤ (ensB l).length := by
  have h : ensB l = ensB (l.take k) ++ ensB (l.drop k) := by unfold ensB; rw [← List.flatMap_append, List.take_append_drop]
  rw [h, List.length_append]; omega
set_option maxHeartbeats 8000000 in
theorem ent_up (P : PutC 1) : EntC := by
  intro v x xs es S S2 w r q1 hn h12 hl
  obtain ⟨a, cap, rfl, _⟩ := RdV.sliced q1
  have HR2 : Hid (∀ W, Below w.heap.size w W → RdV W S2 (.slice a es.length cap) (.rows 139 4 es.length (fun i j => enCell (es[i]?.getD en0) j))) := RdV.old q1
  have HL : Hid (szEns es ≤ 1048576) := hn
  have HN : Hid (∀ k, k < es.length → ensB (es.take (k + 1)) = ensB (es.take k) ++ enB (es[k]?.getD en0)) := fun k hk => ensB_next es k hk
  have HEL : Hid (∀ k, (ensB (es.take k)).length ≤ (ensB es).length) := ensB_mono es
  have HEA : Hid (ensB (es.take es.length) = ensB es) := by show _ = _; rw [List.take_length]
  obtain ⟨m, hm⟩ : ∃ m, es.length = m := ⟨_, rfl⟩
  rw [hm] at HR2 HN HEA h12 hl ⊢
  clear q1 hn hm
  rw [List.length_append] at hl
  have HR : Hid (∀ W, Below w.heap.size w W → _) := r.old
  clear r
  have HPC := P.at
  go_enter Tryz.func147, Tryz.ntmps147
  go_wp2_with fail
  refine Calls.mono (implPutR v xs (m : Int) _ _ (HR.out _ (Below.refl _ _)) (by omega)) ?_
  rintro e w5 ⟨v4, rfl, z4, o4, HBB_⟩
  have HO0 : Hid (Owns w5 w.heap.size v4 (xs ++ putB (m : Int))) := o4
  have HZ0 : Hid (isBytes (xs ++ putB (m : Int))) := z4
  have HBB : Hid (Below w.heap.size w w5) := HBB_
  obtain ⟨ys, hys⟩ : ∃ ys, xs ++ putB (m : Int) = ys := ⟨_, rfl⟩
  have hyl : ys.length + (ensB es).length ≤ 1800000 := by rw [← hys, List.length_append]; omega
  have HGO : Hid (xs ++ (putB (m : Int) ++ ensB es) = ys ++ ensB es) := by show _ = _; rw [← hys]; simp [List.append_assoc]
  rw [hys] at HO0 HZ0
  clear hys o4 z4 HBB_ hl HR
  go_wp2
  go_loopw [0, 13] (fun q' i wr => ∃ (k : Nat) (u : Value), k ≤ m ∧ i = .int .i64 k ∧ u = q' ∧ Hid (isBytes (ys ++ ensB (es.take k))) ∧ Hid (Owns wr w.heap.size u (ys ++ ensB (es.take k))) ∧ Hid (Below w.heap.size w wr)) (fun _ i _ => m - (intOf i).toNat)
  case atStart => exact ⟨0, v4, Nat.zero_le _, rfl, rfl, by show isBytes _; rw [List.take_zero]; simp only [ensB, List.flatMap_nil, List.append_nil]; exact HZ0.out, by show Owns _ _ _ _; simpa [ensB] using HO0.out, HBB⟩
  case round =>
    clear HO0 HZ0 HBB
    obtain ⟨k, u, hk, rfl, rfl, HZ, HO, hbel⟩ := hrel
    by_cases hlt : k < m
    case neg =>
      have he : k = m := by omega
      subst he
      clear HPC
      go_wp2
      go_ret
      exact ⟨_, rfl, by rw [HGO.out, ← HEA.out]; exact HZ.out, by rw [HGO.out, ← HEA.out]; exact HO.out, hbel.out⟩
    obtain ⟨b, off, rfl, hbl, _, hx⟩ := RdV.at (HR2.out wr hbel.out) hlt
    obtain ⟨e, he⟩ : ∃ e, es[k]?.getD en0 = e := ⟨_, rfl⟩
    obtain ⟨x0, c0, r0⟩ := hx 0 (by omega)
    obtain ⟨x1, c1, r1⟩ := hx 1 (by omega)
    obtain ⟨x2, c2, r2⟩ := hx 2 (by omega)
    obtain ⟨x3, c3, r3⟩ := hx 3 (by omega)
    rw [he] at r0 r1 r2 r3
    have HNX : Hid (ensB (es.take (k + 1)) = ensB (es.take k) ++ enB e) := by rw [HN.out k hlt, he]; rfl
    have hnz : e.nm.length ≤ 1048576 := by have h1 := szEns_at es k; rw [he] at h1; have h2 := HL.out; omega
    clear hx he
    obtain ⟨nm, ⟨s, ino, dd⟩⟩ := e
    obtain rfl : x1 = .int .i64 s := r1
    obtain rfl : x2 = .int .i64 ino := r2
    obtain rfl : x3 = .bool dd := r3
    simp only [Nat.add_zero] at c0
    dsimp only at hnz HNX
    have r0' : RdV wr S2 x0 (.bytes nm) := r0
    obtain ⟨ax, cx, rfl⟩ := r0'.sliceB
    have RB : Hid (∀ W, Below wr.heap.size wr W → RdV W S2 (.slice ax nm.length cx) (.bytes nm)) := fun W hW => RdV.step r0' hW
    clear r0 r0'
    have hkl := HEL.out (k + 1)
    have hws := hbel.out.size
    have hle : (ys ++ ensB (es.take k)).length + (enB ⟨nm, (s, ino, dd)⟩).length ≤ 1800000 := by
      rw [HNX.out, List.length_append] at hkl
      rw [List.length_append]; omega
    go_wp2_with fail
    refine Calls.mono (HPC u (ys ++ ensB (es.take k)) [(.iface 22 (.slice ax nm.length cx), textB nm), (.iface 24 (Hd.v (s, ino, dd)), hdB (s, ino, dd))] (enB ⟨nm, (s, ino, dd)⟩) (wr.heap.size + 1) (fun _ => True) _ ?ra ?rb ?rc ?rd ?re ?rf ?rg) ?_
    case ra => exact (Owns.step HO.out (by repeat (first | exact Below.refl _ _ | apply Below.al2 | apply Below.drew | apply below_drewN2))).rdT HZ.out
    case rb => simp [enB]
    case rc => exact heap_new2 _ _ _
    case rd => exact PVs.cons (PutV.t _ (RB.out _ (by repeat (first | exact Below.refl _ _ | apply Below.al2 | apply Below.drew | apply below_drewN2))) hnz) (PVs.cons (PutV.h _ (by omega) _) PVs.nil)
    case re => simp
    case rf => simp
    case rg => exact hle
    rintro e w3 ⟨v2, rfl, z2, o2, b_⟩
    have b2 : Below wr.heap.size wr w3 := Below.trans (by repeat (first | exact Below.refl _ _ | apply Below.al2 | apply Below.drew | apply below_drewN2)) (b_.mono (by first | exact Nat.le_refl _ | (simp; omega)))
    have HZ2 : Hid (isBytes (ys ++ ensB (es.take (k + 1)))) := by show isBytes _; rw [HNX.out, ← List.append_assoc]; exact z2
    have HO2 : Hid (Owns w3 w.heap.size v2 (ys ++ ensB (es.take (k + 1)))) := by
      have o_ := o2.base (b' := w.heap.size) (by first | exact hws | (simp; omega))
      show Owns _ _ _ _
      rw [HNX.out, ← List.append_assoc]; exact o_
    have HB2 : Hid (Below w.heap.size w w3) := hbel.out.trans (b2.mono hws)
    clear HZ HO hbel z2 o2 b_
    go_wp2
    refine ⟨?_, ?_⟩
    · exact ⟨k + 1, v2, by omega, by go_num, rfl, HZ2, HO2, HB2⟩
    · simp [intOf]; omega
theorem put0 : PutC 0 := put_up 0 (fun k h => absurd h (Nat.not_lt_zero _)) (fun h => absurd h (by omega))
theorem put1 : PutC 1 := put_up 1 (fun k h => by obtain rfl : k = 0 := by omega
                                                 exact put0) (fun h => absurd h (by omega))
theorem ents : EntC := ent_up put1
theorem put2 : PutC 2 := put_up 2 (fun k h => by
  obtain rfl | rfl : k = 0 ∨ k = 1 := by omega
  · exact put0
  · exact put1) (fun _ => ents)
theorem put3 : PutC 3 := put_up 3 (fun k h => by
  obtain rfl | rfl | rfl : k = 0 ∨ k = 1 ∨ k = 2 := by omega
  · exact put0
  · exact put1
  · exact put2) (fun _ => ents)
end
section
theorem PutV.x {n : Nat} (w : World) (hn : 1 ≤ n) (t : TxD) : PutV n w (.iface 31 (txV t)) (txB t) := .inr (.inr (.inr (.inr (.inl ⟨hn, t, rfl, rfl⟩))))
theorem PutV.o {n : Nat} {w : World} (hn : 2 ≤ n) (o : OpD) {S : Nat → Prop} {x y : Value} (r : RdV w S x (.bytes o.nm)) (r2 : RdV w S y (.bytes o.asn)) (h : o.nm.length ≤ 1048576) (h2 : o.asn.length ≤ 1048576) : PutV n w (.iface 26 (opV o x y)) (opB o) := .inr (.inr (.inr (.inr (.inr (.inl ⟨hn, o, x, y, rfl, r.mono (fun _ _ => trivial), r2.mono (fun _ _ => trivial), h, h2, rfl⟩)))))
theorem PutV.p {n : Nat} {w : World} (hn : 2 ≤ n) (o : PtD) {S : Nat → Prop} {x : Value} (r : RdV w S x (.bytes o.asn)) (h : o.asn.length ≤ 1048576) : PutV n w (.iface 33 (ptV o x)) (ptB o) := .inr (.inr (.inr (.inr (.inr (.inr (.inl ⟨hn, o, x, rfl, r.mono (fun _ _ => trivial), h, rfl⟩))))))
theorem PutV.r {n : Nat} {w : World} (hn : 3 ≤ n) (o : RpD) {S : Nat → Prop} {x : Value} (r : RdV w S x (ensDt o.list)) (h : szEns o.list ≤ 1048576) (h2 : o.list.length ≤ 12) : PutV n w (.iface 29 (rpV o x)) (rpB o) := .inr (.inr (.inr (.inr (.inr (.inr (.inr (.inr ⟨hn, o, x, rfl, r.mono (fun _ _ => trivial), h, h2, rfl⟩)))))))
theorem rpB_len (r : RpD) (h : r.list.length ≤ 12) : (rpB r).length ≤ 900 := by
 have h1 := putB_len r.code; have h2 := hdB_len r.h; have h3 := putB_len r.val; have h4 := putB_len (r.list.length : Int); have h5 := ensB_len r.list
 unfold rpB; simp only [List.length_append]; omega
set_option maxHeartbeats 4000000 in
theorem recVal1 (m : MsD) (a1 a2 a3 a4 : Option Addr) (n1 n2 n3 n4 c1 c2 c3 c4 : Nat) (w : World) (hk : m.kind = 1) :
  Calls Tryz.prog 77 #[rcV m (.slice a1 n1 c1) (.slice a2 n2 c2) (.slice a3 n3 c3) (.slice a4 n4 c4)] w fun e w' => ∃ g, e = .returned (.slice (some ⟨g, 0, none⟩) 5 5) ∧ w'.heap[g]? = some (.cells #[.iface 3 (.int .i64 m.fr), .iface 3 (.int .i64 m.req), .iface 26 (.agg #[.int .i64 m.op.kind, .int .i64 m.op.dir.sh, .int .i64 m.op.dir.ino, .bool m.op.dir.dir, .slice a1 n1 c1, .int .i64 m.op.to.sh, .int .i64 m.op.to.ino, .bool m.op.to.dir, .slice a2 n2 c2, .int .i64 m.op.val]), .iface 24 (.agg #[.int .i64 m.h.sh, .int .i64 m.h.ino, .bool m.h.dir]), .iface 29 (.agg #[.int .i64 m.rp.code, .int .i64 m.rp.h.sh, .int .i64 m.rp.h.ino, .bool m.rp.h.dir, .int .i64 m.rp.val, .slice a3 n3 c3])] 20 (0, 0)) ∧ Below w.heap.size w w' := by
 obtain ⟨kd, fr, to, rq, ⟨ok, ⟨op_, oq, od⟩, nm, ⟨tp, tq, td⟩, asn, ov⟩, ⟨rc, ⟨rp_, rq_, rd⟩, rv, es⟩, ⟨xs, xb, xn⟩, ⟨pk, ⟨pp, pq, pd⟩, pas, ⟨sp, sq, sd⟩⟩, cd, ⟨hp, hq, hd⟩⟩ := m
 dsimp only at hk ⊢
 subst hk
 go_enter Tryz.func77, Tryz.ntmps77
 go_wp2
 go_ret
 exact ⟨_, rfl, by first | exact heap_alloc_new _ _ | exact heap_new2 _ _ _ | (simp [World.drew]; done), (by repeat (first | exact Below.refl _ _ | refine Below.al ?_ _ | refine Below.drew ?_ | refine below_drewN2 ?_ _))⟩
set_option maxHeartbeats 4000000 in
theorem recVal2 (m : MsD) (a1 a2 a3 a4 : Option Addr) (n1 n2 n3 n4 c1 c2 c3 c4 : Nat) (w : World) (hk : m.kind = 2) :
  Calls Tryz.prog 77 #[rcV m (.slice a1 n1 c1) (.slice a2 n2 c2) (.slice a3 n3 c3) (.slice a4 n4 c4)] w fun e w' => ∃ g, e = .returned (.slice (some ⟨g, 0, none⟩) 4 4) ∧ w'.heap[g]? = some (.cells #[.iface 31 (.agg #[.int .i64 m.tx.1, .int .i64 m.tx.2.1, .int .i64 m.tx.2.2]), .iface 33 (.agg #[.int .i64 m.pt.kind, .int .i64 m.pt.h.sh, .int .i64 m.pt.h.ino, .bool m.pt.h.dir, .slice a4 n4 c4, .int .i64 m.pt.to.sh, .int .i64 m.pt.to.ino, .bool m.pt.to.dir]), .iface 3 (.int .i64 m.code), .iface 24 (.agg #[.int .i64 m.h.sh, .int .i64 m.h.ino, .bool m.h.dir])] 20 (0, 0)) ∧ Below w.heap.size w w' := by
 obtain ⟨kd, fr, to, rq, ⟨ok, ⟨op_, oq, od⟩, nm, ⟨tp, tq, td⟩, asn, ov⟩, ⟨rc, ⟨rp_, rq_, rd⟩, rv, es⟩, ⟨xs, xb, xn⟩, ⟨pk, ⟨pp, pq, pd⟩, pas, ⟨sp, sq, sd⟩⟩, cd, ⟨hp, hq, hd⟩⟩ := m
 dsimp only at hk ⊢
 subst hk
 go_enter Tryz.func77, Tryz.ntmps77
 go_wp2
 go_ret
 exact ⟨_, rfl, by first | exact heap_alloc_new _ _ | exact heap_new2 _ _ _ | (simp [World.drew]; done), (by repeat (first | exact Below.refl _ _ | refine Below.al ?_ _ | refine Below.drew ?_ | refine below_drewN2 ?_ _))⟩
set_option maxHeartbeats 4000000 in
theorem recVal3 (m : MsD) (a1 a2 a3 a4 : Option Addr) (n1 n2 n3 n4 c1 c2 c3 c4 : Nat) (w : World) (hk : m.kind = 3) :
  Calls Tryz.prog 77 #[rcV m (.slice a1 n1 c1) (.slice a2 n2 c2) (.slice a3 n3 c3) (.slice a4 n4 c4)] w fun e w' => ∃ g, e = .returned (.slice (some ⟨g, 0, none⟩) 6 6) ∧ w'.heap[g]? = some (.cells #[.iface 31 (.agg #[.int .i64 m.tx.1, .int .i64 m.tx.2.1, .int .i64 m.tx.2.2]), .iface 3 (.int .i64 m.code), .iface 3 (.int .i64 m.fr), .iface 3 (.int .i64 m.req), .iface 26 (.agg #[.int .i64 m.op.kind, .int .i64 m.op.dir.sh, .int .i64 m.op.dir.ino, .bool m.op.dir.dir, .slice a1 n1 c1, .int .i64 m.op.to.sh, .int .i64 m.op.to.ino, .bool m.op.to.dir, .slice a2 n2 c2, .int .i64 m.op.val]), .iface 29 (.agg #[.int .i64 m.rp.code, .int .i64 m.rp.h.sh, .int .i64 m.rp.h.ino, .bool m.rp.h.dir, .int .i64 m.rp.val, .slice a3 n3 c3])] 20 (0, 0)) ∧ Below w.heap.size w w' := by
 obtain ⟨kd, fr, to, rq, ⟨ok, ⟨op_, oq, od⟩, nm, ⟨tp, tq, td⟩, asn, ov⟩, ⟨rc, ⟨rp_, rq_, rd⟩, rv, es⟩, ⟨xs, xb, xn⟩, ⟨pk, ⟨pp, pq, pd⟩, pas, ⟨sp, sq, sd⟩⟩, cd, ⟨hp, hq, hd⟩⟩ := m
 dsimp only at hk ⊢
 subst hk
 go_enter Tryz.func77, Tryz.ntmps77
 go_wp2
 go_ret
 exact ⟨_, rfl, by first | exact heap_alloc_new _ _ | exact heap_new2 _ _ _ | (simp [World.drew]; done), (by repeat (first | exact Below.refl _ _ | refine Below.al ?_ _ | refine Below.drew ?_ | refine below_drewN2 ?_ _))⟩
set_option maxHeartbeats 4000000 in
theorem recVal4 (m : MsD) (a1 a2 a3 a4 : Option Addr) (n1 n2 n3 n4 c1 c2 c3 c4 : Nat) (w : World) (hk : m.kind = 4) :
  Calls Tryz.prog 77 #[rcV m (.slice a1 n1 c1) (.slice a2 n2 c2) (.slice a3 n3 c3) (.slice a4 n4 c4)] w fun e w' => ∃ g, e = .returned (.slice (some ⟨g, 0, none⟩) 2 2) ∧ w'.heap[g]? = some (.cells #[.iface 31 (.agg #[.int .i64 m.tx.1, .int .i64 m.tx.2.1, .int .i64 m.tx.2.2]), .iface 3 (.int .i64 m.code)] 20 (0, 0)) ∧ Below w.heap.size w w' := by
 obtain ⟨kd, fr, to, rq, ⟨ok, ⟨op_, oq, od⟩, nm, ⟨tp, tq, td⟩, asn, ov⟩, ⟨rc, ⟨rp_, rq_, rd⟩, rv, es⟩, ⟨xs, xb, xn⟩, ⟨pk, ⟨pp, pq, pd⟩, pas, ⟨sp, sq, sd⟩⟩, cd, ⟨hp, hq, hd⟩⟩ := m
 dsimp only at hk ⊢
 subst hk
 go_enter Tryz.func77, Tryz.ntmps77
 go_wp2
 go_ret
 exact ⟨_, rfl, by first | exact heap_alloc_new _ _ | exact heap_new2 _ _ _ | (simp [World.drew]; done), (by repeat (first | exact Below.refl _ _ | refine Below.al ?_ _ | refine Below.drew ?_ | refine below_drewN2 ?_ _))⟩
set_option maxHeartbeats 4000000 in
theorem recVal0 (m : MsD) (a1 a2 a3 a4 : Option Addr) (n1 n2 n3 n4 c1 c2 c3 c4 : Nat) (w : World) (hk : m.kind = 0) :
  Calls Tryz.prog 77 #[rcV m (.slice a1 n1 c1) (.slice a2 n2 c2) (.slice a3 n3 c3) (.slice a4 n4 c4)] w fun e w' => e = .returned (.slice none 0 0) ∧ Below w.heap.size w w' := by
 obtain ⟨kd, fr, to, rq, ⟨ok, ⟨op_, oq, od⟩, nm, ⟨tp, tq, td⟩, asn, ov⟩, ⟨rc, ⟨rp_, rq_, rd⟩, rv, es⟩, ⟨xs, xb, xn⟩, ⟨pk, ⟨pp, pq, pd⟩, pas, ⟨sp, sq, sd⟩⟩, cd, ⟨hp, hq, hd⟩⟩ := m
 dsimp only at hk ⊢
 subst hk
 go_enter Tryz.func77, Tryz.ntmps77
 go_wp2
 go_ret
 exact ⟨rfl, (by repeat (first | exact Below.refl _ _ | refine Below.al ?_ _ | refine Below.drew ?_ | refine below_drewN2 ?_ _))⟩
theorem put_none (v : Value) (w : World) : Calls Tryz.prog 52 #[v, .slice none 0 0] w fun e w' => e = .returned v ∧ w' = w := by
 go_enter Tryz.func52, Tryz.ntmps52
 go_wp2
 go_loopw [0, 18] (fun q' i wr => q' = v ∧ i = .int .i64 0 ∧ wr = w) (fun _ _ _ => 0)
 case atStart => exact ⟨rfl, rfl, rfl⟩
 case round =>
  obtain ⟨rfl, rfl, rfl⟩ := hrel
  go_wp2
  go_ret
  exact ⟨rfl, rfl⟩
def PutS (s : Value) (zs : List Int) (w : World) : Prop := ∀ W, Below w.heap.size w W → ∀ v xs B, B ≤ W.heap.size → isBytes xs → Owns W B v xs → xs.length ≤ 5 →
 Calls Tryz.prog 52 #[v, s] W fun e w' => ∃ v', e = .returned v' ∧ isBytes (xs ++ zs) ∧ Owns w' B v' (xs ++ zs) ∧ Below W.heap.size W w'
theorem PutS.of {s : Value} {g : Nat} {zs : List Int} {w : World} (vs : List (Value × List Int)) (hs : s = .slice (some ⟨g, 0, none⟩) vs.length vs.length) (hg : w.heap[g]? = some (.cells (vs.map (·.1)).toArray 20 (0, 0))) (h1 : 1 ≤ vs.length) (h100 : vs.length ≤ 100) (hz : vs.flatMap (·.2) = zs) (hp : ∀ W, Below w.heap.size w W → PVs 3 W vs) (hl : zs.length ≤ 1100) : PutS s zs w := by
 subst hs
 intro W hW v xs B hB hx ho hxl
 exact (put3.at v xs vs zs g (fun _ => True) W (ho.rdT hx) hz ((hW.block g (lt_of_block hg)).trans hg) (hp W hW) h1 h100 (by omega)).mono fun e w' ⟨v', he, z, o, b⟩ => ⟨v', he, z, o.base hB, b⟩
theorem recVals_any (m : MsD) (x y z u : Value) (S : Nat → Prop) (w : World) (r : RdM w S m x y z u) (hl : szMs m ≤ 1048576) (ho : COk m = true) :
  Calls Tryz.prog 77 #[rcV m x y z u] w fun e w' => ∃ s, e = .returned s ∧ PutS s (rcRest m) w' ∧ Below w.heap.size w w' := by
 have h12 := COk_12 ho
 have hk := COk_kind ho
 obtain ⟨r1, r2, r3, r4⟩ := r
 obtain ⟨a1, c1, rfl⟩ := r1.sliceB
 obtain ⟨a2, c2, rfl⟩ := r2.sliceB
 obtain ⟨a3, c3, rfl, _⟩ := RdV.sliced r3
 obtain ⟨a4, c4, rfl⟩ := r4.sliceB
 unfold szMs at hl
 rcases (show m.kind = 0 ∨ m.kind = 1 ∨ m.kind = 2 ∨ m.kind = 3 ∨ m.kind = 4 by omega) with h | h | h | h | h
 ·refine (recVal0 m _ _ _ _ _ _ _ _ _ _ _ _ w h).mono fun e w' ⟨he, hb⟩ => ⟨_, he, ?_, hb⟩
  intro W hW v xs B hB hx ho _
  have e0 : xs ++ rcRest m = xs := by simp [rcRest, h]
  rw [e0]
  exact (put_none v W).mono fun e w' ⟨he, hw⟩ => ⟨v, he, hx, by rw [hw]; exact ho, by rw [hw]; exact Below.refl _ _⟩
 ·refine (recVal1 m _ _ _ _ _ _ _ _ _ _ _ _ w h).mono fun e w' ⟨g, he, hg, hb⟩ => ⟨_, he, PutS.of [(.iface 3 (.int .i64 m.fr), putB m.fr), (.iface 3 (.int .i64 m.req), putB m.req), (.iface 26 (.agg #[.int .i64 m.op.kind, .int .i64 m.op.dir.sh, .int .i64 m.op.dir.ino, .bool m.op.dir.dir, .slice a1 m.op.nm.length c1, .int .i64 m.op.to.sh, .int .i64 m.op.to.ino, .bool m.op.to.dir, .slice a2 m.op.asn.length c2, .int .i64 m.op.val]), opB m.op), (.iface 24 (.agg #[.int .i64 m.h.sh, .int .i64 m.h.ino, .bool m.h.dir]), hdB m.h), (.iface 29 (.agg #[.int .i64 m.rp.code, .int .i64 m.rp.h.sh, .int .i64 m.rp.h.ino, .bool m.rp.h.dir, .int .i64 m.rp.val, .slice a3 m.rp.list.length c3]), rpB m.rp)] rfl hg (by simp) (by simp) (by simp [rcRest, h]) (fun W hW' => ?_) ?_, hb⟩
  ·have hW := hb.trans (hW'.mono hb.size)
   exact (PVs.cons (PutV.i _ _ _) (PVs.cons (PutV.i _ _ _) (PVs.cons (PutV.o (by omega) _ (r1.step hW) (r2.step hW) (by omega) (by omega)) (PVs.cons (PutV.h _ (by omega) _) (PVs.cons (PutV.r (by omega) _ (r3.step hW) (by omega) h12) PVs.nil)))))
  ·have g0 := putB_len m.fr; have g1 := putB_len m.req; have g2 := opB_len m.op; have g3 := hdB_len m.h; have g4 := rpB_len m.rp h12
   simp [rcRest, h]; omega
 ·refine (recVal2 m _ _ _ _ _ _ _ _ _ _ _ _ w h).mono fun e w' ⟨g, he, hg, hb⟩ => ⟨_, he, PutS.of [(.iface 31 (.agg #[.int .i64 m.tx.1, .int .i64 m.tx.2.1, .int .i64 m.tx.2.2]), txB m.tx), (.iface 33 (.agg #[.int .i64 m.pt.kind, .int .i64 m.pt.h.sh, .int .i64 m.pt.h.ino, .bool m.pt.h.dir, .slice a4 m.pt.asn.length c4, .int .i64 m.pt.to.sh, .int .i64 m.pt.to.ino, .bool m.pt.to.dir]), ptB m.pt), (.iface 3 (.int .i64 m.code), putB m.code), (.iface 24 (.agg #[.int .i64 m.h.sh, .int .i64 m.h.ino, .bool m.h.dir]), hdB m.h)] rfl hg (by simp) (by simp) (by simp [rcRest, h]) (fun W hW' => ?_) ?_, hb⟩
  ·have hW := hb.trans (hW'.mono hb.size)
   exact (PVs.cons (PutV.x _ (by omega) _) (PVs.cons (PutV.p (by omega) _ (r4.step hW) (by omega)) (PVs.cons (PutV.i _ _ _) (PVs.cons (PutV.h _ (by omega) _) PVs.nil))))
  ·have g0 := txB_len m.tx; have g1 := ptB_len m.pt; have g2 := putB_len m.code; have g3 := hdB_len m.h
   simp [rcRest, h]; omega
 ·refine (recVal3 m _ _ _ _ _ _ _ _ _ _ _ _ w h).mono fun e w' ⟨g, he, hg, hb⟩ => ⟨_, he, PutS.of [(.iface 31 (.agg #[.int .i64 m.tx.1, .int .i64 m.tx.2.1, .int .i64 m.tx.2.2]), txB m.tx), (.iface 3 (.int .i64 m.code), putB m.code), (.iface 3 (.int .i64 m.fr), putB m.fr), (.iface 3 (.int .i64 m.req), putB m.req), (.iface 26 (.agg #[.int .i64 m.op.kind, .int .i64 m.op.dir.sh, .int .i64 m.op.dir.ino, .bool m.op.dir.dir, .slice a1 m.op.nm.length c1, .int .i64 m.op.to.sh, .int .i64 m.op.to.ino, .bool m.op.to.dir, .slice a2 m.op.asn.length c2, .int .i64 m.op.val]), opB m.op), (.iface 29 (.agg #[.int .i64 m.rp.code, .int .i64 m.rp.h.sh, .int .i64 m.rp.h.ino, .bool m.rp.h.dir, .int .i64 m.rp.val, .slice a3 m.rp.list.length c3]), rpB m.rp)] rfl hg (by simp) (by simp) (by simp [rcRest, h]) (fun W hW' => ?_) ?_, hb⟩
  ·have hW := hb.trans (hW'.mono hb.size)
   exact (PVs.cons (PutV.x _ (by omega) _) (PVs.cons (PutV.i _ _ _) (PVs.cons (PutV.i _ _ _) (PVs.cons (PutV.i _ _ _) (PVs.cons (PutV.o (by omega) _ (r1.step hW) (r2.step hW) (by omega) (by omega)) (PVs.cons (PutV.r (by omega) _ (r3.step hW) (by omega) h12) PVs.nil))))))
  ·have g0 := txB_len m.tx; have g1 := putB_len m.code; have g2 := putB_len m.fr; have g3 := putB_len m.req; have g4 := opB_len m.op; have g5 := rpB_len m.rp h12
   simp [rcRest, h]; omega
 ·refine (recVal4 m _ _ _ _ _ _ _ _ _ _ _ _ w h).mono fun e w' ⟨g, he, hg, hb⟩ => ⟨_, he, PutS.of [(.iface 31 (.agg #[.int .i64 m.tx.1, .int .i64 m.tx.2.1, .int .i64 m.tx.2.2]), txB m.tx), (.iface 3 (.int .i64 m.code), putB m.code)] rfl hg (by simp) (by simp) (by simp [rcRest, h]) (fun W hW' => ?_) ?_, hb⟩
  ·have hW := hb.trans (hW'.mono hb.size)
   exact (PVs.cons (PutV.x _ (by omega) _) (PVs.cons (PutV.i _ _ _) PVs.nil))
  ·have g0 := txB_len m.tx; have g1 := putB_len m.code
   simp [rcRest, h]; omega
end
section
set_option maxHeartbeats 8000000 in
theorem implRecC0 (pb : Nat) (zs : List Int) (v : Value) (w : World) (h : CurV 108 pb zs v 0 w) (hl : zs.length ≤ 2000000) (hk : (getNum zs 0).1 < 1 ∨ 4 < (getNum zs 0).1) :
  Calls Tryz.prog 81 #[.pointer (some ⟨pb, 0, none⟩)] w fun e w' => ∃ a1 n1 c1 a2 n2 c2 a3 n3 c3 a4 n4 c4, e = .returned (rcV (rdRc (rdEnP zs) zs).1 (.slice a1 n1 c1) (.slice a2 n2 c2) (.slice a3 n3 c3) (.slice a4 n4 c4)) ∧ OwM w' (fun b => w.heap.size ≤ b ∧ b < w'.heap.size) (rdRc (rdEnP zs) zs).1 (.slice a1 n1 c1) (.slice a2 n2 c2) (.slice a3 n3 c3) (.slice a4 n4 c4) ∧ Gone 108 pb zs v (rdRc (rdEnP zs) zs).2 w w' := by
 have hz := RdV.zs h.2.1
 have hpl := h.lt
 obtain ⟨n0, q0, e0⟩ : ∃ x q, getNum zs 0 = (x, q) := ⟨_, _, rfl⟩
 have H0 : Hid (∀ W, CurV 108 pb zs v 0 W → _) := fun W hW => by have h_ := implNumC pb zs v 0 W hW hl; rw [e0] at h_; exact h_
 rw [e0] at hk
 dsimp only at hk
 have hR : rdRc (rdEnP zs) zs = (⟨n0, 0, 0, 0, op0, rp0, tx0, pt0, 0, hd0⟩, q0) := by simp [rdRc, e0, show ¬ (n0 = 1) by omega, show ¬ (n0 = 2) by omega, show ¬ (n0 = 3) by omega, show ¬ (n0 = 4) by omega]
 rw [hR]
 clear hR e0
 have HC0 : Hid (CurV 108 pb zs v 0 w) := h
 clear h
 dsimp only
 simp only [op0, rp0, tx0, pt0, hd0]
 go_enter Tryz.func81, Tryz.ntmps81
 go_wp2_with fail
 refine Calls.mono (H0.out _ (HC0.out.alloc _)) ?_
 rintro e w1 ⟨rfl, hc_, t_⟩
 have HT : Hid (Turned (fun b => b = pb) w w1) := (Turned.ofBelow (Below.new1 (w := w) _)).trans t_
 have vR : VarA w1 w.heap.size 47 #[.int .i64 0, .int .i64 0, .int .i64 0, .int .i64 0, .int .i64 0, .int .i64 0, .bool false, .slice none 0 0, .int .i64 0, .int .i64 0, .bool false, .slice none 0 0, .int .i64 0, .int .i64 0, .int .i64 0, .bool false, .int .i64 0, .int .i64 0, .int .i64 0, .bool false, .int .i64 0, .slice none 0 0, .int .i64 0, .int .i64 0, .int .i64 0, .int .i64 0, .int .i64 0, .int .i64 0, .bool false, .slice none 0 0, .int .i64 0, .int .i64 0, .bool false, .int .i64 0] := VarA.turn (VarA.new w _ _) t_ (by omega)
 have hx0 := t_.size
 simp at hx0
 have HC1 : Hid (CurV 108 pb zs v q0 w1) := hc_
 clear hc_ t_ H0 HC0
 have d1 : (n0 == 1) = false := by simp; omega
 have d2 : (n0 == 2) = false := by simp; omega
 have d3 : (n0 == 3) = false := by simp; omega
 have d4 : (n0 == 4) = false := by simp; omega
 dsimp only
 repeat (first | ((with_reducible refine guardStore (ty := 47) ?_); refine wpList_storeF vR rfl rfl (by kernel_rfl) rfl (of_decide_eq_true rfl) rfl ?_; intro w' vR_ t_) | go_values | go_skip | go_guarded | go_step | go_upon)
 have t1 : Turned (fun b => b = w.heap.size) w1 w' := t_
 have hC : CurV 108 pb zs v q0 w' := HC1.out.keep t1 (fun b hb => by omega)
 have hT : Turned (fun b => b = pb) w w' := HT.out.then t1 (fun i hi hs => by omega)
 have hsz := t1.size
 refine bodyPost_ret (results_cell_row Tryz.results81 _ _ _ _ _ _ _ rfl vR_ Tryz.underlying47 rfl (by kernel_rfl)) rfl ?_
 refine ⟨_, _, _, _, _, _, _, _, _, _, _, _, rfl, ⟨fun _ => False, fun _ => False, fun _ => False, fun _ => False, OwV.nilB _ _, OwV.nilB _ _, OwV.nilR _ _ _ _ _, OwV.nilB _ _, ?_, ?_, ?_, ?_⟩, hC, hT⟩
 ·intro b hb
  rcases hb with hb | hb | hb | hb <;> first | exact hb.elim | exact ⟨by omega, by omega⟩
 ·intro b hb
  refine ⟨fun h => ?_, fun h => ?_, fun h => ?_⟩ <;> first | exact hb.elim | exact h.elim | omega
 ·intro b hb
  refine ⟨fun h => ?_, fun h => ?_⟩ <;> first | exact hb.elim | exact h.elim | omega
 ·intro b hb h
  first | exact hb.elim | exact h.elim | omega
set_option maxHeartbeats 8000000 in
theorem implRecC1 (pb : Nat) (zs : List Int) (v : Value) (w : World) (h : CurV 108 pb zs v 0 w) (hl : zs.length ≤ 2000000) (hk : (getNum zs 0).1 = 1) :
  Calls Tryz.prog 81 #[.pointer (some ⟨pb, 0, none⟩)] w fun e w' => ∃ a1 n1 c1 a2 n2 c2 a3 n3 c3 a4 n4 c4, e = .returned (rcV (rdRc (rdEnP zs) zs).1 (.slice a1 n1 c1) (.slice a2 n2 c2) (.slice a3 n3 c3) (.slice a4 n4 c4)) ∧ OwM w' (fun b => w.heap.size ≤ b ∧ b < w'.heap.size) (rdRc (rdEnP zs) zs).1 (.slice a1 n1 c1) (.slice a2 n2 c2) (.slice a3 n3 c3) (.slice a4 n4 c4) ∧ Gone 108 pb zs v (rdRc (rdEnP zs) zs).2 w w' := by
 have hz := RdV.zs h.2.1
 have hpl := h.lt
 obtain ⟨n0, q0, e0⟩ : ∃ x q, getNum zs 0 = (x, q) := ⟨_, _, rfl⟩
 have H0 : Hid (∀ W, CurV 108 pb zs v 0 W → _) := fun W hW => by have h_ := implNumC pb zs v 0 W hW hl; rw [e0] at h_; exact h_
 obtain ⟨n1, q1, e1⟩ : ∃ x q, getNum zs q0 = (x, q) := ⟨_, _, rfl⟩
 have H1 : Hid (∀ W, CurV 108 pb zs v q0 W → _) := fun W hW => by have h_ := implNumC pb zs v q0 W hW hl; rw [e1] at h_; exact h_
 obtain ⟨n2, q2, e2⟩ : ∃ x q, getNum zs q1 = (x, q) := ⟨_, _, rfl⟩
 have H2 : Hid (∀ W, CurV 108 pb zs v q1 W → _) := fun W hW => by have h_ := implNumC pb zs v q1 W hW hl; rw [e2] at h_; exact h_
 obtain ⟨⟨ok3, ⟨op3, oq3, od3⟩, nm3, ⟨tp3, tq3, td3⟩, asn3, ov3⟩, q3, e3⟩ : ∃ x q, rdOp zs q2 = (x, q) := ⟨_, _, rfl⟩
 have H3 : Hid (∀ W, CurV 108 pb zs v q2 W → _) := fun W hW => by have h_ := implOpC pb zs v q2 W hW hl; rw [e3] at h_; exact h_
 obtain ⟨⟨hs4, hi4, hd4⟩, q4, e4⟩ : ∃ x q, rdHd zs q3 = (x, q) := ⟨_, _, rfl⟩
 have H4 : Hid (∀ W, CurV 108 pb zs v q3 W → _) := fun W hW => by have h_ := implHandC pb zs v q3 W hW hl; rw [e4] at h_; exact h_
 obtain ⟨⟨rc5, ⟨rp5, rq5, rd5⟩, rv5, es5⟩, q5, e5⟩ : ∃ x q, rdRp (rdEnP zs) zs q4 = (x, q) := ⟨_, _, rfl⟩
 have H5 : Hid (∀ W, CurV 108 pb zs v q4 W → _) := fun W hW => by have h_ := implReplyC pb zs v q4 W hW hl; rw [e5] at h_; exact h_
 rw [e0] at hk
 dsimp only at hk
 subst hk
 have hR : rdRc (rdEnP zs) zs = (⟨1, n1, 0, n2, ⟨ok3, (op3, oq3, od3), nm3, (tp3, tq3, td3), asn3, ov3⟩, ⟨rc5, (rp5, rq5, rd5), rv5, es5⟩, tx0, pt0, 0, (hs4, hi4, hd4)⟩, q5) := by simp [rdRc, e0, e1, e2, e3, e4, e5]
 rw [hR]
 clear hR e0 e1 e2 e3 e4 e5
 have HC0 : Hid (CurV 108 pb zs v 0 w) := h
 clear h
 dsimp only
 simp only [op0, rp0, tx0, pt0, hd0]
 go_enter Tryz.func81, Tryz.ntmps81
 go_wp2_with fail
 refine Calls.mono (H0.out _ (HC0.out.alloc _)) ?_
 rintro e w1 ⟨rfl, hc_, t_⟩
 have HT : Hid (Turned (fun b => b = pb) w w1) := (Turned.ofBelow (Below.new1 (w := w) _)).trans t_
 have vR : VarA w1 w.heap.size 47 #[.int .i64 0, .int .i64 0, .int .i64 0, .int .i64 0, .int .i64 0, .int .i64 0, .bool false, .slice none 0 0, .int .i64 0, .int .i64 0, .bool false, .slice none 0 0, .int .i64 0, .int .i64 0, .int .i64 0, .bool false, .int .i64 0, .int .i64 0, .int .i64 0, .bool false, .int .i64 0, .slice none 0 0, .int .i64 0, .int .i64 0, .int .i64 0, .int .i64 0, .int .i64 0, .int .i64 0, .bool false, .slice none 0 0, .int .i64 0, .int .i64 0, .bool false, .int .i64 0] := VarA.turn (VarA.new w _ _) t_ (by omega)
 have hx0 := t_.size
 simp at hx0
 have HC1 : Hid (CurV 108 pb zs v q0 w1) := hc_
 clear hc_ t_ H0 HC0
 go_wp2_with fail
 refine Calls.mono (H1.out _ HC1.out) ?_
 rintro e w2 ⟨rfl, hc_, t_⟩
 have HT_ : Hid (Turned (fun b => b = pb) w w2) := HT.out.trans t_
 clear HT
 have HT := HT_
 clear HT_
 have vR_ := vR.turn t_ (by omega)
 clear vR
 have vR := vR_
 clear vR_
 have hx1 := t_.size
 have HC2 : Hid (CurV 108 pb zs v q1 w2) := hc_
 clear hc_ t_ H1 HC1
 go_wp2_with fail
 refine Calls.mono (H2.out _ HC2.out) ?_
 rintro e w3 ⟨rfl, hc_, t_⟩
 have HT_ : Hid (Turned (fun b => b = pb) w w3) := HT.out.trans t_
 clear HT
 have HT := HT_
 clear HT_
 have vR_ := vR.turn t_ (by omega)
 clear vR
 have vR := vR_
 clear vR_
 have hx2 := t_.size
 have HC3 : Hid (CurV 108 pb zs v q2 w3) := hc_
 clear hc_ t_ H2 HC2
 go_wp2_with fail
 refine Calls.mono (H3.out _ HC3.out) ?_
 rintro e w4 ⟨a3, l3, c3, a3y, l3y, c3y, M3, rfl, o3, o3y, hM3, hN3, hc_, t_⟩
 have HT_ : Hid (Turned (fun b => b = pb) w w4) := HT.out.trans t_
 clear HT
 have HT := HT_
 clear HT_
 have vR_ := vR.turn t_ (by omega)
 clear vR
 have vR := vR_
 clear vR_
 have hx3 := t_.size
 have HO3 : Hid (OwV w4 (fun b => w3.heap.size ≤ b ∧ b < M3) (.slice a3 l3 c3) (.bytes nm3)) := o3
 clear o3
 have HO3y : Hid (OwV w4 (fun b => M3 ≤ b ∧ b < w4.heap.size) (.slice a3y l3y c3y) (.bytes asn3)) := o3y
 clear o3y
 have HC4 : Hid (CurV 108 pb zs v q3 w4) := hc_
 clear hc_ t_ H3 HC3
 go_wp2_with fail
 refine Calls.mono (H4.out _ HC4.out) ?_
 rintro e w5 ⟨rfl, hc_, t_⟩
 have HT_ : Hid (Turned (fun b => b = pb) w w5) := HT.out.trans t_
 clear HT
 have HT := HT_
 clear HT_
 have vR_ := vR.turn t_ (by omega)
 clear vR
 have vR := vR_
 clear vR_
 have hx4 := t_.size
 have HO3_ : Hid (OwV w5 (fun b => w3.heap.size ≤ b ∧ b < M3) (.slice a3 l3 c3) (.bytes nm3)) := HO3.out.keep (t_.keeps (fun b hb hs => by omega))
 clear HO3
 have HO3 := HO3_
 clear HO3_
 have HO3y_ : Hid (OwV w5 (fun b => M3 ≤ b ∧ b < w4.heap.size) (.slice a3y l3y c3y) (.bytes asn3)) := HO3y.out.keep (t_.keeps (fun b hb hs => by omega))
 clear HO3y
 have HO3y := HO3y_
 clear HO3y_
 have HC5 : Hid (CurV 108 pb zs v q4 w5) := hc_
 clear hc_ t_ H4 HC4
 go_wp2_with fail
 refine Calls.mono (H5.out _ HC5.out) ?_
 rintro e w6 ⟨a5, l5, c5, rfl, o5, hc_, t_⟩
 have HT_ : Hid (Turned (fun b => b = pb) w w6) := HT.out.trans t_
 clear HT
 have HT := HT_
 clear HT_
 have vR_ := vR.turn t_ (by omega)
 clear vR
 have vR := vR_
 clear vR_
 have hx5 := t_.size
 have HO3_ : Hid (OwV w6 (fun b => w3.heap.size ≤ b ∧ b < M3) (.slice a3 l3 c3) (.bytes nm3)) := HO3.out.keep (t_.keeps (fun b hb hs => by omega))
 clear HO3
 have HO3 := HO3_
 clear HO3_
 have HO3y_ : Hid (OwV w6 (fun b => M3 ≤ b ∧ b < w4.heap.size) (.slice a3y l3y c3y) (.bytes asn3)) := HO3y.out.keep (t_.keeps (fun b hb hs => by omega))
 clear HO3y
 have HO3y := HO3y_
 clear HO3y_
 have HO5 : Hid (OwV w6 (fun b => w5.heap.size ≤ b ∧ b < w6.heap.size) (.slice a5 l5 c5) (ensDt es5)) := o5
 clear o5
 have HC6 : Hid (CurV 108 pb zs v q5 w6) := hc_
 clear hc_ t_ H5 HC5
 dsimp only
 repeat (first | ((with_reducible refine guardStore (ty := 47) ?_); refine wpList_storeF vR rfl rfl (by kernel_rfl) rfl (of_decide_eq_true rfl) rfl ?_; intro w' vR_ t_) | go_values | go_skip | go_guarded | go_step | go_upon)
 have t1 : Turned (fun b => b = w.heap.size) w6 w' := t_
 have hC : CurV 108 pb zs v q5 w' := HC6.out.keep t1 (fun b hb => by omega)
 have hT : Turned (fun b => b = pb) w w' := HT.out.then t1 (fun i hi hs => by omega)
 have hsz := t1.size
 have HO3_ : OwV w' (fun b => w3.heap.size ≤ b ∧ b < M3) (.slice a3 l3 c3) (.bytes nm3) := HO3.out.keep (t1.keeps (fun b hb hs => by omega))
 have HO3y_ : OwV w' (fun b => M3 ≤ b ∧ b < w4.heap.size) (.slice a3y l3y c3y) (.bytes asn3) := HO3y.out.keep (t1.keeps (fun b hb hs => by omega))
 have HO5_ : OwV w' (fun b => w5.heap.size ≤ b ∧ b < w6.heap.size) (.slice a5 l5 c5) (ensDt es5) := HO5.out.keep (t1.keeps (fun b hb hs => by omega))
 refine bodyPost_ret (results_cell_row Tryz.results81 _ _ _ _ _ _ _ rfl vR_ Tryz.underlying47 rfl (by kernel_rfl)) rfl ?_
 refine ⟨_, _, _, _, _, _, _, _, _, _, _, _, rfl, ⟨fun b => w3.heap.size ≤ b ∧ b < M3, fun b => M3 ≤ b ∧ b < w4.heap.size, fun b => w5.heap.size ≤ b ∧ b < w6.heap.size, fun _ => False, HO3_, HO3y_, HO5_, OwV.nilB _ _, ?_, ?_, ?_, ?_⟩, hC, hT⟩
 ·intro b hb
  rcases hb with hb | hb | hb | hb <;> first | exact hb.elim | exact ⟨by omega, by omega⟩
 ·intro b hb
  refine ⟨fun h => ?_, fun h => ?_, fun h => ?_⟩ <;> first | exact hb.elim | exact h.elim | omega
 ·intro b hb
  refine ⟨fun h => ?_, fun h => ?_⟩ <;> first | exact hb.elim | exact h.elim | omega
 ·intro b hb h
  first | exact hb.elim | exact h.elim | omega
set_option maxHeartbeats 8000000 in
theorem implRecC2 (pb : Nat) (zs : List Int) (v : Value) (w : World) (h : CurV 108 pb zs v 0 w) (hl : zs.length ≤ 2000000) (hk : (getNum zs 0).1 = 2) :
  Calls Tryz.prog 81 #[.pointer (some ⟨pb, 0, none⟩)] w fun e w' => ∃ a1 n1 c1 a2 n2 c2 a3 n3 c3 a4 n4 c4, e = .returned (rcV (rdRc (rdEnP zs) zs).1 (.slice a1 n1 c1) (.slice a2 n2 c2) (.slice a3 n3 c3) (.slice a4 n4 c4)) ∧ OwM w' (fun b => w.heap.size ≤ b ∧ b < w'.heap.size) (rdRc (rdEnP zs) zs).1 (.slice a1 n1 c1) (.slice a2 n2 c2) (.slice a3 n3 c3) (.slice a4 n4 c4) ∧ Gone 108 pb zs v (rdRc (rdEnP zs) zs).2 w w' := by
 have hz := RdV.zs h.2.1
 have hpl := h.lt
 obtain ⟨n0, q0, e0⟩ : ∃ x q, getNum zs 0 = (x, q) := ⟨_, _, rfl⟩
 have H0 : Hid (∀ W, CurV 108 pb zs v 0 W → _) := fun W hW => by have h_ := implNumC pb zs v 0 W hW hl; rw [e0] at h_; exact h_
 obtain ⟨⟨xs1, xb1, xn1⟩, q1, e1⟩ : ∃ x q, rdTx zs q0 = (x, q) := ⟨_, _, rfl⟩
 have H1 : Hid (∀ W, CurV 108 pb zs v q0 W → _) := fun W hW => by have h_ := implTxC pb zs v q0 W hW hl; rw [e1] at h_; exact h_
 obtain ⟨⟨pk2, ⟨pp2, pq2, pd2⟩, pas2, ⟨sp2, sq2, sd2⟩⟩, q2, e2⟩ : ∃ x q, rdPt zs q1 = (x, q) := ⟨_, _, rfl⟩
 have H2 : Hid (∀ W, CurV 108 pb zs v q1 W → _) := fun W hW => by have h_ := implPartC pb zs v q1 W hW hl; rw [e2] at h_; exact h_
 obtain ⟨n3, q3, e3⟩ : ∃ x q, getNum zs q2 = (x, q) := ⟨_, _, rfl⟩
 have H3 : Hid (∀ W, CurV 108 pb zs v q2 W → _) := fun W hW => by have h_ := implNumC pb zs v q2 W hW hl; rw [e3] at h_; exact h_
 obtain ⟨⟨hs4, hi4, hd4⟩, q4, e4⟩ : ∃ x q, rdHd zs q3 = (x, q) := ⟨_, _, rfl⟩
 have H4 : Hid (∀ W, CurV 108 pb zs v q3 W → _) := fun W hW => by have h_ := implHandC pb zs v q3 W hW hl; rw [e4] at h_; exact h_
 rw [e0] at hk
 dsimp only at hk
 subst hk
 have hR : rdRc (rdEnP zs) zs = (⟨2, 0, 0, 0, op0, rp0, (xs1, xb1, xn1), ⟨pk2, (pp2, pq2, pd2), pas2, (sp2, sq2, sd2)⟩, n3, (hs4, hi4, hd4)⟩, q4) := by simp [rdRc, e0, e1, e2, e3, e4]
 rw [hR]
 clear hR e0 e1 e2 e3 e4
 have HC0 : Hid (CurV 108 pb zs v 0 w) := h
 clear h
 dsimp only
 simp only [op0, rp0, tx0, pt0, hd0]
 go_enter Tryz.func81, Tryz.ntmps81
 go_wp2_with fail
 refine Calls.mono (H0.out _ (HC0.out.alloc _)) ?_
 rintro e w1 ⟨rfl, hc_, t_⟩
 have HT : Hid (Turned (fun b => b = pb) w w1) := (Turned.ofBelow (Below.new1 (w := w) _)).trans t_
 have vR : VarA w1 w.heap.size 47 #[.int .i64 0, .int .i64 0, .int .i64 0, .int .i64 0, .int .i64 0, .int .i64 0, .bool false, .slice none 0 0, .int .i64 0, .int .i64 0, .bool false, .slice none 0 0, .int .i64 0, .int .i64 0, .int .i64 0, .bool false, .int .i64 0, .int .i64 0, .int .i64 0, .bool false, .int .i64 0, .slice none 0 0, .int .i64 0, .int .i64 0, .int .i64 0, .int .i64 0, .int .i64 0, .int .i64 0, .bool false, .slice none 0 0, .int .i64 0, .int .i64 0, .bool false, .int .i64 0] := VarA.turn (VarA.new w _ _) t_ (by omega)
 have hx0 := t_.size
 simp at hx0
 have HC1 : Hid (CurV 108 pb zs v q0 w1) := hc_
 clear hc_ t_ H0 HC0
 go_wp2_with fail
 refine Calls.mono (H1.out _ HC1.out) ?_
 rintro e w2 ⟨rfl, hc_, t_⟩
 have HT_ : Hid (Turned (fun b => b = pb) w w2) := HT.out.trans t_
 clear HT
 have HT := HT_
 clear HT_
 have vR_ := vR.turn t_ (by omega)
 clear vR
 have vR := vR_
 clear vR_
 have hx1 := t_.size
 have HC2 : Hid (CurV 108 pb zs v q1 w2) := hc_
 clear hc_ t_ H1 HC1
 go_wp2_with fail
 refine Calls.mono (H2.out _ HC2.out) ?_
 rintro e w3 ⟨a2, l2, c2, rfl, o2, hc_, t_⟩
 have HT_ : Hid (Turned (fun b => b = pb) w w3) := HT.out.trans t_
 clear HT
 have HT := HT_
 clear HT_
 have vR_ := vR.turn t_ (by omega)
 clear vR
 have vR := vR_
 clear vR_
 have hx2 := t_.size
 have HO2 : Hid (OwV w3 (fun b => w2.heap.size ≤ b ∧ b < w3.heap.size) (.slice a2 l2 c2) (.bytes pas2)) := o2
 clear o2
 have HC3 : Hid (CurV 108 pb zs v q2 w3) := hc_
 clear hc_ t_ H2 HC2
 go_wp2_with fail
 refine Calls.mono (H3.out _ HC3.out) ?_
 rintro e w4 ⟨rfl, hc_, t_⟩
 have HT_ : Hid (Turned (fun b => b = pb) w w4) := HT.out.trans t_
 clear HT
 have HT := HT_
 clear HT_
 have vR_ := vR.turn t_ (by omega)
 clear vR
 have vR := vR_
 clear vR_
 have hx3 := t_.size
 have HO2_ : Hid (OwV w4 (fun b => w2.heap.size ≤ b ∧ b < w3.heap.size) (.slice a2 l2 c2) (.bytes pas2)) := HO2.out.keep (t_.keeps (fun b hb hs => by omega))
 clear HO2
 have HO2 := HO2_
 clear HO2_
 have HC4 : Hid (CurV 108 pb zs v q3 w4) := hc_
 clear hc_ t_ H3 HC3
 go_wp2_with fail
 refine Calls.mono (H4.out _ HC4.out) ?_
 rintro e w5 ⟨rfl, hc_, t_⟩
 have HT_ : Hid (Turned (fun b => b = pb) w w5) := HT.out.trans t_
 clear HT
 have HT := HT_
 clear HT_
 have vR_ := vR.turn t_ (by omega)
 clear vR
 have vR := vR_
 clear vR_
 have hx4 := t_.size
 have HO2_ : Hid (OwV w5 (fun b => w2.heap.size ≤ b ∧ b < w3.heap.size) (.slice a2 l2 c2) (.bytes pas2)) := HO2.out.keep (t_.keeps (fun b hb hs => by omega))
 clear HO2
 have HO2 := HO2_
 clear HO2_
 have HC5 : Hid (CurV 108 pb zs v q4 w5) := hc_
 clear hc_ t_ H4 HC4
 dsimp only
 repeat (first | ((with_reducible refine guardStore (ty := 47) ?_); refine wpList_storeF vR rfl rfl (by kernel_rfl) rfl (of_decide_eq_true rfl) rfl ?_; intro w' vR_ t_) | go_values | go_skip | go_guarded | go_step | go_upon)
 have t1 : Turned (fun b => b = w.heap.size) w5 w' := t_
 have hC : CurV 108 pb zs v q4 w' := HC5.out.keep t1 (fun b hb => by omega)
 have hT : Turned (fun b => b = pb) w w' := HT.out.then t1 (fun i hi hs => by omega)
 have hsz := t1.size
 have HO2_ : OwV w' (fun b => w2.heap.size ≤ b ∧ b < w3.heap.size) (.slice a2 l2 c2) (.bytes pas2) := HO2.out.keep (t1.keeps (fun b hb hs => by omega))
 refine bodyPost_ret (results_cell_row Tryz.results81 _ _ _ _ _ _ _ rfl vR_ Tryz.underlying47 rfl (by kernel_rfl)) rfl ?_
 refine ⟨_, _, _, _, _, _, _, _, _, _, _, _, rfl, ⟨fun _ => False, fun _ => False, fun _ => False, fun b => w2.heap.size ≤ b ∧ b < w3.heap.size, OwV.nilB _ _, OwV.nilB _ _, OwV.nilR _ _ _ _ _, HO2_, ?_, ?_, ?_, ?_⟩, hC, hT⟩
 ·intro b hb
  rcases hb with hb | hb | hb | hb <;> first | exact hb.elim | exact ⟨by omega, by omega⟩
 ·intro b hb
  refine ⟨fun h => ?_, fun h => ?_, fun h => ?_⟩ <;> first | exact hb.elim | exact h.elim | omega
 ·intro b hb
  refine ⟨fun h => ?_, fun h => ?_⟩ <;> first | exact hb.elim | exact h.elim | omega
 ·intro b hb h
  first | exact hb.elim | exact h.elim | omega
set_option maxHeartbeats 8000000 in
theorem implRecC3 (pb : Nat) (zs : List Int) (v : Value) (w : World) (h : CurV 108 pb zs v 0 w) (hl : zs.length ≤ 2000000) (hk : (getNum zs 0).1 = 3) :
  Calls Tryz.prog 81 #[.pointer (some ⟨pb, 0, none⟩)] w fun e w' => ∃ a1 n1 c1 a2 n2 c2 a3 n3 c3 a4 n4 c4, e = .returned (rcV (rdRc (rdEnP zs) zs).1 (.slice a1 n1 c1) (.slice a2 n2 c2) (.slice a3 n3 c3) (.slice a4 n4 c4)) ∧ OwM w' (fun b => w.heap.size ≤ b ∧ b < w'.heap.size) (rdRc (rdEnP zs) zs).1 (.slice a1 n1 c1) (.slice a2 n2 c2) (.slice a3 n3 c3) (.slice a4 n4 c4) ∧ Gone 108 pb zs v (rdRc (rdEnP zs) zs).2 w w' := by
 have hz := RdV.zs h.2.1
 have hpl := h.lt
 obtain ⟨n0, q0, e0⟩ : ∃ x q, getNum zs 0 = (x, q) := ⟨_, _, rfl⟩
 have H0 : Hid (∀ W, CurV 108 pb zs v 0 W → _) := fun W hW => by have h_ := implNumC pb zs v 0 W hW hl; rw [e0] at h_; exact h_
 obtain ⟨⟨xs1, xb1, xn1⟩, q1, e1⟩ : ∃ x q, rdTx zs q0 = (x, q) := ⟨_, _, rfl⟩
 have H1 : Hid (∀ W, CurV 108 pb zs v q0 W → _) := fun W hW => by have h_ := implTxC pb zs v q0 W hW hl; rw [e1] at h_; exact h_
 obtain ⟨n2, q2, e2⟩ : ∃ x q, getNum zs q1 = (x, q) := ⟨_, _, rfl⟩
 have H2 : Hid (∀ W, CurV 108 pb zs v q1 W → _) := fun W hW => by have h_ := implNumC pb zs v q1 W hW hl; rw [e2] at h_; exact h_
 obtain ⟨n3, q3, e3⟩ : ∃ x q, getNum zs q2 = (x, q) := ⟨_, _, rfl⟩
 have H3 : Hid (∀ W, CurV 108 pb zs v q2 W → _) := fun W hW => by have h_ := implNumC pb zs v q2 W hW hl; rw [e3] at h_; exact h_
 obtain ⟨n4, q4, e4⟩ : ∃ x q, getNum zs q3 = (x, q) := ⟨_, _, rfl⟩
 have H4 : Hid (∀ W, CurV 108 pb zs v q3 W → _) := fun W hW => by have h_ := implNumC pb zs v q3 W hW hl; rw [e4] at h_; exact h_
 obtain ⟨⟨ok5, ⟨op5, oq5, od5⟩, nm5, ⟨tp5, tq5, td5⟩, asn5, ov5⟩, q5, e5⟩ : ∃ x q, rdOp zs q4 = (x, q) := ⟨_, _, rfl⟩
 have H5 : Hid (∀ W, CurV 108 pb zs v q4 W → _) := fun W hW => by have h_ := implOpC pb zs v q4 W hW hl; rw [e5] at h_; exact h_
 obtain ⟨⟨rc6, ⟨rp6, rq6, rd6⟩, rv6, es6⟩, q6, e6⟩ : ∃ x q, rdRp (rdEnP zs) zs q5 = (x, q) := ⟨_, _, rfl⟩
 have H6 : Hid (∀ W, CurV 108 pb zs v q5 W → _) := fun W hW => by have h_ := implReplyC pb zs v q5 W hW hl; rw [e6] at h_; exact h_
 rw [e0] at hk
 dsimp only at hk
 subst hk
 have hR : rdRc (rdEnP zs) zs = (⟨3, n3, 0, n4, ⟨ok5, (op5, oq5, od5), nm5, (tp5, tq5, td5), asn5, ov5⟩, ⟨rc6, (rp6, rq6, rd6), rv6, es6⟩, (xs1, xb1, xn1), pt0, n2, hd0⟩, q6) := by simp [rdRc, e0, e1, e2, e3, e4, e5, e6]
 rw [hR]
 clear hR e0 e1 e2 e3 e4 e5 e6
 have HC0 : Hid (CurV 108 pb zs v 0 w) := h
 clear h
 dsimp only
 simp only [op0, rp0, tx0, pt0, hd0]
 go_enter Tryz.func81, Tryz.ntmps81
 go_wp2_with fail
 refine Calls.mono (H0.out _ (HC0.out.alloc _)) ?_
 rintro e w1 ⟨rfl, hc_, t_⟩
 have HT : Hid (Turned (fun b => b = pb) w w1) := (Turned.ofBelow (Below.new1 (w := w) _)).trans t_
 have vR : VarA w1 w.heap.size 47 #[.int .i64 0, .int .i64 0, .int .i64 0, .int .i64 0, .int .i64 0, .int .i64 0, .bool false, .slice none 0 0, .int .i64 0, .int .i64 0, .bool false, .slice none 0 0, .int .i64 0, .int .i64 0, .int .i64 0, .bool false, .int .i64 0, .int .i64 0, .int .i64 0, .bool false, .int .i64 0, .slice none 0 0, .int .i64 0, .int .i64 0, .int .i64 0, .int .i64 0, .int .i64 0, .int .i64 0, .bool false, .slice none 0 0, .int .i64 0, .int .i64 0, .bool false, .int .i64 0] := VarA.turn (VarA.new w _ _) t_ (by omega)
 have hx0 := t_.size
 simp at hx0
 have HC1 : Hid (CurV 108 pb zs v q0 w1) := hc_
 clear hc_ t_ H0 HC0
 go_wp2_with fail
 refine Calls.mono (H1.out _ HC1.out) ?_
 rintro e w2 ⟨rfl, hc_, t_⟩
 have HT_ : Hid (Turned (fun b => b = pb) w w2) := HT.out.trans t_
 clear HT
 have HT := HT_
 clear HT_
 have vR_ := vR.turn t_ (by omega)
 clear vR
 have vR := vR_
 clear vR_
 have hx1 := t_.size
 have HC2 : Hid (CurV 108 pb zs v q1 w2) := hc_
 clear hc_ t_ H1 HC1
 go_wp2_with fail
 refine Calls.mono (H2.out _ HC2.out) ?_
 rintro e w3 ⟨rfl, hc_, t_⟩
 have HT_ : Hid (Turned (fun b => b = pb) w w3) := HT.out.trans t_
 clear HT
 have HT := HT_
 clear HT_
 have vR_ := vR.turn t_ (by omega)
 clear vR
 have vR := vR_
 clear vR_
 have hx2 := t_.size
 have HC3 : Hid (CurV 108 pb zs v q2 w3) := hc_
 clear hc_ t_ H2 HC2
 go_wp2_with fail
 refine Calls.mono (H3.out _ HC3.out) ?_
 rintro e w4 ⟨rfl, hc_, t_⟩
 have HT_ : Hid (Turned (fun b => b = pb) w w4) := HT.out.trans t_
 clear HT
 have HT := HT_
 clear HT_
 have vR_ := vR.turn t_ (by omega)
 clear vR
 have vR := vR_
 clear vR_
 have hx3 := t_.size
 have HC4 : Hid (CurV 108 pb zs v q3 w4) := hc_
 clear hc_ t_ H3 HC3
 go_wp2_with fail
 refine Calls.mono (H4.out _ HC4.out) ?_
 rintro e w5 ⟨rfl, hc_, t_⟩
 have HT_ : Hid (Turned (fun b => b = pb) w w5) := HT.out.trans t_
 clear HT
 have HT := HT_
 clear HT_
 have vR_ := vR.turn t_ (by omega)
 clear vR
 have vR := vR_
 clear vR_
 have hx4 := t_.size
 have HC5 : Hid (CurV 108 pb zs v q4 w5) := hc_
 clear hc_ t_ H4 HC4
 go_wp2_with fail
 refine Calls.mono (H5.out _ HC5.out) ?_
 rintro e w6 ⟨a5, l5, c5, a5y, l5y, c5y, M5, rfl, o5, o5y, hM5, hN5, hc_, t_⟩
 have HT_ : Hid (Turned (fun b => b = pb) w w6) := HT.out.trans t_
 clear HT
 have HT := HT_
 clear HT_
 have vR_ := vR.turn t_ (by omega)
 clear vR
 have vR := vR_
 clear vR_
 have hx5 := t_.size
 have HO5 : Hid (OwV w6 (fun b => w5.heap.size ≤ b ∧ b < M5) (.slice a5 l5 c5) (.bytes nm5)) := o5
 clear o5
 have HO5y : Hid (OwV w6 (fun b => M5 ≤ b ∧ b < w6.heap.size) (.slice a5y l5y c5y) (.bytes asn5)) := o5y
 clear o5y
 have HC6 : Hid (CurV 108 pb zs v q5 w6) := hc_
 clear hc_ t_ H5 HC5
 go_wp2_with fail
 refine Calls.mono (H6.out _ HC6.out) ?_
 rintro e w7 ⟨a6, l6, c6, rfl, o6, hc_, t_⟩
 have HT_ : Hid (Turned (fun b => b = pb) w w7) := HT.out.trans t_
 clear HT
 have HT := HT_
 clear HT_
 have vR_ := vR.turn t_ (by omega)
 clear vR
 have vR := vR_
 clear vR_
 have hx6 := t_.size
 have HO5_ : Hid (OwV w7 (fun b => w5.heap.size ≤ b ∧ b < M5) (.slice a5 l5 c5) (.bytes nm5)) := HO5.out.keep (t_.keeps (fun b hb hs => by omega))
 clear HO5
 have HO5 := HO5_
 clear HO5_
 have HO5y_ : Hid (OwV w7 (fun b => M5 ≤ b ∧ b < w6.heap.size) (.slice a5y l5y c5y) (.bytes asn5)) := HO5y.out.keep (t_.keeps (fun b hb hs => by omega))
 clear HO5y
 have HO5y := HO5y_
 clear HO5y_
 have HO6 : Hid (OwV w7 (fun b => w6.heap.size ≤ b ∧ b < w7.heap.size) (.slice a6 l6 c6) (ensDt es6)) := o6
 clear o6
 have HC7 : Hid (CurV 108 pb zs v q6 w7) := hc_
 clear hc_ t_ H6 HC6
 dsimp only
 repeat (first | ((with_reducible refine guardStore (ty := 47) ?_); refine wpList_storeF vR rfl rfl (by kernel_rfl) rfl (of_decide_eq_true rfl) rfl ?_; intro w' vR_ t_) | go_values | go_skip | go_guarded | go_step | go_upon)
 have t1 : Turned (fun b => b = w.heap.size) w7 w' := t_
 have hC : CurV 108 pb zs v q6 w' := HC7.out.keep t1 (fun b hb => by omega)
 have hT : Turned (fun b => b = pb) w w' := HT.out.then t1 (fun i hi hs => by omega)
 have hsz := t1.size
 have HO5_ : OwV w' (fun b => w5.heap.size ≤ b ∧ b < M5) (.slice a5 l5 c5) (.bytes nm5) := HO5.out.keep (t1.keeps (fun b hb hs => by omega))
 have HO5y_ : OwV w' (fun b => M5 ≤ b ∧ b < w6.heap.size) (.slice a5y l5y c5y) (.bytes asn5) := HO5y.out.keep (t1.keeps (fun b hb hs => by omega))
 have HO6_ : OwV w' (fun b => w6.heap.size ≤ b ∧ b < w7.heap.size) (.slice a6 l6 c6) (ensDt es6) := HO6.out.keep (t1.keeps (fun b hb hs => by omega))
 refine bodyPost_ret (results_cell_row Tryz.results81 _ _ _ _ _ _ _ rfl vR_ Tryz.underlying47 rfl (by kernel_rfl)) rfl ?_
 refine ⟨_, _, _, _, _, _, _, _, _, _, _, _, rfl, ⟨fun b => w5.heap.size ≤ b ∧ b < M5, fun b => M5 ≤ b ∧ b < w6.heap.size, fun b => w6.heap.size ≤ b ∧ b < w7.heap.size, fun _ => False, HO5_, HO5y_, HO6_, OwV.nilB _ _, ?_, ?_, ?_, ?_⟩, hC, hT⟩
 ·intro b hb
  rcases hb with hb | hb | hb | hb <;> first | exact hb.elim | exact ⟨by omega, by omega⟩
 ·intro b hb
  refine ⟨fun h => ?_, fun h => ?_, fun h => ?_⟩ <;> first | exact hb.elim | exact h.elim | omega
 ·intro b hb
  refine ⟨fun h => ?_, fun h => ?_⟩ <;> first | exact hb.elim | exact h.elim | omega
 ·intro b hb h
  first | exact hb.elim | exact h.elim | omega
set_option maxHeartbeats 8000000 in
theorem implRecC4 (pb : Nat) (zs : List Int) (v : Value) (w : World) (h : CurV 108 pb zs v 0 w) (hl : zs.length ≤ 2000000) (hk : (getNum zs 0).1 = 4) :
  Calls Tryz.prog 81 #[.pointer (some ⟨pb, 0, none⟩)] w fun e w' => ∃ a1 n1 c1 a2 n2 c2 a3 n3 c3 a4 n4 c4, e = .returned (rcV (rdRc (rdEnP zs) zs).1 (.slice a1 n1 c1) (.slice a2 n2 c2) (.slice a3 n3 c3) (.slice a4 n4 c4)) ∧ OwM w' (fun b => w.heap.size ≤ b ∧ b < w'.heap.size) (rdRc (rdEnP zs) zs).1 (.slice a1 n1 c1) (.slice a2 n2 c2) (.slice a3 n3 c3) (.slice a4 n4 c4) ∧ Gone 108 pb zs v (rdRc (rdEnP zs) zs).2 w w' := by
 have hz := RdV.zs h.2.1
 have hpl := h.lt
 obtain ⟨n0, q0, e0⟩ : ∃ x q, getNum zs 0 = (x, q) := ⟨_, _, rfl⟩
 have H0 : Hid (∀ W, CurV 108 pb zs v 0 W → _) := fun W hW => by have h_ := implNumC pb zs v 0 W hW hl; rw [e0] at h_; exact h_
 obtain ⟨⟨xs1, xb1, xn1⟩, q1, e1⟩ : ∃ x q, rdTx zs q0 = (x, q) := ⟨_, _, rfl⟩
 have H1 : Hid (∀ W, CurV 108 pb zs v q0 W → _) := fun W hW => by have h_ := implTxC pb zs v q0 W hW hl; rw [e1] at h_; exact h_
 obtain ⟨n2, q2, e2⟩ : ∃ x q, getNum zs q1 = (x, q) := ⟨_, _, rfl⟩
 have H2 : Hid (∀ W, CurV 108 pb zs v q1 W → _) := fun W hW => by have h_ := implNumC pb zs v q1 W hW hl; rw [e2] at h_; exact h_
 rw [e0] at hk
 dsimp only at hk
 subst hk
 have hR : rdRc (rdEnP zs) zs = (⟨4, 0, 0, 0, op0, rp0, (xs1, xb1, xn1), pt0, n2, hd0⟩, q2) := by simp [rdRc, e0, e1, e2]
 rw [hR]
 clear hR e0 e1 e2
 have HC0 : Hid (CurV 108 pb zs v 0 w) := h
 clear h
 dsimp only
 simp only [op0, rp0, tx0, pt0, hd0]
 go_enter Tryz.func81, Tryz.ntmps81
 go_wp2_with fail
 refine Calls.mono (H0.out _ (HC0.out.alloc _)) ?_
 rintro e w1 ⟨rfl, hc_, t_⟩
 have HT : Hid (Turned (fun b => b = pb) w w1) := (Turned.ofBelow (Below.new1 (w := w) _)).trans t_
 have vR : VarA w1 w.heap.size 47 #[.int .i64 0, .int .i64 0, .int .i64 0, .int .i64 0, .int .i64 0, .int .i64 0, .bool false, .slice none 0 0, .int .i64 0, .int .i64 0, .bool false, .slice none 0 0, .int .i64 0, .int .i64 0, .int .i64 0, .bool false, .int .i64 0, .int .i64 0, .int .i64 0, .bool false, .int .i64 0, .slice none 0 0, .int .i64 0, .int .i64 0, .int .i64 0, .int .i64 0, .int .i64 0, .int .i64 0, .bool false, .slice none 0 0, .int .i64 0, .int .i64 0, .bool false, .int .i64 0] := VarA.turn (VarA.new w _ _) t_ (by omega)
 have hx0 := t_.size
 simp at hx0
 have HC1 : Hid (CurV 108 pb zs v q0 w1) := hc_
 clear hc_ t_ H0 HC0
 go_wp2_with fail
 refine Calls.mono (H1.out _ HC1.out) ?_
 rintro e w2 ⟨rfl, hc_, t_⟩
 have HT_ : Hid (Turned (fun b => b = pb) w w2) := HT.out.trans t_
 clear HT
 have HT := HT_
 clear HT_
 have vR_ := vR.turn t_ (by omega)
 clear vR
 have vR := vR_
 clear vR_
 have hx1 := t_.size
 have HC2 : Hid (CurV 108 pb zs v q1 w2) := hc_
 clear hc_ t_ H1 HC1
 go_wp2_with fail
 refine Calls.mono (H2.out _ HC2.out) ?_
 rintro e w3 ⟨rfl, hc_, t_⟩
 have HT_ : Hid (Turned (fun b => b = pb) w w3) := HT.out.trans t_
 clear HT
 have HT := HT_
 clear HT_
 have vR_ := vR.turn t_ (by omega)
 clear vR
 have vR := vR_
 clear vR_
 have hx2 := t_.size
 have HC3 : Hid (CurV 108 pb zs v q2 w3) := hc_
 clear hc_ t_ H2 HC2
 dsimp only
 repeat (first | ((with_reducible refine guardStore (ty := 47) ?_); refine wpList_storeF vR rfl rfl (by kernel_rfl) rfl (of_decide_eq_true rfl) rfl ?_; intro w' vR_ t_) | go_values | go_skip | go_guarded | go_step | go_upon)
 have t1 : Turned (fun b => b = w.heap.size) w3 w' := t_
 have hC : CurV 108 pb zs v q2 w' := HC3.out.keep t1 (fun b hb => by omega)
 have hT : Turned (fun b => b = pb) w w' := HT.out.then t1 (fun i hi hs => by omega)
 have hsz := t1.size
 refine bodyPost_ret (results_cell_row Tryz.results81 _ _ _ _ _ _ _ rfl vR_ Tryz.underlying47 rfl (by kernel_rfl)) rfl ?_
 refine ⟨_, _, _, _, _, _, _, _, _, _, _, _, rfl, ⟨fun _ => False, fun _ => False, fun _ => False, fun _ => False, OwV.nilB _ _, OwV.nilB _ _, OwV.nilR _ _ _ _ _, OwV.nilB _ _, ?_, ?_, ?_, ?_⟩, hC, hT⟩
 ·intro b hb
  rcases hb with hb | hb | hb | hb <;> first | exact hb.elim | exact ⟨by omega, by omega⟩
 ·intro b hb
  refine ⟨fun h => ?_, fun h => ?_, fun h => ?_⟩ <;> first | exact hb.elim | exact h.elim | omega
 ·intro b hb
  refine ⟨fun h => ?_, fun h => ?_⟩ <;> first | exact hb.elim | exact h.elim | omega
 ·intro b hb h
  first | exact hb.elim | exact h.elim | omega
end
end Go.Proofs.YtklhikadhohjbaaGreat
