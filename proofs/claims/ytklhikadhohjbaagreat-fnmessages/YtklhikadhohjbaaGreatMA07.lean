/- Joined: SpecD17 DW5 DW6 WPut2 WMsg5 MdC. -/
import Derived.Test.YtklhikadhohjbaaGreatMSpecD16k0
import Derived.Test.YtklhikadhohjbaaGreatMA06
import Derived.Test.YtklhikadhohjbaaGreatMSpecD16k4
import Derived.Test.YtklhikadhohjbaaGreatMSpecD16k5
import Derived.Test.YtklhikadhohjbaaGreatMSpecD16k6
import Derived.Test.YtklhikadhohjbaaGreatMSpecT6
import Derived.Test.YtklhikadhohjbaaGreatMOpOks
import Derived.Test.YtklhikadhohjbaaGreatMA03
import Derived.Test.YtklhikadhohjbaaGreatMWPut1
import Derived.Test.YtklhikadhohjbaaGreatMA02
import Derived.Test.YtklhikadhohjbaaGreatMWMsg4
import Derived.Test.YtklhikadhohjbaaGreatMOpOks2

namespace Go.Proofs.YtklhikadhohjbaaGreat
open Go.RowKit
set_option linter.unusedVariables false
set_option linter.unusedSimpArgs false
set_option maxRecDepth 100000
section
theorem treeOk_at {l : List Nd} (h : treeOk l = true) {i : Nat} (hi : i < l.length) : nodeT l i = true := by
 unfold treeOk at h
 rw [Bool.and_eq_true] at h
 exact (List.all_eq_true.1 h.2) i (by simpa using hi)
theorem treeOk_len {l : List Nd} (h : treeOk l = true) : 1 ≤ l.length ∧ l.length ≤ 240 := by
 unfold treeOk headT at h
 simp only [Bool.and_eq_true, decide_eq_true_eq] at h
 exact h.1.1
theorem ndOk_small {n : Nd} (h : ndOk n = true) : n.es.length ≤ 12 ∧ 1 ≤ n.links ∧ n.links ≤ 2147483647 := by
 unfold ndOk baseOk at h
 simp only [Bool.and_eq_true, decide_eq_true_eq] at h
 omega
theorem nodeT_parts {l : List Nd} {i : Nat} (h : nodeT l i = true) : ndOk (l[i]?.getD nd0) = true ∧ (i = 0 ∨ lessH (l[i - 1]?.getD nd0).h (l[i]?.getD nd0).h = true) ∧ (∀ e ∈ (l[i]?.getD nd0).es, entLead l (l[i]?.getD nd0) e = true) ∧ tailT l (l[i]?.getD nd0) = true := by
 unfold nodeT at h
 simp only [Bool.and_eq_true, Bool.or_eq_true, decide_eq_true_eq, List.all_eq_true] at h
 exact ⟨h.1, h.2.1, h.2.2.1, h.2.2.2⟩
theorem treeOk_small {l : List Nd} (h : treeOk l = true) : Small l := by
 refine ⟨by have := (treeOk_len h).2; omega, fun i => ?_⟩
 by_cases hi : i < l.length
 ·have := ndOk_small (nodeT_parts (treeOk_at h hi)).1
  omega
 ·rw [List.getElem?_eq_none (by omega)]
  simp [nd0]
theorem treeOk_in {l : List Nd} (h : treeOk l = true) (i j : Nat) (hi : i < l.length) (hj : j < (l[i]?.getD nd0).es.length) : fi l ((l[i]?.getD nd0).es[j]?.getD en0).h < l.length := by
 have h3 := (nodeT_parts (treeOk_at h hi)).2.2.1 _ (List.getElem_mem hj)
 unfold entLead at h3
 simp only [Bool.and_eq_true, decide_eq_true_eq] at h3
 rw [List.getElem?_eq_getElem hj]
 exact h3.1
theorem OOk_kind {o : OpD} (h : OOk o = true) : 0 ≤ o.kind ∧ o.kind ≤ 7 := by
 unfold OOk at h
 simp only [Bool.and_eq_true, decide_eq_true_eq] at h
 exact h.1.1
theorem specL4do_any (tb lo : Nat) (o : OpD) (fr : Hd) (y z : Value) (l : List Nd) (S2 L : Nat → Prop) (w : World) (tv : TV w tb lo L l) (hLt : ¬ L tb) (hLn : ∀ b, w.heap.size ≤ b → L b) (hlo : lo ≤ w.heap.size) (htbl : lo ≤ tb) (ht : treeOk l = true) (hsz : szNds l ≤ 2097152) (r1 : RdV w S2 y (.bytes o.nm)) (r2 : RdV w S2 z (.bytes o.asn)) (hS2 : ∀ b, S2 b → b < lo) (hn1 : o.nm.length ≤ 2097152) (hn2 : o.asn.length ≤ 2097152) (hk : 0 ≤ o.kind ∧ o.kind ≤ 7) :
  Calls Tryz.prog 114 #[.pointer (some ⟨tb, 0, none⟩), opV o y z, fr.v] w (DoPost w tb lo L (doD l o fr)) := by
 have h0 : 0 < l.length := (treeOk_len ht).1
 have sm := treeOk_small ht
 have hin := treeOk_in ht
 rcases kinds hk.1 hk.2 with h | h | h | h | h | h | h | h
 ·exact specDo0 tb lo o fr y z l S2 L w tv hLt hLn h0 hlo htbl sm hsz r1 r2 hS2 hn1 hn2 hin h
 ·exact specDo1 tb lo o fr y z l S2 L w tv hLt hLn h0 hlo htbl sm hsz r1 r2 hS2 hn1 hn2 hin h
 ·exact specDo2 tb lo o fr y z l S2 L w tv hLt hLn h0 hlo htbl sm hsz r1 r2 hS2 hn1 hn2 hin h
 ·exact specDo3 tb lo o fr y z l S2 L w tv hLt hLn h0 hlo htbl sm hsz r1 r2 hS2 hn1 hn2 hin h
 ·exact specDo4 tb lo o fr y z l S2 L w tv hLt hLn h0 hlo htbl sm hsz r1 r2 hS2 hn1 hn2 hin h
 ·exact specDo5 tb lo o fr y z l S2 L w tv hLt hLn h0 hlo htbl sm hsz r1 r2 hS2 hn1 hn2 hin h
 ·exact specDo6 tb lo o fr y z l S2 L w tv hLt hLn h0 hlo htbl sm hsz r1 r2 hS2 hn1 hn2 hin h
 ·exact specDo7 tb lo o fr y z l S2 L w tv hLt hLn h0 hlo htbl sm hsz r1 r2 hS2 hn1 hn2 hin h
def badFr (l : List Nd) (o : OpD) (fr : Hd) : Bool := !HOk fr || (decide (fr.sh ≠ o.to.sh) || (decide (fr.dir ≠ o.to.dir) || (decide (fi l fr < l.length) || (decide (fi l (fr.sh, fr.ino, !fr.dir) < l.length) || decide (240 ≤ l.length)))))
def dO (l : List Nd) (o : OpD) (fr : Hd) : List Nd × RpD :=
 if (treeOk l && OOk o) = true then (if o.kind = 4 ∧ badFr l o fr = true then (l, rc 11) else doD l o fr) else ([], rc 11)
end
section
def NP (c : Nat) (n : Nd) : Prop := HdR n.h ∧ n.es.length ≤ c ∧ ∀ e ∈ n.es, e.nm.length ≤ 6 ∧ HdR e.h
def AllN (c : Nat) (l : List Nd) : Prop := ∀ n ∈ l, NP c n
theorem NP.up {c c' : Nat} {n : Nd} (h : NP c n) (hc : c ≤ c') : NP c' n := ⟨h.1, Nat.le_trans h.2.1 hc, h.2.2⟩
theorem AllN.up {c c' : Nat} {l : List Nd} (h : AllN c l) (hc : c ≤ c') : AllN c' l := fun n hn => (h n hn).up hc
theorem hdR_ok {h : Hd} (k : HOk h = true) : HdR h := by
 unfold HOk at k
 simp only [Bool.and_eq_true, decide_eq_true_eq] at k
 exact ⟨k.1, k.2.1, by omega, k.2.2.2⟩
theorem getD_mem {l : List Nd} {i : Nat} (hi : i < l.length) : l[i]?.getD nd0 ∈ l := by rw [List.getElem?_eq_getElem hi]; exact List.getElem_mem hi
theorem AllN.at {c : Nat} {l : List Nd} (h : AllN c l) {i : Nat} (hi : i < l.length) : NP c (l[i]?.getD nd0) := h _ (getD_mem hi)
theorem AllN.set {c : Nat} {l : List Nd} {n : Nd} (h : AllN c l) (hn : NP c n) (d : Nat) : AllN c (l.set d n) := fun m hm => by
 rcases List.mem_or_eq_of_mem_set hm with h1 | h1
 ·exact h m h1
 ·rw [h1]; exact hn
theorem treeOk_all {l : List Nd} (h : treeOk l = true) : AllN 12 l := fun n hn => by
 obtain ⟨i, hi, rfl⟩ := List.getElem_of_mem hn
 have p := nodeT_parts (treeOk_at h hi)
 rw [List.getElem?_eq_getElem hi] at p
 have p1 : ndOk l[i] = true := p.1
 have hb : baseOk l[i] = true ∧ (if l[i].h.dir then dirOk l[i] && entsOk l[i].es else fileOk l[i]) = true := by
  unfold ndOk at p1; rw [Bool.and_eq_true] at p1; exact p1
 have hh : HOk l[i].h = true := by
  have := hb.1; unfold baseOk at this; rw [Bool.and_eq_true] at this; exact this.1
 refine ⟨hdR_ok hh, (ndOk_small p1).1, fun e he => ?_⟩
 have h2 := hb.2
 by_cases hd : l[i].h.dir = true
 ·rw [if_pos hd, Bool.and_eq_true] at h2
  have h3 := h2.2
  unfold entsOk at h3
  obtain ⟨j, hj, rfl⟩ := List.getElem_of_mem he
  have h4 := (List.all_eq_true.1 h3) j (by simpa using hj)
  unfold entOk at h4
  rw [List.getElem?_eq_getElem hj] at h4
  simp only [Bool.and_eq_true] at h4
  have h5 : isNm l[i].es[j].nm = true := h4.1
  have h6 : HOk l[i].es[j].h = true := h4.2.1
  refine ⟨?_, hdR_ok h6⟩
  unfold isNm at h5
  simp only [Bool.and_eq_true, decide_eq_true_eq] at h5
  omega
 ·rw [if_neg hd] at h2
  unfold fileOk at h2
  simp only [Bool.and_eq_true, decide_eq_true_eq] at h2
  have : l[i].es = [] := List.eq_nil_of_length_eq_zero h2.1
  rw [this] at he
  cases he
theorem np_add {c : Nat} {n : Nd} (h : NP c n) (nm : List Int) (hnm : nm.length ≤ 6) {x : Hd} (hx : HdR x) : NP (c + 1) (n.setEs (addE n.es nm x)) := by
 refine ⟨h.1, ?_, fun e he => ?_⟩
 ·show (addE n.es nm x).length ≤ c + 1
  unfold addE
  have := h.2.1
  simp
  omega
 ·have he' : e ∈ addE n.es nm x := he
  unfold addE at he'
  rcases List.mem_append.1 he' with h1 | h1
  ·rcases List.mem_append.1 h1 with h2 | h2
   ·exact h.2.2 e (List.mem_of_mem_take h2)
   ·simp only [List.mem_cons, List.not_mem_nil, or_false] at h2
    rw [h2]; exact ⟨hnm, hx⟩
  ·exact h.2.2 e (List.mem_of_mem_drop h1)
theorem np_cut {c : Nat} {n : Nd} (h : NP c n) (e : Nat) : NP c (n.setEs (cutE n.es e)) := by
 refine ⟨h.1, Nat.le_trans (length_cutE _ _) h.2.1, fun x hx => ?_⟩
 have hx' : x ∈ cutE n.es e := hx
 unfold cutE at hx'
 rcases List.mem_append.1 hx' with h1 | h1
 ·exact h.2.2 x (List.mem_of_mem_take h1)
 ·exact h.2.2 x (List.mem_of_mem_drop h1)
theorem all_cut {c : Nat} {l : List Nd} (h : AllN c l) (d e : Nat) (hd : d < l.length) : AllN c (cutN l d e) := h.set (np_cut (h.at hd) e) d
theorem all_add {c : Nat} {l : List Nd} (h : AllN c l) (d : Nat) (hd : d < l.length) (nm : List Int) (hnm : nm.length ≤ 6) {x : Hd} (hx : HdR x) : AllN (c + 1) (addN l d nm x) := (h.up (Nat.le_succ c)).set (np_add (h.at hd) nm hnm hx) d
theorem NP.lk {c : Nat} {n : Nd} (h : NP c n) (k : Int) : NP c (n.setLk k) := h
theorem NP.par {c : Nat} {n : Nd} (h : NP c n) (k : Hd) : NP c (n.setPar k) := h
theorem NP.val {c : Nat} {n : Nd} (h : NP c n) (k : Int) : NP c (n.setVal k) := h
theorem all_lk {c : Nat} {l : List Nd} (h : AllN c l) (d : Nat) (hd : d < l.length) (k : Int) : AllN c (lkN l d k) := h.set ((h.at hd).lk _) d
theorem all_par {c : Nat} {l : List Nd} (h : AllN c l) (d : Nat) (hd : d < l.length) (k : Hd) : AllN c (parN l d k) := h.set ((h.at hd).par _) d
theorem all_val {c : Nat} {l : List Nd} (h : AllN c l) (d : Nat) (hd : d < l.length) (k : Int) : AllN c (valN l d k) := h.set ((h.at hd).val _) d
theorem all_out {c : Nat} {l : List Nd} (h : AllN c l) (k : Nat) : AllN c (outN l k) := fun n hn => by
 unfold outN at hn
 rcases List.mem_append.1 hn with h1 | h1
 ·exact h n (List.mem_of_mem_take h1)
 ·exact h n (List.mem_of_mem_drop h1)
theorem all_ins {c : Nat} {l : List Nd} (h : AllN c l) {n : Nd} (hn : NP c n) : AllN c (insN l n) := fun m hm => by
 unfold insN at hm
 rcases List.mem_append.1 hm with h1 | h1
 ·rcases List.mem_append.1 h1 with h2 | h2
  ·exact h m (List.mem_of_mem_take h2)
  ·simp only [List.mem_cons, List.not_mem_nil, or_false] at h2
   rw [h2]; exact hn
 ·exact h m (List.mem_of_mem_drop h1)
theorem sum_le {α : Type} (f : α → Nat) (c : Nat) : ∀ (l : List α), (∀ a ∈ l, f a ≤ c) → (l.map f).sum ≤ l.length * c
 | [], _ => by simp
 | a :: r, h => by
  have h1 := sum_le f c r (fun b hb => h b (List.mem_cons_of_mem _ hb))
  have h2 := h a (List.mem_cons_self ..)
  simp only [List.map_cons, List.sum_cons, List.length_cons, Nat.add_mul, Nat.one_mul]
  omega
theorem sz_all {l : List Nd} (h : AllN 13 l) (hl : l.length ≤ 300) : szNds l ≤ 40000 := by
 have h1 : ∀ n ∈ l, szEns n.es ≤ 91 := fun n hn => by
  have h2 := h n hn
  have h3 := sum_le (fun e : En => e.nm.length) 6 n.es (fun e he => (h2.2.2 e he).1)
  have := h2.2.1
  unfold szEns
  omega
 have h4 := sum_le (fun n : Nd => szEns n.es) 91 l h1
 unfold szNds
 omega
theorem es_mem {n : Nd} {j : Nat} (hj : j < n.es.length) : n.es[j]?.getD en0 ∈ n.es := by rw [List.getElem?_eq_getElem hj]; exact List.getElem_mem hj
theorem length_lkN (l : List Nd) (d : Nat) (k : Int) : (lkN l d k).length = l.length := List.length_set
theorem length_valN (l : List Nd) (d : Nat) (k : Int) : (valN l d k).length = l.length := List.length_set
theorem length_insN (l : List Nd) (n : Nd) : (insN l n).length = l.length + 1 := by
 have : plN l n.h ≤ l.length := List.findIdx_le_length
 unfold insN; simp; omega
theorem length_outN (l : List Nd) (k : Nat) (hk : k < l.length) : (outN l k).length = l.length - 1 := by unfold outN; simp; omega
theorem moveD_all {l : List Nd} {o : OpD} {d : Nat} (h : AllN 12 l) (hd : d < l.length) (hin : ∀ j, j < (l[d]?.getD nd0).es.length → fi l ((l[d]?.getD nd0).es[j]?.getD en0).h < l.length) (ha : o.asn.length ≤ 6) : AllN 13 (moveD l o d).1 ∧ (moveD l o d).1.length = l.length := by
 have h13 : AllN 13 l := h.up (by omega)
 unfold moveD
 by_cases h1 : ei (l[d]?.getD nd0).es o.nm < (l[d]?.getD nd0).es.length
 ·rw [if_neg (fun k => k h1)]
  have hx : HdR ((l[d]?.getD nd0).es[ei (l[d]?.getD nd0).es o.nm]?.getD en0).h := ((h.at hd).2.2 _ (es_mem h1)).2
  have hk := hin _ h1
  generalize ((l[d]?.getD nd0).es[ei (l[d]?.getD nd0).es o.nm]?.getD en0).h = x at *
  generalize ei (l[d]?.getD nd0).es o.nm = e at *
  split
  ·exact ⟨h13, rfl⟩
  split
  ·exact ⟨h13, rfl⟩
  rename_i ht
  have ht' : fi l o.to < l.length := Classical.not_not.1 ht
  split
  ·split
   ·exact ⟨h13, rfl⟩
   ·exact ⟨all_add (all_cut h d e hd) d (by rw [length_cutN]; exact hd) _ ha hx, by rw [length_addN, length_cutN]⟩
  split
  ·exact ⟨h13, rfl⟩
  split
  ·split
   ·exact ⟨h13, rfl⟩
   split
   ·exact ⟨h13, rfl⟩
   ·exact ⟨all_add (all_cut (all_par h _ hk _) d e (by rw [length_parN]; exact hd)) _ (by rw [length_cutN, length_parN]; exact ht') _ ha hx, by rw [length_addN, length_cutN, length_parN]⟩
  ·exact ⟨all_add (all_cut h d e hd) _ (by rw [length_cutN]; exact ht') _ ha hx, by rw [length_addN, length_cutN]⟩
 ·rw [if_pos h1]; exact ⟨h13, rfl⟩
theorem dropD_all {l : List Nd} {d e : Nat} {x : Hd} (h : AllN 12 l) (hd : d < l.length) (hk : fi l x < l.length) (h2 : 2 ≤ l.length) : AllN 13 (dropD l d e x).1 ∧ 0 < (dropD l d e x).1.length ∧ (dropD l d e x).1.length ≤ l.length := by
 have h13 : AllN 13 l := h.up (by omega)
 unfold dropD
 split
 ·exact ⟨h13, by show 0 < l.length; omega, Nat.le_refl _⟩
 have hc := all_lk (all_cut h13 d e hd) (fi l x) (by rw [length_cutN]; exact hk) (-1)
 have hlen : (lkN (cutN l d e) (fi l x) (-1)).length = l.length := by rw [length_lkN, length_cutN]
 split
 ·refine ⟨all_out hc _, ?_, ?_⟩
  ·show 0 < (outN _ _).length; rw [length_outN _ _ (by rw [hlen]; exact hk), hlen]; omega
  ·show (outN _ _).length ≤ _; rw [length_outN _ _ (by rw [hlen]; exact hk), hlen]; omega
 ·exact ⟨hc, by show 0 < (lkN _ _ _).length; rw [hlen]; omega, by show (lkN _ _ _).length ≤ _; rw [hlen]; exact Nat.le_refl _⟩
end
section
theorem tree_two {l : List Nd} (h : treeOk l = true) {d j : Nat} (hd : d < l.length) (hj : j < (l[d]?.getD nd0).es.length) : 2 ≤ l.length := by
 by_cases h2 : 2 ≤ l.length
 ·exact h2
 ·exfalso
  have h1 : l.length = 1 := by have := (treeOk_len h).1; omega
  obtain ⟨n, rfl⟩ : ∃ n, l = [n] := by
   match l, h1 with
   | [n], _ => exact ⟨n, rfl⟩
  have hd0 : d = 0 := by simpa using hd
  subst hd0
  have hr : n.h = rootH := by
   unfold treeOk headT at h
   simp only [Bool.and_eq_true, decide_eq_true_eq] at h
   exact h.1.2.1
  have p := nodeT_parts (treeOk_at h (i := 0) (by simp))
  have hj' : j < n.es.length := hj
  have hl := p.2.2.1 n.es[j] (List.getElem_mem hj')
  unfold entLead at hl
  simp only [Bool.and_eq_true, decide_eq_true_eq] at hl
  have he : n.h = n.es[j].h := by
   have h3 := hl.1
   unfold fi at h3
   rw [List.findIdx_lt_length] at h3
   obtain ⟨m, hm, h4⟩ := h3
   simp only [List.mem_cons, List.not_mem_nil, or_false] at hm
   subst hm
   simpa using h4
  have ht := p.2.2.2
  have ht' : tailT [n] n = true := ht
  unfold tailT at ht'
  rw [if_pos hr] at ht'
  simp only [decide_eq_true_eq] at ht'
  have hc : 0 < cntE n.es n.h := by
   unfold cntE
   rw [List.countP_pos_iff]
   exact ⟨n.es[j], List.getElem_mem hj', by simp [he]⟩
  unfold cntH at ht'
  simp [psum] at ht'
  omega
def Sm (q : List Nd × RpD) : Prop := AllN 13 q.1 ∧ 0 < q.1.length ∧ q.1.length ≤ 241
theorem Sm.mk' {l : List Nd} (c : RpD) (h : AllN 13 l) (h0 : 0 < l.length) (h1 : l.length ≤ 241) : Sm (l, c) := ⟨h, h0, h1⟩
set_option maxHeartbeats 4000000 in
theorem doD_sm {l : List Nd} {o : OpD} {fr : Hd} (ht : treeOk l = true) (hfr : HdR fr) (hto : HdR o.to) (hn : o.nm.length ≤ 6) (ha : o.asn.length ≤ 6) : Sm (doD l o fr) := by
 have hall := treeOk_all ht
 have h13 : AllN 13 l := hall.up (by omega)
 have hlen := treeOk_len ht
 have hlp : ∀ c, Sm (l, c) := fun c => Sm.mk' c h13 (by omega) (by omega)
 unfold doD
 split
 ·split
  ·exact hlp _
  split
  ·exact hlp _
  rename_i hd
  have hd' := Classical.not_not.1 hd
  split
  ·exact Sm.mk' _ (all_val h13 _ hd' _) (by rw [length_valN]; omega) (by rw [length_valN]; omega)
  ·exact hlp _
 split
 ·exact hlp _
 split
 ·exact hlp _
 rename_i hd
 have hd' := Classical.not_not.1 hd
 generalize fi l o.dir = d at *
 split
 ·exact hlp _
 split
 ·have := moveD_all (o := o) hall hd' (fun j hj => treeOk_in ht d j hd' hj) ha
  exact Sm.mk' _ this.1 (by rw [this.2]; omega) (by rw [this.2]; omega)
 split
 ·split
  ·exact hlp _
  rename_i he
  have he' := Classical.not_not.1 he
  split
  ·exact hlp _
  ·have := dropD_all (e := ei (l[d]?.getD nd0).es o.nm) hall hd' (treeOk_in ht d _ hd' he') (tree_two ht hd' he')
   exact Sm.mk' _ this.1 this.2.1 (Nat.le_trans this.2.2 (by omega))
 split
 ·exact hlp _
 split
 ·have h4 := all_add (c := 12) hall d hd' o.nm hn hfr
  exact Sm.mk' _ (all_ins h4 ⟨hfr, Nat.zero_le _, fun e he => by cases he⟩) (by rw [length_insN]; omega) (by rw [length_insN, length_addN]; omega)
 split
 ·exact hlp _
 split
 ·exact hlp _
 rename_i hk
 have hk' := Classical.not_not.1 hk
 exact Sm.mk' _ (all_add (c := 12) (all_lk hall _ hk' 1) d (by rw [length_lkN]; exact hd') o.nm hn hto) (by rw [length_addN, length_lkN]; omega) (by rw [length_addN, length_lkN]; omega)
theorem dO_sm {l : List Nd} {o : OpD} {fr : Hd} (hc : (dO l o fr).2.code = 0) (hfr : HdR fr) (hto : HdR o.to) (hn : o.nm.length ≤ 6) (ha : o.asn.length ≤ 6) : Sm (dO l o fr) := by
 unfold dO at hc ⊢
 by_cases h1 : (treeOk l && OOk o) = true
 case neg => rw [if_neg h1] at hc; exact absurd (show (11 : Int) = 0 from hc) (by decide)
 rw [if_pos h1] at hc ⊢
 rw [Bool.and_eq_true] at h1
 by_cases h2 : o.kind = 4 ∧ badFr l o fr = true
 case pos => rw [if_pos h2] at hc; exact absurd (show (11 : Int) = 0 from hc) (by decide)
 rw [if_neg h2]
 exact doD_sm h1.1 hfr hto hn ha
end
section
theorem ensB_mono (l : List En) (k : Nat) : (ensB (l.take k)).length ≤ (ensB l).length := by
  have h : ensB l = ensB (l.take k) ++ ensB (l.drop k) := by unfold ensB; rw [← List.flatMap_append, List.take_append_drop]
  rw [h, List.length_append]; omega
set_option maxHeartbeats 8000000 in
theorem ent_up (P : PutC 1) : EntC := by
  intro v x xs es S S2 w r q1 hn h12 hl
  obtain ⟨a, cap, rfl, _⟩ := RdV.sliced q1
  have HR2 : Hid (∀ W, Below w.heap.size w W → RdV W S2 (.slice a es.length cap) (.rows 139 4 es.length (fun i j => enCell (es[i]?.getD en0) j))) := RdV.old q1
  have HL : Hid (szEns es ≤ 1048576) := hn
  have HN : Hid (∀ k, k < es.length → ensB (es.take (k + 1)) = ensB (es.take k) ++ enB (es[k]?.getD en0)) := fun k hk => ensB_next es k hk
  have HEL : Hid (∀ k, (ensB (es.take k)).length ≤ (ensB es).length) := ensB_mono es
  have HEA : Hid (ensB (es.take es.length) = ensB es) := by show _ = _; rw [List.take_length]
  obtain ⟨m, hm⟩ : ∃ m, es.length = m := ⟨_, rfl⟩
  rw [hm] at HR2 HN HEA h12 hl ⊢
  clear q1 hn hm
  rw [List.length_append] at hl
  have HR : Hid (∀ W, Below w.heap.size w W → _) := r.old
  clear r
  have HPC := P.at
  go_enter Tryz.func147, Tryz.ntmps147
  go_wp2_with fail
  refine Calls.mono (implPutR v xs (m : Int) _ _ (HR.out _ (Below.refl _ _)) (by omega)) ?_
  rintro e w5 ⟨v4, rfl, z4, o4, HBB_⟩
  have HO0 : Hid (Owns w5 w.heap.size v4 (xs ++ putB (m : Int))) := o4
  have HZ0 : Hid (isBytes (xs ++ putB (m : Int))) := z4
  have HBB : Hid (Below w.heap.size w w5) := HBB_
  obtain ⟨ys, hys⟩ : ∃ ys, xs ++ putB (m : Int) = ys := ⟨_, rfl⟩
  have hyl : ys.length + (ensB es).length ≤ 1800000 := by rw [← hys, List.length_append]; omega
  have HGO : Hid (xs ++ (putB (m : Int) ++ ensB es) = ys ++ ensB es) := by show _ = _; rw [← hys]; simp [List.append_assoc]
  rw [hys] at HO0 HZ0
  clear hys o4 z4 HBB_ hl HR
  go_wp2
  go_loopw [0, 13] (fun q' i wr => ∃ (k : Nat) (u : Value), k ≤ m ∧ i = .i k ∧ u = q' ∧ Hid (isBytes (ys ++ ensB (es.take k))) ∧ Hid (Owns wr w.heap.size u (ys ++ ensB (es.take k))) ∧ Hid (Below w.heap.size w wr)) (fun _ i _ => m - (intOf i).toNat)
  case atStart => exact ⟨0, v4, Nat.zero_le _, rfl, rfl, by show isBytes _; rw [List.take_zero]; simp only [ensB, List.flatMap_nil, List.append_nil]; exact HZ0.out, by show Owns _ _ _ _; simpa [ensB] using HO0.out, HBB⟩
  case round =>
    clear HO0 HZ0 HBB
    obtain ⟨k, u, hk, rfl, rfl, HZ, HO, hbel⟩ := hrel
    by_cases hlt : k < m
    case neg =>
      have he : k = m := by omega
      subst he
      clear HPC
      go_wp2
      go_ret
      exact ⟨_, rfl, by rw [HGO.out, ← HEA.out]; exact HZ.out, by rw [HGO.out, ← HEA.out]; exact HO.out, hbel.out⟩
    obtain ⟨b, off, rfl, hbl, _, hx⟩ := RdV.at (HR2.out wr hbel.out) hlt
    obtain ⟨e, he⟩ : ∃ e, es[k]?.getD en0 = e := ⟨_, rfl⟩
    obtain ⟨x0, c0, r0⟩ := hx 0 (by omega)
    obtain ⟨x1, c1, r1⟩ := hx 1 (by omega)
    obtain ⟨x2, c2, r2⟩ := hx 2 (by omega)
    obtain ⟨x3, c3, r3⟩ := hx 3 (by omega)
    rw [he] at r0 r1 r2 r3
    have HNX : Hid (ensB (es.take (k + 1)) = ensB (es.take k) ++ enB e) := by rw [HN.out k hlt, he]; rfl
    have hnz : e.nm.length ≤ 1048576 := by have h1 := szEns_at es k; rw [he] at h1; have h2 := HL.out; omega
    clear hx he
    obtain ⟨nm, ⟨s, ino, dd⟩⟩ := e
    obtain rfl : x1 = .i s := r1
    obtain rfl : x2 = .i ino := r2
    obtain rfl : x3 = .bool dd := r3
    simp only [Nat.add_zero] at c0
    dsimp only at hnz HNX
    have r0' : RdV wr S2 x0 (.bytes nm) := r0
    obtain ⟨ax, cx, rfl⟩ := r0'.sliceB
    have RB : Hid (∀ W, Below wr.heap.size wr W → RdV W S2 (.slice ax nm.length cx) (.bytes nm)) := fun W hW => RdV.step r0' hW
    clear r0 r0'
    have hkl := HEL.out (k + 1)
    have hws := hbel.out.size
    have hle : (ys ++ ensB (es.take k)).length + (enB ⟨nm, (s, ino, dd)⟩).length ≤ 1800000 := by
      rw [HNX.out, List.length_append] at hkl
      rw [List.length_append]; omega
    go_wp2_with fail
    refine Calls.mono (HPC u (ys ++ ensB (es.take k)) [(.iface 22 (.slice ax nm.length cx), textB nm), (.iface 24 (Hd.v (s, ino, dd)), hdB (s, ino, dd))] (enB ⟨nm, (s, ino, dd)⟩) (wr.heap.size + 1) (fun _ => True) _ ?ra ?rb ?rc ?rd ?re ?rf ?rg) ?_
    case ra => exact (Owns.step HO.out (by repeat (first | apply bl1 | apply bl2 | apply bl3 | apply bl4))).rdT HZ.out
    case rb => simp [enB]
    case rc => exact heap_new2 _ _ _
    case rd => exact PVs.cons (PutV.t _ (RB.out _ (by repeat (first | apply bl1 | apply bl2 | apply bl3 | apply bl4))) hnz) (PVs.cons (PutV.h _ (by omega) _) PVs.nil)
    case re => simp
    case rf => simp
    case rg => exact hle
    rintro e w3 ⟨v2, rfl, z2, o2, b_⟩
    have b2 : Below wr.heap.size wr w3 := Below.trans (by repeat (first | apply bl1 | apply bl2 | apply bl3 | apply bl4)) (b_.mono (by first | exact Nat.le_refl _ | (simp; omega)))
    have HZ2 : Hid (isBytes (ys ++ ensB (es.take (k + 1)))) := by show isBytes _; rw [HNX.out, ← List.append_assoc]; exact z2
    have HO2 : Hid (Owns w3 w.heap.size v2 (ys ++ ensB (es.take (k + 1)))) := by
      have o_ := o2.base (b' := w.heap.size) (by first | exact hws | (simp; omega))
      show Owns _ _ _ _
      rw [HNX.out, ← List.append_assoc]; exact o_
    have HB2 : Hid (Below w.heap.size w w3) := hbel.out.trans (b2.mono hws)
    clear HZ HO hbel z2 o2 b_
    go_wp2
    refine ⟨?_, ?_⟩
    · exact ⟨k + 1, v2, by omega, by go_num, rfl, HZ2, HO2, HB2⟩
    · simp [intOf]; omega
theorem put0 : PutC 0 := put_up 0 (fun k h => absurd h (Nat.not_lt_zero _)) (fun h => absurd h (by omega))
theorem put1 : PutC 1 := put_up 1 (fun k h => by obtain rfl : k = 0 := by omega
                                                 exact put0) (fun h => absurd h (by omega))
theorem ents : EntC := ent_up put1
theorem put2 : PutC 2 := put_up 2 (fun k h => by
  obtain rfl | rfl : k = 0 ∨ k = 1 := by omega
  · exact put0
  · exact put1) (fun _ => ents)
theorem put3 : PutC 3 := put_up 3 (fun k h => by
  obtain rfl | rfl | rfl : k = 0 ∨ k = 1 ∨ k = 2 := by omega
  · exact put0
  · exact put1
  · exact put2) (fun _ => ents)
end
section
theorem implEnd_w (n : Int) (w : World) : Calls Tryz.prog 64 #[.i n] w fun e w' => e = .returned (.bool (isEndB n)) ∧ w' = w := by
 go_enter Tryz.func64, Tryz.ntmps64
 go_wp2
 all_goals (go_ret; exact ⟨by first | rfl | (simp_all [isEndB]; done) | (simp_all [isEndB]; omega), rfl⟩)
theorem implFlag_w (n : Int) (w : World) : Calls Tryz.prog 164 #[.i n] w fun e w' => e = .returned (.bool (decide (n = 0) || decide (n = 1))) ∧ w' = w := by
 go_enter Tryz.func164, Tryz.ntmps164
 go_wp2
 all_goals (go_ret; exact ⟨by first | rfl | (simp_all; done) | (simp_all; omega) | (simp_all; rw [Bool.eq_iff_iff]; simp; done), rfl⟩)
theorem VarA.l15 {w : World} {b : Nat} {T : TypeId} {x0 x1 x2 x3 x4 x5 x6 x7 x8 x9 x10 x11 x12 x13 x14 : Value} (h : VarA w b T #[x0, x1, x2, x3, x4, x5, x6, x7, x8, x9, x10, x11, x12, x13, x14]) : w.cell? ⟨b, 0, none⟩ = some x0 ∧ w.cell? ⟨b, 1, none⟩ = some x1 ∧ w.cell? ⟨b, 2, none⟩ = some x2 ∧ w.cell? ⟨b, 3, none⟩ = some x3 ∧ w.cell? ⟨b, 4, none⟩ = some x4 ∧ w.cell? ⟨b, 5, none⟩ = some x5 ∧ w.cell? ⟨b, 6, none⟩ = some x6 ∧ w.cell? ⟨b, 7, none⟩ = some x7 ∧ w.cell? ⟨b, 8, none⟩ = some x8 ∧ w.cell? ⟨b, 9, none⟩ = some x9 ∧ w.cell? ⟨b, 10, none⟩ = some x10 ∧ w.cell? ⟨b, 11, none⟩ = some x11 ∧ w.cell? ⟨b, 12, none⟩ = some x12 ∧ w.cell? ⟨b, 13, none⟩ = some x13 ∧ w.cell? ⟨b, 14, none⟩ = some x14 := ⟨h.c 0 rfl, h.c 1 rfl, h.c 2 rfl, h.c 3 rfl, h.c 4 rfl, h.c 5 rfl, h.c 6 rfl, h.c 7 rfl, h.c 8 rfl, h.c 9 rfl, h.c 10 rfl, h.c 11 rfl, h.c 12 rfl, h.c 13 rfl, h.c 14 rfl⟩
set_option maxHeartbeats 4000000 in
theorem okM0 (m : MsD) (a1 a2 a3 a4 : Option Addr) (n1 n2 n3 n4 c1 c2 c3 c4 : Nat) (S : Nat → Prop) (w : World) (r : RdM w S m (.slice a1 n1 c1) (.slice a2 n2 c2) (.slice a3 n3 c3) (.slice a4 n4 c4)) (hl : szMs m ≤ 2097152) :
  Calls Tryz.prog 312 #[.agg #[.i m.req, .i m.op.kind, .i m.op.dir.sh, .i m.op.dir.ino, .bool m.op.dir.dir, .slice a1 n1 c1, .i m.op.to.sh, .i m.op.to.ino, .bool m.op.to.dir, .slice a2 n2 c2, .i m.op.val]] w fun e w' => e = .returned (.bool (num m.req && OOk m.op)) ∧ Below w.heap.size w w' := by
 obtain ⟨r1, r2, r3, r4⟩ := r
 unfold szMs at hl
 have HU : Hid (∀ (n : Int) (W : World), Calls Tryz.prog 107 #[.i n] W fun e w' => e = .returned (.bool (num n)) ∧ w' = W) := fun n W => isNumber_any n W
 have HT : Hid (∀ (a b c : Int) (W : World), Calls Tryz.prog 162 #[.agg #[.i a, .i b, .i c]] W fun e w' => e = .returned (.bool (TOk (a, b, c))) ∧ w' = W.alloc (.cells #[.i a, .i b, .i c] 31)) := fun a b c W => implTxOk_w (a, b, c) W
 have HC : Hid (∀ (n : Int) (W : World), Calls Tryz.prog 106 #[.i n] W fun e w' => e = .returned (.bool (isCd n)) ∧ w' = W) := fun n W => implCode_w n W
 have HFL : Hid (∀ (n : Int) (W : World), Calls Tryz.prog 164 #[.i n] W fun e w' => e = .returned (.bool (decide (n = 0) || decide (n = 1))) ∧ w' = W) := fun n W => implFlag_w n W
 have HD : Hid (∀ (p q : Int) (d : Bool) (W : World), Calls Tryz.prog 226 #[.agg #[.i p, .i q, .bool d]] W fun e w' => e = .returned (.bool (HOk (p, q, d) && d)) ∧ w' = (W.alloc (.cells #[.i p, .i q, .bool d] 24)).alloc (.cells #[.i p, .i q, .bool d] 24)) := fun p q d W => implDir_w (p, q, d) W
 have HN : Hid (∀ (p q : Int) (d : Bool) (W : World), Calls Tryz.prog 108 #[.agg #[.i p, .i q, .bool d]] W fun e w' => e = .returned (.bool (noneOk (p, q, d))) ∧ Below W.heap.size W w') := fun p q d W => implNone_any (p, q, d) W
 have HO : Hid (∀ W, Below w.heap.size w W → _) := fun W hW => implOpOk_any _ _ m.op S W (r1.step hW) (r2.step hW) (by omega) (by omega)
 clear r1 r2 r3 r4 hl
 obtain ⟨kd, fr, to, rq, ⟨ok, ⟨op_, oq, od⟩, nm, ⟨tp, tq, td⟩, asn, ov⟩, ⟨rc, ⟨rp_, rq_, rd⟩, rv, es⟩, ⟨xs, xb, xn⟩, ⟨pk, ⟨pp, pq, pd⟩, pas, ⟨sp, sq, sd⟩⟩, cd, ⟨hp, hq, hd⟩⟩ := m
 dsimp only at HO ⊢
 go_enter Tryz.func312, Tryz.ntmps312
 go_wp2_with (first | (go_at_call 107; refine Calls.mono (HU.out _ _) ?_; rintro e w' ⟨rfl, rfl⟩))
 all_goals first | (go_ret; refine ⟨?_, by repeat (first | exact Below.refl _ _ | refine Below.al ?_ _ | refine Below.drew ?_ | refine below_drewN2 ?_ _)⟩; first | rfl | (simp_all; done) | (simp_all; omega)) | (refine Calls.mono (HO.out _ (by repeat (first | exact Below.refl _ _ | refine Below.al ?_ _ | refine Below.drew ?_ | refine below_drewN2 ?_ _))) ?_; rintro e w2 ⟨rfl, b_⟩; go_wp2; all_goals (go_ret; refine ⟨?_, Below.trans (by repeat (first | exact Below.refl _ _ | refine Below.al ?_ _ | refine Below.drew ?_ | refine below_drewN2 ?_ _)) (b_.mono (by simp <;> omega))⟩; first | rfl | (simp_all; done) | (simp_all; omega)))
set_option maxHeartbeats 4000000 in
theorem okM1 (m : MsD) (a1 a2 a3 a4 : Option Addr) (n1 n2 n3 n4 c1 c2 c3 c4 : Nat) (S : Nat → Prop) (w : World) (r : RdM w S m (.slice a1 n1 c1) (.slice a2 n2 c2) (.slice a3 n3 c3) (.slice a4 n4 c4)) (hl : szMs m ≤ 2097152) :
  Calls Tryz.prog 313 #[.agg #[.i m.req, .i m.rp.code, .i m.rp.h.sh, .i m.rp.h.ino, .bool m.rp.h.dir, .i m.rp.val, .slice a3 n3 c3]] w fun e w' => e = .returned (.bool (num m.req && ROk m.rp)) ∧ Below w.heap.size w w' := by
 obtain ⟨r1, r2, r3, r4⟩ := r
 unfold szMs at hl
 have HU : Hid (∀ (n : Int) (W : World), Calls Tryz.prog 107 #[.i n] W fun e w' => e = .returned (.bool (num n)) ∧ w' = W) := fun n W => isNumber_any n W
 have HT : Hid (∀ (a b c : Int) (W : World), Calls Tryz.prog 162 #[.agg #[.i a, .i b, .i c]] W fun e w' => e = .returned (.bool (TOk (a, b, c))) ∧ w' = W.alloc (.cells #[.i a, .i b, .i c] 31)) := fun a b c W => implTxOk_w (a, b, c) W
 have HC : Hid (∀ (n : Int) (W : World), Calls Tryz.prog 106 #[.i n] W fun e w' => e = .returned (.bool (isCd n)) ∧ w' = W) := fun n W => implCode_w n W
 have HFL : Hid (∀ (n : Int) (W : World), Calls Tryz.prog 164 #[.i n] W fun e w' => e = .returned (.bool (decide (n = 0) || decide (n = 1))) ∧ w' = W) := fun n W => implFlag_w n W
 have HD : Hid (∀ (p q : Int) (d : Bool) (W : World), Calls Tryz.prog 226 #[.agg #[.i p, .i q, .bool d]] W fun e w' => e = .returned (.bool (HOk (p, q, d) && d)) ∧ w' = (W.alloc (.cells #[.i p, .i q, .bool d] 24)).alloc (.cells #[.i p, .i q, .bool d] 24)) := fun p q d W => implDir_w (p, q, d) W
 have HN : Hid (∀ (p q : Int) (d : Bool) (W : World), Calls Tryz.prog 108 #[.agg #[.i p, .i q, .bool d]] W fun e w' => e = .returned (.bool (noneOk (p, q, d))) ∧ Below W.heap.size W w') := fun p q d W => implNone_any (p, q, d) W
 have HO : Hid (∀ W, Below w.heap.size w W → _) := fun W hW => implReplyOk_any _ m.rp S W (r3.step hW) (by omega)
 clear r1 r2 r3 r4 hl
 obtain ⟨kd, fr, to, rq, ⟨ok, ⟨op_, oq, od⟩, nm, ⟨tp, tq, td⟩, asn, ov⟩, ⟨rc, ⟨rp_, rq_, rd⟩, rv, es⟩, ⟨xs, xb, xn⟩, ⟨pk, ⟨pp, pq, pd⟩, pas, ⟨sp, sq, sd⟩⟩, cd, ⟨hp, hq, hd⟩⟩ := m
 dsimp only at HO ⊢
 go_enter Tryz.func313, Tryz.ntmps313
 go_wp2_with (first | (go_at_call 107; refine Calls.mono (HU.out _ _) ?_; rintro e w' ⟨rfl, rfl⟩))
 all_goals first | (go_ret; refine ⟨?_, by repeat (first | exact Below.refl _ _ | refine Below.al ?_ _ | refine Below.drew ?_ | refine below_drewN2 ?_ _)⟩; first | rfl | (simp_all; done) | (simp_all; omega)) | (refine Calls.mono (HO.out _ (by repeat (first | exact Below.refl _ _ | refine Below.al ?_ _ | refine Below.drew ?_ | refine below_drewN2 ?_ _))) ?_; rintro e w2 ⟨rfl, b_⟩; go_wp2; all_goals (go_ret; refine ⟨?_, Below.trans (by repeat (first | exact Below.refl _ _ | refine Below.al ?_ _ | refine Below.drew ?_ | refine below_drewN2 ?_ _)) (b_.mono (by simp <;> omega))⟩; first | rfl | (simp_all; done) | (simp_all; omega)))
set_option maxHeartbeats 4000000 in
theorem okM2 (m : MsD) (a1 a2 a3 a4 : Option Addr) (n1 n2 n3 n4 c1 c2 c3 c4 : Nat) (S : Nat → Prop) (w : World) (r : RdM w S m (.slice a1 n1 c1) (.slice a2 n2 c2) (.slice a3 n3 c3) (.slice a4 n4 c4)) (hl : szMs m ≤ 2097152) :
  Calls Tryz.prog 314 #[.agg #[.i m.tx.1, .i m.tx.2.1, .i m.tx.2.2, .i m.pt.kind, .i m.pt.h.sh, .i m.pt.h.ino, .bool m.pt.h.dir, .slice a4 n4 c4, .i m.pt.to.sh, .i m.pt.to.ino, .bool m.pt.to.dir]] w fun e w' => e = .returned (.bool (TOk m.tx && POk m.pt)) ∧ Below w.heap.size w w' := by
 obtain ⟨r1, r2, r3, r4⟩ := r
 unfold szMs at hl
 have HU : Hid (∀ (n : Int) (W : World), Calls Tryz.prog 107 #[.i n] W fun e w' => e = .returned (.bool (num n)) ∧ w' = W) := fun n W => isNumber_any n W
 have HT : Hid (∀ (a b c : Int) (W : World), Calls Tryz.prog 162 #[.agg #[.i a, .i b, .i c]] W fun e w' => e = .returned (.bool (TOk (a, b, c))) ∧ w' = W.alloc (.cells #[.i a, .i b, .i c] 31)) := fun a b c W => implTxOk_w (a, b, c) W
 have HC : Hid (∀ (n : Int) (W : World), Calls Tryz.prog 106 #[.i n] W fun e w' => e = .returned (.bool (isCd n)) ∧ w' = W) := fun n W => implCode_w n W
 have HFL : Hid (∀ (n : Int) (W : World), Calls Tryz.prog 164 #[.i n] W fun e w' => e = .returned (.bool (decide (n = 0) || decide (n = 1))) ∧ w' = W) := fun n W => implFlag_w n W
 have HD : Hid (∀ (p q : Int) (d : Bool) (W : World), Calls Tryz.prog 226 #[.agg #[.i p, .i q, .bool d]] W fun e w' => e = .returned (.bool (HOk (p, q, d) && d)) ∧ w' = (W.alloc (.cells #[.i p, .i q, .bool d] 24)).alloc (.cells #[.i p, .i q, .bool d] 24)) := fun p q d W => implDir_w (p, q, d) W
 have HN : Hid (∀ (p q : Int) (d : Bool) (W : World), Calls Tryz.prog 108 #[.agg #[.i p, .i q, .bool d]] W fun e w' => e = .returned (.bool (noneOk (p, q, d))) ∧ Below W.heap.size W w') := fun p q d W => implNone_any (p, q, d) W
 have HO : Hid (∀ W, Below w.heap.size w W → _) := fun W hW => implPartOk_any _ m.pt S W (r4.step hW) (by omega)
 clear r1 r2 r3 r4 hl
 obtain ⟨kd, fr, to, rq, ⟨ok, ⟨op_, oq, od⟩, nm, ⟨tp, tq, td⟩, asn, ov⟩, ⟨rc, ⟨rp_, rq_, rd⟩, rv, es⟩, ⟨xs, xb, xn⟩, ⟨pk, ⟨pp, pq, pd⟩, pas, ⟨sp, sq, sd⟩⟩, cd, ⟨hp, hq, hd⟩⟩ := m
 dsimp only at HO ⊢
 go_enter Tryz.func314, Tryz.ntmps314
 go_wp2_with (first | (go_at_call 162; refine Calls.mono (HT.out _ _ _ _) ?_; rintro e w' ⟨rfl, rfl⟩))
 all_goals first | (go_ret; refine ⟨?_, by repeat (first | exact Below.refl _ _ | refine Below.al ?_ _ | refine Below.drew ?_ | refine below_drewN2 ?_ _)⟩; first | rfl | (simp_all; done) | (simp_all; omega)) | (refine Calls.mono (HO.out _ (by repeat (first | exact Below.refl _ _ | refine Below.al ?_ _ | refine Below.drew ?_ | refine below_drewN2 ?_ _))) ?_; rintro e w2 ⟨rfl, b_⟩; go_wp2; all_goals (go_ret; refine ⟨?_, Below.trans (by repeat (first | exact Below.refl _ _ | refine Below.al ?_ _ | refine Below.drew ?_ | refine below_drewN2 ?_ _)) (b_.mono (by simp <;> omega))⟩; first | rfl | (simp_all; done) | (simp_all; omega)))
set_option maxHeartbeats 4000000 in
theorem okM3 (m : MsD) (a1 a2 a3 a4 : Option Addr) (n1 n2 n3 n4 c1 c2 c3 c4 : Nat) (S : Nat → Prop) (w : World) (r : RdM w S m (.slice a1 n1 c1) (.slice a2 n2 c2) (.slice a3 n3 c3) (.slice a4 n4 c4)) (hl : szMs m ≤ 2097152) :
  Calls Tryz.prog 315 #[.agg #[.i m.tx.1, .i m.tx.2.1, .i m.tx.2.2, .i m.pt.kind, .i m.pt.h.sh, .i m.pt.h.ino, .bool m.pt.h.dir, .slice a4 n4 c4, .i m.pt.to.sh, .i m.pt.to.ino, .bool m.pt.to.dir, .i m.code, .i m.h.sh, .i m.h.ino, .bool m.h.dir]] w fun e w' => e = .returned (.bool (TOk m.tx && (POk m.pt && (isCd m.code && noneOk m.h)))) ∧ Below w.heap.size w w' := by
 obtain ⟨r1, r2, r3, r4⟩ := r
 unfold szMs at hl
 have HU : Hid (∀ (n : Int) (W : World), Calls Tryz.prog 107 #[.i n] W fun e w' => e = .returned (.bool (num n)) ∧ w' = W) := fun n W => isNumber_any n W
 have HT : Hid (∀ (a b c : Int) (W : World), Calls Tryz.prog 162 #[.agg #[.i a, .i b, .i c]] W fun e w' => e = .returned (.bool (TOk (a, b, c))) ∧ w' = W.alloc (.cells #[.i a, .i b, .i c] 31)) := fun a b c W => implTxOk_w (a, b, c) W
 have HC : Hid (∀ (n : Int) (W : World), Calls Tryz.prog 106 #[.i n] W fun e w' => e = .returned (.bool (isCd n)) ∧ w' = W) := fun n W => implCode_w n W
 have HFL : Hid (∀ (n : Int) (W : World), Calls Tryz.prog 164 #[.i n] W fun e w' => e = .returned (.bool (decide (n = 0) || decide (n = 1))) ∧ w' = W) := fun n W => implFlag_w n W
 have HD : Hid (∀ (p q : Int) (d : Bool) (W : World), Calls Tryz.prog 226 #[.agg #[.i p, .i q, .bool d]] W fun e w' => e = .returned (.bool (HOk (p, q, d) && d)) ∧ w' = (W.alloc (.cells #[.i p, .i q, .bool d] 24)).alloc (.cells #[.i p, .i q, .bool d] 24)) := fun p q d W => implDir_w (p, q, d) W
 have HN : Hid (∀ (p q : Int) (d : Bool) (W : World), Calls Tryz.prog 108 #[.agg #[.i p, .i q, .bool d]] W fun e w' => e = .returned (.bool (noneOk (p, q, d))) ∧ Below W.heap.size W w') := fun p q d W => implNone_any (p, q, d) W
 have HO : Hid (∀ W, Below w.heap.size w W → _) := fun W hW => implPartOk_any _ m.pt S W (r4.step hW) (by omega)
 clear r1 r2 r3 r4 hl
 obtain ⟨kd, fr, to, rq, ⟨ok, ⟨op_, oq, od⟩, nm, ⟨tp, tq, td⟩, asn, ov⟩, ⟨rc, ⟨rp_, rq_, rd⟩, rv, es⟩, ⟨xs, xb, xn⟩, ⟨pk, ⟨pp, pq, pd⟩, pas, ⟨sp, sq, sd⟩⟩, cd, ⟨hp, hq, hd⟩⟩ := m
 dsimp only at HO ⊢
 go_enter Tryz.func315, Tryz.ntmps315
 go_wp2_with (first | (go_at_call 162; refine Calls.mono (HT.out _ _ _ _) ?_; rintro e w' ⟨rfl, rfl⟩))
 all_goals first | (go_ret; refine ⟨?_, by repeat (first | exact Below.refl _ _ | refine Below.al ?_ _ | refine Below.drew ?_ | refine below_drewN2 ?_ _)⟩; first | rfl | (simp_all; done) | (simp_all; omega)) | (refine Calls.mono (HO.out _ (by repeat (first | exact Below.refl _ _ | refine Below.al ?_ _ | refine Below.drew ?_ | refine below_drewN2 ?_ _))) ?_; rintro e w2 ⟨rfl, b_⟩; have vA : VarA w2 w.heap.size 195 #[.i xs, .i xb, .i xn, .i pk, .i pp, .i pq, .bool pd, .slice a4 n4 c4, .i sp, .i sq, .bool sd, .i cd, .i hp, .i hq, .bool hd] := VarA.step ((VarA.new w _ _).alloc _) b_; have HB : Hid (Below w.heap.size w w2) := Below.trans (by repeat (first | exact Below.refl _ _ | refine Below.al ?_ _ | refine Below.drew ?_ | refine below_drewN2 ?_ _)) (b_.mono (by simp <;> omega)); clear b_; obtain ⟨a0_, a1_, a2_, a3_, a4_, a5_, a6_, a7_, a8_, a9_, a10_, a11_, a12_, a13_, a14_⟩ := vA.l15; go_wp2_with (first | (go_at_call 106; refine Calls.mono (HC.out _ _) ?_; rintro e w' ⟨rfl, rfl⟩)); all_goals first | (go_ret; refine ⟨?_, HB.out⟩; first | rfl | (simp_all; done) | (simp_all; omega)) | (refine Calls.mono (HN.out _ _ _ _) ?_; rintro e w3 ⟨rfl, b_⟩; go_wp2; all_goals (go_ret; refine ⟨?_, HB.out.trans (b_.mono HB.out.size)⟩; first | rfl | (simp_all; done) | (simp_all; omega))))
set_option maxHeartbeats 4000000 in
theorem okM4 (m : MsD) (a1 a2 a3 a4 : Option Addr) (n1 n2 n3 n4 c1 c2 c3 c4 : Nat) (S : Nat → Prop) (w : World) (r : RdM w S m (.slice a1 n1 c1) (.slice a2 n2 c2) (.slice a3 n3 c3) (.slice a4 n4 c4)) (hl : szMs m ≤ 2097152) :
  Calls Tryz.prog 316 #[.agg #[.i m.tx.1, .i m.tx.2.1, .i m.tx.2.2]] w fun e w' => e = .returned (.bool (TOk m.tx)) ∧ Below w.heap.size w w' := by
 obtain ⟨r1, r2, r3, r4⟩ := r
 unfold szMs at hl
 have HU : Hid (∀ (n : Int) (W : World), Calls Tryz.prog 107 #[.i n] W fun e w' => e = .returned (.bool (num n)) ∧ w' = W) := fun n W => isNumber_any n W
 have HT : Hid (∀ (a b c : Int) (W : World), Calls Tryz.prog 162 #[.agg #[.i a, .i b, .i c]] W fun e w' => e = .returned (.bool (TOk (a, b, c))) ∧ w' = W.alloc (.cells #[.i a, .i b, .i c] 31)) := fun a b c W => implTxOk_w (a, b, c) W
 have HC : Hid (∀ (n : Int) (W : World), Calls Tryz.prog 106 #[.i n] W fun e w' => e = .returned (.bool (isCd n)) ∧ w' = W) := fun n W => implCode_w n W
 have HFL : Hid (∀ (n : Int) (W : World), Calls Tryz.prog 164 #[.i n] W fun e w' => e = .returned (.bool (decide (n = 0) || decide (n = 1))) ∧ w' = W) := fun n W => implFlag_w n W
 have HD : Hid (∀ (p q : Int) (d : Bool) (W : World), Calls Tryz.prog 226 #[.agg #[.i p, .i q, .bool d]] W fun e w' => e = .returned (.bool (HOk (p, q, d) && d)) ∧ w' = (W.alloc (.cells #[.i p, .i q, .bool d] 24)).alloc (.cells #[.i p, .i q, .bool d] 24)) := fun p q d W => implDir_w (p, q, d) W
 have HN : Hid (∀ (p q : Int) (d : Bool) (W : World), Calls Tryz.prog 108 #[.agg #[.i p, .i q, .bool d]] W fun e w' => e = .returned (.bool (noneOk (p, q, d))) ∧ Below W.heap.size W w') := fun p q d W => implNone_any (p, q, d) W
 clear r1 r2 r3 r4 hl
 obtain ⟨kd, fr, to, rq, ⟨ok, ⟨op_, oq, od⟩, nm, ⟨tp, tq, td⟩, asn, ov⟩, ⟨rc, ⟨rp_, rq_, rd⟩, rv, es⟩, ⟨xs, xb, xn⟩, ⟨pk, ⟨pp, pq, pd⟩, pas, ⟨sp, sq, sd⟩⟩, cd, ⟨hp, hq, hd⟩⟩ := m
 dsimp only
 go_enter Tryz.func316, Tryz.ntmps316
 go_wp2_with (first | (go_at_call 162; refine Calls.mono (HT.out _ _ _ _) ?_; rintro e w' ⟨rfl, rfl⟩))
 all_goals (go_ret; refine ⟨?_, by repeat (first | exact Below.refl _ _ | refine Below.al ?_ _ | refine Below.drew ?_ | refine below_drewN2 ?_ _)⟩; first | rfl | (simp_all; done) | (simp_all; omega))
set_option maxHeartbeats 4000000 in
theorem okM5 (m : MsD) (a1 a2 a3 a4 : Option Addr) (n1 n2 n3 n4 c1 c2 c3 c4 : Nat) (S : Nat → Prop) (w : World) (r : RdM w S m (.slice a1 n1 c1) (.slice a2 n2 c2) (.slice a3 n3 c3) (.slice a4 n4 c4)) (hl : szMs m ≤ 2097152) :
  Calls Tryz.prog 317 #[.agg #[.i m.tx.1, .i m.tx.2.1, .i m.tx.2.2, .i m.code]] w fun e w' => e = .returned (.bool (TOk m.tx && (decide (m.code = 0) || decide (m.code = 1)))) ∧ Below w.heap.size w w' := by
 obtain ⟨r1, r2, r3, r4⟩ := r
 unfold szMs at hl
 have HU : Hid (∀ (n : Int) (W : World), Calls Tryz.prog 107 #[.i n] W fun e w' => e = .returned (.bool (num n)) ∧ w' = W) := fun n W => isNumber_any n W
 have HT : Hid (∀ (a b c : Int) (W : World), Calls Tryz.prog 162 #[.agg #[.i a, .i b, .i c]] W fun e w' => e = .returned (.bool (TOk (a, b, c))) ∧ w' = W.alloc (.cells #[.i a, .i b, .i c] 31)) := fun a b c W => implTxOk_w (a, b, c) W
 have HC : Hid (∀ (n : Int) (W : World), Calls Tryz.prog 106 #[.i n] W fun e w' => e = .returned (.bool (isCd n)) ∧ w' = W) := fun n W => implCode_w n W
 have HFL : Hid (∀ (n : Int) (W : World), Calls Tryz.prog 164 #[.i n] W fun e w' => e = .returned (.bool (decide (n = 0) || decide (n = 1))) ∧ w' = W) := fun n W => implFlag_w n W
 have HD : Hid (∀ (p q : Int) (d : Bool) (W : World), Calls Tryz.prog 226 #[.agg #[.i p, .i q, .bool d]] W fun e w' => e = .returned (.bool (HOk (p, q, d) && d)) ∧ w' = (W.alloc (.cells #[.i p, .i q, .bool d] 24)).alloc (.cells #[.i p, .i q, .bool d] 24)) := fun p q d W => implDir_w (p, q, d) W
 have HN : Hid (∀ (p q : Int) (d : Bool) (W : World), Calls Tryz.prog 108 #[.agg #[.i p, .i q, .bool d]] W fun e w' => e = .returned (.bool (noneOk (p, q, d))) ∧ Below W.heap.size W w') := fun p q d W => implNone_any (p, q, d) W
 clear r1 r2 r3 r4 hl
 obtain ⟨kd, fr, to, rq, ⟨ok, ⟨op_, oq, od⟩, nm, ⟨tp, tq, td⟩, asn, ov⟩, ⟨rc, ⟨rp_, rq_, rd⟩, rv, es⟩, ⟨xs, xb, xn⟩, ⟨pk, ⟨pp, pq, pd⟩, pas, ⟨sp, sq, sd⟩⟩, cd, ⟨hp, hq, hd⟩⟩ := m
 dsimp only
 go_enter Tryz.func317, Tryz.ntmps317
 go_wp2_with (first | (go_at_call 162; refine Calls.mono (HT.out _ _ _ _) ?_; rintro e w' ⟨rfl, rfl⟩) | (go_at_call 164; refine Calls.mono (HFL.out _ _) ?_; rintro e w' ⟨rfl, rfl⟩))
 all_goals (go_ret; refine ⟨?_, by repeat (first | exact Below.refl _ _ | refine Below.al ?_ _ | refine Below.drew ?_ | refine below_drewN2 ?_ _)⟩; first | rfl | (simp_all; done) | (simp_all; omega))
set_option maxHeartbeats 4000000 in
theorem okM6 (m : MsD) (a1 a2 a3 a4 : Option Addr) (n1 n2 n3 n4 c1 c2 c3 c4 : Nat) (S : Nat → Prop) (w : World) (r : RdM w S m (.slice a1 n1 c1) (.slice a2 n2 c2) (.slice a3 n3 c3) (.slice a4 n4 c4)) (hl : szMs m ≤ 2097152) :
  Calls Tryz.prog 318 #[.agg #[.i m.tx.1, .i m.tx.2.1, .i m.tx.2.2, .i m.req, .i m.h.sh, .i m.h.ino, .bool m.h.dir]] w fun e w' => e = .returned (.bool (TOk m.tx && (num m.req && (HOk m.h && m.h.dir)))) ∧ Below w.heap.size w w' := by
 obtain ⟨r1, r2, r3, r4⟩ := r
 unfold szMs at hl
 have HU : Hid (∀ (n : Int) (W : World), Calls Tryz.prog 107 #[.i n] W fun e w' => e = .returned (.bool (num n)) ∧ w' = W) := fun n W => isNumber_any n W
 have HT : Hid (∀ (a b c : Int) (W : World), Calls Tryz.prog 162 #[.agg #[.i a, .i b, .i c]] W fun e w' => e = .returned (.bool (TOk (a, b, c))) ∧ w' = W.alloc (.cells #[.i a, .i b, .i c] 31)) := fun a b c W => implTxOk_w (a, b, c) W
 have HC : Hid (∀ (n : Int) (W : World), Calls Tryz.prog 106 #[.i n] W fun e w' => e = .returned (.bool (isCd n)) ∧ w' = W) := fun n W => implCode_w n W
 have HFL : Hid (∀ (n : Int) (W : World), Calls Tryz.prog 164 #[.i n] W fun e w' => e = .returned (.bool (decide (n = 0) || decide (n = 1))) ∧ w' = W) := fun n W => implFlag_w n W
 have HD : Hid (∀ (p q : Int) (d : Bool) (W : World), Calls Tryz.prog 226 #[.agg #[.i p, .i q, .bool d]] W fun e w' => e = .returned (.bool (HOk (p, q, d) && d)) ∧ w' = (W.alloc (.cells #[.i p, .i q, .bool d] 24)).alloc (.cells #[.i p, .i q, .bool d] 24)) := fun p q d W => implDir_w (p, q, d) W
 have HN : Hid (∀ (p q : Int) (d : Bool) (W : World), Calls Tryz.prog 108 #[.agg #[.i p, .i q, .bool d]] W fun e w' => e = .returned (.bool (noneOk (p, q, d))) ∧ Below W.heap.size W w') := fun p q d W => implNone_any (p, q, d) W
 clear r1 r2 r3 r4 hl
 obtain ⟨kd, fr, to, rq, ⟨ok, ⟨op_, oq, od⟩, nm, ⟨tp, tq, td⟩, asn, ov⟩, ⟨rc, ⟨rp_, rq_, rd⟩, rv, es⟩, ⟨xs, xb, xn⟩, ⟨pk, ⟨pp, pq, pd⟩, pas, ⟨sp, sq, sd⟩⟩, cd, ⟨hp, hq, hd⟩⟩ := m
 dsimp only
 go_enter Tryz.func318, Tryz.ntmps318
 go_wp2_with (first | (go_at_call 162; refine Calls.mono (HT.out _ _ _ _) ?_; rintro e w' ⟨rfl, rfl⟩) | (go_at_call 107; refine Calls.mono (HU.out _ _) ?_; rintro e w' ⟨rfl, rfl⟩) | (go_at_call 226; refine Calls.mono (HD.out _ _ _ _) ?_; rintro e w' ⟨rfl, rfl⟩))
 all_goals (go_ret; refine ⟨?_, by repeat (first | exact Below.refl _ _ | refine Below.al ?_ _ | refine Below.drew ?_ | refine below_drewN2 ?_ _)⟩; first | rfl | (simp_all; done) | (simp_all; omega))
set_option maxHeartbeats 4000000 in
theorem okM7 (m : MsD) (a1 a2 a3 a4 : Option Addr) (n1 n2 n3 n4 c1 c2 c3 c4 : Nat) (S : Nat → Prop) (w : World) (r : RdM w S m (.slice a1 n1 c1) (.slice a2 n2 c2) (.slice a3 n3 c3) (.slice a4 n4 c4)) (hl : szMs m ≤ 2097152) :
  Calls Tryz.prog 319 #[.agg #[.i m.tx.1, .i m.tx.2.1, .i m.tx.2.2, .i m.req, .i m.code, .i m.h.sh, .i m.h.ino, .bool m.h.dir]] w fun e w' => e = .returned (.bool (TOk m.tx && (num m.req && (isCd m.code && noneOk m.h)))) ∧ Below w.heap.size w w' := by
 obtain ⟨r1, r2, r3, r4⟩ := r
 unfold szMs at hl
 have HU : Hid (∀ (n : Int) (W : World), Calls Tryz.prog 107 #[.i n] W fun e w' => e = .returned (.bool (num n)) ∧ w' = W) := fun n W => isNumber_any n W
 have HT : Hid (∀ (a b c : Int) (W : World), Calls Tryz.prog 162 #[.agg #[.i a, .i b, .i c]] W fun e w' => e = .returned (.bool (TOk (a, b, c))) ∧ w' = W.alloc (.cells #[.i a, .i b, .i c] 31)) := fun a b c W => implTxOk_w (a, b, c) W
 have HC : Hid (∀ (n : Int) (W : World), Calls Tryz.prog 106 #[.i n] W fun e w' => e = .returned (.bool (isCd n)) ∧ w' = W) := fun n W => implCode_w n W
 have HFL : Hid (∀ (n : Int) (W : World), Calls Tryz.prog 164 #[.i n] W fun e w' => e = .returned (.bool (decide (n = 0) || decide (n = 1))) ∧ w' = W) := fun n W => implFlag_w n W
 have HD : Hid (∀ (p q : Int) (d : Bool) (W : World), Calls Tryz.prog 226 #[.agg #[.i p, .i q, .bool d]] W fun e w' => e = .returned (.bool (HOk (p, q, d) && d)) ∧ w' = (W.alloc (.cells #[.i p, .i q, .bool d] 24)).alloc (.cells #[.i p, .i q, .bool d] 24)) := fun p q d W => implDir_w (p, q, d) W
 have HN : Hid (∀ (p q : Int) (d : Bool) (W : World), Calls Tryz.prog 108 #[.agg #[.i p, .i q, .bool d]] W fun e w' => e = .returned (.bool (noneOk (p, q, d))) ∧ Below W.heap.size W w') := fun p q d W => implNone_any (p, q, d) W
 clear r1 r2 r3 r4 hl
 obtain ⟨kd, fr, to, rq, ⟨ok, ⟨op_, oq, od⟩, nm, ⟨tp, tq, td⟩, asn, ov⟩, ⟨rc, ⟨rp_, rq_, rd⟩, rv, es⟩, ⟨xs, xb, xn⟩, ⟨pk, ⟨pp, pq, pd⟩, pas, ⟨sp, sq, sd⟩⟩, cd, ⟨hp, hq, hd⟩⟩ := m
 dsimp only
 go_enter Tryz.func319, Tryz.ntmps319
 go_wp2_with (first | (go_at_call 162; refine Calls.mono (HT.out _ _ _ _) ?_; rintro e w' ⟨rfl, rfl⟩) | (go_at_call 107; refine Calls.mono (HU.out _ _) ?_; rintro e w' ⟨rfl, rfl⟩) | (go_at_call 106; refine Calls.mono (HC.out _ _) ?_; rintro e w' ⟨rfl, rfl⟩))
 all_goals first | (go_ret; refine ⟨?_, by repeat (first | exact Below.refl _ _ | refine Below.al ?_ _ | refine Below.drew ?_ | refine below_drewN2 ?_ _)⟩; first | rfl | (simp_all; done) | (simp_all; omega)) | (refine Calls.mono (HN.out _ _ _ _) ?_; rintro e w2 ⟨rfl, b_⟩; go_wp2; all_goals (go_ret; refine ⟨?_, Below.trans (by repeat (first | exact Below.refl _ _ | refine Below.al ?_ _ | refine Below.drew ?_ | refine below_drewN2 ?_ _)) (b_.mono (by simp <;> omega))⟩; first | rfl | (simp_all; done) | (simp_all; omega)))
end
section
theorem step_storeF {ty t' : TypeId} {dst : Option Tmp} {x y : Operand} {pos : String} {af : Array Edge} {ops : Array Oper} {a : Act} {K : Act → World → Prop} {Q : Exit → Act → World → Prop} {E : Prop} {w : World} {g off : Nat} {T : TypeId} {old vs new : Array Value}
  (hv : VarA w g T old) (hx : a.eval x = .pointer (some ⟨g, off, none⟩)) (hy : a.eval y = .agg vs) (hi : (Tryz.prog.info? ty).map (·.size) = some vs.size) (h1 : vs.toList.all (·.oneCell') = true) (hl : off + vs.size ≤ old.size)
  (hnew : (old.toList.take off ++ vs.toList ++ old.toList.drop (off + vs.size)).toArray = new)
  (hK : ∀ w', VarA w' g T new → Turned (fun b => b = g) w w' → K (a.put dst undef) w') :
  if Region.wanted ⟨dst, .store ty x y, t', pos, af, none⟩ (yielded ops a.tmps) = true then Oper.wp Tryz.prog ⟨dst, .store ty x y, t', pos, af, none⟩ a w K Q else E := by
 rw [if_pos (by simp [Region.wanted])]
 unfold Oper.wp execOp
 simp only [hx, hy, Instr.storeAt, Instr.sureAddr, Sem.run_bind, Sem.run_pure, Result.andThen_ok, storeF_run hv hl hi h1]
 rw [hnew]
 exact hK _ (VarA.row hv) (turned_row w g new)
theorem assert_nil {P : Program} {a xT : TypeId} {d : TypeDesc} {z : Value} (hu : P.underlying a = some d) (hd : (match d with | .interface _ => false | _ => true) = true) (hz : (P.info? a).map (·.zero) = some (some z)) (w : World) :
  (Instr.typeAssert .nilIface xT a true).run P w = .ok (.tuple #[z, .bool false]) w := by
 obtain ⟨j, hj, hz'⟩ := Option.map_eq_some_iff.1 hz
 cases d <;> simp_all [Instr.typeAssert, run_underlying hu, zeroValue, typeInfo]
set_option maxHeartbeats 2000000 in
theorem contentX (pb : Nat) (n : Int) (w : World) (hk : n < 0 ∨ 7 < n) : Calls Tryz.prog 69 #[.pointer (some ⟨pb, 0, none⟩), .i n] w fun e w' => e = .returned .nilIface ∧ w' = w := by
 go_enter Tryz.func69, Tryz.ntmps69
 go_wp2
 all_goals first | (go_ret; exact ⟨rfl, rfl⟩) | (exfalso; omega)
set_option maxHeartbeats 4000000 in
theorem withX (n0 n1 n2 : Int) (w : World) : Calls Tryz.prog 67 #[msV ⟨n0, n1, n2, 0, op0, rp0, tx0, pt0, 0, hd0⟩ (.slice none 0 0) (.slice none 0 0) (.slice none 0 0) (.slice none 0 0), .nilIface] w fun e w' => e = .returned (msV ⟨n0, n1, n2, 0, op0, rp0, tx0, pt0, 0, hd0⟩ (.slice none 0 0) (.slice none 0 0) (.slice none 0 0) (.slice none 0 0)) ∧ Below w.heap.size w w' := by
 simp only [op0, rp0, tx0, pt0, hd0]
 have hM0 := fun W => assert_nil (a := 189) (xT := 96) (z := .agg #[.i 0, .i 0, .i 0, .i 0, .bool false, .slice none 0 0, .i 0, .i 0, .bool false, .slice none 0 0, .i 0]) Tryz.underlying189 rfl (by kernel_rfl) W
 have hM1 := fun W => assert_nil (a := 191) (xT := 96) (z := .agg #[.i 0, .i 0, .i 0, .i 0, .bool false, .i 0, .slice none 0 0]) Tryz.underlying191 rfl (by kernel_rfl) W
 have hM2 := fun W => assert_nil (a := 193) (xT := 96) (z := .agg #[.i 0, .i 0, .i 0, .i 0, .i 0, .i 0, .bool false, .slice none 0 0, .i 0, .i 0, .bool false]) Tryz.underlying193 rfl (by kernel_rfl) W
 have hM3 := fun W => assert_nil (a := 195) (xT := 96) (z := .agg #[.i 0, .i 0, .i 0, .i 0, .i 0, .i 0, .bool false, .slice none 0 0, .i 0, .i 0, .bool false, .i 0, .i 0, .i 0, .bool false]) Tryz.underlying195 rfl (by kernel_rfl) W
 have hM4 := fun W => assert_nil (a := 197) (xT := 96) (z := .agg #[.i 0, .i 0, .i 0]) Tryz.underlying197 rfl (by kernel_rfl) W
 have hM5 := fun W => assert_nil (a := 199) (xT := 96) (z := .agg #[.i 0, .i 0, .i 0, .i 0]) Tryz.underlying199 rfl (by kernel_rfl) W
 have hM6 := fun W => assert_nil (a := 201) (xT := 96) (z := .agg #[.i 0, .i 0, .i 0, .i 0, .i 0, .i 0, .bool false]) Tryz.underlying201 rfl (by kernel_rfl) W
 have hM7 := fun W => assert_nil (a := 203) (xT := 96) (z := .agg #[.i 0, .i 0, .i 0, .i 0, .i 0, .i 0, .i 0, .bool false]) Tryz.underlying203 rfl (by kernel_rfl) W
 go_enter Tryz.func67, Tryz.ntmps67
 repeat (first | ((with_reducible refine gS 35 ?_); refine sF (VarA.new1 w _ _ _) rfl rfl (by kernel_rfl) rfl rfl ?_; intro w' vR t_) | ((with_reducible refine guardLoad (ty := 35) ?_); refine wpList_loadA ((VarA.new w _ _).alloc _) rfl Tryz.underlying35 rfl (by kernel_rfl) ?_) | go_values | go_skip | go_guarded | go_step | go_upon)
 refine bodyPost_ret (results_cell_row Tryz.results67 _ _ _ _ _ _ _ rfl vR Tryz.underlying35 rfl (by kernel_rfl)) rfl ⟨rfl, ?_⟩
 exact Turned.below (by repeat (first | exact Below.refl _ _ | refine Below.al ?_ _ | refine Below.drew ?_ | refine below_drewN2 ?_ _)) (t_.one (S := fun b => w.heap.size ≤ b) (by omega)) (by simp [World.drew]; omega) (fun i hi => hi)
set_option maxHeartbeats 4000000 in
theorem contentC0 (pb : Nat) (zs : List Int) (v : Value) (p fr to : Int) (w : World) (h : CurV 108 pb zs v p w) (hl : zs.length ≤ 2000000) (n3 ok4 op4 oq4 tp4 tq4 ov4 : Int) (od4 td4 : Bool) (nm4 asn4 : List Int) (q3 q4 : Int) (e3 : getNum zs p = (n3, q3)) (e4 : rdOp zs q3 = (⟨ok4, (op4, oq4, od4), nm4, (tp4, tq4, td4), asn4, ov4⟩, q4)) :
  Calls Tryz.prog 69 #[.pointer (some ⟨pb, 0, none⟩), .i 0] w fun e w' => ∃ a4 l4 c4 a4y l4y c4y, e = .returned (.iface 189 (.agg #[.i n3, .i ok4, .i op4, .i oq4, .bool od4, .slice a4 l4 c4, .i tp4, .i tq4, .bool td4, .slice a4y l4y c4y, .i ov4])) ∧ OwM w' (fun b => w.heap.size ≤ b ∧ b < w'.heap.size) ⟨0, fr, to, n3, ⟨ok4, (op4, oq4, od4), nm4, (tp4, tq4, td4), asn4, ov4⟩, rp0, tx0, pt0, 0, hd0⟩ (.slice a4 l4 c4) (.slice a4y l4y c4y) (.slice none 0 0) (.slice none 0 0) ∧ Gone 108 pb zs v q4 w w' := by
 have hpl := h.lt
 have H3 : Hid (∀ W, CurV 108 pb zs v p W → _) := fun W hW => by have h_ := implNumC pb zs v p W hW hl; rw [e3] at h_; exact h_
 have H4 : Hid (∀ W, CurV 108 pb zs v q3 W → _) := fun W hW => by have h_ := implOpC pb zs v q3 W hW hl; rw [e4] at h_; exact h_
 have HC3 : Hid (CurV 108 pb zs v p w) := h
 clear h e3 e4
 try dsimp only at H3 H4
 go_enter Tryz.func69, Tryz.ntmps69
 go_wp2_with fail
 refine Calls.mono (H3.out _ HC3.out) ?_
 rintro e w4 ⟨rfl, hc_, t_⟩
 have HT : Hid (Turned (fun b => b = pb) w w4) := t_
 have hx3 := t_.size
 have HC4 : Hid (CurV 108 pb zs v q3 w4) := hc_
 clear hc_ t_ H3 HC3
 go_wp2_with fail
 refine Calls.mono (H4.out _ HC4.out) ?_
 rintro e w5 ⟨a4, l4, c4, a4y, l4y, c4y, M4, rfl, o4, o4y, hM4, hN4, hc_, t_⟩
 have HT_ : Hid (Turned (fun b => b = pb) w w5) := HT.out.trans t_
 clear HT
 have HT := HT_
 clear HT_
 have hx4 := t_.size
 have HO4 : Hid (OwV w5 (fun b => w4.heap.size ≤ b ∧ b < M4) (.slice a4 l4 c4) (.bytes nm4)) := o4
 clear o4
 have HO4y : Hid (OwV w5 (fun b => M4 ≤ b ∧ b < w5.heap.size) (.slice a4y l4y c4y) (.bytes asn4)) := o4y
 clear o4y
 have HC5 : Hid (CurV 108 pb zs v q4 w5) := hc_
 clear hc_ t_ H4 HC4
 have HO4_ := HO4.out
 have HO4y_ := HO4y.out
 go_wp2
 go_ret
 refine ⟨_, _, _, _, _, _, rfl, ⟨fun b => w4.heap.size ≤ b ∧ b < M4, fun b => M4 ≤ b ∧ b < w5.heap.size, fun _ => False, fun _ => False, HO4_, HO4y_, OwV.nilR _ _ _ _ _, OwV.nilB _ _, ?_, ?_, ?_, ?_⟩, HC5.out, HT.out⟩
 ·intro b hb
  rcases hb with hb | hb | hb | hb <;> first | exact hb.elim | exact ⟨by omega, by omega⟩
 ·intro b hb
  refine ⟨fun h => ?_, fun h => ?_, fun h => ?_⟩ <;> first | exact hb.elim | exact h.elim | omega
 ·intro b hb
  refine ⟨fun h => ?_, fun h => ?_⟩ <;> first | exact hb.elim | exact h.elim | omega
 ·intro b hb h
  first | exact hb.elim | exact h.elim | omega
set_option maxHeartbeats 4000000 in
theorem contentC1 (pb : Nat) (zs : List Int) (v : Value) (p fr to : Int) (w : World) (h : CurV 108 pb zs v p w) (hl : zs.length ≤ 2000000) (n3 rc4 rp4 rq4 rv4 : Int) (rd4 : Bool) (es4 : List En) (q3 q4 : Int) (e3 : getNum zs p = (n3, q3)) (e4 : rdRp (rdEnP zs) zs q3 = (⟨rc4, (rp4, rq4, rd4), rv4, es4⟩, q4)) :
  Calls Tryz.prog 69 #[.pointer (some ⟨pb, 0, none⟩), .i 1] w fun e w' => ∃ a4 l4 c4, e = .returned (.iface 191 (.agg #[.i n3, .i rc4, .i rp4, .i rq4, .bool rd4, .i rv4, .slice a4 l4 c4])) ∧ OwM w' (fun b => w.heap.size ≤ b ∧ b < w'.heap.size) ⟨1, fr, to, n3, op0, ⟨rc4, (rp4, rq4, rd4), rv4, es4⟩, tx0, pt0, 0, hd0⟩ (.slice none 0 0) (.slice none 0 0) (.slice a4 l4 c4) (.slice none 0 0) ∧ Gone 108 pb zs v q4 w w' := by
 have hpl := h.lt
 have H3 : Hid (∀ W, CurV 108 pb zs v p W → _) := fun W hW => by have h_ := implNumC pb zs v p W hW hl; rw [e3] at h_; exact h_
 have H4 : Hid (∀ W, CurV 108 pb zs v q3 W → _) := fun W hW => by have h_ := implReplyC pb zs v q3 W hW hl; rw [e4] at h_; exact h_
 have HC3 : Hid (CurV 108 pb zs v p w) := h
 clear h e3 e4
 try dsimp only at H3 H4
 go_enter Tryz.func69, Tryz.ntmps69
 go_wp2_with fail
 refine Calls.mono (H3.out _ HC3.out) ?_
 rintro e w4 ⟨rfl, hc_, t_⟩
 have HT : Hid (Turned (fun b => b = pb) w w4) := t_
 have hx3 := t_.size
 have HC4 : Hid (CurV 108 pb zs v q3 w4) := hc_
 clear hc_ t_ H3 HC3
 go_wp2_with fail
 refine Calls.mono (H4.out _ HC4.out) ?_
 rintro e w5 ⟨a4, l4, c4, rfl, o4, hc_, t_⟩
 have HT_ : Hid (Turned (fun b => b = pb) w w5) := HT.out.trans t_
 clear HT
 have HT := HT_
 clear HT_
 have hx4 := t_.size
 have HO4 : Hid (OwV w5 (fun b => w4.heap.size ≤ b ∧ b < w5.heap.size) (.slice a4 l4 c4) (ensDt es4)) := o4
 clear o4
 have HC5 : Hid (CurV 108 pb zs v q4 w5) := hc_
 clear hc_ t_ H4 HC4
 have HO4_ := HO4.out
 go_wp2
 go_ret
 refine ⟨_, _, _, rfl, ⟨fun _ => False, fun _ => False, fun b => w4.heap.size ≤ b ∧ b < w5.heap.size, fun _ => False, OwV.nilB _ _, OwV.nilB _ _, HO4_, OwV.nilB _ _, ?_, ?_, ?_, ?_⟩, HC5.out, HT.out⟩
 ·intro b hb
  rcases hb with hb | hb | hb | hb <;> first | exact hb.elim | exact ⟨by omega, by omega⟩
 ·intro b hb
  refine ⟨fun h => ?_, fun h => ?_, fun h => ?_⟩ <;> first | exact hb.elim | exact h.elim | omega
 ·intro b hb
  refine ⟨fun h => ?_, fun h => ?_⟩ <;> first | exact hb.elim | exact h.elim | omega
 ·intro b hb h
  first | exact hb.elim | exact h.elim | omega
set_option maxHeartbeats 4000000 in
theorem contentC2 (pb : Nat) (zs : List Int) (v : Value) (p fr to : Int) (w : World) (h : CurV 108 pb zs v p w) (hl : zs.length ≤ 2000000) (xs3 xb3 xn3 pk4 pp4 pq4 sp4 sq4 : Int) (pd4 sd4 : Bool) (pas4 : List Int) (q3 q4 : Int) (e3 : rdTx zs p = ((xs3, xb3, xn3), q3)) (e4 : rdPt zs q3 = (⟨pk4, (pp4, pq4, pd4), pas4, (sp4, sq4, sd4)⟩, q4)) :
  Calls Tryz.prog 69 #[.pointer (some ⟨pb, 0, none⟩), .i 2] w fun e w' => ∃ a4 l4 c4, e = .returned (.iface 193 (.agg #[.i xs3, .i xb3, .i xn3, .i pk4, .i pp4, .i pq4, .bool pd4, .slice a4 l4 c4, .i sp4, .i sq4, .bool sd4])) ∧ OwM w' (fun b => w.heap.size ≤ b ∧ b < w'.heap.size) ⟨2, fr, to, 0, op0, rp0, (xs3, xb3, xn3), ⟨pk4, (pp4, pq4, pd4), pas4, (sp4, sq4, sd4)⟩, 0, hd0⟩ (.slice none 0 0) (.slice none 0 0) (.slice none 0 0) (.slice a4 l4 c4) ∧ Gone 108 pb zs v q4 w w' := by
 have hpl := h.lt
 have H3 : Hid (∀ W, CurV 108 pb zs v p W → _) := fun W hW => by have h_ := implTxC pb zs v p W hW hl; rw [e3] at h_; exact h_
 have H4 : Hid (∀ W, CurV 108 pb zs v q3 W → _) := fun W hW => by have h_ := implPartC pb zs v q3 W hW hl; rw [e4] at h_; exact h_
 have HC3 : Hid (CurV 108 pb zs v p w) := h
 clear h e3 e4
 try dsimp only at H3 H4
 go_enter Tryz.func69, Tryz.ntmps69
 go_wp2_with fail
 refine Calls.mono (H3.out _ HC3.out) ?_
 rintro e w4 ⟨rfl, hc_, t_⟩
 have HT : Hid (Turned (fun b => b = pb) w w4) := t_
 have hx3 := t_.size
 have HC4 : Hid (CurV 108 pb zs v q3 w4) := hc_
 clear hc_ t_ H3 HC3
 go_wp2_with fail
 refine Calls.mono (H4.out _ HC4.out) ?_
 rintro e w5 ⟨a4, l4, c4, rfl, o4, hc_, t_⟩
 have HT_ : Hid (Turned (fun b => b = pb) w w5) := HT.out.trans t_
 clear HT
 have HT := HT_
 clear HT_
 have hx4 := t_.size
 have HO4 : Hid (OwV w5 (fun b => w4.heap.size ≤ b ∧ b < w5.heap.size) (.slice a4 l4 c4) (.bytes pas4)) := o4
 clear o4
 have HC5 : Hid (CurV 108 pb zs v q4 w5) := hc_
 clear hc_ t_ H4 HC4
 have HO4_ := HO4.out
 go_wp2
 go_ret
 refine ⟨_, _, _, rfl, ⟨fun _ => False, fun _ => False, fun _ => False, fun b => w4.heap.size ≤ b ∧ b < w5.heap.size, OwV.nilB _ _, OwV.nilB _ _, OwV.nilR _ _ _ _ _, HO4_, ?_, ?_, ?_, ?_⟩, HC5.out, HT.out⟩
 ·intro b hb
  rcases hb with hb | hb | hb | hb <;> first | exact hb.elim | exact ⟨by omega, by omega⟩
 ·intro b hb
  refine ⟨fun h => ?_, fun h => ?_, fun h => ?_⟩ <;> first | exact hb.elim | exact h.elim | omega
 ·intro b hb
  refine ⟨fun h => ?_, fun h => ?_⟩ <;> first | exact hb.elim | exact h.elim | omega
 ·intro b hb h
  first | exact hb.elim | exact h.elim | omega
set_option maxHeartbeats 4000000 in
theorem contentC3 (pb : Nat) (zs : List Int) (v : Value) (p fr to : Int) (w : World) (h : CurV 108 pb zs v p w) (hl : zs.length ≤ 2000000) (xs3 xb3 xn3 pk4 pp4 pq4 sp4 sq4 n5 hs6 hi6 : Int) (pd4 sd4 hd6 : Bool) (pas4 : List Int) (q3 q4 q5 q6 : Int) (e3 : rdTx zs p = ((xs3, xb3, xn3), q3)) (e4 : rdPt zs q3 = (⟨pk4, (pp4, pq4, pd4), pas4, (sp4, sq4, sd4)⟩, q4)) (e5 : getNum zs q4 = (n5, q5)) (e6 : rdHd zs q5 = ((hs6, hi6, hd6), q6)) :
  Calls Tryz.prog 69 #[.pointer (some ⟨pb, 0, none⟩), .i 3] w fun e w' => ∃ a4 l4 c4, e = .returned (.iface 195 (.agg #[.i xs3, .i xb3, .i xn3, .i pk4, .i pp4, .i pq4, .bool pd4, .slice a4 l4 c4, .i sp4, .i sq4, .bool sd4, .i n5, .i hs6, .i hi6, .bool hd6])) ∧ OwM w' (fun b => w.heap.size ≤ b ∧ b < w'.heap.size) ⟨3, fr, to, 0, op0, rp0, (xs3, xb3, xn3), ⟨pk4, (pp4, pq4, pd4), pas4, (sp4, sq4, sd4)⟩, n5, (hs6, hi6, hd6)⟩ (.slice none 0 0) (.slice none 0 0) (.slice none 0 0) (.slice a4 l4 c4) ∧ Gone 108 pb zs v q6 w w' := by
 have hpl := h.lt
 have H3 : Hid (∀ W, CurV 108 pb zs v p W → _) := fun W hW => by have h_ := implTxC pb zs v p W hW hl; rw [e3] at h_; exact h_
 have H4 : Hid (∀ W, CurV 108 pb zs v q3 W → _) := fun W hW => by have h_ := implPartC pb zs v q3 W hW hl; rw [e4] at h_; exact h_
 have H5 : Hid (∀ W, CurV 108 pb zs v q4 W → _) := fun W hW => by have h_ := implNumC pb zs v q4 W hW hl; rw [e5] at h_; exact h_
 have H6 : Hid (∀ W, CurV 108 pb zs v q5 W → _) := fun W hW => by have h_ := implHandC pb zs v q5 W hW hl; rw [e6] at h_; exact h_
 have HC3 : Hid (CurV 108 pb zs v p w) := h
 clear h e3 e4 e5 e6
 try dsimp only at H3 H4 H5 H6
 go_enter Tryz.func69, Tryz.ntmps69
 go_wp2_with fail
 refine Calls.mono (H3.out _ HC3.out) ?_
 rintro e w4 ⟨rfl, hc_, t_⟩
 have HT : Hid (Turned (fun b => b = pb) w w4) := t_
 have hx3 := t_.size
 have HC4 : Hid (CurV 108 pb zs v q3 w4) := hc_
 clear hc_ t_ H3 HC3
 go_wp2_with fail
 refine Calls.mono (H4.out _ HC4.out) ?_
 rintro e w5 ⟨a4, l4, c4, rfl, o4, hc_, t_⟩
 have HT_ : Hid (Turned (fun b => b = pb) w w5) := HT.out.trans t_
 clear HT
 have HT := HT_
 clear HT_
 have hx4 := t_.size
 have HO4 : Hid (OwV w5 (fun b => w4.heap.size ≤ b ∧ b < w5.heap.size) (.slice a4 l4 c4) (.bytes pas4)) := o4
 clear o4
 have HC5 : Hid (CurV 108 pb zs v q4 w5) := hc_
 clear hc_ t_ H4 HC4
 go_wp2_with fail
 refine Calls.mono (H5.out _ HC5.out) ?_
 rintro e w6 ⟨rfl, hc_, t_⟩
 have HT_ : Hid (Turned (fun b => b = pb) w w6) := HT.out.trans t_
 clear HT
 have HT := HT_
 clear HT_
 have hx5 := t_.size
 have HO4_ : Hid (OwV w6 (fun b => w4.heap.size ≤ b ∧ b < w5.heap.size) (.slice a4 l4 c4) (.bytes pas4)) := HO4.out.keep (t_.keeps (fun b hb hs => by omega))
 clear HO4
 have HO4 := HO4_
 clear HO4_
 have HC6 : Hid (CurV 108 pb zs v q5 w6) := hc_
 clear hc_ t_ H5 HC5
 go_wp2_with fail
 refine Calls.mono (H6.out _ HC6.out) ?_
 rintro e w7 ⟨rfl, hc_, t_⟩
 have HT_ : Hid (Turned (fun b => b = pb) w w7) := HT.out.trans t_
 clear HT
 have HT := HT_
 clear HT_
 have hx6 := t_.size
 have HO4_ : Hid (OwV w7 (fun b => w4.heap.size ≤ b ∧ b < w5.heap.size) (.slice a4 l4 c4) (.bytes pas4)) := HO4.out.keep (t_.keeps (fun b hb hs => by omega))
 clear HO4
 have HO4 := HO4_
 clear HO4_
 have HC7 : Hid (CurV 108 pb zs v q6 w7) := hc_
 clear hc_ t_ H6 HC6
 have HO4_ := HO4.out
 go_wp2
 go_ret
 refine ⟨_, _, _, rfl, ⟨fun _ => False, fun _ => False, fun _ => False, fun b => w4.heap.size ≤ b ∧ b < w5.heap.size, OwV.nilB _ _, OwV.nilB _ _, OwV.nilR _ _ _ _ _, HO4_, ?_, ?_, ?_, ?_⟩, HC7.out, HT.out⟩
 ·intro b hb
  rcases hb with hb | hb | hb | hb <;> first | exact hb.elim | exact ⟨by omega, by omega⟩
 ·intro b hb
  refine ⟨fun h => ?_, fun h => ?_, fun h => ?_⟩ <;> first | exact hb.elim | exact h.elim | omega
 ·intro b hb
  refine ⟨fun h => ?_, fun h => ?_⟩ <;> first | exact hb.elim | exact h.elim | omega
 ·intro b hb h
  first | exact hb.elim | exact h.elim | omega
set_option maxHeartbeats 4000000 in
theorem contentC4 (pb : Nat) (zs : List Int) (v : Value) (p fr to : Int) (w : World) (h : CurV 108 pb zs v p w) (hl : zs.length ≤ 2000000) (xs3 xb3 xn3 : Int) (q3 : Int) (e3 : rdTx zs p = ((xs3, xb3, xn3), q3)) :
  Calls Tryz.prog 69 #[.pointer (some ⟨pb, 0, none⟩), .i 4] w fun e w' => e = .returned (.iface 197 (.agg #[.i xs3, .i xb3, .i xn3])) ∧ OwM w' (fun b => w.heap.size ≤ b ∧ b < w'.heap.size) ⟨4, fr, to, 0, op0, rp0, (xs3, xb3, xn3), pt0, 0, hd0⟩ (.slice none 0 0) (.slice none 0 0) (.slice none 0 0) (.slice none 0 0) ∧ Gone 108 pb zs v q3 w w' := by
 have hpl := h.lt
 have H3 : Hid (∀ W, CurV 108 pb zs v p W → _) := fun W hW => by have h_ := implTxC pb zs v p W hW hl; rw [e3] at h_; exact h_
 have HC3 : Hid (CurV 108 pb zs v p w) := h
 clear h e3
 try dsimp only at H3
 go_enter Tryz.func69, Tryz.ntmps69
 go_wp2_with fail
 refine Calls.mono (H3.out _ HC3.out) ?_
 rintro e w4 ⟨rfl, hc_, t_⟩
 have HT : Hid (Turned (fun b => b = pb) w w4) := t_
 have hx3 := t_.size
 have HC4 : Hid (CurV 108 pb zs v q3 w4) := hc_
 clear hc_ t_ H3 HC3
 go_wp2
 go_ret
 refine ⟨rfl, ⟨fun _ => False, fun _ => False, fun _ => False, fun _ => False, OwV.nilB _ _, OwV.nilB _ _, OwV.nilR _ _ _ _ _, OwV.nilB _ _, ?_, ?_, ?_, ?_⟩, HC4.out, HT.out⟩
 ·intro b hb
  rcases hb with hb | hb | hb | hb <;> first | exact hb.elim | exact ⟨by omega, by omega⟩
 ·intro b hb
  refine ⟨fun h => ?_, fun h => ?_, fun h => ?_⟩ <;> first | exact hb.elim | exact h.elim | omega
 ·intro b hb
  refine ⟨fun h => ?_, fun h => ?_⟩ <;> first | exact hb.elim | exact h.elim | omega
 ·intro b hb h
  first | exact hb.elim | exact h.elim | omega
set_option maxHeartbeats 4000000 in
theorem contentC5 (pb : Nat) (zs : List Int) (v : Value) (p fr to : Int) (w : World) (h : CurV 108 pb zs v p w) (hl : zs.length ≤ 2000000) (xs3 xb3 xn3 n4 : Int) (q3 q4 : Int) (e3 : rdTx zs p = ((xs3, xb3, xn3), q3)) (e4 : getNum zs q3 = (n4, q4)) :
  Calls Tryz.prog 69 #[.pointer (some ⟨pb, 0, none⟩), .i 5] w fun e w' => e = .returned (.iface 199 (.agg #[.i xs3, .i xb3, .i xn3, .i n4])) ∧ OwM w' (fun b => w.heap.size ≤ b ∧ b < w'.heap.size) ⟨5, fr, to, 0, op0, rp0, (xs3, xb3, xn3), pt0, n4, hd0⟩ (.slice none 0 0) (.slice none 0 0) (.slice none 0 0) (.slice none 0 0) ∧ Gone 108 pb zs v q4 w w' := by
 have hpl := h.lt
 have H3 : Hid (∀ W, CurV 108 pb zs v p W → _) := fun W hW => by have h_ := implTxC pb zs v p W hW hl; rw [e3] at h_; exact h_
 have H4 : Hid (∀ W, CurV 108 pb zs v q3 W → _) := fun W hW => by have h_ := implNumC pb zs v q3 W hW hl; rw [e4] at h_; exact h_
 have HC3 : Hid (CurV 108 pb zs v p w) := h
 clear h e3 e4
 try dsimp only at H3 H4
 go_enter Tryz.func69, Tryz.ntmps69
 go_wp2_with fail
 refine Calls.mono (H3.out _ HC3.out) ?_
 rintro e w4 ⟨rfl, hc_, t_⟩
 have HT : Hid (Turned (fun b => b = pb) w w4) := t_
 have hx3 := t_.size
 have HC4 : Hid (CurV 108 pb zs v q3 w4) := hc_
 clear hc_ t_ H3 HC3
 go_wp2_with fail
 refine Calls.mono (H4.out _ HC4.out) ?_
 rintro e w5 ⟨rfl, hc_, t_⟩
 have HT_ : Hid (Turned (fun b => b = pb) w w5) := HT.out.trans t_
 clear HT
 have HT := HT_
 clear HT_
 have hx4 := t_.size
 have HC5 : Hid (CurV 108 pb zs v q4 w5) := hc_
 clear hc_ t_ H4 HC4
 go_wp2
 go_ret
 refine ⟨rfl, ⟨fun _ => False, fun _ => False, fun _ => False, fun _ => False, OwV.nilB _ _, OwV.nilB _ _, OwV.nilR _ _ _ _ _, OwV.nilB _ _, ?_, ?_, ?_, ?_⟩, HC5.out, HT.out⟩
 ·intro b hb
  rcases hb with hb | hb | hb | hb <;> first | exact hb.elim | exact ⟨by omega, by omega⟩
 ·intro b hb
  refine ⟨fun h => ?_, fun h => ?_, fun h => ?_⟩ <;> first | exact hb.elim | exact h.elim | omega
 ·intro b hb
  refine ⟨fun h => ?_, fun h => ?_⟩ <;> first | exact hb.elim | exact h.elim | omega
 ·intro b hb h
  first | exact hb.elim | exact h.elim | omega
set_option maxHeartbeats 4000000 in
theorem contentC6 (pb : Nat) (zs : List Int) (v : Value) (p fr to : Int) (w : World) (h : CurV 108 pb zs v p w) (hl : zs.length ≤ 2000000) (xs3 xb3 xn3 n4 hs5 hi5 : Int) (hd5 : Bool) (q3 q4 q5 : Int) (e3 : rdTx zs p = ((xs3, xb3, xn3), q3)) (e4 : getNum zs q3 = (n4, q4)) (e5 : rdHd zs q4 = ((hs5, hi5, hd5), q5)) :
  Calls Tryz.prog 69 #[.pointer (some ⟨pb, 0, none⟩), .i 6] w fun e w' => e = .returned (.iface 201 (.agg #[.i xs3, .i xb3, .i xn3, .i n4, .i hs5, .i hi5, .bool hd5])) ∧ OwM w' (fun b => w.heap.size ≤ b ∧ b < w'.heap.size) ⟨6, fr, to, n4, op0, rp0, (xs3, xb3, xn3), pt0, 0, (hs5, hi5, hd5)⟩ (.slice none 0 0) (.slice none 0 0) (.slice none 0 0) (.slice none 0 0) ∧ Gone 108 pb zs v q5 w w' := by
 have hpl := h.lt
 have H3 : Hid (∀ W, CurV 108 pb zs v p W → _) := fun W hW => by have h_ := implTxC pb zs v p W hW hl; rw [e3] at h_; exact h_
 have H4 : Hid (∀ W, CurV 108 pb zs v q3 W → _) := fun W hW => by have h_ := implNumC pb zs v q3 W hW hl; rw [e4] at h_; exact h_
 have H5 : Hid (∀ W, CurV 108 pb zs v q4 W → _) := fun W hW => by have h_ := implHandC pb zs v q4 W hW hl; rw [e5] at h_; exact h_
 have HC3 : Hid (CurV 108 pb zs v p w) := h
 clear h e3 e4 e5
 try dsimp only at H3 H4 H5
 go_enter Tryz.func69, Tryz.ntmps69
 go_wp2_with fail
 refine Calls.mono (H3.out _ HC3.out) ?_
 rintro e w4 ⟨rfl, hc_, t_⟩
 have HT : Hid (Turned (fun b => b = pb) w w4) := t_
 have hx3 := t_.size
 have HC4 : Hid (CurV 108 pb zs v q3 w4) := hc_
 clear hc_ t_ H3 HC3
 go_wp2_with fail
 refine Calls.mono (H4.out _ HC4.out) ?_
 rintro e w5 ⟨rfl, hc_, t_⟩
 have HT_ : Hid (Turned (fun b => b = pb) w w5) := HT.out.trans t_
 clear HT
 have HT := HT_
 clear HT_
 have hx4 := t_.size
 have HC5 : Hid (CurV 108 pb zs v q4 w5) := hc_
 clear hc_ t_ H4 HC4
 go_wp2_with fail
 refine Calls.mono (H5.out _ HC5.out) ?_
 rintro e w6 ⟨rfl, hc_, t_⟩
 have HT_ : Hid (Turned (fun b => b = pb) w w6) := HT.out.trans t_
 clear HT
 have HT := HT_
 clear HT_
 have hx5 := t_.size
 have HC6 : Hid (CurV 108 pb zs v q5 w6) := hc_
 clear hc_ t_ H5 HC5
 go_wp2
 go_ret
 refine ⟨rfl, ⟨fun _ => False, fun _ => False, fun _ => False, fun _ => False, OwV.nilB _ _, OwV.nilB _ _, OwV.nilR _ _ _ _ _, OwV.nilB _ _, ?_, ?_, ?_, ?_⟩, HC6.out, HT.out⟩
 ·intro b hb
  rcases hb with hb | hb | hb | hb <;> first | exact hb.elim | exact ⟨by omega, by omega⟩
 ·intro b hb
  refine ⟨fun h => ?_, fun h => ?_, fun h => ?_⟩ <;> first | exact hb.elim | exact h.elim | omega
 ·intro b hb
  refine ⟨fun h => ?_, fun h => ?_⟩ <;> first | exact hb.elim | exact h.elim | omega
 ·intro b hb h
  first | exact hb.elim | exact h.elim | omega
set_option maxHeartbeats 4000000 in
theorem contentC7 (pb : Nat) (zs : List Int) (v : Value) (p fr to : Int) (w : World) (h : CurV 108 pb zs v p w) (hl : zs.length ≤ 2000000) (xs3 xb3 xn3 n4 n5 hs6 hi6 : Int) (hd6 : Bool) (q3 q4 q5 q6 : Int) (e3 : rdTx zs p = ((xs3, xb3, xn3), q3)) (e4 : getNum zs q3 = (n4, q4)) (e5 : getNum zs q4 = (n5, q5)) (e6 : rdHd zs q5 = ((hs6, hi6, hd6), q6)) :
  Calls Tryz.prog 69 #[.pointer (some ⟨pb, 0, none⟩), .i 7] w fun e w' => e = .returned (.iface 203 (.agg #[.i xs3, .i xb3, .i xn3, .i n4, .i n5, .i hs6, .i hi6, .bool hd6])) ∧ OwM w' (fun b => w.heap.size ≤ b ∧ b < w'.heap.size) ⟨7, fr, to, n4, op0, rp0, (xs3, xb3, xn3), pt0, n5, (hs6, hi6, hd6)⟩ (.slice none 0 0) (.slice none 0 0) (.slice none 0 0) (.slice none 0 0) ∧ Gone 108 pb zs v q6 w w' := by
 have hpl := h.lt
 have H3 : Hid (∀ W, CurV 108 pb zs v p W → _) := fun W hW => by have h_ := implTxC pb zs v p W hW hl; rw [e3] at h_; exact h_
 have H4 : Hid (∀ W, CurV 108 pb zs v q3 W → _) := fun W hW => by have h_ := implNumC pb zs v q3 W hW hl; rw [e4] at h_; exact h_
 have H5 : Hid (∀ W, CurV 108 pb zs v q4 W → _) := fun W hW => by have h_ := implNumC pb zs v q4 W hW hl; rw [e5] at h_; exact h_
 have H6 : Hid (∀ W, CurV 108 pb zs v q5 W → _) := fun W hW => by have h_ := implHandC pb zs v q5 W hW hl; rw [e6] at h_; exact h_
 have HC3 : Hid (CurV 108 pb zs v p w) := h
 clear h e3 e4 e5 e6
 try dsimp only at H3 H4 H5 H6
 go_enter Tryz.func69, Tryz.ntmps69
 go_wp2_with fail
 refine Calls.mono (H3.out _ HC3.out) ?_
 rintro e w4 ⟨rfl, hc_, t_⟩
 have HT : Hid (Turned (fun b => b = pb) w w4) := t_
 have hx3 := t_.size
 have HC4 : Hid (CurV 108 pb zs v q3 w4) := hc_
 clear hc_ t_ H3 HC3
 go_wp2_with fail
 refine Calls.mono (H4.out _ HC4.out) ?_
 rintro e w5 ⟨rfl, hc_, t_⟩
 have HT_ : Hid (Turned (fun b => b = pb) w w5) := HT.out.trans t_
 clear HT
 have HT := HT_
 clear HT_
 have hx4 := t_.size
 have HC5 : Hid (CurV 108 pb zs v q4 w5) := hc_
 clear hc_ t_ H4 HC4
 go_wp2_with fail
 refine Calls.mono (H5.out _ HC5.out) ?_
 rintro e w6 ⟨rfl, hc_, t_⟩
 have HT_ : Hid (Turned (fun b => b = pb) w w6) := HT.out.trans t_
 clear HT
 have HT := HT_
 clear HT_
 have hx5 := t_.size
 have HC6 : Hid (CurV 108 pb zs v q5 w6) := hc_
 clear hc_ t_ H5 HC5
 go_wp2_with fail
 refine Calls.mono (H6.out _ HC6.out) ?_
 rintro e w7 ⟨rfl, hc_, t_⟩
 have HT_ : Hid (Turned (fun b => b = pb) w w7) := HT.out.trans t_
 clear HT
 have HT := HT_
 clear HT_
 have hx6 := t_.size
 have HC7 : Hid (CurV 108 pb zs v q6 w7) := hc_
 clear hc_ t_ H6 HC6
 go_wp2
 go_ret
 refine ⟨rfl, ⟨fun _ => False, fun _ => False, fun _ => False, fun _ => False, OwV.nilB _ _, OwV.nilB _ _, OwV.nilR _ _ _ _ _, OwV.nilB _ _, ?_, ?_, ?_, ?_⟩, HC7.out, HT.out⟩
 ·intro b hb
  rcases hb with hb | hb | hb | hb <;> first | exact hb.elim | exact ⟨by omega, by omega⟩
 ·intro b hb
  refine ⟨fun h => ?_, fun h => ?_, fun h => ?_⟩ <;> first | exact hb.elim | exact h.elim | omega
 ·intro b hb
  refine ⟨fun h => ?_, fun h => ?_⟩ <;> first | exact hb.elim | exact h.elim | omega
 ·intro b hb h
  first | exact hb.elim | exact h.elim | omega
end
end Go.Proofs.YtklhikadhohjbaaGreat
