/- Joined: ImplT10a TreePure UP2 US4 ImplT10 US6. -/
import Derived.Test.YtoaocjkapoemnaaGreatUImplT9
import Derived.Test.YtoaocjkapoemnaaGreatUA00b
import Derived.Test.YtoaocjkapoemnaaGreatUSpecT6
import Derived.Test.YtoaocjkapoemnaaGreatUA03
import Derived.Test.YtoaocjkapoemnaaGreatUA01
import Derived.Test.YtoaocjkapoemnaaGreatUUS3
import Derived.Test.YtoaocjkapoemnaaGreatUA02
import Derived.Test.YtoaocjkapoemnaaGreatUA00

namespace Go.Proofs.YtoaocjkapoemnaaGreat
open Go.RowKit
set_option linter.unusedVariables false
set_option linter.unusedSimpArgs false
set_option maxRecDepth 100000
section
theorem lessH_trans {a b c : Hd} (h : lessH a b = true) (g : lessH b c = true) : lessH a c = true := by
  simp only [lessH, Bool.or_eq_true, Bool.and_eq_true, decide_eq_true_eq] at *
  omega
theorem lessH_irr (a : Hd) : lessH a a = false := by
  rw [Bool.eq_false_iff]; intro h
  simp only [lessH, Bool.or_eq_true, Bool.and_eq_true, decide_eq_true_eq] at h
  omega
theorem ascL_at {l : List Nd} (h : ascL l = true) {i : Nat} (hi : i + 1 < l.length) : lessH (l[i]?.getD nd0).h (l[i + 1]?.getD nd0).h = true := by
  unfold ascL at h
  rw [List.all_eq_true] at h
  have h1 := h (i + 1) (by simpa using hi)
  simpa [ascAt] using h1
theorem ascL_less {l : List Nd} (h : ascL l = true) (i : Nat) : ∀ d, i + d + 1 < l.length → lessH (l[i]?.getD nd0).h (l[i + d + 1]?.getD nd0).h = true
  | 0, hi => ascL_at h hi
  | d + 1, hi => lessH_trans (ascL_less h i d (by omega)) (ascL_at h (i := i + d + 1) (by omega))
theorem ascL_one {l : List Nd} (h : ascL l = true) : OneH l := by
  intro i j hi hj he
  rcases Nat.lt_trichotomy i j with hij | hij | hij
  · have h1 := ascL_less h i (j - i - 1) (by omega)
    rw [show i + (j - i - 1) + 1 = j by omega, he, lessH_irr] at h1; cases h1
  · exact hij
  · have h1 := ascL_less h j (i - j - 1) (by omega)
    rw [show j + (i - j - 1) + 1 = i by omega, he, lessH_irr] at h1; cases h1
theorem ndI_h {n : Nd} (h : ndI n = true) : HIn n.h := by
  simp only [ndI, Bool.and_eq_true] at h
  exact HOk.inn h.1.1
theorem ndI_par {n : Nd} (h : ndI n = true) : HIn n.par := by
  simp only [ndI, Bool.and_eq_true] at h
  have h2 := h.2
  split at h2
  · simp only [dirOk, Bool.and_eq_true] at h2; exact HOk.inn h2.1.2.2.1
  · simp only [fileOk, Bool.and_eq_true, decide_eq_true_eq] at h2; rw [h2.2.2]; exact hd0_in
theorem ndI_es {n : Nd} (h : ndI n = true) : n.es.length ≤ 12 ∧ ∀ j, j < n.es.length → HIn (n.es[j]?.getD en0).h := by
  simp only [ndI, Bool.and_eq_true] at h
  have h2 := h.2
  split at h2
  · simp only [Bool.and_eq_true, entsI, decide_eq_true_eq, List.all_eq_true] at h2
    refine ⟨h2.2.1, fun j hj => ?_⟩
    have h3 := h2.2.2 j (by simpa using hj)
    simp only [enAt, Bool.and_eq_true] at h3
    exact HOk.inn h3.2.1
  · simp only [fileOk, Bool.and_eq_true, decide_eq_true_eq] at h2
    exact ⟨by omega, fun j hj => by omega⟩
theorem atH_mem {l : List Nd} {k : Nat} {g : Hd} {n : Nd} (h : atH l k g = some n) : n ∈ l := List.mem_of_mem_take (List.mem_of_find?_eq_some h)
theorem atH_par {l : List Nd} (hall : (List.range l.length).all (fun i => ndI (l[i]?.getD nd0)) = true) (g : Hd) (n : Nd) (h : atH l l.length g = some n) : HIn n.par := by
  obtain ⟨i, hi, rfl⟩ := List.getElem_of_mem (atH_mem h)
  rw [List.all_eq_true] at hall
  have h1 := hall i (by simpa using hi)
  rw [List.getElem?_eq_getElem hi] at h1
  exact ndI_par h1
def ndIAt (l : List Nd) (i : Nat) : Bool := ndI (l[i]?.getD nd0)
def treeI (l : List Nd) : Bool := (decide (1 ≤ l.length) && (decide (l.length ≤ 240) && ascL l)) && ((decide ((l[0]?.getD nd0).h = rootH) && decide ((l[0]?.getD nd0).par = rootH)) && ((List.range l.length).all (ndIAt l) && (leadR (atH l l.length) l && (List.range l.length).all (climbAt (atH l l.length) l.length l))))
end
section
theorem bless_irr : ∀ x : List UInt8, Op.bytesLess x x = false
  | [] => rfl
  | a :: x => by simp [Op.bytesLess, bless_irr x]
theorem bless_trans : ∀ x y z : List UInt8, Op.bytesLess x y = true → Op.bytesLess y z = true → Op.bytesLess x z = true
  | _, _, [], _, h => by simp [Op.bytesLess] at h
  | [], _, _ :: _, _, _ => by simp [Op.bytesLess]
  | _ :: _, [], _ :: _, h, _ => by simp [Op.bytesLess] at h
  | a :: x, b :: y, c :: z, h, g => by
    simp only [Op.bytesLess, Bool.or_eq_true, Bool.and_eq_true, decide_eq_true_eq, beq_iff_eq] at *
    rcases h with h | ⟨rfl, h⟩
    · rcases g with g | ⟨rfl, g⟩
      · exact .inl (UInt8.lt_trans h g)
      · exact .inl h
    · rcases g with g | ⟨rfl, g⟩
      · exact .inl g
      · exact .inr ⟨rfl, bless_trans x y z h g⟩
theorem geS_trans {a b c : List Int} (h : geS a b = false) (g : geS b c = false) : geS a c = false := by
  simp only [geS, Bool.not_eq_false'] at *
  exact bless_trans _ _ _ h g
theorem geS_irr (a : List Int) : geS a a = true := by simp [geS, bless_irr]
theorem asc_nm {es : List En} (h : ∀ i, i < es.length → enAt es i = true) (i : Nat) : ∀ d, i + d + 1 < es.length → geS (es[i]?.getD en0).nm (es[i + d + 1]?.getD en0).nm = false
  | 0, hi => by
    have h1 := h (i + 1) hi
    simp only [enAt, Bool.and_eq_true, Bool.or_eq_true, decide_eq_true_eq, Bool.not_eq_true'] at h1
    rcases h1.2.2 with h2 | h2
    · omega
    · exact h2
  | d + 1, hi => by
    have h0 := asc_nm h i d (by omega)
    have h1 := h (i + d + 1 + 1) hi
    simp only [enAt, Bool.and_eq_true, Bool.or_eq_true, decide_eq_true_eq, Bool.not_eq_true'] at h1
    rcases h1.2.2 with h2 | h2
    · omega
    · exact geS_trans h0 h2
theorem eiP_at {es : List En} (h : ∀ i, i < es.length → enAt es i = true) {i : Nat} (hi : i < es.length) : ei es (es[i]?.getD en0).nm = i := by
  unfold ei
  rw [List.findIdx_eq hi]
  refine ⟨by simp [hi], fun j hj => ?_⟩
  have h1 := asc_nm h j (i - j - 1) (by omega)
  rw [show j + (i - j - 1) + 1 = i by omega, List.getElem?_eq_getElem hi, List.getElem?_eq_getElem (by omega : j < es.length)] at h1
  rw [decide_eq_false_iff_not]
  intro he
  rw [List.getElem?_eq_getElem hi] at he
  simp only [Option.getD_some] at h1 he
  rw [he, geS_irr] at h1
  cases h1
theorem ents_same (es : List En) : entsOk es = (List.range es.length).all (enAt es) := by
  rw [Bool.eq_iff_iff]
  unfold entsOk
  simp only [List.all_eq_true, List.mem_range]
  constructor
  · intro h i hi
    have h1 := h i hi
    simp only [entOk, enAt, Bool.and_eq_true] at *
    exact ⟨h1.1, h1.2.1, h1.2.2.2⟩
  · intro h i hi
    have h1 := h i hi
    have h2 := eiP_at h hi
    simp only [entOk, enAt, Bool.and_eq_true, decide_eq_true_eq] at *
    exact ⟨h1.1, h1.2.1, by unfold findE; rw [h2, if_pos hi], h1.2.2⟩
theorem nd_same (n : Nd) : ndOk n = ndI n := by
  rw [Bool.eq_iff_iff]
  unfold ndOk ndI
  rw [ents_same]
  unfold entsI baseOk dirOk fileOk
  by_cases hd : n.h.dir = true
  · simp only [hd, if_true, Bool.and_eq_true, decide_eq_true_eq]
    constructor
    · rintro ⟨⟨h1, h2, h3, h4, h5, h6⟩, ⟨h7, h8, h9, h10⟩, h11⟩
      exact ⟨⟨h1, h2, h3⟩, ⟨h7, h8, h9, h10⟩, h6, h11⟩
    · rintro ⟨⟨h1, h2, h3⟩, ⟨h7, h8, h9, h10⟩, h6, h11⟩
      exact ⟨⟨h1, h2, h3, by omega, by omega, h6⟩, ⟨h7, h8, h9, h10⟩, h11⟩
  · have hd' : n.h.dir = false := by simpa using hd
    simp only [hd', Bool.false_eq_true, if_false, Bool.and_eq_true, decide_eq_true_eq]
    constructor
    · rintro ⟨⟨h1, h2, h3, h4, h5, h6⟩, h7, h8⟩
      exact ⟨⟨h1, h2, h3⟩, ⟨h4, h5⟩, h7, h8⟩
    · rintro ⟨⟨h1, h2, h3⟩, ⟨h4, h5⟩, h7, h8⟩
      exact ⟨⟨h1, h2, h3, h4, h5, by omega⟩, h7, h8⟩
theorem atH_fi (l : List Nd) (h : Hd) : atH l l.length h = if fi l h < l.length then some (l[fi l h]?.getD nd0) else none := by
  unfold atH fi
  rw [List.take_length]
  by_cases hlt : l.findIdx (fun n => decide (n.h = h)) < l.length
  · rw [if_pos hlt, List.getElem?_eq_getElem hlt, Option.getD_some, List.find?_eq_some_iff_getElem]
    have h1 := List.findIdx_getElem (w := hlt)
    refine ⟨h1, _, hlt, rfl, fun j hj => ?_⟩
    have := List.not_of_lt_findIdx hj
    simpa using this
  · rw [if_neg hlt, List.find?_eq_none]
    intro x hx
    have := List.findIdx_lt_length (p := fun n : Nd => decide (n.h = h)) (xs := l)
    rw [this] at hlt
    intro hp
    exact hlt ⟨x, hx, hp⟩
theorem lead_same (l : List Nd) (n : Nd) (e : En) : entLead l n e = leadE (atH l l.length) n e := by
  unfold entLead leadE
  rw [atH_fi]
  by_cases h : fi l e.h < l.length
  · simp [h]
  · simp [h]
theorem cnt_same (l : List Nd) (h : Hd) : cntH l h = cntE (l.flatMap (·.es)) h := by
  unfold cntH cntE
  rw [psum_all, List.countP_flatMap]
  rfl
theorem countP_more {α : Type} (p q : α → Bool) : ∀ (l : List α), (∀ x, x ∈ l → p x = true → q x = true) → (∃ x, x ∈ l ∧ q x = true ∧ p x = false) → l.countP p < l.countP q
  | [], _, h => by obtain ⟨x, hx, _⟩ := h; cases hx
  | a :: l, hpq, h => by
    have hm : l.countP p ≤ l.countP q := List.countP_mono_left (fun x hx => hpq x (List.mem_cons_of_mem _ hx))
    rw [List.countP_cons, List.countP_cons]
    have ha := hpq a (List.mem_cons_self)
    obtain ⟨x, hx, h1, h2⟩ := h
    rcases List.mem_cons.mp hx with rfl | hx
    · rw [h1, h2]; simp; omega
    · have := countP_more p q l (fun x hx => hpq x (List.mem_cons_of_mem _ hx)) ⟨x, hx, h1, h2⟩
      by_cases hp : p a = true
      · rw [hp, ha hp]; simp; omega
      · have hp' : p a = false := by simpa using hp
        rw [hp']; simp; omega
theorem node_mem {l : List Nd} {i : Nat} (h : i < l.length) : l[i]?.getD nd0 ∈ l := by rw [List.getElem?_eq_getElem h]; exact List.getElem_mem h
theorem rch_more (l : List Nd) : ∀ (k : Nat) (n : Nd), rch l k n = true → rch l (k + 1) n = true
  | 0, n, h => by
    have h1 : up n = false := by simpa [rch] using h
    simp [rch, h1]
  | k + 1, n, h => by
    by_cases hu : up n = true
    · by_cases hf : fi l n.par < l.length
      · rw [rch, if_pos hu, if_pos hf] at h
        rw [rch, if_pos hu, if_pos hf]
        exact rch_more l k _ h
      · rw [rch, if_pos hu, if_neg hf] at h; cases h
    · rw [rch, if_neg hu]
theorem rch_still (l : List Nd) (k : Nat) (h : ∀ n, n ∈ l → rch l (k + 1) n = true → rch l k n = true) : ∀ n, n ∈ l → rch l (k + 2) n = true → rch l (k + 1) n = true := by
  intro n hn hr
  by_cases hu : up n = true
  · by_cases hf : fi l n.par < l.length
    · rw [rch, if_pos hu, if_pos hf] at hr
      rw [rch, if_pos hu, if_pos hf]
      exact h _ (node_mem hf) hr
    · rw [rch, if_pos hu, if_neg hf] at hr; cases hr
  · rw [rch, if_neg hu]
theorem rch_count (l : List Nd) (h0 : ∃ n, n ∈ l ∧ up n = false) : ∀ k, (∀ n, n ∈ l → rch l (k + 1) n = true → rch l k n = true) ∨ k + 1 ≤ l.countP (rch l k)
  | 0 => by
    right
    obtain ⟨n, hn, hu⟩ := h0
    exact List.countP_pos_iff.mpr ⟨n, hn, by simp [rch, hu]⟩
  | k + 1 => by
    rcases rch_count l h0 k with h | h
    · exact .inl (rch_still l k h)
    · by_cases hs : ∀ n, n ∈ l → rch l (k + 1) n = true → rch l k n = true
      · exact .inl (rch_still l k hs)
      · right
        have : l.countP (rch l k) < l.countP (rch l (k + 1)) := by
          refine countP_more _ _ l (fun x _ => rch_more l k x) ?_
          apply Classical.byContradiction
          intro hc
          apply hs
          intro n hn hr
          cases hk : rch l k n with
          | true => rfl
          | false => exact absurd ⟨n, hn, hr, hk⟩ hc
        omega
theorem rch_short (l : List Nd) (h0 : ∃ n, n ∈ l ∧ up n = false) (hl : 1 ≤ l.length) (n : Nd) (hn : n ∈ l) : rch l (l.length + 1) n = rch l (l.length - 1) n := by
  obtain ⟨m, hm⟩ : ∃ m, l.length = m + 1 := ⟨l.length - 1, by omega⟩
  rw [hm, Nat.add_sub_cancel]
  have hs : ∀ n, n ∈ l → rch l (m + 1) n = true → rch l m n = true := by
    rcases rch_count l h0 m with h | h
    · exact h
    · have hc : l.countP (rch l m) = l.length := by
        have := List.countP_le_length (p := rch l m) (l := l)
        omega
      rw [List.countP_eq_length] at hc
      exact fun n hn _ => hc n hn
  rw [Bool.eq_iff_iff]
  constructor
  · intro h
    exact hs n hn (rch_still l m hs n hn h)
  · intro h
    exact rch_more l _ _ (rch_more l _ _ h)
theorem climb_lost (f : Hd → Option Nd) (h0 : f hd0 = none) : ∀ (k : Nat) (h : Hd), f h = none → h ≠ rootH → climb f k h = false
  | 0, _, _, _ => rfl
  | k + 1, h, hf, hr => by
    rw [climb, if_neg hr, hf]
    exact climb_lost f h0 k hd0 h0 (by decide)
theorem fiP_at {l : List Nd} (ho : OneH l) {i : Nat} (hi : i < l.length) : fi l (l[i]?.getD nd0).h = i := by
  unfold fi
  rw [List.findIdx_eq hi]
  refine ⟨by simp [hi], fun j hj => ?_⟩
  rw [decide_eq_false_iff_not]
  intro he
  have := ho j i (by omega) hi (by rw [List.getElem?_eq_getElem (by omega : j < l.length)]; exact he)
  omega
theorem fi_h {l : List Nd} {h : Hd} (hf : fi l h < l.length) : (l[fi l h]?.getD nd0).h = h := by
  have h1 := List.findIdx_getElem (w := hf)
  rw [List.getElem?_eq_getElem hf]
  exact of_decide_eq_true h1
theorem climb_rch {l : List Nd} (ho : OneH l) (hr : fi l rootH < l.length) (hz : ¬ fi l hd0 < l.length) (hp : ∀ i, i < l.length → (l[i]?.getD nd0).h.dir = true → (l[i]?.getD nd0).par.dir = true) :
    ∀ (k i : Nat), i < l.length → (l[i]?.getD nd0).h.dir = true → climb (atH l l.length) (k + 1) (l[i]?.getD nd0).h = rch l k (l[i]?.getD nd0)
  | 0, i, hi, hd => by
    rw [climb, rch]
    unfold up
    rw [hd]
    by_cases h : (l[i]?.getD nd0).h = rootH
    · rw [if_pos h]; simp [h]
    · rw [if_neg h]; simp [h, climb]
  | k + 1, i, hi, hd => by
    rw [climb, rch]
    by_cases h : (l[i]?.getD nd0).h = rootH
    · rw [if_pos h]
      have : up (l[i]?.getD nd0) = false := by unfold up; simp [h]
      simp [this]
    · have hu : up (l[i]?.getD nd0) = true := by unfold up; simp [h, hd]
      rw [if_neg h, if_pos hu, atH_fi, fiP_at ho hi, if_pos hi, Option.getD_some]
      by_cases hf : fi l (l[i]?.getD nd0).par < l.length
      · rw [if_pos hf]
        have h1 := climb_rch ho hr hz hp k _ hf (by rw [fi_h hf]; exact hp i hi hd)
        rw [fi_h hf] at h1
        exact h1
      · rw [if_neg hf]
        refine climb_lost _ (by rw [atH_fi, if_neg hz]) _ _ (by rw [atH_fi, if_neg hf]) ?_
        intro he
        rw [he] at hf
        exact hf hr
theorem tail_same {l : List Nd} (hl : 1 ≤ l.length) (hr : (l[0]?.getD nd0).h = rootH) (ha : ascL l = true) (hn : ∀ i, i < l.length → ndI (l[i]?.getD nd0) = true) {i : Nat} (hi : i < l.length) :
    tailT l (l[i]?.getD nd0) = (ledN l i && climbAt (atH l l.length) l.length l i) := by
  have ho := ascL_one ha
  have h0 : fi l rootH = 0 := by rw [← hr]; exact fiP_at ho (by omega)
  have hz : ¬ fi l hd0 < l.length := by
    intro hf
    have h1 := hn _ hf
    have h2 := fi_h hf
    unfold ndI at h1
    rw [h2] at h1
    have h3 : HOk hd0 = false := by decide
    simp only [h3, Bool.false_and, Bool.false_eq_true] at h1
  have hp : ∀ i, i < l.length → (l[i]?.getD nd0).h.dir = true → (l[i]?.getD nd0).par.dir = true := by
    intro i hi hd
    have h1 := hn i hi
    unfold ndI at h1
    rw [hd] at h1
    simp only [if_true, Bool.and_eq_true, dirOk] at h1
    exact h1.2.1.2.2.2
  have hx : ∃ n, n ∈ l ∧ up n = false := ⟨_, node_mem (l := l) (i := 0) (by omega), by unfold up; simp [hr]⟩
  unfold tailT ledN wantN climbAt
  rw [cnt_same]
  obtain ⟨m, hm⟩ : ∃ m, l.length = m + 1 := ⟨l.length - 1, by omega⟩
  by_cases h : (l[i]?.getD nd0).h = rootH
  · rw [if_pos h, if_pos h, h]
    have hc : climb (atH l l.length) l.length rootH = true := by rw [hm, climb, if_pos rfl]
    rw [hc]
    simp
  · rw [if_neg h, if_neg h, rch_short l hx hl _ (node_mem hi)]
    by_cases hd : (l[i]?.getD nd0).h.dir = true
    · have h1 := climb_rch ho (by omega) hz hp m i hi hd
      rw [show m + 1 = l.length by omega] at h1
      rw [h1, hd, show m = l.length - 1 by omega]
      simp
    · have hd' : (l[i]?.getD nd0).h.dir = false := by simpa using hd
      have hu : rch l (l.length - 1) (l[i]?.getD nd0) = true := by
        have : up (l[i]?.getD nd0) = false := by unfold up; simp [hd']
        cases l.length - 1 <;> simp [rch, this]
      rw [hu, hd']
      simp
/-- By the specification it is a tree just if it is one by the program. -/
theorem tree_same (l : List Nd) : treeOk l = treeI l := by
  rw [Bool.eq_iff_iff]
  unfold treeOk treeI headT leadR
  simp only [Bool.and_eq_true, decide_eq_true_eq, List.all_eq_true, List.mem_range]
  constructor
  · rintro ⟨⟨⟨h1, h2⟩, h3, h4⟩, h5⟩
    have hA : ascL l = true := by
      unfold ascL
      rw [List.all_eq_true]
      intro i hi
      have := h5 i (by simpa using hi)
      simp only [nodeT, Bool.and_eq_true] at this
      exact this.2.1
    have hN : ∀ i, i < l.length → ndI (l[i]?.getD nd0) = true := by
      intro i hi
      have := h5 i hi
      simp only [nodeT, Bool.and_eq_true] at this
      rw [← nd_same]
      exact this.1
    have hT : ∀ i, i < l.length → ledN l i = true ∧ climbAt (atH l l.length) l.length l i = true := by
      intro i hi
      have := h5 i hi
      simp only [nodeT, Bool.and_eq_true] at this
      have h6 := this.2.2.2
      rw [tail_same h1 h3 hA hN hi, Bool.and_eq_true] at h6
      exact h6
    refine ⟨⟨h1, h2, hA⟩, ⟨h3, h4⟩, hN, ⟨?_, fun i hi => (hT i hi).1⟩, fun i hi => (hT i hi).2⟩
    intro i hi
    have := h5 i hi
    simp only [nodeT, Bool.and_eq_true] at this
    have h7 := this.2.2.1
    unfold leadN
    rw [List.all_eq_true] at h7 ⊢
    intro e he
    rw [← lead_same]
    exact h7 e he
  · rintro ⟨⟨h1, h2, hA⟩, ⟨h3, h4⟩, hN, ⟨h6, h7⟩, h8⟩
    refine ⟨⟨⟨h1, h2⟩, h3, h4⟩, fun i hi => ?_⟩
    simp only [nodeT, Bool.and_eq_true]
    have hA' := hA
    unfold ascL at hA'
    rw [List.all_eq_true] at hA'
    refine ⟨by rw [nd_same]; exact hN i hi, hA' i (by simpa using hi), ?_, ?_⟩
    · have h9 := h6 i hi
      unfold leadN at h9
      rw [List.all_eq_true] at h9 ⊢
      intro e he
      rw [lead_same]
      exact h9 e he
    · rw [tail_same h1 h3 hA hN hi, h7 i hi, h8 i hi]; rfl
end
section
/-- No two of one Shard and Ino. -/
def KD (l : List Nd) : Prop := l.Pairwise (fun a b => ¬ (a.h.sh = b.h.sh ∧ a.h.ino = b.h.ino))
def Asc (l : List Nd) : Prop := l.Pairwise (fun a b => lessH a.h b.h = true)
theorem KD.perm {l l' : List Nd} (h : KD l) (p : l.Perm l') : KD l' := (p.pairwise_iff (fun {a b} h k => h ⟨k.1.symm, k.2.symm⟩)).1 h
theorem Asc.kd {l : List Nd} (h : Asc l) : KD l := h.imp (fun {a b} h k => by
  simp only [lessH, Bool.or_eq_true, Bool.and_eq_true, decide_eq_true_eq] at h
  omega)
theorem ascL_asc {l : List Nd} (h : ascL l = true) : Asc l := by
  unfold Asc
  rw [List.pairwise_iff_getElem]
  intro i j hi hj hij
  have h1 := ascL_less h i (j - i - 1) (by omega)
  rw [show i + (j - i - 1) + 1 = j by omega, List.getElem?_eq_getElem hi, List.getElem?_eq_getElem hj] at h1
  exact h1
theorem treeI_asc {l : List Nd} (h : treeI l = true) : Asc l := by
  unfold treeI at h
  simp only [Bool.and_eq_true] at h
  exact ascL_asc h.1.2.2
theorem insN_perm (t : List Nd) (n : Nd) : (insN t n).Perm (n :: t) := by
  unfold insN
  have h : t.take (plN t n.h) ++ t.drop (plN t n.h) = t := List.take_append_drop _ _
  rw [List.append_assoc, List.singleton_append]
  conv => rhs; rw [← h]
  exact List.perm_middle
theorem insN_asc {l : List Nd} (r : Asc l) {n : Nd} (hn : ∀ m ∈ l, ¬ (m.h.sh = n.h.sh ∧ m.h.ino = n.h.ino)) : Asc (insN l n) := by
  unfold insN Asc
  rw [List.append_assoc, List.singleton_append, List.pairwise_append, List.pairwise_cons]
  have ha : ∀ a ∈ l.take (plN l n.h), lessH a.h n.h = true := by
    intro a ha
    obtain ⟨i, hi, rfl⟩ := List.getElem_of_mem ha
    rw [List.length_take] at hi
    have h9 := List.not_of_lt_findIdx (p := fun m : Nd => !lessH m.h n.h) (xs := l) (i := i) (by unfold plN at hi; omega)
    rw [List.getElem_take]
    simpa using h9
  have hb : ∀ b ∈ l.drop (plN l n.h), lessH n.h b.h = true := by
    intro b hb
    obtain ⟨j, hj, rfl⟩ := List.getElem_of_mem hb
    rw [List.length_drop] at hj
    rw [List.getElem_drop]
    have hpl : plN l n.h < l.length := by omega
    have hg : (!lessH (l[plN l n.h]'hpl).h n.h) = true := List.findIdx_getElem (p := fun m : Nd => !lessH m.h n.h) (w := hpl)
    have hno := hn _ (List.getElem_mem hpl)
    have h0 : lessH n.h (l[plN l n.h]'hpl).h = true := by
      simp only [Bool.not_eq_true', lessH, Bool.or_eq_false_iff, Bool.and_eq_false_iff, decide_eq_false_iff_not] at hg
      simp only [lessH, Bool.or_eq_true, Bool.and_eq_true, decide_eq_true_eq]
      omega
    by_cases hj0 : j = 0
    · subst hj0; simpa using h0
    · have h8 := r
      unfold Asc at h8
      rw [List.pairwise_iff_getElem] at h8
      exact lessH_trans h0 (h8 (plN l n.h) (plN l n.h + j) hpl (by omega) (by omega))
  have hw : l.Pairwise (fun a b => lessH a.h b.h = true) := r
  rw [← List.take_append_drop (plN l n.h) l, List.pairwise_append] at hw
  refine ⟨hw.1, ⟨hb, hw.2.1⟩, fun a h1 b h2 => ?_⟩
  rcases List.mem_cons.1 h2 with rfl | h2
  · exact ha a h1
  · exact hw.2.2 a h1 b h2
theorem fi_mem {t : List Nd} {h : Hd} (hf : fi t h < t.length) : ∃ m ∈ t, m.h = h := by
  refine ⟨t[fi t h], List.getElem_mem hf, ?_⟩
  have := List.findIdx_getElem (p := fun n : Nd => decide (n.h = h)) (w := hf)
  exact of_decide_eq_true this
/-- Where it is put together, all is there, each at its place. -/
theorem uSt_some {c : Int} : ∀ {r t u : List Nd}, uSt c t r = some u → (∀ n ∈ r, n.h.sh = c) ∧ u.Perm (t ++ r)
  | [], t, u, h => by
    simp only [uSt, Option.some.injEq] at h
    subst h
    exact ⟨fun n hn => (by cases hn), by rw [List.append_nil]⟩
  | n :: r, t, u, h => by
    simp only [uSt] at h
    by_cases hc : n.h.sh ≠ c ∨ fi t n.h < t.length
    · rw [if_pos hc] at h; cases h
    · rw [if_neg hc] at h
      obtain ⟨h1, h2⟩ := uSt_some h
      refine ⟨fun m hm => ?_, h2.trans ?_⟩
      · rcases List.mem_cons.1 hm with rfl | hm
        · apply Classical.byContradiction; intro k; exact hc (.inl k)
        · exact h1 m hm
      · exact ((insN_perm t n).append_right r).trans (by rw [List.cons_append]; exact List.perm_middle.symm)
theorem uSt_ok {c : Int} : ∀ {r t : List Nd}, Asc t → KD (t ++ r) → (∀ n ∈ r, n.h.sh = c) → ∃ u, uSt c t r = some u ∧ u.Perm (t ++ r) ∧ Asc u
  | [], t, ha, hk, hs => ⟨t, rfl, by rw [List.append_nil], ha⟩
  | n :: r, t, ha, hk, hs => by
    have hp : (t ++ n :: r).Perm (insN t n ++ r) := (((insN_perm t n).append_right r).trans (by rw [List.cons_append]; exact List.perm_middle.symm)).symm
    have hno : ∀ m ∈ t, ¬ (m.h.sh = n.h.sh ∧ m.h.ino = n.h.ino) := fun m hm => by
      unfold KD at hk
      rw [List.pairwise_append] at hk
      exact hk.2.2 m hm n List.mem_cons_self
    have hc : ¬ (n.h.sh ≠ c ∨ fi t n.h < t.length) := fun h => by
      rcases h with h | h
      · exact h (hs n List.mem_cons_self)
      · obtain ⟨m, hm, e⟩ := fi_mem h
        exact hno m hm ⟨by rw [e], by rw [e]⟩
    obtain ⟨u, h1, h2, h3⟩ := uSt_ok (insN_asc ha hno) (hk.perm hp) (fun m hm => hs m (List.mem_cons_of_mem _ hm))
    exact ⟨u, by simp only [uSt]; rw [if_neg hc]; exact h1, h2.trans hp.symm, h3⟩
/-- All nodes of all shards. -/
def allN (l : List ShD) : List Nd := l.flatMap (fun s => s.nds)
/-- From the shard i on: not too many, and each at its place. -/
def plc : Nat → List ShD → Bool
  | _, [] => true
  | i, s :: r => decide (s.nds.length ≤ 120) && (lieB (i : Int) s.nds && plc (i + 1) r)
theorem lieB_iff (c : Int) (l : List Nd) : lieB c l = true ↔ ∀ n ∈ l, n.h.sh = c := by unfold lieB; simp [List.all_eq_true]
theorem uSh_some : ∀ {l : List ShD} {i : Nat} {t u : List Nd}, uSh i t l = some u → plc i l = true ∧ u.Perm (t ++ allN l)
  | [], i, t, u, h => by
    simp only [uSh, Option.some.injEq] at h
    subst h
    exact ⟨rfl, by simp [allN]⟩
  | s :: r, i, t, u, h => by
    simp only [uSh] at h
    by_cases hc : 120 < s.nds.length
    · rw [if_pos hc] at h; cases h
    · rw [if_neg hc] at h
      cases hu : uSt (i : Int) t s.nds with
      | none => rw [hu] at h; cases h
      | some x =>
        rw [hu] at h
        obtain ⟨h1, h2⟩ := uSt_some hu
        obtain ⟨h3, h4⟩ := uSh_some (l := r) (i := i + 1) (t := x) (u := u) h
        refine ⟨?_, h4.trans ?_⟩
        · simp only [plc, Bool.and_eq_true, decide_eq_true_eq]
          exact ⟨by omega, (lieB_iff _ _).2 h1, h3⟩
        · have : allN (s :: r) = s.nds ++ allN r := by simp [allN]
          rw [this, ← List.append_assoc]
          exact h2.append_right _
theorem uSh_ok : ∀ {l : List ShD} {i : Nat} {t : List Nd}, Asc t → KD (t ++ allN l) → plc i l = true → ∃ u, uSh i t l = some u ∧ u.Perm (t ++ allN l) ∧ Asc u
  | [], i, t, ha, hk, hp => ⟨t, rfl, by simp [allN], ha⟩
  | s :: r, i, t, ha, hk, hp => by
    simp only [plc, Bool.and_eq_true, decide_eq_true_eq] at hp
    have e : allN (s :: r) = s.nds ++ allN r := by simp [allN]
    rw [e, ← List.append_assoc] at hk
    have hk1 : KD (t ++ s.nds) := by unfold KD at hk ⊢; rw [List.pairwise_append] at hk; exact hk.1
    obtain ⟨x, h1, h2, h3⟩ := uSt_ok ha hk1 ((lieB_iff _ _).1 hp.2.1)
    obtain ⟨u, h4, h5, h6⟩ := uSh_ok (l := r) (i := i + 1) h3 (hk.perm (h2.symm.append_right _)) hp.2.2
    refine ⟨u, ?_, ?_, h6⟩
    · simp only [uSh]
      rw [if_neg (by omega), h1]
      exact h4
    · rw [e, ← List.append_assoc]
      exact h5.trans (h2.append_right _)
/-- Not at their places: no union. -/
theorem unD_plc {l : List ShD} (h : plc 0 l = false) : unD l = ([], false) := by
  unfold unD
  cases hu : unO l with
  | none => rfl
  | some t =>
    unfold unO at hu
    by_cases h4 : 4 < l.length
    · rw [if_pos h4] at hu; cases hu
    · rw [if_neg h4] at hu
      rw [(uSh_some hu).1] at h
      cases h
theorem unD_four {l : List ShD} (h : 4 < l.length) : unD l = ([], false) := by unfold unD unO; rw [if_pos h]
/-- Sorted by the library: the union, if that is a tree. -/
theorem unD_sort {l : List ShD} {L : List Nd} (h4 : ¬ 4 < l.length) (hp : plc 0 l = true) (hL : (allN l).Perm L) (hs : ∀ M, (allN l).Perm M → M.Pairwise (fun a b => byHd a.h b.h < 0) → L = M) :
    unD l = if treeI L = true then (L, true) else ([], false) := by
  by_cases hk : KD (allN l)
  · obtain ⟨u, h1, h2, h3⟩ := uSh_ok (l := l) (i := 0) (t := []) List.Pairwise.nil (by rw [List.nil_append]; exact hk) hp
    rw [List.nil_append] at h2
    have e : L = u := hs u h2.symm (h3.imp (fun {a b} h => (byHd_lt _ _).2 (by
      simp only [lessH, Bool.or_eq_true, Bool.and_eq_true, decide_eq_true_eq] at h
      dsimp only [Hd.sh, Hd.ino] at h
      omega)))
    subst e
    unfold unD unO
    rw [if_neg h4, h1, ← tree_same]
  · have hL2 : ¬ treeI L = true := fun h => hk ((treeI_asc h).kd.perm hL.symm)
    rw [if_neg hL2]
    unfold unD
    cases hu : unO l with
    | none => rfl
    | some t =>
      have hu2 := hu
      unfold unO at hu2
      rw [if_neg h4] at hu2
      have hp2 := (uSh_some hu2).2
      rw [List.nil_append] at hp2
      have : ¬ treeOk t = true := fun h => hk ((treeI_asc (by rw [← tree_same]; exact h)).kd.perm hp2)
      simp [this]
/- step by step -/
theorem plc_split : ∀ (l : List ShD) (i k : Nat), plc i l = (plc i (l.take k) && plc (i + k) (l.drop k))
  | l, i, 0 => by simp [plc]
  | [], i, k + 1 => by simp [plc]
  | s :: r, i, k + 1 => by
    simp only [List.take_succ_cons, List.drop_succ_cons, plc]
    rw [plc_split r (i + 1) k, show i + 1 + k = i + (k + 1) by omega]
    simp [Bool.and_assoc]
theorem plc_no {l : List ShD} {k : Nat} (hk : k < l.length) (h : 120 < (l[k]?.getD sh0).nds.length ∨ lieB (k : Int) (l[k]?.getD sh0).nds = false) : plc 0 l = false := by
  rw [plc_split l 0 k, drop_at l sh0 hk]
  have : plc (0 + k) ((l[k]?.getD sh0) :: l.drop (k + 1)) = false := by
    simp only [plc, Nat.zero_add]
    rcases h with h | h
    · rw [decide_eq_false (by omega)]; rfl
    · rw [h]; simp
  rw [this, Bool.and_false]
theorem plc_take {l : List ShD} {k : Nat} (hk : k < l.length) (h0 : plc 0 (l.take k) = true) (h1 : (l[k]?.getD sh0).nds.length ≤ 120) (h2 : lieB (k : Int) (l[k]?.getD sh0).nds = true) : plc 0 (l.take (k + 1)) = true := by
  rw [plc_split _ 0 k, List.take_take, Nat.min_eq_left (by omega), h0]
  have e : (l.take (k + 1)).drop k = [l[k]?.getD sh0] := by
    rw [drop_at (l.take (k + 1)) sh0 (by rw [List.length_take]; omega), List.getElem?_take_of_lt (by omega), List.drop_eq_nil_of_le (by rw [List.length_take]; omega)]
  rw [e]
  simp only [plc, Nat.zero_add, h2, Bool.and_true, Bool.true_and, decide_eq_true_eq]
  exact h1
theorem allN_take {l : List ShD} {k : Nat} (hk : k < l.length) : allN (l.take (k + 1)) = allN (l.take k) ++ (l[k]?.getD sh0).nds := by
  unfold allN
  rw [List.take_succ_eq_append_getElem hk, List.flatMap_append, List.flatMap_cons, List.flatMap_nil, List.append_nil, List.getElem?_eq_getElem hk]
  rfl
theorem szNds_app (a b : List Nd) : szNds (a ++ b) = szNds a + szNds b := by
  unfold szNds
  simp only [List.length_append, List.map_append, List.sum_append]
  omega
theorem szAll : ∀ (l : List ShD), szNds (allN l) ≤ szShs l
  | [] => by simp [allN, szNds, szShs]
  | s :: r => by
    have h := szAll r
    have e : allN (s :: r) = s.nds ++ allN r := by simp [allN]
    have e2 : szShs (s :: r) = 1 + szSh s + szShs r := by unfold szShs; simp only [List.map_cons, List.sum_cons, List.length_cons]; omega
    have e3 : szNds s.nds ≤ szSh s := by unfold szSh; omega
    rw [e, szNds_app, e2]
    omega
end
section
theorem hideU {P : Prop} (h : P) : Hid P := h
/-- The tree that is put together: nil where nothing is in it. -/
def UT (w : World) (tb lo : Nat) (L : Nat → Prop) (t : List Nd) : Prop := ∃ v, VarA w tb 26 #[v] ∧ SG w lo L v t ∧ (t = [] → v = .slice none 0 0) ∧ ∃ a n c, v = .slice a n c
theorem UT.step {w w' : World} {tb lo : Nat} {L : Nat → Prop} {t : List Nd} (u : UT w tb lo L t) (b : Below w.heap.size w w') : UT w' tb lo L t := by
  obtain ⟨v, h1, h2, h3⟩ := u
  exact ⟨v, h1.step b, h2.step b, h3⟩
theorem insN_ne (t : List Nd) (n : Nd) : insN t n ≠ [] := by unfold insN; simp
theorem uIns_any (tb lo : Nat) (x : Value) (t : List Nd) (n : Nd) (L : Nat → Prop) (w : World) (u : UT w tb lo L t) (hLt : ¬ L tb) (rx : RdV w (fun b => L b ∧ b < w.heap.size) x (ensO n.es)) (hlo : lo ≤ w.heap.size) (hl : t.length ≤ 3000) :
    Calls Tryz.prog 15 #[.pointer (some ⟨tb, 0, none⟩), ndV n x] w fun e w' => e = .returned (.tuple #[]) ∧ UT w' tb lo L (insN t n) ∧ Turned (fun b => b = tb) w w' := by
  obtain ⟨v, h1, h2, h3, _⟩ := u
  have fin : ∀ (e : Ending) (w' : World), (e = .returned (.tuple #[]) ∧ ∃ v', VarA w' tb 26 #[v'] ∧ SG w' lo L v' (insN t n) ∧ v'.ownBlock ≠ some tb ∧ Turned (fun b => b = tb) w w') → e = .returned (.tuple #[]) ∧ UT w' tb lo L (insN t n) ∧ Turned (fun b => b = tb) w w' := by
    rintro e w' ⟨he, v', k1, k2, _, k4⟩
    obtain ⟨g, cap, hv, _⟩ := k2.head (by rw [len_ins]; omega)
    exact ⟨he, ⟨v', k1, k2, fun h => absurd h (insN_ne t n), ⟨_, _, _, hv⟩⟩, k4⟩
  by_cases h0 : t = []
  · have hv := h3 h0
    subst hv
    exact (specInsert0_any tb x t n lo L w h1 hLt rx hlo h0).mono fin
  · exact (specInsert_any tb v x t n lo L w h1 h2 hLt rx hlo hl (List.length_pos_iff.2 h0)).mono fin
/-- What Union says. -/
def UnS (l : List ShD) (w : World) (e : Ending) (w' : World) : Prop :=
  ∃ a n c, e = .returned (.tuple #[.agg #[.slice a n c], .bool (unD l).2]) ∧ RdV w' (fun b => w.heap.size ≤ b ∧ b < w'.heap.size) (.slice a n c) (ndsDt (unD l).1) ∧ Below w.heap.size w w'
theorem UnS.no {l : List ShD} {w w' : World} (h : unD l = ([], false)) (b : Below w.heap.size w w') : UnS l w (.returned (.tuple #[.agg #[.slice none 0 0], .bool false])) w' := by
  refine ⟨none, 0, 0, by rw [h], ?_, b⟩
  rw [h]
  exact OwV.rd (OwV.nilR _ _ _ _ _)
theorem unD_none {l : List ShD} (h : unO l = none) : unD l = ([], false) := by unfold unD; rw [h]
theorem unD_bad {l : List ShD} {t : List Nd} (h : unO l = some t) (ht : treeOk t = false) : unD l = ([], false) := by unfold unD; rw [h]; simp [ht]
theorem unD_good {l : List ShD} {t : List Nd} (h : unO l = some t) (ht : treeOk t = true) : unD l = (t, true) := by unfold unD; rw [h]; simp [ht]
theorem results_tf {fn : Func} {p u : Tmp} {ty : TypeId} (h : fn.results = #[.cell p ty, .tmp u]) (tmps : Array Value) (w : World) (g : Nat) (t : TypeId) (cs : Array Value) (d : TypeDesc)
    (hp : tmps.getD p undef = .pointer (some ⟨g, 0, none⟩)) (hg : VarA w g t cs)
    (hu : Tryz.prog.underlying ty = some d) (hd : d.isRow = true) (hi : (Tryz.prog.info? ty).map (·.size) = some cs.size) :
    (results fn tmps).run Tryz.prog w = .ok (.tuple #[.agg cs, tmps.getD u undef]) w := by
  rw [results_cell_tmp h, hp]
  simp [asAddr, loadA_run hg hu hd hi]
/-- A node of nodes of one's own. -/
theorem ndAt {w : World} {Q : Nat → Prop} {v : Value} {nds : List Nd} (o : OwV w Q v (ndsDt nds)) (hQ : ∀ b, Q b → b < w.heap.size) {j : Nat} (hj : j < nds.length) :
    ∃ g cap x, v = .slice (some ⟨g, 0, none⟩) nds.length cap ∧ g < w.heap.size ∧ (∀ q, q < 9 → w.cell? ⟨g, j * 9 + q, none⟩ = some (ndVal (nds[j]?.getD nd0) x q)) ∧ RdV w Q x (ensO (nds[j]?.getD nd0).es) := by
  obtain ⟨Q2, x, g, cap, hv, hc, hox, hQ2, _⟩ := OwV.sub o hj (j := 8) (by omega)
  have s := (OwV.nds o hQ).sg
  subst hv
  obtain ⟨xx, _, cd⟩ := s.at hj
  have e8 := cd 8 (by omega)
  have hx : xx = x := by
    have h2 : w.cell? ⟨g, j * 9 + 8, none⟩ = some xx := e8
    rw [hc] at h2
    exact (Option.some.inj h2).symm
  subst hx
  exact ⟨g, cap, xx, rfl, OwV.lt0 o hj, cd, RdV.mono (fun b hb => (hQ2 b hb).1) (OwV.en hox)⟩
/-- The nodes of a shard of shards of one's own. -/
theorem shAt {w : World} {S : Nat → Prop} {a : Option Addr} {cap : Nat} {l : List ShD} (o : OwV w S (.slice a l.length cap) (shsDt l)) (hS : ∀ b, S b → b < w.heap.size) {k : Nat} (hk : k < l.length) :
    ∃ g xa xc, a = some ⟨g, 0, none⟩ ∧ g < w.heap.size ∧ w.cell? ⟨g, k * 8 + 3, none⟩ = some (.slice xa (l[k]?.getD sh0).nds.length xc) ∧ ∀ j, j < (l[k]?.getD sh0).nds.length → ∃ g2 x, xa = some ⟨g2, 0, none⟩ ∧ g2 < w.heap.size ∧ (∀ q, q < 9 → w.cell? ⟨g2, j * 9 + q, none⟩ = some (ndVal ((l[k]?.getD sh0).nds[j]?.getD nd0) x q)) ∧ RdV w S x (ensO ((l[k]?.getD sh0).nds[j]?.getD nd0).es) := by
  obtain ⟨Q, x, g, cp, hv, hc, hox, hQ, _⟩ := OwV.sub o hk (j := 3) (by omega)
  have hox2 : OwV w Q x (ndsDt (l[k]?.getD sh0).nds) := hox
  obtain ⟨xa, xc, rfl, _⟩ := RdV.sliced hox2.rd
  simp only [Value.slice.injEq, true_and] at hv
  obtain ⟨rfl, rfl⟩ := hv
  refine ⟨g, xa, xc, rfl, OwV.lt0 o hk, hc, fun j hj => ?_⟩
  obtain ⟨g2, c2, y, hv, h1, h2, h3⟩ := ndAt hox2 (fun b hb => hS b (hQ b hb).1) hj
  simp only [Value.slice.injEq, true_and] at hv
  obtain ⟨rfl, rfl⟩ := hv
  exact ⟨g2, y, rfl, h1, h2, RdV.mono (fun b hb => (hQ b hb).1) h3⟩
theorem ensO_slice {w : World} {S : Nat → Prop} {x : Value} {es : List En} (r : RdV w S x (ensO es)) : ∃ xa xc, x = .slice xa es.length xc := by
  obtain ⟨xa, xc, h, _⟩ := RdV.sliced (RdV.en r)
  exact ⟨xa, xc, h⟩
set_option maxHeartbeats 16000000 in
theorem specUnion_any (v : Value) (l : List ShD) (S : Nat → Prop) (w : World) (o : OwV w S v (shsDt l)) (hS : ∀ b, S b → b < w.heap.size) (hl : szShs l ≤ 2097152) : Calls Tryz.prog 5 #[v] w (UnS l w) := by
  obtain ⟨a, cap, rfl, _⟩ := RdV.sliced o.rd
  have HSH : Hid (∀ k, k < l.length → _) := fun k hk => shAt o hS hk
  have HREM : Hid (∀ i, i < l.length → remN l i = szNds (l[i]?.getD sh0).nds + remN l (i + 1)) := fun i hi => remN_next l hi
  have HR0 : Hid (remN l 0 ≤ 2097152) := Nat.le_trans (remN_le l) hl
  have HNX : Hid (∀ (i : Nat) (t : List Nd), i < l.length → uSh i t (l.drop i) = if 120 < (l[i]?.getD sh0).nds.length then none else (uSt (i : Int) t (l[i]?.getD sh0).nds).bind (fun u => uSh (i + 1) u (l.drop (i + 1)))) := fun i t hi => uSh_next i t l hi
  have HEND : Hid (∀ i t, uSh i t (l.drop l.length) = some t) := fun i t => uSh_end i t l
  have HSM : Hid (∀ b, S b → b < w.heap.size) := hS
  have hn : l.length ≤ 2097152 := by unfold szShs at hl; omega
  have HU0 : Hid (unO l = if 4 < l.length then none else uSh 0 [] (l.drop 0)) := by show _ = _; unfold unO; rw [List.drop_zero]
  have HNO : Hid (unO l = none → ∀ W, Below w.heap.size w W → UnS l w (.returned (.tuple #[.agg #[.slice none 0 0], .bool false])) W) := fun h W b => UnS.no (unD_none h) b
  have HBAD : Hid (∀ t, unO l = some t → treeOk t = false → ∀ W, Below w.heap.size w W → UnS l w (.returned (.tuple #[.agg #[.slice none 0 0], .bool false])) W) := fun t h ht W b => UnS.no (unD_bad h ht) b
  have HGO : Hid (∀ t, unO l = some t → treeOk t = true → ∀ a n c W, Below w.heap.size w W → RdV W (fun b => w.heap.size ≤ b ∧ b < W.heap.size) (.slice a n c) (ndsDt t) → UnS l w (.returned (.tuple #[.agg #[.slice a n c], .bool true])) W) := fun t h ht a n c W b r => ⟨a, n, c, by rw [unD_good h ht], by rw [unD_good h ht]; exact r, b⟩
  clear o hl hS
  generalize UnS l w = R at *
  obtain ⟨m, hm⟩ : ∃ m, l.length = m := ⟨_, rfl⟩
  rw [hm] at HSH HREM HNX HEND hn HU0 ⊢
  clear hm
  generalize unO l = res at *
  by_cases h4 : 4 < m
  · have HX : Hid (res = none) := by rw [if_pos h4] at HU0; exact HU0
    have h4i : ¬ (m : Int) ≤ 4 := by omega
    go_enter Tryz.func5, Tryz.ntmps5
    go_wp2
    refine bodyPost_ret (results_tf Tryz.results5 _ _ _ _ _ _ rfl ((VarA.new w _ _).alloc _) Tryz.underlying26 rfl (by kernel_rfl)) rfl ?_
    exact HNO.out HX.out _ (Below.newH2 _ _)
  · have HX : Hid (res = uSh 0 [] (l.drop 0)) := by rw [if_neg h4] at HU0; exact HU0
    have h4i : (m : Int) ≤ 4 := by omega
    clear HU0
    have h4n : m ≤ 4 := by omega
    go_enter Tryz.func5, Tryz.ntmps5
    go_wp2
    go_loopw [5] (fun i wr => ∃ (k : Nat) (t : List Nd), k ≤ m ∧ i = .int .i64 k ∧ Hid (res = uSh k t (l.drop k)) ∧ Hid (szNds t + remN l k ≤ 2097152) ∧ Hid (t.length ≤ 120 * k) ∧ Hid (UT wr (w.heap.size + 1) w.heap.size S t) ∧ Hid (VarA wr w.heap.size 26 #[.slice none 0 0]) ∧ Hid (Below w.heap.size w wr)) (fun i _ => m - (intOf i).toNat)
    case atStart =>
      refine ⟨0, [], Nat.zero_le _, rfl, HX.out, ?_, Nat.le_refl _, ⟨.slice none 0 0, by simpa using VarA.new (w.alloc (.cells #[.slice none 0 0] 26)) 26 #[.slice none 0 0], SG.nil _ _ _, fun _ => rfl, _, _, _, rfl⟩, (VarA.new w _ _).alloc _, Below.newH2 _ _⟩
      have h : remN l 0 ≤ 2097152 := HR0.out
      have : szNds [] + remN l 0 ≤ 2097152 := by simpa [szNds] using h
      exact this
    case round =>
      obtain ⟨k, t, hk, rfl, HR, HZ, HTL, HU, HV, HB⟩ := hrel
      by_cases hlt : k < m
      · obtain ⟨g, xa, xc, rfl, hgl, hc3, hnd⟩ := HSH.out k hlt
        have hnx := HNX.out k t hlt
        have hrm := HREM.out k hlt
        obtain ⟨e, he⟩ : ∃ e, l[k]?.getD sh0 = e := ⟨_, rfl⟩
        rw [he] at hc3 hnd hnx hrm
        clear he
        obtain ⟨ns, hns⟩ : ∃ ns, e.nds = ns := ⟨_, rfl⟩
        rw [hns] at hc3 hnd hnx hrm
        clear hns e
        have HND : Hid _ := hnd
        have HNX2 : Hid (res = _) := HR.out.trans hnx
        have HRM : Hid _ := hrm
        have HC3 : Hid (∀ W, Below w.heap.size w W → W.cell? ⟨g, k * 8 + 3, none⟩ = some (.slice xa ns.length xc)) := fun W hW => (hW.cell (p := ⟨g, k * 8 + 3, none⟩) hgl).trans hc3
        have c3 := HC3.out _ HB.out
        clear hnd hnx hrm HR hc3
        by_cases h120 : 120 < ns.length
        · have h120i : ¬ (ns.length : Int) ≤ 120 := by omega
          have HN2 : Hid (res = none) := by have h := HNX2.out; rw [if_pos h120] at h; exact h
          have cR := HV.out.l1
          have fR := HV.out.fz
          go_wp2
          refine bodyPost_ret (results_tf Tryz.results5 _ _ _ _ _ _ rfl (HV.out.set 0 _) Tryz.underlying26 rfl (by kernel_rfl)) rfl ?_
          exact HNO.out HN2.out _ (HB.out.setCell (p := ⟨w.heap.size, 0, none⟩) (Nat.le_refl _) _)
        · have h120i : (ns.length : Int) ≤ 120 := by omega
          have HN3 : Hid (res = (uSt (k : Int) t (ns.drop 0)).bind (fun u => uSh (k + 1) u (l.drop (k + 1)))) := by have h := HNX2.out; rw [if_neg h120] at h; rw [List.drop_zero]; exact h
          have HZ3 : Hid (szNds t + szNds (ns.drop 0) + remN l (k + 1) ≤ 2097152) := by have h := HZ.out; rw [HRM.out] at h; rw [List.drop_zero]; show _ ≤ _; omega
          have HT3 : Hid (t.length ≤ 120 * k + 0) := HTL.out
          clear HNX2 HZ HTL HRM
          go_wp2
          go_loopw [6] (fun i wr => ∃ (j : Nat) (t : List Nd), j ≤ ns.length ∧ i = .int .i64 j ∧ Hid (res = (uSt (k : Int) t (ns.drop j)).bind (fun u => uSh (k + 1) u (l.drop (k + 1)))) ∧ Hid (szNds t + szNds (ns.drop j) + remN l (k + 1) ≤ 2097152) ∧ Hid (t.length ≤ 120 * k + j) ∧ Hid (UT wr (w.heap.size + 1) w.heap.size S t) ∧ Hid (VarA wr w.heap.size 26 #[.slice none 0 0]) ∧ Hid (Below w.heap.size w wr)) (fun i _ => ns.length - (intOf i).toNat)
          case atStart => exact ⟨0, t, Nat.zero_le _, rfl, HN3.out, HZ3.out, HT3.out, HU.out, HV.out, HB.out⟩
          case round =>
            clear HN3 HZ3 HT3 HU HV HB c3
            obtain ⟨j, t, hj, rfl, HR, HZ, HTL, HU, HV, HB⟩ := hrel
            have c3 := HC3.out _ HB.out
            by_cases hjl : j < ns.length
            · obtain ⟨g2, x, rfl, hg2, hcs, hrx⟩ := HND.out j hjl
              obtain ⟨ya, yc, rfl⟩ := ensO_slice hrx
              have hun := uSt_next (k : Int) t ns hjl
              have hsd := szNds_drop ns hjl
              obtain ⟨e, he⟩ : ∃ e, ns[j]?.getD nd0 = e := ⟨_, rfl⟩
              rw [he] at hcs hrx hun hsd
              clear he
              have bw := HB.out
              have C : ∀ q, q < 9 → wr.cell? ⟨g2, j * 9 + q, none⟩ = some (ndVal e (.slice ya e.es.length yc) q) := fun q hq => (bw.cell (p := ⟨g2, j * 9 + q, none⟩) hg2).trans (hcs q hq)
              obtain ⟨⟨p, q, d⟩, ⟨p2, q2, d2⟩, lk, vl, es⟩ := e
              have c0 : wr.cell? ⟨g2, j * 9, none⟩ = some (.int .i64 p) := C 0 (by omega)
              have c1 : wr.cell? ⟨g2, j * 9 + 1, none⟩ = some (.int .i64 q) := C 1 (by omega)
              have c2 : wr.cell? ⟨g2, j * 9 + 2, none⟩ = some (.bool d) := C 2 (by omega)
              have c3_ : wr.cell? ⟨g2, j * 9 + 3, none⟩ = some (.int .i64 p2) := C 3 (by omega)
              have c4 : wr.cell? ⟨g2, j * 9 + 4, none⟩ = some (.int .i64 q2) := C 4 (by omega)
              have c5 : wr.cell? ⟨g2, j * 9 + 5, none⟩ = some (.bool d2) := C 5 (by omega)
              have c6 : wr.cell? ⟨g2, j * 9 + 6, none⟩ = some (.int .i64 lk) := C 6 (by omega)
              have c7 : wr.cell? ⟨g2, j * 9 + 7, none⟩ = some (.int .i64 vl) := C 7 (by omega)
              have c8 : wr.cell? ⟨g2, j * 9 + 8, none⟩ = some (.slice ya es.length yc) := C 8 (by omega)
              have HUN : Hid _ := hun
              have HSD : Hid _ := hsd
              have HRX : Hid (∀ W, Below w.heap.size w W → RdV W S (.slice ya es.length yc) (ensO es)) := fun W hW => hrx.step hW
              obtain ⟨u, hv1, hv2, hv3, ua, un, uc, rfl⟩ := HU.out
              have ct := hv1.l1
              have ktl := hv1.lt
              have HFD : Hid (∀ W, Below wr.heap.size wr W → Calls Tryz.prog 14 #[.agg #[.slice ua un uc], Hd.v (p, q, d)] W fun e w' => e = .returned (.int .i64 (findH t (p, q, d))) ∧ Below W.heap.size W w') := fun W hW => specFind_any _ t (p, q, d) _ W (hv2.step hW).rd (by have := HTL.out; omega)
              have cR := HV.out.l1
              have fR := HV.out.fz
              have kR := HV.out.lt
              have hgw : g2 < wr.heap.size := Nat.lt_of_lt_of_le hg2 bw.size
              have hji : (j : Int) < (ns.length : Int) := by omega
              have hki : (k : Int) < (m : Int) := by omega
              dsimp only at HUN HSD
              clear hun hsd hcs hrx C hv1 hv2 hv3 bw
              generalize es.length = xn at c8 HRX
              by_cases hp : p = (k : Int)
              · have hpb : (p != (k : Int)) = false := by simpa using hp
                obtain ⟨f, hf⟩ : ∃ z, findH t (p, q, d) = z := ⟨_, rfl⟩
                rw [hf] at HFD
                have hfc := findH_cases t (p, q, d)
                rw [hf] at hfc
                have HPK : Hid (p = (k : Int)) := hp
                clear hf hp
                go_wp2_with fail
                refine Calls.mono (HFD.out _ (Below.newH _)) ?_
                rintro e w2 ⟨rfl, b2⟩
                have B2 : Below wr.heap.size wr w2 := (Below.newH (w := wr) _).trans (b2.mono (by simp))
                have HVN := hideU (VarA.step (VarA.new wr 54 #[.int .i64 p, .int .i64 q, .bool d, .int .i64 p2, .int .i64 q2, .bool d2, .int .i64 lk, .int .i64 vl, .slice ya xn yc]) b2)
                have HV2 := hideU (HV.out.step B2)
                have HU2 := hideU (HU.out.step B2)
                have HB2 := hideU (HB.out.trans (B2.mono HB.out.size))
                have HZ2 : Hid (wr.heap.size < w2.heap.size) := HVN.out.lt
                clear b2 B2 HFD c0 c1 c2 c3_ c4 c5 c6 c7 c8 ct c3 cR fR
                rcases hfc with ⟨hf1, rfl⟩ | ⟨hf1, rfl⟩
                · have HN2 : Hid (res = none) := by have h := HR.out; rw [HUN.out, if_pos (.inr hf1)] at h; exact h
                  have hge : decide ((0 : Int) ≤ ((fi t (p, q, d) : Nat) : Int)) = true := by simp
                  have cR := HV2.out.l1
                  have fR := HV2.out.fz
                  go_wp2
                  refine bodyPost_ret (results_tf Tryz.results5 _ _ _ _ _ _ rfl (HV2.out.set 0 _) Tryz.underlying26 rfl (by kernel_rfl)) rfl ?_
                  exact HNO.out HN2.out _ (HB2.out.setCell (p := ⟨w.heap.size, 0, none⟩) (Nat.le_refl _) _)
                · have HN2 : Hid (res = (uSt (k : Int) (insN t ⟨(p, q, d), (p2, q2, d2), lk, vl, es⟩) (ns.drop (j + 1))).bind (fun u => uSh (k + 1) u (l.drop (k + 1)))) := by have h := HR.out; rw [HUN.out, if_neg (fun h => h.elim (fun h => h HPK.out) hf1)] at h; exact h
                  have HIN : Hid _ := uIns_any (w.heap.size + 1) w.heap.size (.slice ya xn yc) t ⟨(p, q, d), (p2, q2, d2), lk, vl, es⟩ S w2 HU2.out (fun h => by have := HSM.out _ h; omega) (RdV.mono (fun b hb => ⟨hb, Nat.lt_of_lt_of_le (HSM.out b hb) HB2.out.size⟩) (HRX.out _ HB2.out)) HB2.out.size (by have := HTL.out; omega)
                  obtain ⟨n0, n1, n2, n3, n4, n5, n6, n7, n8⟩ := HVN.out.l9
                  clear hf1 hpb
                  go_wp2_with fail
                  refine Calls.mono HIN.out ?_
                  rintro e w3 ⟨rfl, hu3, t3⟩
                  have HV3 := hideU (HV2.out.turn t3 (by omega))
                  have HB3 : Hid (Below w.heap.size w w3) := Turned.below HB2.out t3 HB2.out.size (fun i hi => by omega)
                  have HU3 := hideU hu3
                  have HT3 : Hid ((insN t ⟨(p, q, d), (p2, q2, d2), lk, vl, es⟩).length ≤ 120 * k + (j + 1)) := by rw [len_ins]; have := HTL.out; show _ ≤ _; omega
                  have HZ3 : Hid (szNds (insN t ⟨(p, q, d), (p2, q2, d2), lk, vl, es⟩) + szNds (ns.drop (j + 1)) + remN l (k + 1) ≤ 2097152) := by have h1 := HZ.out; rw [HSD.out] at h1; have h2 := szNds_ins t ⟨(p, q, d), (p2, q2, d2), lk, vl, es⟩; dsimp only at h2; show _ ≤ _; omega
                  clear hu3 t3 n0 n1 n2 n3 n4 n5 n6 n7 n8 HIN
                  go_wp2
                  go_roundw
                  case rel => exact ⟨j + 1, _, by omega, by go_num, HN2.out, HZ3.out, HT3.out, HU3.out, HV3.out, HB3.out⟩
                  case measure => simp [intOf]; omega
              · have hpb : (p != (k : Int)) = true := by simpa using hp
                have HN2 : Hid (res = none) := by have h := HR.out; rw [HUN.out, if_pos (.inl hp)] at h; exact h
                clear hp
                go_wp2
                refine bodyPost_ret (results_tf Tryz.results5 _ _ _ _ _ _ rfl ((HV.out.set 0 _).alloc _) Tryz.underlying26 rfl (by kernel_rfl)) rfl ?_
                exact HNO.out HN2.out _ (Below.alloc (HB.out.setCell (p := ⟨w.heap.size, 0, none⟩) (Nat.le_refl _) _) (by simpa using HB.out.size) _)
            · have hje : j = ns.length := by omega
              subst hje
              have HN2 : Hid (res = uSh (k + 1) t (l.drop (k + 1))) := by have h := HR.out; rw [uSt_end] at h; exact h
              have HZ2 : Hid (szNds t + remN l (k + 1) ≤ 2097152) := by have := HZ.out; show _ ≤ _; omega
              have HT2 : Hid (t.length ≤ 120 * (k + 1)) := by have := HTL.out; show _ ≤ _; omega
              clear HR HZ HTL
              go_wp2
              go_roundw
              case rel => exact ⟨k + 1, t, by omega, by go_num, HN2.out, HZ2.out, HT2.out, HU.out, HV.out, HB.out⟩
              case measure => simp [intOf]; omega
      · have hkm : k = m := by omega
        subst hkm
        have HS2 : Hid (res = some t) := HR.out.trans (HEND.out k t)
        obtain ⟨u, hv1, hv2, hv3, ua, un, uc, rfl⟩ := HU.out
        have ct := hv1.l1
        have HTR : Hid _ := specTree_any (.slice ua un uc) t _ wr hv2.rd (by have := HZ.out; omega)
        have HCP : Hid (treeOk t = true → ∀ W, Below wr.heap.size wr W → Calls Tryz.prog 17 #[.agg #[.slice ua un uc]] W fun e w' => ∃ a n c, e = .returned (.agg #[.slice a n c]) ∧ SN w' W.heap.size (.slice a n c) t ∧ Below W.heap.size W w') := fun ht W hW => specCopy4_any _ t _ W (hv2.step hW).rd (by have := HZ.out; omega) (by have := HTL.out; omega) (fun i => (treeOk_small ht).2 i |>.1)
        have HV1 := hideU hv1
        clear hv1 hv2 hv3 HR
        obtain ⟨tb, htb⟩ : ∃ b, treeOk t = b := ⟨_, rfl⟩
        rw [htb] at HTR
        have HTB : Hid (treeOk t = tb) := htb
        clear htb
        go_wp2_with fail
        refine Calls.mono HTR.out ?_
        rintro e w2 ⟨rfl, b2⟩
        have HV2 := hideU (HV.out.step b2)
        have HW2 := hideU (HV1.out.step b2)
        have HB2 := hideU (HB.out.trans (b2.mono HB.out.size))
        have HC2 : Hid (treeOk t = true → _) := fun h => HCP.out h w2 b2
        clear b2 ct HCP HTR
        cases tb with
        | false =>
          have cR := HV2.out.l1
          have fR := HV2.out.fz
          go_wp2
          refine bodyPost_ret (results_tf Tryz.results5 _ _ _ _ _ _ rfl (HV2.out.set 0 _) Tryz.underlying26 rfl (by kernel_rfl)) rfl ?_
          exact HBAD.out t HS2.out HTB.out _ (HB2.out.setCell (p := ⟨w.heap.size, 0, none⟩) (Nat.le_refl _) _)
        | true =>
          have HC3 : Hid _ := HC2.out HTB.out
          have ct := HW2.out.l1
          clear HC2
          go_wp2_with fail
          refine Calls.mono HC3.out ?_
          rintro e w3 ⟨ca, cn, cc, rfl, sn, b3⟩
          have HV3 := hideU (HV2.out.step b3)
          have HB3 := hideU (HB2.out.trans (b3.mono HB2.out.size))
          have HSN := hideU sn
          have cR := HV3.out.l1
          have fR := HV3.out.fz
          have HL2 : Hid (w.heap.size < w2.heap.size) := HV2.out.lt
          clear b3 sn ct
          go_wp2
          refine bodyPost_ret (results_tf Tryz.results5 _ _ _ _ _ _ rfl (HV3.out.set 0 _) Tryz.underlying26 rfl (by kernel_rfl)) rfl ?_
          refine HGO.out t HS2.out HTB.out _ _ _ _ (HB3.out.setCell (p := ⟨w.heap.size, 0, none⟩) (Nat.le_refl _) _) ?_
          have hL := HL2.out
          refine RdV.mono (fun b hb => ⟨by omega, by simpa using hb.2⟩) (RdV.keep ⟨by simp, fun b hb hlt => heap_setCell_other _ _ _ _ (fun e => by have e2 : b = w.heap.size := e; have := hb.1; omega)⟩ (HSN.out.rdO).nds)
end
section
set_option maxRecDepth 100000 in
set_option maxHeartbeats 1000000 in
theorem implTree_any (x : Value) (l : List Nd) (S : Nat → Prop) (w : World) (r : RdV w S x (ndsDt l)) (hl : szNds l ≤ 2097152) :
    Calls Tryz.prog 24 #[.agg #[x]] w fun e w' => e = .returned (.bool (treeI l)) ∧ Below w.heap.size w w' := by
  obtain ⟨a, cap, rfl, _⟩ := RdV.sliced r
  have hl1 : l.length ≤ 2097152 := by unfold szNds at hl; omega
  have HR0 : Hid (RdV w S (.slice a l.length cap) (ndsDt l)) := r
  have HR : Hid (∀ W, Below w.heap.size w W → RdV W S (.slice a l.length cap) (ndsDt l)) := RdV.old r
  have HAS : Hid (∀ W, Below w.heap.size w W → _) := fun W hW => ascending_any _ l S W (HR.out W hW) hl1
  have HSZ : Hid (∀ i, i < l.length → szEns (l[i]?.getD nd0).es ≤ 2097152) := fun i hi => by have := szNds_at l i; omega
  have HRT : Hid (∀ W, _) := fun W => implRootH_any W
  obtain ⟨n, hn⟩ : ∃ n, l.length = n := ⟨_, rfl⟩
  have HN : Hid (l.length = n) := hn
  have HV : Hid (treeI l = ((decide (1 ≤ n) && (decide (n ≤ 240) && ascL l)) && ((decide ((l[0]?.getD nd0).h = rootH) && decide ((l[0]?.getD nd0).par = rootH)) && ((List.range n).all (ndIAt l) && (leadR (atH l n) l && (List.range n).all (climbAt (atH l n) n l)))))) := by show _ = _; unfold treeI; rw [hn]
  rw [hn] at HR HAS hl1 HSZ ⊢
  clear r hl HR0
  by_cases hn1 : 1 ≤ n ∧ n ≤ 240
  case neg =>
    have HF : Hid (treeI l = false) := by
      rw [HV.out]; show _ = _
      rw [Bool.eq_false_iff]; intro h
      simp only [Bool.and_eq_true, decide_eq_true_eq] at h
      exact hn1 ⟨h.1.1, h.1.2.1⟩
    rw [HF.out]
    clear HV HF HAS HR HSZ HN hn
    go_enter Tryz.func24, Tryz.ntmps24
    go_wp2_with fail
    all_goals first | (go_ret; exact ⟨rfl, Below.newH _⟩) | (exfalso; omega)
  obtain ⟨h1, h240⟩ := hn1
  obtain ⟨asc, has⟩ : ∃ asc, ascL l = asc := ⟨_, rfl⟩
  have HAE : Hid (ascL l = asc) := has
  rw [has] at HAS
  have v0 : VarA (w.alloc (.cells #[.slice a n cap] 26)) w.heap.size 26 #[.slice a n cap] := VarA.new w _ _
  have c0 := v0.l1
  have HB0 : Hid (Below w.heap.size w (w.alloc (.cells #[.slice a n cap] 26))) := Below.newH _
  clear hn has
  cases asc with
  | false =>
    have HF : Hid (treeI l = false) := by rw [HV.out, HAE.out]; show _ = _; simp
    rw [HF.out]
    clear HV HF HSZ HR
    go_enter Tryz.func24, Tryz.ntmps24
    go_wp2_with fail
    refine Calls.mono (HAS.out _ HB0.out) ?_
    rintro e w2 ⟨rfl, b_⟩
    have hb2 := HB0.out.trans (b_.mono HB0.out.size)
    clear v0 c0 b_
    go_wp2
    go_ret
    exact ⟨rfl, hb2⟩
  | true =>
  have HV2 : Hid (treeI l = ((decide ((l[0]?.getD nd0).h = rootH) && decide ((l[0]?.getD nd0).par = rootH)) && ((List.range n).all (ndIAt l) && (leadR (atH l n) l && (List.range n).all (climbAt (atH l n) n l))))) := by rw [HV.out, HAE.out]; show _ = _; simp [h1, h240]
  rw [HV2.out]
  have HONE : Hid (OneH l) := ascL_one HAE.out
  have HRR : Hid (∀ W, Below w.heap.size w W → RdV W S (.slice a n cap) (.rows 54 9 n (fun i j => ndCell (l[i]?.getD nd0) j))) := fun W hW => by
    have h9 := HR.out W hW; unfold ndsDt at h9; rw [HN.out] at h9; exact h9
  clear HV HV2 HAE
  go_enter Tryz.func24, Tryz.ntmps24
  go_wp2_with fail
  refine Calls.mono (HAS.out _ HB0.out) ?_
  rintro e w2 ⟨rfl, b_⟩
  have hb2 := HB0.out.trans (b_.mono HB0.out.size)
  have v2 := v0.step b_
  clear v0 c0 b_ HAS HB0
  have c0 := v2.l1
  obtain ⟨b, off, rfl, hbl, _, hx⟩ := RdV.at (HRR.out w2 hb2) (show 0 < n by omega)
  obtain ⟨x0, g0, s0⟩ := hx 0 (by omega)
  obtain ⟨x1, g1, s1⟩ := hx 1 (by omega)
  obtain ⟨x2, g2, s2⟩ := hx 2 (by omega)
  obtain ⟨x3, g3, s3⟩ := hx 3 (by omega)
  obtain ⟨x4, g4, s4⟩ := hx 4 (by omega)
  obtain ⟨x5, g5, s5⟩ := hx 5 (by omega)
  obtain ⟨x6, g6, s6⟩ := hx 6 (by omega)
  obtain ⟨x7, g7, s7⟩ := hx 7 (by omega)
  obtain ⟨x8, g8, s8⟩ := hx 8 (by omega)
  clear hx
  obtain ⟨e, he⟩ : ∃ e, l[0]?.getD nd0 = e := ⟨_, rfl⟩
  have HE0 : Hid (l[0]?.getD nd0 = e) := he
  rw [he] at s0 s1 s2 s3 s4 s5 s6 s7 s8
  clear he
  obtain ⟨⟨p, q, d⟩, ⟨p2, q2, d2⟩, lk, vl, es⟩ := e
  obtain rfl : x0 = .int .i64 p := s0
  obtain rfl : x1 = .int .i64 q := s1
  obtain rfl : x2 = .bool d := s2
  obtain rfl : x3 = .int .i64 p2 := s3
  obtain rfl : x4 = .int .i64 q2 := s4
  obtain rfl : x5 = .bool d2 := s5
  obtain rfl : x6 = .int .i64 lk := s6
  obtain rfl : x7 = .int .i64 vl := s7
  have S8 : RdV w2 S x8 (ensDt es) := s8
  obtain ⟨xa, xc, rfl, _⟩ := RdV.sliced S8
  generalize es.length = xn at g8
  clear S8 s8
  simp only [Nat.zero_mul, Nat.add_zero] at g0 g1 g2 g3 g4 g5 g6 g7 g8
  have VN := VarA.new w2 54 #[.int .i64 p, .int .i64 q, .bool d, .int .i64 p2, .int .i64 q2, .bool d2, .int .i64 lk, .int .i64 vl, .slice xa xn xc]
  obtain ⟨n0, n1, n2, n3, n4, n5, n6, n7, n8⟩ := VN.l9
  haveI : Nonempty (Cls (w2.alloc (.cells #[.int .i64 p, .int .i64 q, .bool d, .int .i64 p2, .int .i64 q2, .bool d2, .int .i64 lk, .int .i64 vl, .slice xa xn xc] 54))) := Cls.ne _
  have k0 := Cls.cell VN.lt n0
  have k1 := Cls.cell VN.lt n1
  have k2 := Cls.cell VN.lt n2
  have k3 := Cls.cell VN.lt n3
  have k4 := Cls.cell VN.lt n4
  have k5 := Cls.cell VN.lt n5
  clear n0 n1 n2 n3 n4 n5 n6 n7 n8
  have v3 := v2.alloc (.cells #[.int .i64 p, .int .i64 q, .bool d, .int .i64 p2, .int .i64 q2, .bool d2, .int .i64 lk, .int .i64 vl, .slice xa xn xc] 54)
  have HB3 : Hid (Below w.heap.size w (w2.alloc (.cells #[.int .i64 p, .int .i64 q, .bool d, .int .i64 p2, .int .i64 q2, .bool d2, .int .i64 lk, .int .i64 vl, .slice xa xn xc] 54))) := hb2.alloc hb2.size _
  by_cases h3 : ((p, q, d) : Hd) = rootH
  case neg =>
    have hne : ∀ W : World, (binOp .neq 51 (.agg #[.int .i64 p, .int .i64 q, .bool d]) (.agg #[.int .i64 0, .int .i64 1, .bool true])).run Tryz.prog W = .ok (.bool true) W := fun W => by rw [neH_run, decH_false h3]; rfl
    have HF : Hid (((decide ((l[0]?.getD nd0).h = rootH) && decide ((l[0]?.getD nd0).par = rootH)) && ((List.range n).all (ndIAt l) && (leadR (atH l n) l && (List.range n).all (climbAt (atH l n) n l)))) = false) := by rw [HE0.out]; show _ = _; simp [h3]
    clear h3 k3 k4 k5
    go_wp2
    refine wp_region_cls (by kernel_rfl) (by kernel_rfl) ?_
    repeat (go_big_quiet_step (first | (go_at_call 56; exact Calls.cls_new (HRT.out _))))
    refine wpQuiet_nil ?_
    rintro w' ⟨⟨w', hb'⟩, rfl⟩
    go_wp2
    go_ret
    exact ⟨by rw [HF.out]; rfl, HB3.out.trans (hb'.mono HB3.out.size)⟩
  have hne : ∀ W : World, (binOp .neq 51 (.agg #[.int .i64 p, .int .i64 q, .bool d]) (.agg #[.int .i64 0, .int .i64 1, .bool true])).run Tryz.prog W = .ok (.bool false) W := fun W => by rw [neH_run, decH_true h3]; rfl
  by_cases h4 : ((p2, q2, d2) : Hd) = rootH
  case neg =>
    have hne2 : ∀ W : World, (binOp .neq 51 (.agg #[.int .i64 p2, .int .i64 q2, .bool d2]) (.agg #[.int .i64 0, .int .i64 1, .bool true])).run Tryz.prog W = .ok (.bool true) W := fun W => by rw [neH_run, decH_false h4]; rfl
    have HF : Hid (((decide ((l[0]?.getD nd0).h = rootH) && decide ((l[0]?.getD nd0).par = rootH)) && ((List.range n).all (ndIAt l) && (leadR (atH l n) l && (List.range n).all (climbAt (atH l n) n l)))) = false) := by rw [HE0.out]; show _ = _; simp [h4]
    clear h3 h4
    go_wp2
    refine wp_region_cls (by kernel_rfl) (by kernel_rfl) ?_
    repeat (go_big_quiet_step (first | (go_at_call 56; exact Calls.cls_new (HRT.out _))))
    refine wpQuiet_nil ?_
    rintro w' ⟨⟨w', hb'⟩, rfl⟩
    go_wp2
    go_ret
    exact ⟨by rw [HF.out]; rfl, HB3.out.trans (hb'.mono HB3.out.size)⟩
  have hne2 : ∀ W : World, (binOp .neq 51 (.agg #[.int .i64 p2, .int .i64 q2, .bool d2]) (.agg #[.int .i64 0, .int .i64 1, .bool true])).run Tryz.prog W = .ok (.bool false) W := fun W => by rw [neH_run, decH_true h4]; rfl
  have HRS : Hid (((decide ((l[0]?.getD nd0).h = rootH) && decide ((l[0]?.getD nd0).par = rootH)) && ((List.range n).all (ndIAt l) && (leadR (atH l n) l && (List.range n).all (climbAt (atH l n) n l)))) = ((List.range n).all (ndIAt l) && (leadR (atH l n) l && (List.range n).all (climbAt (atH l n) n l)))) := by rw [HE0.out]; show _ = _; simp [h3, h4]
  clear h3 h4
  go_wp2
  refine wp_region_cls (by kernel_rfl) (by kernel_rfl) ?_
  repeat (go_big_quiet_step (first | (go_at_call 56; exact Calls.cls_new (HRT.out _))))
  refine wpQuiet_nil ?_
  rintro w' ⟨⟨w', hb'⟩, rfl⟩
  have v4 := v3.step hb'
  have hb4 := HB3.out.trans (hb'.mono HB3.out.size)
  clear v2 v3 c0 k0 k1 k2 k3 k4 k5 HB3 hb' hb2 VN hne hne2 g0 g1 g2 g3 g4 g5 g6 g7 g8 HE0
  have c0 := v4.l1
  have HV4 : Hid (VarA w' w.heap.size 26 #[(.slice (some ⟨b, off, none⟩) n cap)]) := v4
  have HB4 : Hid (Below w.heap.size w w') := hb4
  clear v4 hb4
  go_wp2
  clear c0
  go_loopw [40] (fun i wr => ∃ k : Nat, k ≤ n ∧ i = .int .i64 k ∧ Below w.heap.size w wr ∧ VarA wr w.heap.size 26 #[(.slice (some ⟨b, off, none⟩) n cap)] ∧ Hid ((List.range k).all (ndIAt l) = true)) (fun i _ => n - (intOf i).toNat)
  case atStart => exact ⟨0, Nat.zero_le _, rfl, HB4.out, HV4.out, by show _ = _; simp⟩
  case round =>
    clear HB4 HV4
    obtain ⟨k, hk, rfl, hbel, v0, HA⟩ := hrel
    by_cases hlt : k < n
    case neg =>
      have he : k = n := by omega
      subst he
      have HNI : Hid (∀ i, i < l.length → ndI (l[i]?.getD nd0) = true) := fun i hi => by
        have h9 := HA.out; rw [List.all_eq_true] at h9; exact h9 i (by rw [HN.out] at hi; simpa using hi)
      have HRS2 : Hid (((List.range k).all (ndIAt l) && (leadR (atH l k) l && (List.range k).all (climbAt (atH l k) k l))) = (leadR (atH l k) l && (List.range k).all (climbAt (atH l k) k l))) := by rw [HA.out]; show _ = _; simp
      have c0 := v0.l1
      have HNB : Hid (Calls Tryz.prog 58 #[(.slice (some ⟨b, off, none⟩) k cap)] wr fun e w' => e = .returned (.map (some wr.heap.size)) ∧ Below wr.heap.size wr w' ∧ MapH ndP w' wr.heap.size k (atH l k)) := by
        have h9 := nodesByHandle_any _ l S wr (HR.out wr hbel) (by rw [HN.out]; exact hl1) HONE.out (fun i hi => ndI_h (HNI.out i hi))
        rw [HN.out] at h9; exact h9
      go_wp2_with fail
      refine Calls.mono HNB.out ?_
      rintro e w5 ⟨rfl, b_, M5⟩
      have hb5 := hbel.trans (b_.mono hbel.size)
      have v5 := v0.step b_
      clear v0 c0 b_ HNB
      have c0 := v5.l1
      have HLR : Hid (Calls Tryz.prog 59 #[.map (some wr.heap.size), (.slice (some ⟨b, off, none⟩) k cap)] w5 _) := leadRightly_any _ l S _ k _ w5 (HR.out w5 hb5) (by rw [HN.out]; exact h240) M5 (fun i hi => ndI_h (HNI.out i hi)) (fun i hi => ndI_es (HNI.out i hi))
      have hM5 := M5.lt
      have HAC : Hid (∀ W, Below w5.heap.size w5 W → Calls Tryz.prog 60 #[.map (some wr.heap.size), (.slice (some ⟨b, off, none⟩) k cap)] W fun e w' => e = .returned (.bool ((List.range k).all (climbAt (atH l k) k l))) ∧ Below W.heap.size W w') := fun W hW => by
        have h9 := allCome_any _ l S wr.heap.size k (atH l k) W (HR.out W (hb5.trans (hW.mono hb5.size))) (by rw [HN.out]; exact hl1) (M5.blk (hW.block _ hM5)) hl1 (fun i hi => ndI_h (HNI.out i hi)) (by have h8 := atH_par (l := l) (by rw [List.all_eq_true]; intro i hi; exact HNI.out i (by simpa using hi)); rw [HN.out] at h8; exact h8)
        rw [HN.out] at h9; exact h9
      obtain ⟨lr, hlr⟩ : ∃ lr, leadR (atH l k) l = lr := ⟨_, rfl⟩
      have HLE : Hid (leadR (atH l k) l = lr) := hlr
      rw [hlr] at HLR
      clear hlr M5
      go_wp2_with fail
      refine Calls.mono HLR.out ?_
      rintro e w6 ⟨rfl, b_⟩
      have hb6 := hb5.trans (b_.mono hb5.size)
      have v6 := v5.step b_
      clear v5 c0 HLR
      have c0 := v6.l1
      cases lr with
      | false =>
        have HF : Hid ((leadR (atH l k) l && (List.range k).all (climbAt (atH l k) k l)) = false) := by rw [HLE.out]; rfl
        clear HLE HAC
        go_wp2
        go_ret
        exact ⟨by rw [HRS.out, HRS2.out, HF.out]; rfl, hb6⟩
      | true =>
        have HF : Hid ((leadR (atH l k) l && (List.range k).all (climbAt (atH l k) k l)) = (List.range k).all (climbAt (atH l k) k l)) := by rw [HLE.out]; rfl
        have HAX := HAC.out w6 b_
        obtain ⟨ac, hac⟩ : ∃ ac, (List.range k).all (climbAt (atH l k) k l) = ac := ⟨_, rfl⟩
        have HCE : Hid _ := hac
        rw [hac] at HAX
        have HAY : Hid _ := HAX
        clear HLE HAC HAX hac
        go_wp2_with fail
        refine Calls.mono HAY.out ?_
        rintro e w7 ⟨rfl, b7⟩
        have hb7 := hb6.trans (b7.mono hb6.size)
        clear v6 c0 b7 HAY
        go_wp2
        go_ret
        exact ⟨by rw [HRS.out, HRS2.out, HF.out, HCE.out]; rfl, hb7⟩
    obtain ⟨b9, off9, hbb, hbl9, _, hx⟩ := RdV.at (HRR.out wr hbel) hlt
    simp only [Option.some.injEq, Addr.mk.injEq, and_true] at hbb
    obtain ⟨rfl, rfl⟩ := hbb
    obtain ⟨x0, g0, s0⟩ := hx 0 (by omega)
    obtain ⟨x1, g1, s1⟩ := hx 1 (by omega)
    obtain ⟨x2, g2, s2⟩ := hx 2 (by omega)
    obtain ⟨x3, g3, s3⟩ := hx 3 (by omega)
    obtain ⟨x4, g4, s4⟩ := hx 4 (by omega)
    obtain ⟨x5, g5, s5⟩ := hx 5 (by omega)
    obtain ⟨x6, g6, s6⟩ := hx 6 (by omega)
    obtain ⟨x7, g7, s7⟩ := hx 7 (by omega)
    obtain ⟨x8, g8, s8⟩ := hx 8 (by omega)
    clear hx
    have HZ0 := HSZ.out k hlt
    have HAT : Hid (ndIAt l k = ndI (l[k]?.getD nd0)) := by show _ = _; rfl
    generalize l[k]?.getD nd0 = e at *
    obtain ⟨⟨p, q, d⟩, ⟨p2, q2, d2⟩, lk, vl, es⟩ := e
    obtain rfl : x0 = .int .i64 p := s0
    obtain rfl : x1 = .int .i64 q := s1
    obtain rfl : x2 = .bool d := s2
    obtain rfl : x3 = .int .i64 p2 := s3
    obtain rfl : x4 = .int .i64 q2 := s4
    obtain rfl : x5 = .bool d2 := s5
    obtain rfl : x6 = .int .i64 lk := s6
    obtain rfl : x7 = .int .i64 vl := s7
    have S8 : RdV wr S x8 (ensDt es) := s8
    obtain ⟨xa, xc, rfl, _⟩ := RdV.sliced S8
    have HNO : Hid (∀ W, Below wr.heap.size wr W → Calls Tryz.prog 57 #[.agg #[.int .i64 p, .int .i64 q, .bool d, .int .i64 p2, .int .i64 q2, .bool d2, .int .i64 lk, .int .i64 vl, .slice xa es.length xc]] W fun e w' => e = .returned (.bool (ndI ⟨(p, q, d), (p2, q2, d2), lk, vl, es⟩)) ∧ Below W.heap.size W w') := fun W hW => implNode_any _ ⟨(p, q, d), (p2, q2, d2), lk, vl, es⟩ S W (RdV.step S8 hW) HZ0
    generalize es.length = xn at g8 HNO
    simp only [Nat.add_zero] at g0
    generalize ndI ⟨(p, q, d), (p2, q2, d2), lk, vl, es⟩ = bo at HNO HAT
    clear S8 s8 HZ0
    have HX := HNO.out _ (Below.newH (w := wr) (.cells #[.int .i64 p, .int .i64 q, .bool d, .int .i64 p2, .int .i64 q2, .bool d2, .int .i64 lk, .int .i64 vl, .slice xa xn xc] 54))
    have HY : Hid _ := HX
    have HB5 : Hid (Below w.heap.size w (wr.alloc (.cells #[.int .i64 p, .int .i64 q, .bool d, .int .i64 p2, .int .i64 q2, .bool d2, .int .i64 lk, .int .i64 vl, .slice xa xn xc] 54))) := hbel.alloc hbel.size _
    have HV5 : Hid (VarA (wr.alloc (.cells #[.int .i64 p, .int .i64 q, .bool d, .int .i64 p2, .int .i64 q2, .bool d2, .int .i64 lk, .int .i64 vl, .slice xa xn xc] 54)) w.heap.size 26 #[(.slice (some ⟨b, off, none⟩) n cap)]) := v0.alloc _
    clear HNO HX v0
    go_wp2_with fail
    refine Calls.mono HY.out ?_
    rintro e w3 ⟨rfl, b_⟩
    have hb6 := HB5.out.trans (b_.mono HB5.out.size)
    have HV6 : Hid (VarA w3 w.heap.size 26 #[(.slice (some ⟨b, off, none⟩) n cap)]) := HV5.out.step b_
    clear HY HB5 HV5 b_ g0 g1 g2 g3 g4 g5 g6 g7 g8
    cases bo with
    | false =>
      have HF : Hid ((List.range n).all (ndIAt l) = false) := range_all_false _ _ k hlt HAT.out
      clear HAT HA
      go_wp2
      go_ret
      exact ⟨by rw [HRS.out, HF.out]; rfl, hb6⟩
    | true =>
      have HF : Hid ((List.range (k + 1)).all (ndIAt l) = true) := range_all_next _ _ HA.out HAT.out
      clear HAT HA
      go_wp2
      first
      | exact ⟨⟨k + 1, by omega, by go_num, hb6, HV6.out, HF.out⟩, by simp [intOf]; omega⟩
      | (go_roundw
         case rel => exact ⟨k + 1, by omega, by go_num, hb6, HV6.out, HF.out⟩
         case measure => simp [intOf]; omega)
end
section
/-- What the program's Union says: memory of its own. -/
def UnI (l : List ShD) (w : World) (e : Ending) (w' : World) : Prop :=
  ∃ a n c, ∃ R : Nat → Prop, e = .returned (.tuple #[.agg #[.slice a n c], .bool (unD l).2]) ∧ OwV w' R (.slice a n c) (ndsDt (unD l).1) ∧ (∀ b, R b → w.heap.size ≤ b ∧ b < w'.heap.size) ∧ Below w.heap.size w w'
theorem UnI.no {l : List ShD} {w w' : World} (h : unD l = ([], false)) (b : Below w.heap.size w w') : UnI l w (.returned (.tuple #[.agg #[.slice none 0 0], .bool false])) w' := by
  refine ⟨none, 0, 0, fun _ => False, by rw [h], ?_, fun _ h => h.elim, b⟩
  rw [h]
  exact OwV.nilR _ _ _ _ _
theorem take_mem {l : List ShD} (k : Nat) : szNds (allN (l.take k)) ≤ szShs l := by
  refine Nat.le_trans (szAll _) ?_
  unfold szShs
  have h1 : (l.take k).length ≤ l.length := by rw [List.length_take]; omega
  have h2 : ((l.take k).map (fun e => szSh e)).sum ≤ (l.map (fun e => szSh e)).sum := psum_le (fun e => szSh e) l k
  omega
theorem szNds_perm {l l' : List Nd} (p : l.Perm l') : szNds l = szNds l' := by
  unfold szNds
  induction p with
  | nil => rfl
  | cons x _ ih => simp only [List.length_cons, List.map_cons, List.sum_cons] at *; omega
  | swap x y l => simp only [List.length_cons, List.map_cons, List.sum_cons]; omega
  | trans _ _ a b => exact a.trans b
set_option maxHeartbeats 16000000 in
theorem implUnion_any (v : Value) (l : List ShD) (S : Nat → Prop) (w : World) (r : RdV w S v (shsDt l)) (hl : szShs l ≤ 1048576) : Calls Tryz.prog 7 #[v] w (UnI l w) := by
  obtain ⟨a, cap, rfl, _⟩ := RdV.sliced r
  have HR : Hid (∀ W, Below w.heap.size w W → RdV W S (.slice a l.length cap) (.rows 49 8 l.length (fun i j => shCell (l[i]?.getD sh0) j))) := RdV.old r
  have HNO : Hid (unD l = ([], false) → ∀ W, Below w.heap.size w W → UnI l w (.returned (.tuple #[.agg #[.slice none 0 0], .bool false])) W) := fun h W b => UnI.no h b
  have HGO : Hid (∀ L, unD l = (L, true) → ∀ a n c R W, Below w.heap.size w W → OwV W R (.slice a n c) (ndsDt L) → (∀ b, R b → w.heap.size ≤ b ∧ b < W.heap.size) → UnI l w (.returned (.tuple #[.agg #[.slice a n c], .bool true])) W) := fun L h a n c R W b o hR => ⟨a, n, c, R, by rw [h], by rw [h]; exact o, hR, b⟩
  have H4 : Hid (4 < l.length → unD l = ([], false)) := unD_four
  have HPN : Hid (∀ k, k < l.length → 120 < (l[k]?.getD sh0).nds.length ∨ lieB (k : Int) (l[k]?.getD sh0).nds = false → unD l = ([], false)) := fun k hk h => unD_plc (plc_no hk h)
  have HPT : Hid (∀ k, k < l.length → plc 0 (l.take k) = true → (l[k]?.getD sh0).nds.length ≤ 120 → lieB (k : Int) (l[k]?.getD sh0).nds = true → plc 0 (l.take (k + 1)) = true) := fun k hk h0 h1 h2 => plc_take hk h0 h1 h2
  have HAT : Hid (∀ k, k < l.length → allN (l.take (k + 1)) = allN (l.take k) ++ (l[k]?.getD sh0).nds) := fun k hk => allN_take hk
  have HSO : Hid (¬ 4 < l.length → ∀ L, plc 0 (l.take l.length) = true → (allN (l.take l.length)).Perm L → (∀ M, (allN (l.take l.length)).Perm M → M.Pairwise (fun a b => byHd a.h b.h < 0) → L = M) → unD l = if treeI L = true then (L, true) else ([], false)) := fun h4 L hp hL hs => by rw [List.take_length] at hp hL hs; exact unD_sort h4 hp hL hs
  have HSZ : Hid (∀ k, szNds (allN (l.take k)) ≤ 1048576) := fun k => Nat.le_trans (take_mem k) hl
  have HSS : Hid (∀ k, szSh (l[k]?.getD sh0) ≤ 1048576) := fun k => Nat.le_trans (szShs_at l k) hl
  have hn : l.length ≤ 1048576 := by unfold szShs at hl; omega
  clear r hl
  generalize UnI l w = R at *
  generalize unD l = res at *
  obtain ⟨m, hm⟩ : ∃ m, l.length = m := ⟨_, rfl⟩
  rw [hm] at HR H4 HPN HPT HAT HSO hn ⊢
  clear hm
  by_cases h4 : 4 < m
  · have HX : Hid (res = ([], false)) := H4.out h4
    have h4i : ¬ (m : Int) ≤ 4 := by omega
    go_enter Tryz.func7, Tryz.ntmps7
    go_wp2
    refine bodyPost_ret (results_tf Tryz.results7 _ _ _ _ _ _ rfl (VarA.new w _ _) Tryz.underlying26 rfl (by kernel_rfl)) rfl ?_
    exact HNO.out HX.out _ (Below.newH _)
  · have HS4 : Hid _ := HSO.out h4
    have h4i : (m : Int) ≤ 4 := by omega
    have h4n : m ≤ 4 := by omega
    clear H4 HSO
    go_enter Tryz.func7, Tryz.ntmps7
    go_wp2
    go_loopw [4, 14] (fun x i wr => ∃ (k : Nat) (ga : Option Addr) (gn gc : Nat), k ≤ m ∧ i = .int .i64 k ∧ x = .slice ga gn gc ∧ Hid (OwV wr (fun b => w.heap.size + 1 ≤ b ∧ b < wr.heap.size) (.slice ga gn gc) (ndsDt (allN (l.take k)))) ∧ Hid (plc 0 (l.take k) = true) ∧ Hid ((allN (l.take k)).length ≤ 120 * k) ∧ Hid (VarA wr w.heap.size 26 #[.slice none 0 0]) ∧ Hid (Below w.heap.size w wr)) (fun _ i _ => m - (intOf i).toNat)
    case atStart => exact ⟨0, none, 0, 0, Nat.zero_le _, rfl, rfl, OwV.nilR _ _ _ _ _, rfl, Nat.le_refl _, VarA.new w _ _, Below.newH _⟩
    case round =>
      obtain ⟨k, ga, gn, gc, hk, rfl, rfl, HO, HP, HTL, HV, HB⟩ := hrel
      by_cases hlt : k < m
      · obtain ⟨b, off, rfl, hbl, _, hx⟩ := RdV.at (HR.out wr HB.out) hlt
        have hpn := HPN.out k hlt
        have hpt := HPT.out k hlt HP.out
        have hat := HAT.out k hlt
        have hss := HSS.out k
        obtain ⟨e, he⟩ : ∃ e, l[k]?.getD sh0 = e := ⟨_, rfl⟩
        obtain ⟨x0, c0, r0⟩ := hx 0 (by omega)
        obtain ⟨x1, c1, r1⟩ := hx 1 (by omega)
        obtain ⟨x2, c2, r2⟩ := hx 2 (by omega)
        obtain ⟨x3, c3, r3⟩ := hx 3 (by omega)
        obtain ⟨x4, c4, r4⟩ := hx 4 (by omega)
        obtain ⟨x5, c5, r5⟩ := hx 5 (by omega)
        obtain ⟨x6, c6, r6⟩ := hx 6 (by omega)
        obtain ⟨x7, c7, r7⟩ := hx 7 (by omega)
        rw [he] at r0 r1 r2 r3 r4 r5 r6 r7 hpn hpt hat hss
        clear hx he
        obtain ⟨id_, bo, nx, ns, its, ds, dn, ls⟩ := e
        dsimp only at hpn hpt hat
        have hzn : szNds ns ≤ 1048576 := by unfold szSh at hss; dsimp only at hss; omega
        have hes : ∀ i : Nat, (ns[i]?.getD nd0).es.length ≤ 2097152 := fun i => by
          have h1 := szNds_at ns i
          have h2 : (ns[i]?.getD nd0).es.length ≤ szEns (ns[i]?.getD nd0).es := by unfold szEns; omega
          omega
        have hnl : ns.length ≤ 1048576 := by unfold szNds at hzn; omega
        obtain rfl : x0 = .int .i64 id_ := r0
        obtain rfl : x1 = .int .i64 bo := r1
        obtain rfl : x2 = .int .i64 nx := r2
        have R3 : RdV wr S x3 (ndsDt ns) := r3
        obtain ⟨s3, p3, rfl, _⟩ := RdV.sliced (show RdV wr S x3 (ndsDt ns) from r3)
        obtain ⟨s4, p4, rfl, _⟩ := RdV.sliced (show RdV wr S x4 (itsDt its) from r4)
        obtain ⟨s5, p5, rfl, _⟩ := RdV.sliced (show RdV wr S x5 (vdsDt ds) from r5)
        obtain ⟨s6, p6, rfl, _⟩ := RdV.sliced (show RdV wr S x6 (txsDt dn) from r6)
        obtain ⟨s7, p7, rfl, _⟩ := RdV.sliced (show RdV wr S x7 (lssDt ls) from r7)
        have HLI : Hid (∀ W, Below wr.heap.size wr W → _) := fun W hW => lieAll_any _ ns (k : Int) S W (R3.step hW) (by omega)
        have HCP : Hid (ns.length ≤ 120 → ∀ W, Below wr.heap.size wr W → Calls Tryz.prog 20 #[.slice s3 ns.length p3] W fun e w' => ∃ a n c, e = .returned (.slice a n c) ∧ OwV w' (fun b => W.heap.size ≤ b ∧ b < w'.heap.size) (.slice a n c) (ndsDt ns) ∧ Below W.heap.size W w') := fun h W hW => implCopyNd_any _ ns S W (R3.step hW) (by omega) (by omega) hes
        have HPN2 : Hid _ := hpn
        have HPT2 : Hid _ := hpt
        have HAT2 : Hid _ := hat
        simp only [Nat.add_zero] at c0
        have hki : (k : Int) < (m : Int) := by omega
        have hws := HB.out.size
        clear r3 r4 r5 r6 r7 R3 hpn hpt hat hss hzn hes
        obtain ⟨t3, ht3⟩ : ∃ t, ns.length = t := ⟨_, rfl⟩
        rw [ht3] at c3 HLI HCP HPN2 HPT2 hnl
        have HT3 : Hid (ns.length = t3) := ht3
        clear ht3
        generalize its.length = t4 at c4
        generalize ds.length = t5 at c5
        generalize dn.length = t6 at c6
        generalize ls.length = t7 at c7
        have cR := HV.out.l1
        have fR := HV.out.fz
        have kR := HV.out.lt
        by_cases h120 : 120 < t3
        · have h120i : ¬ (t3 : Int) ≤ 120 := by omega
          have HX : Hid (res = ([], false)) := HPN2.out (.inl h120)
          go_wp2
          refine bodyPost_ret (results_tf Tryz.results7 _ _ _ _ _ _ rfl ((HV.out.set 0 _).alloc _) Tryz.underlying26 rfl (by kernel_rfl)) rfl ?_
          exact HNO.out HX.out _ (Below.alloc (HB.out.setCell (p := ⟨w.heap.size, 0, none⟩) (Nat.le_refl _) _) (by simpa using HB.out.size) _)
        · have h120i : (t3 : Int) ≤ 120 := by omega
          obtain ⟨lb, hlb⟩ : ∃ b, lieB (k : Int) ns = b := ⟨_, rfl⟩
          rw [hlb] at HLI HPN2 HPT2
          have HCP2 : Hid _ := HCP.out (by omega)
          clear hlb HCP
          go_wp2_with fail
          refine Calls.mono (HLI.out _ (Below.newH _)) ?_
          rintro e w2 ⟨rfl, b2⟩
          have B2 : Below wr.heap.size wr w2 := (Below.newH (w := wr) _).trans (b2.mono (by simp))
          have HVS := hideU (VarA.step (VarA.new wr 49 #[.int .i64 id_, .int .i64 bo, .int .i64 nx, .slice s3 t3 p3, .slice s4 t4 p4, .slice s5 t5 p5, .slice s6 t6 p6, .slice s7 t7 p7]) b2)
          have HV2 := hideU (HV.out.step B2)
          have HB2 := hideU (HB.out.trans (B2.mono HB.out.size))
          have HO2 := hideU (OwV.step HO.out B2)
          have HCP3 : Hid _ := HCP2.out w2 B2
          have hw2 := HVS.out.lt
          have HW2 : Hid (wr.heap.size < w2.heap.size) := hw2
          clear b2 B2 HLI c0 c1 c2 c3 c4 c5 c6 c7 cR fR HCP2 hw2
          cases lb with
          | false =>
            have HX : Hid (res = ([], false)) := HPN2.out (.inr rfl)
            have cR := HV2.out.l1
            have fR := HV2.out.fz
            go_wp2
            refine bodyPost_ret (results_tf Tryz.results7 _ _ _ _ _ _ rfl (HV2.out.set 0 _) Tryz.underlying26 rfl (by kernel_rfl)) rfl ?_
            exact HNO.out HX.out _ (HB2.out.setCell (p := ⟨w.heap.size, 0, none⟩) (Nat.le_refl _) _)
          | true =>
            have HP2 : Hid (plc 0 (l.take (k + 1)) = true) := HPT2.out (by omega) rfl
            have n3 := HVS.out.c 3 rfl
            go_wp2_with fail
            refine Calls.mono HCP3.out ?_
            rintro e w3 ⟨ya, yn, yc, rfl, o3, b3⟩
            have HV3 := hideU (HV2.out.step b3)
            have HB3 := hideU (HB2.out.trans (b3.mono HB2.out.size))
            have HO3 := hideU (OwV.step HO2.out b3)
            have HN3 := hideU o3
            have HW3 : Hid (w2.heap.size ≤ w3.heap.size) := b3.size
            have hw1 := HV.out.lt
            have HLA : Hid ((allN (l.take k)).length + ns.length ≤ 8000) := by have h1 := HTL.out; have h2 := HT3.out; show _ ≤ _; omega
            clear b3 o3 n3
            go_wp2_with (at_builtin; refine wpList_appOw w3 rfl (.tmp 31) (.tmp 34) rfl _ _ rfl rfl (allN (l.take k)) ns _ _ HO3.out HN3.out (fun b hb => by have := HW3.out; have := HW2.out; omega) (fun b hb => ⟨hb.2, fun h => by have := HW2.out; omega⟩) HLA.out ?_; intro v4 w4 o4 t4)
            obtain ⟨a4, c4, rfl, _⟩ := RdV.sliced o4.rd
            have hS1 : ∀ b, (Value.slice ga gn gc).ownBlock = some b → w.heap.size + 1 ≤ b ∧ b < wr.heap.size := by
              have h := HO3.out
              unfold ndsDt at h
              obtain ⟨_, _, _, _, h2, _⟩ := OwV.inv h
              exact h2
            have hs4 := t4.size
            refine ⟨⟨k + 1, a4, _, c4, by omega, by go_num, rfl, ?_, HP2.out, ?_, HV3.out.turn t4 (fun h => by have := hS1 _ h; omega), Turned.below HB3.out t4 HB3.out.size (fun i hi => by have := hS1 _ hi; omega)⟩, by simp [intOf]; omega⟩
            · rw [HAT2.out]
              exact OwV.mono (fun b hb => by have h2 := HW2.out; have h3 := HW3.out; rcases hb with hb | hb | hb <;> omega) o4
            · rw [HAT2.out, List.length_append]
              have h1 := HTL.out
              have h2 := HT3.out
              show _ ≤ _
              omega
      · have hkm : k = m := by omega
        subst hkm
        have HSRT : Hid _ := sortNdU_any (.slice ga gn gc) (allN (l.take k)) _ wr HO.out (by have := HTL.out; omega)
        have hS1 : ∀ b, (Value.slice ga gn gc).ownBlock = some b → w.heap.size + 1 ≤ b ∧ b < wr.heap.size := by
          have h := HO.out
          unfold ndsDt at h
          obtain ⟨_, _, _, _, h2, _⟩ := OwV.inv h
          exact h2
        have HS1 : Hid _ := hS1
        clear hS1
        go_wp2_with fail
        refine Calls.mono HSRT.out ?_
        rintro e w2 ⟨rfl, L, hpm, huq, o2, t2⟩
        have HRES : Hid _ := HS4.out L HP.out hpm huq
        have HV2 := hideU (HV.out.turn t2 (fun h => by have := HS1.out _ h; omega))
        have HB2 : Hid (Below w.heap.size w w2) := Turned.below HB.out t2 HB.out.size (fun i hi => by have := HS1.out _ hi; omega)
        have HZL : Hid (szNds L ≤ 2097152) := by rw [← szNds_perm hpm]; have := HSZ.out k; show _ ≤ _; omega
        have HTI : Hid (∀ W, Below w2.heap.size w2 W → _) := fun W hW => implTree_any (.slice ga gn gc) L _ W ((OwV.step o2 hW).rd) HZL.out
        have HO2 := hideU o2
        have HWS : Hid (wr.heap.size ≤ w2.heap.size) := t2.size
        obtain ⟨tb, htb⟩ : ∃ b, treeI L = b := ⟨_, rfl⟩
        rw [htb] at HTI HRES
        clear htb o2 t2 hpm huq HSRT
        have cR := HV2.out.l1
        have fR := HV2.out.fz
        have kR := HV2.out.lt
        go_wp2_with fail
        refine Calls.mono (HTI.out _ (Below.newH _)) ?_
        rintro e w3 ⟨rfl, b3⟩
        have B3 : Below w2.heap.size w2 w3 := (Below.newH (w := w2) _).trans (b3.mono (by simp))
        have HV3 := hideU (HV2.out.step B3)
        have HT3 := hideU (VarA.step (VarA.new w2 26 #[.slice ga gn gc]) b3)
        have HB3 := hideU (HB2.out.trans (B3.mono HB2.out.size))
        have HO3 := hideU (OwV.step HO2.out B3)
        have HW3 : Hid (w2.heap.size ≤ w3.heap.size) := B3.size
        clear b3 B3 cR fR HTI
        have cR := HV3.out.l1
        have fR := HV3.out.fz
        have cT := HT3.out.l1
        cases tb with
        | false =>
          have HX : Hid (res = ([], false)) := HRES.out
          go_wp2
          refine bodyPost_ret (results_tf Tryz.results7 _ _ _ _ _ _ rfl (HV3.out.set 0 _) Tryz.underlying26 rfl (by kernel_rfl)) rfl ?_
          exact HNO.out HX.out _ (HB3.out.setCell (p := ⟨w.heap.size, 0, none⟩) (Nat.le_refl _) _)
        | true =>
          have HX : Hid (res = (L, true)) := HRES.out
          go_wp2
          refine bodyPost_ret (results_tf Tryz.results7 _ _ _ _ _ _ rfl (HV3.out.set 0 _) Tryz.underlying26 rfl (by kernel_rfl)) rfl ?_
          refine HGO.out L HX.out _ _ _ (fun b => w.heap.size + 1 ≤ b ∧ b < wr.heap.size) _ (HB3.out.setCell (p := ⟨w.heap.size, 0, none⟩) (Nat.le_refl _) _) ?_ (fun b hb => ⟨by omega, by have h1 := HWS.out; have h2 := HW3.out; simp; omega⟩)
          exact HO3.out.keep ⟨by simp, fun b hb hlt => heap_setCell_other _ _ _ _ (fun e => by have e2 : b = w.heap.size := e; have := hb.1; omega)⟩
end
end Go.Proofs.YtoaocjkapoemnaaGreat
