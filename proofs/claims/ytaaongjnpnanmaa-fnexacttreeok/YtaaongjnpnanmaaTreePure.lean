/- A tree by the specification is one by the program, and the other way round: pure. -/
import Derived.Test.YtaaongjnpnanmaaImplT10a
import Derived.Test.YtaaongjnpnanmaaSpecT6
namespace Go.Proofs.Ytaaongjnpnanmaa
open Go.RowKit
set_option linter.unusedVariables false
set_option maxRecDepth 100000
set_option linter.unusedSimpArgs false

theorem bless_irr : ∀ x : List UInt8, Op.bytesLess x x = false
  | [] => rfl
  | a :: x => by simp [Op.bytesLess, bless_irr x]
theorem bless_trans : ∀ x y z : List UInt8, Op.bytesLess x y = true → Op.bytesLess y z = true → Op.bytesLess x z = true
  | _, _, [], _, h => by simp [Op.bytesLess] at h
  | [], _, _ :: _, _, _ => by simp [Op.bytesLess]
  | _ :: _, [], _ :: _, h, _ => by simp [Op.bytesLess] at h
  | a :: x, b :: y, c :: z, h, g => by
    simp only [Op.bytesLess, Bool.or_eq_true, Bool.and_eq_true, decide_eq_true_eq, beq_iff_eq] at *
    rcases h with h | ⟨rfl, h⟩
    · rcases g with g | ⟨rfl, g⟩
      · exact .inl (UInt8.lt_trans h g)
      · exact .inl h
    · rcases g with g | ⟨rfl, g⟩
      · exact .inl g
      · exact .inr ⟨rfl, bless_trans x y z h g⟩
theorem geS_trans {a b c : List Int} (h : geS a b = false) (g : geS b c = false) : geS a c = false := by
  simp only [geS, Bool.not_eq_false'] at *
  exact bless_trans _ _ _ h g
theorem geS_irr (a : List Int) : geS a a = true := by simp [geS, bless_irr]
theorem asc_nm {es : List En} (h : ∀ i, i < es.length → enAt es i = true) (i : Nat) : ∀ d, i + d + 1 < es.length → geS (es[i]?.getD en0).nm (es[i + d + 1]?.getD en0).nm = false
  | 0, hi => by
    have h1 := h (i + 1) hi
    simp only [enAt, Bool.and_eq_true, Bool.or_eq_true, decide_eq_true_eq, Bool.not_eq_true'] at h1
    rcases h1.2.2 with h2 | h2
    · omega
    · exact h2
  | d + 1, hi => by
    have h0 := asc_nm h i d (by omega)
    have h1 := h (i + d + 1 + 1) hi
    simp only [enAt, Bool.and_eq_true, Bool.or_eq_true, decide_eq_true_eq, Bool.not_eq_true'] at h1
    rcases h1.2.2 with h2 | h2
    · omega
    · exact geS_trans h0 h2
theorem eiP_at {es : List En} (h : ∀ i, i < es.length → enAt es i = true) {i : Nat} (hi : i < es.length) : ei es (es[i]?.getD en0).nm = i := by
  unfold ei
  rw [List.findIdx_eq hi]
  refine ⟨by simp [hi], fun j hj => ?_⟩
  have h1 := asc_nm h j (i - j - 1) (by omega)
  rw [show j + (i - j - 1) + 1 = i by omega, List.getElem?_eq_getElem hi, List.getElem?_eq_getElem (by omega : j < es.length)] at h1
  rw [decide_eq_false_iff_not]
  intro he
  rw [List.getElem?_eq_getElem hi] at he
  simp only [Option.getD_some] at h1 he
  rw [he, geS_irr] at h1
  cases h1
theorem ents_same (es : List En) : entsOk es = (List.range es.length).all (enAt es) := by
  rw [Bool.eq_iff_iff]
  unfold entsOk
  simp only [List.all_eq_true, List.mem_range]
  constructor
  · intro h i hi
    have h1 := h i hi
    simp only [entOk, enAt, Bool.and_eq_true] at *
    exact ⟨h1.1, h1.2.1, h1.2.2.2⟩
  · intro h i hi
    have h1 := h i hi
    have h2 := eiP_at h hi
    simp only [entOk, enAt, Bool.and_eq_true, decide_eq_true_eq] at *
    exact ⟨h1.1, h1.2.1, by unfold findE; rw [h2, if_pos hi], h1.2.2⟩
theorem nd_same (n : Nd) : ndOk n = ndI n := by
  rw [Bool.eq_iff_iff]
  unfold ndOk ndI
  rw [ents_same]
  unfold entsI baseOk dirOk fileOk
  by_cases hd : n.h.dir = true
  · simp only [hd, if_true, Bool.and_eq_true, decide_eq_true_eq]
    constructor
    · rintro ⟨⟨h1, h2, h3, h4, h5, h6⟩, ⟨h7, h8, h9, h10⟩, h11⟩
      exact ⟨⟨h1, h2, h3⟩, ⟨h7, h8, h9, h10⟩, h6, h11⟩
    · rintro ⟨⟨h1, h2, h3⟩, ⟨h7, h8, h9, h10⟩, h6, h11⟩
      exact ⟨⟨h1, h2, h3, by omega, by omega, h6⟩, ⟨h7, h8, h9, h10⟩, h11⟩
  · have hd' : n.h.dir = false := by simpa using hd
    simp only [hd', Bool.false_eq_true, if_false, Bool.and_eq_true, decide_eq_true_eq]
    constructor
    · rintro ⟨⟨h1, h2, h3, h4, h5, h6⟩, h7, h8⟩
      exact ⟨⟨h1, h2, h3⟩, ⟨h4, h5⟩, h7, h8⟩
    · rintro ⟨⟨h1, h2, h3⟩, ⟨h4, h5⟩, h7, h8⟩
      exact ⟨⟨h1, h2, h3, h4, h5, by omega⟩, h7, h8⟩
theorem atH_fi (l : List Nd) (h : Hd) : atH l l.length h = if fi l h < l.length then some (l[fi l h]?.getD nd0) else none := by
  unfold atH fi
  rw [List.take_length]
  by_cases hlt : l.findIdx (fun n => decide (n.h = h)) < l.length
  · rw [if_pos hlt, List.getElem?_eq_getElem hlt, Option.getD_some, List.find?_eq_some_iff_getElem]
    have h1 := List.findIdx_getElem (w := hlt)
    refine ⟨h1, _, hlt, rfl, fun j hj => ?_⟩
    have := List.not_of_lt_findIdx hj
    simpa using this
  · rw [if_neg hlt, List.find?_eq_none]
    intro x hx
    have := List.findIdx_lt_length (p := fun n : Nd => decide (n.h = h)) (xs := l)
    rw [this] at hlt
    intro hp
    exact hlt ⟨x, hx, hp⟩
theorem lead_same (l : List Nd) (n : Nd) (e : En) : entLead l n e = leadE (atH l l.length) n e := by
  unfold entLead leadE
  rw [atH_fi]
  by_cases h : fi l e.h < l.length
  · simp [h]
  · simp [h]
theorem cnt_same (l : List Nd) (h : Hd) : cntH l h = cntE (l.flatMap (·.es)) h := by
  unfold cntH cntE
  rw [psum_all, List.countP_flatMap]
  rfl
theorem countP_more {α : Type} (p q : α → Bool) : ∀ (l : List α), (∀ x, x ∈ l → p x = true → q x = true) → (∃ x, x ∈ l ∧ q x = true ∧ p x = false) → l.countP p < l.countP q
  | [], _, h => by obtain ⟨x, hx, _⟩ := h; cases hx
  | a :: l, hpq, h => by
    have hm : l.countP p ≤ l.countP q := List.countP_mono_left (fun x hx => hpq x (List.mem_cons_of_mem _ hx))
    rw [List.countP_cons, List.countP_cons]
    have ha := hpq a (List.mem_cons_self)
    obtain ⟨x, hx, h1, h2⟩ := h
    rcases List.mem_cons.mp hx with rfl | hx
    · rw [h1, h2]; simp; omega
    · have := countP_more p q l (fun x hx => hpq x (List.mem_cons_of_mem _ hx)) ⟨x, hx, h1, h2⟩
      by_cases hp : p a = true
      · rw [hp, ha hp]; simp; omega
      · have hp' : p a = false := by simpa using hp
        rw [hp']; simp; omega
theorem node_mem {l : List Nd} {i : Nat} (h : i < l.length) : l[i]?.getD nd0 ∈ l := by rw [List.getElem?_eq_getElem h]; exact List.getElem_mem h
theorem rch_more (l : List Nd) : ∀ (k : Nat) (n : Nd), rch l k n = true → rch l (k + 1) n = true
  | 0, n, h => by
    have h1 : up n = false := by simpa [rch] using h
    simp [rch, h1]
  | k + 1, n, h => by
    by_cases hu : up n = true
    · by_cases hf : fi l n.par < l.length
      · rw [rch, if_pos hu, if_pos hf] at h
        rw [rch, if_pos hu, if_pos hf]
        exact rch_more l k _ h
      · rw [rch, if_pos hu, if_neg hf] at h; cases h
    · rw [rch, if_neg hu]
theorem rch_still (l : List Nd) (k : Nat) (h : ∀ n, n ∈ l → rch l (k + 1) n = true → rch l k n = true) : ∀ n, n ∈ l → rch l (k + 2) n = true → rch l (k + 1) n = true := by
  intro n hn hr
  by_cases hu : up n = true
  · by_cases hf : fi l n.par < l.length
    · rw [rch, if_pos hu, if_pos hf] at hr
      rw [rch, if_pos hu, if_pos hf]
      exact h _ (node_mem hf) hr
    · rw [rch, if_pos hu, if_neg hf] at hr; cases hr
  · rw [rch, if_neg hu]
theorem rch_count (l : List Nd) (h0 : ∃ n, n ∈ l ∧ up n = false) : ∀ k, (∀ n, n ∈ l → rch l (k + 1) n = true → rch l k n = true) ∨ k + 1 ≤ l.countP (rch l k)
  | 0 => by
    right
    obtain ⟨n, hn, hu⟩ := h0
    exact List.countP_pos_iff.mpr ⟨n, hn, by simp [rch, hu]⟩
  | k + 1 => by
    rcases rch_count l h0 k with h | h
    · exact .inl (rch_still l k h)
    · by_cases hs : ∀ n, n ∈ l → rch l (k + 1) n = true → rch l k n = true
      · exact .inl (rch_still l k hs)
      · right
        have : l.countP (rch l k) < l.countP (rch l (k + 1)) := by
          refine countP_more _ _ l (fun x _ => rch_more l k x) ?_
          apply Classical.byContradiction
          intro hc
          apply hs
          intro n hn hr
          cases hk : rch l k n with
          | true => rfl
          | false => exact absurd ⟨n, hn, hr, hk⟩ hc
        omega
theorem rch_short (l : List Nd) (h0 : ∃ n, n ∈ l ∧ up n = false) (hl : 1 ≤ l.length) (n : Nd) (hn : n ∈ l) : rch l (l.length + 1) n = rch l (l.length - 1) n := by
  obtain ⟨m, hm⟩ : ∃ m, l.length = m + 1 := ⟨l.length - 1, by omega⟩
  rw [hm, Nat.add_sub_cancel]
  have hs : ∀ n, n ∈ l → rch l (m + 1) n = true → rch l m n = true := by
    rcases rch_count l h0 m with h | h
    · exact h
    · have hc : l.countP (rch l m) = l.length := by
        have := List.countP_le_length (p := rch l m) (l := l)
        omega
      rw [List.countP_eq_length] at hc
      exact fun n hn _ => hc n hn
  rw [Bool.eq_iff_iff]
  constructor
  · intro h
    exact hs n hn (rch_still l m hs n hn h)
  · intro h
    exact rch_more l _ _ (rch_more l _ _ h)
theorem climb_lost (f : Hd → Option Nd) (h0 : f hd0 = none) : ∀ (k : Nat) (h : Hd), f h = none → h ≠ rootH → climb f k h = false
  | 0, _, _, _ => rfl
  | k + 1, h, hf, hr => by
    rw [climb, if_neg hr, hf]
    exact climb_lost f h0 k hd0 h0 (by decide)
theorem fiP_at {l : List Nd} (ho : OneH l) {i : Nat} (hi : i < l.length) : fi l (l[i]?.getD nd0).h = i := by
  unfold fi
  rw [List.findIdx_eq hi]
  refine ⟨by simp [hi], fun j hj => ?_⟩
  rw [decide_eq_false_iff_not]
  intro he
  have := ho j i (by omega) hi (by rw [List.getElem?_eq_getElem (by omega : j < l.length)]; exact he)
  omega
theorem fi_h {l : List Nd} {h : Hd} (hf : fi l h < l.length) : (l[fi l h]?.getD nd0).h = h := by
  have h1 := List.findIdx_getElem (w := hf)
  rw [List.getElem?_eq_getElem hf]
  exact of_decide_eq_true h1
theorem climb_rch {l : List Nd} (ho : OneH l) (hr : fi l rootH < l.length) (hz : ¬ fi l hd0 < l.length) (hp : ∀ i, i < l.length → (l[i]?.getD nd0).h.dir = true → (l[i]?.getD nd0).par.dir = true) :
    ∀ (k i : Nat), i < l.length → (l[i]?.getD nd0).h.dir = true → climb (atH l l.length) (k + 1) (l[i]?.getD nd0).h = rch l k (l[i]?.getD nd0)
  | 0, i, hi, hd => by
    rw [climb, rch]
    unfold up
    rw [hd]
    by_cases h : (l[i]?.getD nd0).h = rootH
    · rw [if_pos h]; simp [h]
    · rw [if_neg h]; simp [h, climb]
  | k + 1, i, hi, hd => by
    rw [climb, rch]
    by_cases h : (l[i]?.getD nd0).h = rootH
    · rw [if_pos h]
      have : up (l[i]?.getD nd0) = false := by unfold up; simp [h]
      simp [this]
    · have hu : up (l[i]?.getD nd0) = true := by unfold up; simp [h, hd]
      rw [if_neg h, if_pos hu, atH_fi, fiP_at ho hi, if_pos hi, Option.getD_some]
      by_cases hf : fi l (l[i]?.getD nd0).par < l.length
      · rw [if_pos hf]
        have h1 := climb_rch ho hr hz hp k _ hf (by rw [fi_h hf]; exact hp i hi hd)
        rw [fi_h hf] at h1
        exact h1
      · rw [if_neg hf]
        refine climb_lost _ (by rw [atH_fi, if_neg hz]) _ _ (by rw [atH_fi, if_neg hf]) ?_
        intro he
        rw [he] at hf
        exact hf hr
theorem tail_same {l : List Nd} (hl : 1 ≤ l.length) (hr : (l[0]?.getD nd0).h = rootH) (ha : ascL l = true) (hn : ∀ i, i < l.length → ndI (l[i]?.getD nd0) = true) {i : Nat} (hi : i < l.length) :
    tailT l (l[i]?.getD nd0) = (ledN l i && climbAt (atH l l.length) l.length l i) := by
  have ho := ascL_one ha
  have h0 : fi l rootH = 0 := by rw [← hr]; exact fiP_at ho (by omega)
  have hz : ¬ fi l hd0 < l.length := by
    intro hf
    have h1 := hn _ hf
    have h2 := fi_h hf
    unfold ndI at h1
    rw [h2] at h1
    have h3 : HOk hd0 = false := by decide
    simp only [h3, Bool.false_and, Bool.false_eq_true] at h1
  have hp : ∀ i, i < l.length → (l[i]?.getD nd0).h.dir = true → (l[i]?.getD nd0).par.dir = true := by
    intro i hi hd
    have h1 := hn i hi
    unfold ndI at h1
    rw [hd] at h1
    simp only [if_true, Bool.and_eq_true, dirOk] at h1
    exact h1.2.1.2.2.2
  have hx : ∃ n, n ∈ l ∧ up n = false := ⟨_, node_mem (l := l) (i := 0) (by omega), by unfold up; simp [hr]⟩
  unfold tailT ledN wantN climbAt
  rw [cnt_same]
  obtain ⟨m, hm⟩ : ∃ m, l.length = m + 1 := ⟨l.length - 1, by omega⟩
  by_cases h : (l[i]?.getD nd0).h = rootH
  · rw [if_pos h, if_pos h, h]
    have hc : climb (atH l l.length) l.length rootH = true := by rw [hm, climb, if_pos rfl]
    rw [hc]
    simp
  · rw [if_neg h, if_neg h, rch_short l hx hl _ (node_mem hi)]
    by_cases hd : (l[i]?.getD nd0).h.dir = true
    · have h1 := climb_rch ho (by omega) hz hp m i hi hd
      rw [show m + 1 = l.length by omega] at h1
      rw [h1, hd, show m = l.length - 1 by omega]
      simp
    · have hd' : (l[i]?.getD nd0).h.dir = false := by simpa using hd
      have hu : rch l (l.length - 1) (l[i]?.getD nd0) = true := by
        have : up (l[i]?.getD nd0) = false := by unfold up; simp [hd']
        cases l.length - 1 <;> simp [rch, this]
      rw [hu, hd']
      simp
/-- By the specification it is a tree just if it is one by the program. -/
theorem tree_same (l : List Nd) : treeOk l = treeI l := by
  rw [Bool.eq_iff_iff]
  unfold treeOk treeI headT leadR
  simp only [Bool.and_eq_true, decide_eq_true_eq, List.all_eq_true, List.mem_range]
  constructor
  · rintro ⟨⟨⟨h1, h2⟩, h3, h4⟩, h5⟩
    have hA : ascL l = true := by
      unfold ascL
      rw [List.all_eq_true]
      intro i hi
      have := h5 i (by simpa using hi)
      simp only [nodeT, Bool.and_eq_true] at this
      exact this.2.1
    have hN : ∀ i, i < l.length → ndI (l[i]?.getD nd0) = true := by
      intro i hi
      have := h5 i hi
      simp only [nodeT, Bool.and_eq_true] at this
      rw [← nd_same]
      exact this.1
    have hT : ∀ i, i < l.length → ledN l i = true ∧ climbAt (atH l l.length) l.length l i = true := by
      intro i hi
      have := h5 i hi
      simp only [nodeT, Bool.and_eq_true] at this
      have h6 := this.2.2.2
      rw [tail_same h1 h3 hA hN hi, Bool.and_eq_true] at h6
      exact h6
    refine ⟨⟨h1, h2, hA⟩, ⟨h3, h4⟩, hN, ⟨?_, fun i hi => (hT i hi).1⟩, fun i hi => (hT i hi).2⟩
    intro i hi
    have := h5 i hi
    simp only [nodeT, Bool.and_eq_true] at this
    have h7 := this.2.2.1
    unfold leadN
    rw [List.all_eq_true] at h7 ⊢
    intro e he
    rw [← lead_same]
    exact h7 e he
  · rintro ⟨⟨h1, h2, hA⟩, ⟨h3, h4⟩, hN, ⟨h6, h7⟩, h8⟩
    refine ⟨⟨⟨h1, h2⟩, h3, h4⟩, fun i hi => ?_⟩
    simp only [nodeT, Bool.and_eq_true]
    have hA' := hA
    unfold ascL at hA'
    rw [List.all_eq_true] at hA'
    refine ⟨by rw [nd_same]; exact hN i hi, hA' i (by simpa using hi), ?_, ?_⟩
    · have h9 := h6 i hi
      unfold leadN at h9
      rw [List.all_eq_true] at h9 ⊢
      intro e he
      rw [lead_same]
      exact h9 e he
    · rw [tail_same h1 h3 hA hN hi, h7 i hi, h8 i hi]; rfl
end Go.Proofs.Ytaaongjnpnanmaa
