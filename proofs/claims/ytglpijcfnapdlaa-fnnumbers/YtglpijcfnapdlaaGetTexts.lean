/- The program's and the specification's GetText answer the same plain function on lists of bytes, in memory of their own. Conditions: at most 2,000,000 bytes come in. -/
import Derived.Test.YtglpijcfnapdlaaTexts
namespace Go.Proofs.Ytglpijcfnapdlaa
open Go.RowKit
set_option linter.unusedVariables false

theorem getText_no {zs : List Int} {p n nx : Int} (hg : getNum zs p = (n, nx)) (h : nx < 0 ∨ 40 < n ∨ (zs.length : Int) - nx < n) : getText zs p = ([], -1) := by
  unfold getText; rw [hg]; exact if_pos h
theorem getText_yes {zs : List Int} {p : Int} {n nx : Nat} (hg : getNum zs p = ((n : Int), (nx : Int))) (h : ¬ ((nx : Int) < 0 ∨ 40 < (n : Int) ∨ (zs.length : Int) - nx < n)) : getText zs p = ((zs.drop nx).take n, (nx : Int) + n) := by
  unfold getText; rw [hg]; rw [if_neg h]; simp
theorem Reads.part {w : World} {b off : Nat} {zs : List Int} (h : Reads w (some ⟨b, off, none⟩) zs) (nx n : Nat) (hn : nx + n ≤ zs.length) : Reads w (some ⟨b, off + nx, none⟩) ((zs.drop nx).take n) := by
  refine ⟨isBytes_take (isBytes_drop h.1 _) _, ?_⟩
  rcases h.2 with h0 | ⟨b', off', ha, hb, hc⟩
  · left; subst h0; simp
  · simp only [Option.some.injEq, Addr.mk.injEq] at ha
    obtain ⟨rfl, rfl, _⟩ := ha
    refine .inr ⟨b, off + nx, rfl, hb, fun i hi => ?_⟩
    have hi' : i < n := by simp at hi; omega
    have := hc (nx + i) (by omega)
    rw [Nat.add_assoc, this, List.getElem?_take, if_pos hi', List.getElem?_drop]

set_option maxHeartbeats 1000000 in
theorem implGetText_any (a : Option Addr) (zs : List Int) (len cap : Nat) (p : Int) (w : World) (h : Reads w a zs) (hlen : len = zs.length) (hl : zs.length ≤ 2000000) (hcap : zs.length ≤ cap) (hcm : cap ≤ maxLen) :
    Calls Try.prog 13 #[.slice a len cap, .int .i64 p] w fun e w' => ∃ v, e = .returned (.tuple #[v, .int .i64 (getText zs p).2]) ∧ Owns w' w.heap.size v (getText zs p).1 ∧ Below w.heap.size w w' := by
  obtain ⟨n, nx, hg⟩ : ∃ n nx, getNum zs p = (n, nx) := ⟨_, _, rfl⟩
  have hget := implGet_any a zs cap p w h (by omega) hcap hcm
  rw [hg, ← hlen] at hget
  have HGET : Hid _ := hget
  have fits := getNum_fits h.1 hg
  have hll : len ≤ 2000000 := by omega
  have hlc : len ≤ cap := by omega
  unfold maxLen at hcm
  clear hget
  by_cases hno : nx < 0 ∨ 40 < n ∨ (zs.length : Int) - nx < n
  · have HT : Hid _ := getText_no hg hno
    rw [← hlen] at hno
    have hn1 : -1 ≤ nx ∧ nx ≤ 2000000 ∧ 0 ≤ n ∧ n ≤ 2147483647 := by omega
    clear hg fits hlen hcap hl
    by_cases h1 : nx < 0
    · clear hno
      go_enter Try.func13, Try.ntmps13
      go_wp2_with fail
      refine Calls.mono HGET.out ?_
      rintro e w1 ⟨rfl, rfl⟩
      go_wp2
      go_ret2
      exact ⟨.slice none 0 0, by rw [HT.out]; rfl, by rw [HT.out]; exact World.ownsRow_nil _ _ _ _, Below.refl _ _⟩
    · by_cases h2 : 40 < n
      · clear hno
        go_enter Try.func13, Try.ntmps13
        go_wp2_with fail
        refine Calls.mono HGET.out ?_
        rintro e w1 ⟨rfl, rfl⟩
        go_wp2
        go_ret2
        exact ⟨.slice none 0 0, by rw [HT.out]; rfl, by rw [HT.out]; exact World.ownsRow_nil _ _ _ _, Below.refl _ _⟩
      · have h3 : (len : Int) - nx < n := by omega
        clear hno
        go_enter Try.func13, Try.ntmps13
        go_wp2_with fail
        refine Calls.mono HGET.out ?_
        rintro e w1 ⟨rfl, rfl⟩
        go_wp2
        go_ret2
        exact ⟨.slice none 0 0, by rw [HT.out]; rfl, by rw [HT.out]; exact World.ownsRow_nil _ _ _ _, Below.refl _ _⟩
  · obtain ⟨N, rfl⟩ : ∃ N : Nat, n = (N : Int) := ⟨n.toNat, by omega⟩
    obtain ⟨X, rfl⟩ : ∃ X : Nat, nx = (X : Int) := ⟨nx.toNat, by omega⟩
    have HT : Hid _ := getText_yes hg hno
    obtain ⟨b, off, rfl⟩ : ∃ b off, a = some ⟨b, off, none⟩ := by
      rcases h.2 with rfl | ⟨b, off, ha, _⟩
      · simp at fits; omega
      · exact ⟨b, off, ha⟩
    have HP : Hid _ := h.part X N (by omega)
    have HN : Hid (N = ((zs.drop X).take N).length) := by show _ = _; simp; omega
    have hXN : X + N ≤ len := by omega
    have hN : N ≤ 40 := by omega
    have hX : 1 ≤ X := by omega
    have HEM : Hid (N = 0 → (zs.drop X).take N = []) := fun e => by rw [e]; simp
    clear hg fits hlen hcap hl hno
    by_cases hN0 : N = 0
    · subst hN0
      have HT2 : Hid (getText zs p = ([], (X : Int))) := by show _ = _; rw [HT.out]; simp
      clear HT HP HN HEM
      go_enter Try.func13, Try.ntmps13
      go_wp2_with fail
      refine Calls.mono HGET.out ?_
      rintro e w1 ⟨rfl, rfl⟩
      go_wp2_with fail
      all_goals
        refine (joined_v none _ [] [] _ _ _ _ _ (reads_none _ _) (reads_none _ _) rfl rfl (by simp) (by simp)).mono ?_
        rintro e w2 ⟨v, rfl, ho, hb⟩
        go_wp2
        go_ret2
        exact ⟨v, by rw [HT2.out]; rfl, by rw [HT2.out]; exact ho, hb⟩
    · clear HEM
      have hXc : X < cap := by omega
      go_enter Try.func13, Try.ntmps13
      go_wp2_with fail
      refine Calls.mono HGET.out ?_
      rintro e w1 ⟨rfl, rfl⟩
      go_wp2_with fail
      refine (joined_v none _ [] ((zs.drop X).take N) _ _ _ _ _ (reads_none _ _) HP.out rfl HN.out (by simp) (by rw [← HN.out]; omega)).mono ?_
      rintro e w2 ⟨v, rfl, ho, hb⟩
      go_wp2
      go_ret2
      exact ⟨v, by rw [HT.out]; rfl, by rw [HT.out]; exact ho, hb⟩

set_option maxHeartbeats 1000000 in
theorem specGetText_any (a : Option Addr) (zs : List Int) (len cap : Nat) (p : Int) (w : World) (h : Reads w a zs) (hlen : len = zs.length) (hl : zs.length ≤ 2000000) (hcap : zs.length ≤ cap) (hcm : cap ≤ maxLen) (hpb : p ≤ 9223372036854775807) :
    Calls Try.prog 23 #[.slice a len cap, .int .i64 p] w fun e w' => ∃ v, e = .returned (.tuple #[v, .int .i64 (getText zs p).2]) ∧ Owns w' w.heap.size v (getText zs p).1 ∧ Below w.heap.size w w' := by
  obtain ⟨n, nx, hg⟩ : ∃ n nx, getNum zs p = (n, nx) := ⟨_, _, rfl⟩
  have hget := specGet_any a zs cap p w h (by omega) hpb
  rw [hg, ← hlen] at hget
  have HGET : Hid _ := hget
  have fits := getNum_fits h.1 hg
  have hll : len ≤ 2000000 := by omega
  have hlc : len ≤ cap := by omega
  unfold maxLen at hcm
  clear hget hpb
  by_cases hno : nx < 0 ∨ 40 < n ∨ (zs.length : Int) - nx < n
  · have HT : Hid _ := getText_no hg hno
    rw [← hlen] at hno
    have hn1 : -1 ≤ nx ∧ nx ≤ 2000000 ∧ 0 ≤ n ∧ n ≤ 2147483647 := by omega
    clear hg fits hlen hcap hl
    by_cases h1 : nx < 0
    · clear hno
      go_enter Try.func23, Try.ntmps23
      go_wp2_with fail
      refine Calls.mono HGET.out ?_
      rintro e w1 ⟨rfl, rfl⟩
      go_wp2
      go_ret2
      exact ⟨.slice none 0 0, by rw [HT.out]; rfl, by rw [HT.out]; exact World.ownsRow_nil _ _ _ _, Below.refl _ _⟩
    · by_cases h2 : 40 < n
      · clear hno
        go_enter Try.func23, Try.ntmps23
        go_wp2_with fail
        refine Calls.mono HGET.out ?_
        rintro e w1 ⟨rfl, rfl⟩
        go_wp2
        go_ret2
        exact ⟨.slice none 0 0, by rw [HT.out]; rfl, by rw [HT.out]; exact World.ownsRow_nil _ _ _ _, Below.refl _ _⟩
      · have h3 : (len : Int) - nx < n := by omega
        clear hno
        go_enter Try.func23, Try.ntmps23
        go_wp2_with fail
        refine Calls.mono HGET.out ?_
        rintro e w1 ⟨rfl, rfl⟩
        go_wp2
        go_ret2
        exact ⟨.slice none 0 0, by rw [HT.out]; rfl, by rw [HT.out]; exact World.ownsRow_nil _ _ _ _, Below.refl _ _⟩
  · obtain ⟨N, rfl⟩ : ∃ N : Nat, n = (N : Int) := ⟨n.toNat, by omega⟩
    obtain ⟨X, rfl⟩ : ∃ X : Nat, nx = (X : Int) := ⟨nx.toNat, by omega⟩
    have HT : Hid _ := getText_yes hg hno
    obtain ⟨b, off, rfl⟩ : ∃ b off, a = some ⟨b, off, none⟩ := by
      rcases h.2 with rfl | ⟨b, off, ha, _⟩
      · simp at fits; omega
      · exact ⟨b, off, ha⟩
    have HB1 : Hid (Below w.heap.size w (w.alloc (.cells #[] 5))) := (Below.refl _ _).alloc (Nat.le_refl _) _
    have HP : Hid _ := (h.part X N (by omega)).below HB1.out
    have HN : Hid (N = ((zs.drop X).take N).length) := by show _ = _; simp; omega
    have hXN : X + N ≤ len := by omega
    have hN : N ≤ 40 := by omega
    have hX : 1 ≤ X := by omega
    clear hg fits hlen hcap hl hno
    by_cases hN0 : N = 0
    · subst hN0
      have HT2 : Hid (getText zs p = ([], (X : Int))) := by show _ = _; rw [HT.out]; simp
      clear HT HP HN
      rcases (show cap = X ∨ X < cap from by omega) with hXc | hXc
      · subst hXc
        go_enter Try.func23, Try.ntmps23
        go_wp2_with fail
        refine Calls.mono HGET.out ?_
        rintro e w1 ⟨rfl, hw1⟩
        subst hw1
        go_wp2_with (at_builtin; go_must (refine wpList_app _ rfl (.tmp 28) (.tmp 34) rfl _ _ [] [] rfl (owns_empty _) _ _ _ rfl (by first | rfl | simp) (reads_none _ _) (by simp) (by simp) (by simp) (fun h => by cases h) ?_; intro v w2 ho hg))
        go_ret2
        exact ⟨v, by rw [HT2.out]; rfl, by rw [HT2.out]; exact ho, HB1.out.grown hg (by simp) (fun k hk => ((owns_empty _).lt k hk).1)⟩
      · go_enter Try.func23, Try.ntmps23
        go_wp2_with fail
        refine Calls.mono HGET.out ?_
        rintro e w1 ⟨rfl, hw1⟩
        subst hw1
        go_wp2_with (at_builtin; go_must (refine wpList_app _ rfl (.tmp 28) (.tmp 34) rfl _ _ [] [] rfl (owns_empty _) _ _ _ rfl (by first | rfl | simp) (reads_none _ _) (by simp) (by simp) (by simp) (fun h => by cases h) ?_; intro v w2 ho hg))
        go_ret2
        exact ⟨v, by rw [HT2.out]; rfl, by rw [HT2.out]; exact ho, HB1.out.grown hg (by simp) (fun k hk => ((owns_empty _).lt k hk).1)⟩
    · have hXc : X < cap := by omega
      go_enter Try.func23, Try.ntmps23
      go_wp2_with (first
        | (go_at_call 21; refine Calls.mono HGET.out ?_; rintro e w1 ⟨rfl, hw1⟩; subst hw1)
        | (at_builtin; go_must (refine wpList_app _ rfl (.tmp 28) (.tmp 34) rfl _ _ [] ((zs.drop X).take N) rfl (owns_empty _) _ _ _ rfl (by first | exact HN.out | (rw [Nat.add_sub_cancel_left]; exact HN.out)) HP.out (by simp) (by rw [← HN.out]; omega) (by simp) (fun h => by cases h) ?_; intro v w2 ho hg)))
      go_ret2
      exact ⟨v, by rw [HT.out]; rfl, by rw [HT.out]; simpa using ho, HB1.out.grown hg (by simp) (fun k hk => ((owns_empty _).lt k hk).1)⟩

theorem implGetText_v (v : Value) (zs : List Int) (base : Nat) (p : Int) (w : World) (h : Owns w base v zs) (hz : isBytes zs) (hl : zs.length ≤ 2000000) :
    Calls Try.prog 13 #[v, .int .i64 p] w fun e w' => ∃ v, e = .returned (.tuple #[v, .int .i64 (getText zs p).2]) ∧ Owns w' w.heap.size v (getText zs p).1 ∧ Below w.heap.size w w' := by
  obtain ⟨a, ca, rfl, h1, h2, ra⟩ := h.open hz
  exact implGetText_any a zs _ ca p w ra rfl hl h1 h2
theorem specGetText_v (v : Value) (zs : List Int) (base : Nat) (p : Int) (w : World) (h : Owns w base v zs) (hz : isBytes zs) (hl : zs.length ≤ 2000000) (hpb : p ≤ 9223372036854775807) :
    Calls Try.prog 23 #[v, .int .i64 p] w fun e w' => ∃ v, e = .returned (.tuple #[v, .int .i64 (getText zs p).2]) ∧ Owns w' w.heap.size v (getText zs p).1 ∧ Below w.heap.size w w' := by
  obtain ⟨a, ca, rfl, h1, h2, ra⟩ := h.open hz
  exact specGetText_any a zs _ ca p w ra rfl hl h1 h2 hpb
theorem implPutText_v (v u : Value) (xs ts : List Int) (bv bu : Nat) (w : World) (hx : Owns w bv v xs) (hy : Owns w bu u ts) (bx : isBytes xs) (bt : isBytes ts) (hl : xs.length ≤ 2000000) (hm : ts.length ≤ 2000000) :
    Calls Try.prog 12 #[v, u] w fun e w' => ∃ v, e = .returned v ∧ Owns w' w.heap.size v (xs ++ textB ts) ∧ Below w.heap.size w w' := by
  obtain ⟨a, ca, rfl, _, _, ra⟩ := hx.open bx
  obtain ⟨b, cb, rfl, _, _, rb⟩ := hy.open bt
  exact implPutText_any a b xs ts _ ca _ cb w ra rb rfl rfl hl hm
theorem Owns.openNil {w : World} {base : Nat} {v : Value} {zs : List Int} (hz : isBytes zs) (h : Owns w base v zs) : ∃ a len cap, v = .slice a len cap ∧ len = zs.length ∧ Reads w a zs ∧ (a = none → len = 0 ∧ cap = 0) := by
  rcases h.2 with ⟨rfl, h0⟩ | ⟨g, c, cur, rfl, _⟩
  · exact ⟨none, 0, 0, rfl, h0.symm, (h.reads hz).2, fun _ => ⟨rfl, rfl⟩⟩
  · exact ⟨_, _, c, rfl, rfl, (h.reads hz).2, fun h => by cases h⟩
theorem specPutText_v (v u : Value) (xs ts : List Int) (bv bu : Nat) (w : World) (hx : Owns w bv v xs) (hy : Owns w bu u ts) (bx : isBytes xs) (bt : isBytes ts) (hl : xs.length ≤ 2000000) (hm : ts.length ≤ 2000000) :
    Calls Try.prog 22 #[v, u] w fun e w' => ∃ v, e = .returned v ∧ Owns w' w.heap.size v (xs ++ textB ts) ∧ Below w.heap.size w w' := by
  obtain ⟨a, la, ca, rfl, h1, ra, na⟩ := hx.openNil bx
  obtain ⟨b, lb, cb, rfl, h2, rb, nb⟩ := hy.openNil bt
  exact specPutText_any a b xs ts la ca lb cb w ra rb h1 h2 hl hm na nb
theorem implGet_v (v : Value) (zs : List Int) (base : Nat) (p : Int) (w : World) (h : Owns w base v zs) (hz : isBytes zs) (hl : zs.length ≤ 2000000) :
    Calls Try.prog 10 #[v, .int .i64 p] w fun e w' => e = .returned (.tuple #[.int .i64 (getNum zs p).1, .int .i64 (getNum zs p).2]) ∧ w' = w := by
  obtain ⟨a, ca, rfl, h1, h2, ra⟩ := h.open hz
  exact implGet_any a zs ca p w ra (by omega) h1 h2
end Go.Proofs.Ytglpijcfnapdlaa
